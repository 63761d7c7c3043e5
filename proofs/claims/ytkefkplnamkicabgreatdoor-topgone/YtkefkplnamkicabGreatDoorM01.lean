import Derived.Test.YtkefkplnamkicabGreatDoorProg
import Derived.Deep.RegionHeld3
import Derived.Shelf.SlSortCmp.NoneTotal
import Derived.Shelf.SlGeneric
import Derived.Shelf.Sort.Plain
import Derived.Shelf.Slices.In.SortNone
import Derived.Shelf.Slices.CompactI
import Derived.Shelf.Slices.Equal
import Derived.KernelRfl
import Derived.RowKit
import GoSem.Claim
import GoSem.ClaimJoined
import GoSem.ClaimMapViews
import Derived.JoinedTies
import Derived.WalkKit
import Derived.WalkSpells
import Derived.WalkLawsBesides
import Derived.Shelf.SlSortCmp.QuietGrown
import Derived.BigQuiet
import Derived.BigRegion
import Derived.Laws.StructEq
import Derived.Shelf.SlicesE.Kit
import Derived.Deep.AppendLies
import Derived.Deep.RegionLaw
import Derived.Laws.AppendOwnNone
import Derived.Maps.AppendAt
set_option maxRecDepth 100000
set_option maxHeartbeats 8000000
open Go.Ending renaming returned → H
open Go.IntKind renaming i64 → I
open Go.Obj renaming cells → Z
open Go.Proofs.Tryz renaming prog → O
open Go.Value renaming int → V, slice → J, agg → Y, bool → X
namespace Go.Proofs.YtkefkplnamkicabGreatDoor

def Tks (P:Program) (md:Region.Mode) (ops:Array Oper) (Q:Exit→Act→World→Prop) (S:World→Prop):List Nat→Nat→Array Bool→Act→World→Prop
 | [],fuel,listed,a,w=>wpAnyH P md ops (NoPanic Q) S fuel listed a w
 | i::l,fuel,listed,a,w=>∃f oi v,fuel=f+1∧ops[i]? = some oi∧(Region.noSelect ops && Region.free md ops listed i && (Region.ready md ops listed).contains i)=true∧YieldsIf P ops S oi v a∧Tks P md ops Q S l f (listed.setIfInBounds i true) (a.put oi.dst v) w
section
variable {P:Program} {md:Region.Mode} {ops:Array Oper} {Q:Exit→Act→World→Prop} {S:World→Prop}
theorem tks:∀(l:List Nat) {fuel:Nat} {listed:Array Bool} {a:Act} {w:World},S w→Tks P md ops Q S l fuel listed a w→wpAnyH P md ops (NoPanic Q) S fuel listed a w
 | [],_,_,_,_,_,h=>h
 | i::l,_,_,_,_,hS,⟨f,oi,v,e,h1,h2,h3,h4⟩=>by
  subst e
  simp only[Bool.and_eq_true] at h2
  exact wpAnyH_take h1 h2.1.1 h2.1.2 h2.2 (fun _ _ _ h=>h) h3 hS (tks l hS h4)
theorem tk {i:Nat} {l:List Nat} {f:Nat} {listed:Array Bool} {a:Act} {w:World} {oi:Oper} {v:Value} (h1:ops[i]? = some oi) (h2:(Region.noSelect ops && Region.free md ops listed i && (Region.ready md ops listed).contains i)=true) (h3:YieldsIf P ops S oi v a) (h4:Tks P md ops Q S l f (listed.setIfInBounds i true) (a.put oi.dst v) w):Tks P md ops Q S (i::l) (f+1) listed a w :=
 ⟨f,oi,v,rfl,h1,h2,h3,h4⟩
theorem isW {fuel:Nat} {listed:Array Bool} {a:Act} {w:World} {Q:Exit→Act→World→Prop} (h:wpAnyH P md ops Q S fuel listed a w):wpAnyH P md ops Q S fuel listed a w:=h
theorem isR {fuel:Nat} {listed:Array Bool} {a:Act} {w:World} {rs:List Nat} {Q:Exit→Act→World→Prop} (h:AllReadyH P md ops Q S fuel listed a w rs):AllReadyH P md ops Q S fuel listed a w rs:=h
theorem tkk (i:Nat) (l:List Nat) {f:Nat} {listed:Array Bool} {a:Act} {w:World} {oi:Oper} {v:Value} (hS:S w) (h1:ops[i]? = some oi) (h2:(Region.noSelect ops && Region.free md ops listed i && (Region.ready md ops listed).contains i)=true) (h3:YieldsIf P ops S oi v a) (h4:Tks P md ops Q S l f (listed.setIfInBounds i true) (a.put oi.dst v) w):wpAnyH P md ops (NoPanic Q) S (f+1) listed a w :=
 tks (i::l) hS (tk h1 h2 h3 h4)
theorem rdc {fuel:Nat} {listed:Array Bool} {a:Act} {w:World} {i:Nat} {o:Oper} {rs:List Nat} {Q:Exit→Act→World→Prop} (ho:ops[i]? = some o) (hs:AllReadyH P md ops Q S fuel listed a w rs)
  (h:∀K':Act→World→Prop,Shut (∀a w,S w→(S w→wpAnyH P md ops Q S fuel (listed.setIfInBounds i true) a w)→K' a w)→if Region.wanted o (yielded ops a.tmps)=true then Oper.wp P o a w K' Q else K' (a.put o.dst undef) w):AllReadyH P md ops Q S fuel listed a w (i::rs):=AllReadyH.cons ho h hs
theorem rdy (i:Nat) {fuel:Nat} {listed:Array Bool} {a:Act} {w:World} {o:Oper} {Q:Exit→Act→World→Prop} (hr:Region.ready md ops listed=[i]) (ho:ops[i]? = some o)
  (h:∀K':Act→World→Prop,Shut (∀a w,S w→(S w→wpAnyH P md ops Q S fuel (listed.setIfInBounds i true) a w)→K' a w)→if Region.wanted o (yielded ops a.tmps)=true then Oper.wp P o a w K' Q else K' (a.put o.dst undef) w):wpAnyH P md ops Q S (fuel+1) listed a w:=wpAnyH_ready hr (by simp) (AllReadyH.cons ho h AllReadyH.nil)
theorem tk0 {f:Nat} {listed:Array Bool} {a:Act} {w:World} (h:wpAnyH P md ops (NoPanic Q) S f listed a w):Tks P md ops Q S [] f listed a w:=h
end
end Go.Proofs.YtkefkplnamkicabGreatDoor

namespace Go.Proofs
open Go.Shelf
def Tryz.sortInt_ren:Go.Shelf.Ren:=⟨fun|189=>42|125=>61|257=>60|128=>92|129=>93|294=>83|295=>84|296=>85|297=>86|298=>87|299=>88|216=>89|300=>90|301=>91|328=>122|329=>123|330=>124|331=>125|332=>126|215=>127|343=>152|n=>n,fun|28=>34|3=>3|46=>132|0=>0|51=>167|53=>169|4=>4|183=>159|182=>158|131=>164|5=>5|9=>9|218=>196|222=>190|228=>224|229=>225|n=>n,fun|n=>n⟩
theorem Tryz.sortInt:Go.Proofs.Lays.n189 O Tryz.sortInt_ren:={
 mixed:=by kernel_rfl
 f125:=Tryz.func61.trans (congrArg some (by kernel_rfl))
 f128:=Tryz.func92.trans (congrArg some (by kernel_rfl))
 f129:=Tryz.func93.trans (congrArg some (by kernel_rfl))
 f189:=Tryz.func42.trans (congrArg some (by kernel_rfl))
 f215:=Tryz.func127.trans (congrArg some (by kernel_rfl))
 f216:=Tryz.func89.trans (congrArg some (by kernel_rfl))
 f257:=Tryz.func60.trans (congrArg some (by kernel_rfl))
 f294:=Tryz.func83.trans (congrArg some (by kernel_rfl))
 f295:=Tryz.func84.trans (congrArg some (by kernel_rfl))
 f296:=Tryz.func85.trans (congrArg some (by kernel_rfl))
 f297:=Tryz.func86.trans (congrArg some (by kernel_rfl))
 f298:=Tryz.func87.trans (congrArg some (by kernel_rfl))
 f299:=Tryz.func88.trans (congrArg some (by kernel_rfl))
 f300:=Tryz.func90.trans (congrArg some (by kernel_rfl))
 f301:=Tryz.func91.trans (congrArg some (by kernel_rfl))
 f328:=Tryz.func122.trans (congrArg some (by kernel_rfl))
 f329:=Tryz.func123.trans (congrArg some (by kernel_rfl))
 f330:=Tryz.func124.trans (congrArg some (by kernel_rfl))
 f331:=Tryz.func125.trans (congrArg some (by kernel_rfl))
 f332:=Tryz.func126.trans (congrArg some (by kernel_rfl))
 f343:=Tryz.func152.trans (congrArg some (by kernel_rfl))
 t0:=Tryz.underlying0
 a0:=Tryz.isAgg0
 z0:=Tryz.sizeOf0
 v0:=Tryz.zeroValue0
 t3:=Tryz.underlying3
 a3:=Tryz.isAgg3
 z3:=Tryz.sizeOf3
 v3:=Tryz.zeroValue3
 t4:=Tryz.underlying4
 a4:=Tryz.isAgg4
 z4:=Tryz.sizeOf4
 v4:=Tryz.zeroValue4
 t5:=Tryz.underlying5
 a5:=Tryz.isAgg5
 z5:=Tryz.sizeOf5
 v5:=Tryz.zeroValue5
 t9:=Tryz.underlying9
 a9:=Tryz.isAgg9
 z9:=Tryz.sizeOf9
 v9:=Tryz.zeroValue9
 t28:=Tryz.underlying34
 a28:=Tryz.isAgg34
 z28:=Tryz.sizeOf34
 v28:=Tryz.zeroValue34
 t46:=Tryz.underlying132
 a46:=Tryz.isAgg132
 z46:=Tryz.sizeOf132
 v46:=Tryz.zeroValue132
 t51:=Tryz.underlying167
 a51:=Tryz.isAgg167
 z51:=Tryz.sizeOf167
 v51:=Tryz.zeroValue167
 t53:=Tryz.underlying169
 a53:=Tryz.isAgg169
 z53:=Tryz.sizeOf169
 v53:=Tryz.zeroValue169
 t131:=Tryz.underlying164
 a131:=Tryz.isAgg164
 z131:=Tryz.sizeOf164
 v131:=Tryz.zeroValue164
 t182:=Tryz.underlying158
 a182:=Tryz.isAgg158
 z182:=Tryz.sizeOf158
 v182:=Tryz.zeroValue158
 t183:=Tryz.underlying159
 a183:=Tryz.isAgg159
 z183:=Tryz.sizeOf159
 v183:=Tryz.zeroValue159
 t218:=Tryz.underlying196
 a218:=Tryz.isAgg196
 z218:=Tryz.sizeOf196
 v218:=Tryz.zeroValue196
 t222:=Tryz.underlying190
 a222:=Tryz.isAgg190
 z222:=Tryz.sizeOf190
 v222:=Tryz.zeroValue190
 t228:=Tryz.underlying224
 a228:=Tryz.isAgg224
 z228:=Tryz.sizeOf224
 v228:=Tryz.zeroValue224
 t229:=Tryz.underlying225
 a229:=Tryz.isAgg225
 z229:=Tryz.sizeOf225
 v229:=Tryz.zeroValue225 }
def Tryz.compactInt_ren:Go.Shelf.Ren:=⟨fun|20=>43|n=>n,fun|22=>34|3=>3|4=>4|0=>0|n=>n,fun|n=>n⟩
theorem Tryz.compactInt:Go.Proofs.Lays2.n20 O Tryz.compactInt_ren:={
 mixed:=by kernel_rfl
 f20:=Tryz.func43.trans (congrArg some (by kernel_rfl))
 t0:=Tryz.underlying0
 a0:=Tryz.isAgg0
 z0:=Tryz.sizeOf0
 v0:=Tryz.zeroValue0
 t3:=Tryz.underlying3
 a3:=Tryz.isAgg3
 z3:=Tryz.sizeOf3
 v3:=Tryz.zeroValue3
 t4:=Tryz.underlying4
 a4:=Tryz.isAgg4
 z4:=Tryz.sizeOf4
 v4:=Tryz.zeroValue4
 t22:=Tryz.underlying34
 a22:=Tryz.isAgg34
 z22:=Tryz.sizeOf34
 v22:=Tryz.zeroValue34
 i3:=by kernel_rfl }
def Tryz.equalInt_ren:Go.Shelf.Ren:=⟨fun|111=>12|n=>n,fun|28=>34|3=>3|4=>4|0=>0|n=>n,fun|n=>n⟩
theorem Tryz.equalInt:Go.Proofs.Lays.n111 O Tryz.equalInt_ren:={
 mixed:=by kernel_rfl
 f111:=Tryz.func12.trans (congrArg some (by kernel_rfl))
 t0:=Tryz.underlying0
 a0:=Tryz.isAgg0
 z0:=Tryz.sizeOf0
 v0:=Tryz.zeroValue0
 t3:=Tryz.underlying3
 a3:=Tryz.isAgg3
 z3:=Tryz.sizeOf3
 v3:=Tryz.zeroValue3
 t4:=Tryz.underlying4
 a4:=Tryz.isAgg4
 z4:=Tryz.sizeOf4
 v4:=Tryz.zeroValue4
 t28:=Tryz.underlying34
 a28:=Tryz.isAgg34
 z28:=Tryz.sizeOf34
 v28:=Tryz.zeroValue34 }
def Tryz.sortCell_ren:Go.Shelf.Ren:=⟨fun|6=>102|15=>61|14=>130|28=>92|29=>93|20=>154|21=>155|22=>156|23=>157|24=>158|25=>159|26=>160|27=>161|46=>191|47=>123|48=>124|49=>192|50=>193|57=>212|n=>n,fun|22=>40|24=>85|25=>111|3=>3|39=>132|0=>0|53=>167|55=>169|4=>4|46=>159|45=>158|50=>164|5=>5|9=>9|66=>196|70=>190|76=>224|77=>225|n=>n,fun|n=>n⟩
theorem Tryz.sortCell:Go.Proofs.SlLaysF0.n6 O Tryz.sortCell_ren:={
 mixed:=by kernel_rfl
 f6:=⟨Tryz.f102.name,by decide,Tryz.func102.trans (congrArg some (by kernel_rfl))⟩
 f14:=⟨Tryz.f130.name,by decide,Tryz.func130.trans (congrArg some (by kernel_rfl))⟩
 f15:=Tryz.func61.trans (congrArg some (by kernel_rfl))
 f20:=⟨Tryz.f154.name,by decide,Tryz.func154.trans (congrArg some (by kernel_rfl))⟩
 f21:=⟨Tryz.f155.name,by decide,Tryz.func155.trans (congrArg some (by kernel_rfl))⟩
 f22:=⟨Tryz.f156.name,by decide,Tryz.func156.trans (congrArg some (by kernel_rfl))⟩
 f23:=⟨Tryz.f157.name,by decide,Tryz.func157.trans (congrArg some (by kernel_rfl))⟩
 f24:=⟨Tryz.f158.name,by decide,Tryz.func158.trans (congrArg some (by kernel_rfl))⟩
 f25:=⟨Tryz.f159.name,by decide,Tryz.func159.trans (congrArg some (by kernel_rfl))⟩
 f26:=⟨Tryz.f160.name,by decide,Tryz.func160.trans (congrArg some (by kernel_rfl))⟩
 f27:=⟨Tryz.f161.name,by decide,Tryz.func161.trans (congrArg some (by kernel_rfl))⟩
 f28:=Tryz.func92.trans (congrArg some (by kernel_rfl))
 f29:=Tryz.func93.trans (congrArg some (by kernel_rfl))
 f46:=⟨Tryz.f191.name,by decide,Tryz.func191.trans (congrArg some (by kernel_rfl))⟩
 f47:=Tryz.func123.trans (congrArg some (by kernel_rfl))
 f48:=Tryz.func124.trans (congrArg some (by kernel_rfl))
 f49:=⟨Tryz.f192.name,by decide,Tryz.func192.trans (congrArg some (by kernel_rfl))⟩
 f50:=⟨Tryz.f193.name,by decide,Tryz.func193.trans (congrArg some (by kernel_rfl))⟩
 f57:=⟨Tryz.f212.name,by decide,Tryz.func212.trans (congrArg some (by kernel_rfl))⟩
 t0:=Tryz.underlying0
 a0:=Tryz.isAgg0
 z0:=Tryz.sizeOf0
 v0:=Tryz.zeroValue0
 t3:=Tryz.underlying3
 a3:=Tryz.isAgg3
 z3:=Tryz.sizeOf3
 v3:=Tryz.zeroValue3
 t4:=Tryz.underlying4
 a4:=Tryz.isAgg4
 z4:=Tryz.sizeOf4
 v4:=Tryz.zeroValue4
 t5:=Tryz.underlying5
 a5:=Tryz.isAgg5
 z5:=Tryz.sizeOf5
 v5:=Tryz.zeroValue5
 t9:=Tryz.underlying9
 a9:=Tryz.isAgg9
 z9:=Tryz.sizeOf9
 v9:=Tryz.zeroValue9
 t22:=Tryz.underlying40
 a22:=Tryz.isAgg40
 z22:=Tryz.sizeOf40
 v22:=Tryz.zeroValue40
 t25:=Tryz.underlying111
 a25:=Tryz.isAgg111
 z25:=Tryz.sizeOf111
 v25:=Tryz.zeroValue111
 t39:=Tryz.underlying132
 a39:=Tryz.isAgg132
 z39:=Tryz.sizeOf132
 v39:=Tryz.zeroValue132
 t45:=Tryz.underlying158
 a45:=Tryz.isAgg158
 z45:=Tryz.sizeOf158
 v45:=Tryz.zeroValue158
 t46:=Tryz.underlying159
 a46:=Tryz.isAgg159
 z46:=Tryz.sizeOf159
 v46:=Tryz.zeroValue159
 t50:=Tryz.underlying164
 a50:=Tryz.isAgg164
 z50:=Tryz.sizeOf164
 v50:=Tryz.zeroValue164
 t53:=Tryz.underlying167
 a53:=Tryz.isAgg167
 z53:=Tryz.sizeOf167
 v53:=Tryz.zeroValue167
 t55:=Tryz.underlying169
 a55:=Tryz.isAgg169
 z55:=Tryz.sizeOf169
 v55:=Tryz.zeroValue169
 t66:=Tryz.underlying196
 a66:=Tryz.isAgg196
 z66:=Tryz.sizeOf196
 v66:=Tryz.zeroValue196
 t70:=Tryz.underlying190
 a70:=Tryz.isAgg190
 z70:=Tryz.sizeOf190
 v70:=Tryz.zeroValue190
 t76:=Tryz.underlying224
 a76:=Tryz.isAgg224
 z76:=Tryz.sizeOf224
 v76:=Tryz.zeroValue224
 t77:=Tryz.underlying225
 a77:=Tryz.isAgg225
 z77:=Tryz.sizeOf225
 v77:=Tryz.zeroValue225 }
end Go.Proofs

namespace Go.Proofs.YtkefkplnamkicabGreatDoor
open Go.RowKit Go.Sort
theorem zA {α : Type} {xs : List α} {i : Nat} : xs.toArray[i]? = xs[i]? := by first | exact List.getElem?_toArray | exact List.getElem?_toArray _ _ _
theorem z0' {α : Type} {a : α} {l : List α} : (a :: l)[0]? = some a := by first | exact List.getElem?_cons_zero | exact List.getElem?_cons_zero _ _ _
theorem zS {α : Type} {a : α} {l : List α} {i : Nat} : (a :: l)[i + 1]? = l[i]? := by first | exact List.getElem?_cons_succ | exact List.getElem?_cons_succ _ _ _
theorem yA {α : Type} {l : List α} {i : Nat} {a : α} : l.toArray.setIfInBounds i a = (l.set i a).toArray := by first | exact List.setIfInBounds_toArray | exact List.setIfInBounds_toArray _ _ _
theorem aE {α : Type} {a b : α} {l : List α} : (a :: l).set 0 b = b :: l := by first | exact List.set_cons_zero | exact List.set_cons_zero _ _ _
theorem yS {α : Type} {a b : α} {l : List α} {n : Nat} : (a :: l).set (n + 1) b = a :: l.set n b := by first | exact List.set_cons_succ | exact List.set_cons_succ _ _ _
def inB (n lo hi:Int):Bool:=decide (lo≤n) && decide (n≤hi)
def al (x:Int×Int):Bool:=inB x.1 0 3 && inB x.2 1 1099511627776
def br (x y:Int×Int):Bool:=decide (x.1<y.1) || (decide (x.1=y.1) && decide (x.2<y.2))

def Gr (w w':World):Prop:=∃q os,w'=grow (w.drewN q) os

theorem Gr.refl (w:World):Gr w w:=⟨0,#[],by simp[World.drewN]⟩
theorem Gr.trans {a b c:World} (h:Gr a b) (k:Gr b c):Gr a c:=by
 obtain ⟨q,os,rfl⟩:=h
 obtain ⟨q',os',rfl⟩:=k
 exact ⟨q+q',os++os',by show grow (grow ((a.drewN q).drewN q') os) os'=_;rw[grow_grow,World.drewN_drewN]⟩
theorem Gr.alloc {a b:World} (h:Gr a b) (o:Obj):Gr a (b.alloc o):=h.trans ⟨0,#[o],by rw[alloc_eq_grow];rfl⟩
theorem Gr.drew {a b:World} (h:Gr a b):Gr a b.drew:=h.trans ⟨1,#[],by rw[grow_empty];rfl⟩
theorem Gr.below {a b:World} (h:Gr a b):Below a.heap.size a b:=by
 obtain ⟨q,os,rfl⟩:=h
 refine ⟨rfl,rfl,rfl,by simp[grow,World.drewN],fun k hk=> ?_⟩
 show (a.heap++os)[k]? = _
 rw[Array.getElem?_append_left hk]
theorem Gr.cell {a b:World} (h:Gr a b) {p:Addr} (hp:p.block<a.heap.size):b.cell? p=a.cell? p:=h.below.cell hp

theorem Gr.size {a b:World} (h:Gr a b):a.heap.size≤b.heap.size:=h.below.size

theorem Gr.drawn {a b:World} (h:Gr a b):a.drawn≤b.drawn:=by
 obtain ⟨q,os,rfl⟩:=h
 show a.drawn≤a.drawn+q
 omega
theorem Gr.of {a b:World} (h:Below a.heap.size a b) (k:a.drawn≤b.drawn):Gr a b:=by
 refine ⟨b.drawn-a.drawn,b.heap.extract a.heap.size b.heap.size,?_⟩
 have hh:b.heap=a.heap++b.heap.extract a.heap.size b.heap.size:=by
  apply Array.ext_getElem?
  intro i
  by_cases hi:i<a.heap.size
  ·rw[Array.getElem?_append_left hi];exact h.block i hi
  ·rw[Array.getElem?_append_right (by omega),Array.getElem?_extract]
   have e:a.heap.size+(i-a.heap.size)=i:=by omega
   by_cases hb:i<b.heap.size
   ·rw[if_pos (by omega),e]
   ·rw[if_neg (by omega)];exact Array.getElem?_eq_none (by omega)
 obtain ⟨bh,bt,bd,bo,bp⟩:=b
 obtain ⟨ah,at',ad,ao,ap⟩:=a
 have h1:=h.os
 have h2:=h.tape
 have h3:=h.output
 simp only at h1 h2 h3 hh k
 subst h1 h2 h3
 simp only[grow,World.drewN]
 rw[←hh]
 simp only[World.mk.injEq,true_and,and_true]
 omega
theorem Gr.setCell {a b:World} (h:Gr a b) {p:Addr} (hp:a.heap.size≤p.block) (u:Value):Gr a (b.setCell p u) :=
 Gr.of (h.below.setCell hp u) h.drawn

structure Ctx where
 c0:Int
 c1:Int
 c2:Int
 c3:Int
 l:List (Int×Int)

def clk (c:Ctx) (n:Int):Int:=if n=0 then c.c0 else if n=1 then c.c1 else if n=2 then c.c2 else c.c3

def ae (c:Ctx) (x:Int×Int):Bool:=c.l.contains x || (inB x.1 0 3 && decide (1≤x.2) && decide (x.2≤clk c x.1))

def Row (w:World) (A:Option Addr) (l:List (Int×Int)):Prop :=
 l=[]∨∃b off,A=some ⟨b,off,none⟩∧b<w.heap.size∧∀j (h:j<l.length),w.cell? ⟨b,off+j*2,none⟩=some (V I l[j].1)∧w.cell? ⟨b,off+j*2+1,none⟩=some (V I l[j].2)

theorem Row.below {w w':World} {A:Option Addr} {l:List (Int×Int)} (h:Row w A l) (k:Below w.heap.size w w'):Row w' A l:=by
 rcases h with h|⟨b,off,hA,hb,hc⟩
 ·exact Or.inl h
 ·exact Or.inr ⟨b,off,hA,Nat.lt_of_lt_of_le hb k.size,fun j hj=>⟨(k.cell (p:=⟨b,off+j*2,none⟩) hb).trans (hc j hj).1,(k.cell (p:=⟨b,off+j*2+1,none⟩) hb).trans (hc j hj).2⟩⟩

theorem Row.gr {w w':World} {A:Option Addr} {l:List (Int×Int)} (h:Row w A l) (k:Gr w w'):Row w' A l:=h.below k.below

theorem yW (a b c d:Int) (w:World):(binOp .eql 83 (Y #[V I a,V I b]) (Y #[V I c,V I d])).run O w= .ok (X (a==c && b==d)) w:=by
 have u3:=Tryz.underlying3
 have a3:=Tryz.isAgg3
 have z3:=Tryz.sizeOf3
 have hS:Tryz.prog.underlying 83=some (.struct (Tryz.prog.fieldsOf 83)):=by kernel_rfl
 have hp:Tryz.prog.stoodInHeld 83=false:=by kernel_rfl
 rw[run_eql_struct,show (10000:Nat)=9999+1 from rfl,run_equalIn_agg w 9999 83 _ _ hS hp]
 simp only[Program.fieldsOf,Tryz.underlying83]
 go_simp
 by_cases h1:a=c<;>by_cases h2:b=d<;>simp[h1,h2]

theorem yC (a b c d:Int) (w:World):(binOp .neq 83 (Y #[V I a,V I b]) (Y #[V I c,V I d])).run O w= .ok (X !(a==c && b==d)) w:=by
 have u3:=Tryz.underlying3
 have a3:=Tryz.isAgg3
 have z3:=Tryz.sizeOf3
 have hS:Tryz.prog.underlying 83=some (.struct (Tryz.prog.fieldsOf 83)):=by kernel_rfl
 have hp:Tryz.prog.stoodInHeld 83=false:=by kernel_rfl
 rw[run_neq_struct,show (10000:Nat)=9999+1 from rfl,run_equalIn_agg w 9999 83 _ _ hS hp]
 simp only[Program.fieldsOf,Tryz.underlying83]
 go_simp
 by_cases h1:a=c<;>by_cases h2:b=d<;>simp[h1,h2]

def lp (l:List (Int×Int)) (x:Int×Int):Bool:=l.contains x

theorem oS (op:BinOp) (p q:Operand) (a b c d:Int) (w:World):(eqGuard op 83 p q (Y #[V I a,V I b]) (Y #[V I c,V I d])).run O w= .ok () w :=
 run_eqGuard_agg w op 83 p q _ _ (by kernel_rfl)

theorem ab {w wr:World} {C1:Array Value} {T1:TypeId} (h:Gr (w.alloc (Z C1 T1)) wr) {j:Nat} {v:Value} (hv:C1[j]? = some v):wr.cell? ⟨w.heap.size,j,none⟩=some v:=by
 rw[h.cell (p:=⟨w.heap.size,j,none⟩) (by simp),World.cell?_alloc_mark w C1 T1 (0,0) j,hv]

theorem lY {w wr:World} {C1 C2:Array Value} {T1 T2:TypeId} (h:Gr ((w.alloc (Z C1 T1)).alloc (Z C2 T2)) wr) {j:Nat} {v:Value} (hv:C2[j]? = some v):wr.cell? ⟨w.heap.size+1,j,none⟩=some v:=by
 have:=ab (w:=w.alloc (Z C1 T1)) h hv
 simpa using this

theorem gT {w wr:World} {o1 o2:Obj} (h:Gr ((w.alloc o1).alloc o2) wr):Gr (w.alloc o1) wr:=((Gr.refl _).alloc o2).trans h

theorem cv {w wr:World} {o1:Obj} (h:Gr (w.alloc o1) wr):Gr w wr:=((Gr.refl w).alloc o1).trans h

theorem Gr.cellG {w W:World} (h:Gr w W) {a:Addr} {v:Value} (hb:a.block<w.heap.size) (hc:w.cell? a=some v) (n:Nat) (os:Array Obj):(grow (W.drewN n) os).cell? a=some v :=
 cell_grown (Nat.lt_of_lt_of_le hb h.size) ((h.cell hb).trans hc) n os

theorem fb {w wr:World} {C1:Array Value} {T1:TypeId} (h:Gr (w.alloc (Z C1 T1)) wr) {j:Nat} {v:Value} (hv:C1[j]? = some v) (n:Nat) (os:Array Obj):(grow (wr.drewN n) os).cell? ⟨w.heap.size,j,none⟩=some v :=
 cell_grown (Nat.lt_of_lt_of_le (show w.heap.size<(w.alloc (Z C1 T1)).heap.size by simp) h.size) (ab h hv) n os

theorem Row.at {w:World} {A:Option Addr} {l:List (Int×Int)} (h:Row w A l) {k:Nat} (hk:k<l.length):∃b off,A=some ⟨b,off,none⟩∧b<w.heap.size∧∀j (h:j<l.length),w.cell? ⟨b,off+j*2,none⟩=some (V I l[j].1)∧w.cell? ⟨b,off+j*2+1,none⟩=some (V I l[j].2):=by
 rcases h with h0|h
 ·exact absurd hk (by simp[h0])
 ·exact h

theorem gW {c:Ctx} {v:Value} {a:Int} (h0:0≤a) (h3:a<4): #[Value.int I c.c0,V I c.c1,V I c.c2,V I c.c3,v][a.toNat]? = some (V I (clk c a)):=by
 have h4:a=0∨a=1∨a=2∨a=3:=by omega
 rcases h4 with rfl|rfl|rfl|rfl<;>rfl

def iu (c:Ctx) (k:Nat):Bool:=al (c.l.getD k (0,0)) && (k==0 || br (c.l.getD (k-1) (0,0)) (c.l.getD k (0,0))) && decide (clk c (c.l.getD k (0,0)).1+2≤(c.l.getD k (0,0)).2)

def bw (c:Ctx):Bool:=inB c.c0 0 1099511627776 && inB c.c1 0 1099511627776 && inB c.c2 0 1099511627776 && inB c.c3 0 1099511627776

def aO (c:Ctx):Int:=if bw c=false then 1 else if 400<c.l.length then 2 else if (List.range c.l.length).all (iu c) then 0 else 5

theorem oG {c:Ctx} {a:Int} (h0:0≤a) (h4:a<4) (h:inB (clk c a) 0 1099511627776=false):aO c=1:=by
 have h4:a=0∨a=1∨a=2∨a=3:=by omega
 have:bw c=false:=by
  unfold bw
  rcases h4 with rfl|rfl|rfl|rfl<;>simp only[clk] at h<;>simp_all
 simp[aO,this]

theorem lE {c:Ctx} (h:∀a:Int,0≤a→a<4→inB (clk c a) 0 1099511627776=true):bw c=true:=by
 have h0:=h 0 (by omega) (by omega)
 have h1:=h 1 (by omega) (by omega)
 have h2:=h 2 (by omega) (by omega)
 have h3:=h 3 (by omega) (by omega)
 simp only[clk] at h0 h1 h2 h3
 simp_all [bw]

theorem cz {c:Ctx} (h:bw c=true) (a:Int) (h0:0≤a) (h4:a<4):0≤clk c a∧clk c a≤1099511627776:=by
 have h4:a=0∨a=1∨a=2∨a=3:=by omega
 simp[bw,inB] at h
 rcases h4 with rfl|rfl|rfl|rfl<;>simp[clk]<;>omega

theorem qk {c:Ctx} (h:bw c=true) (hl:400<c.l.length):aO c=2:=by simp[aO,h,hl]
theorem jH {c:Ctx} (h:bw c=true) (hl:c.l.length≤400) {k:Nat} (hk:k<c.l.length) (hb:iu c k=false):aO c=5:=by
 have:¬ 400<c.l.length:=by omega
 have h2:(List.range c.l.length).all (iu c)=false:=by
  rw[List.all_eq_false]
  exact ⟨k,by simpa using hk,by simp[hb]⟩
 simp[aO,h,this,h2]
theorem rC {c:Ctx} (h:bw c=true) (hl:c.l.length≤400) (ha:∀k,k<c.l.length→iu c k=true):aO c=0:=by
 have:¬ 400<c.l.length:=by omega
 have h2:(List.range c.l.length).all (iu c)=true:=by
  rw[List.all_eq_true]
  intro k hk
  exact ha k (by simpa using hk)
 simp[aO,h,this,h2]

theorem eR {c:Ctx} (h:0<c.l.length) {x:Int×Int} (hx:c.l[0]=x):iu c 0=(al x && decide (clk c x.1+2≤x.2)):=by
 subst hx
 simp[iu,h]
theorem dN {c:Ctx} {m:Nat} (h:m+1<c.l.length) {x y:Int×Int} (hx:c.l[m+1]=x) (hy:c.l[m]=y):iu c (m+1)=(al x && br y x && decide (clk c x.1+2≤x.2)):=by
 subst hx hy
 have h':m<c.l.length:=by omega
 simp[iu,h,h']
theorem dO {x:Int×Int} (h:al x=true):0≤x.1∧x.1<4∧1≤x.2∧x.2≤1099511627776:=by
 simp[al,inB] at h
 omega

theorem eC {w wr:World} {C1:Array Value} {T1:TypeId} (h:Gr (w.alloc (Z C1 T1)) wr) (j:Nat):wr.frozen? ⟨w.heap.size,j,none⟩=false:=by
 rw[h.below.frozen (p:=⟨w.heap.size,j,none⟩) (by simp)]
 simp
theorem oy {w wr:World} {o1:Obj} {C2:Array Value} {T2:TypeId} (h:Gr ((w.alloc o1).alloc (Z C2 T2)) wr) (j:Nat):wr.frozen? ⟨w.heap.size+1,j,none⟩=false:=by
 have:=eC (w:=w.alloc o1) h j
 simpa using this

def eF (c:Ctx) (n:Int) (l:List (Int×Int)):Int:=l.foldl (fun m x=>if x.1=n then max m x.2 else m) (clk c n)
theorem tH (c:Ctx) (n:Int) (l:List (Int×Int)) (x:Int×Int):eF c n (l++[x])=if x.1=n then max (eF c n l) x.2 else eF c n l:=by
 simp[eF,List.foldl_append]
theorem tI (c:Ctx) (n:Int) (k:Nat) (h:k<c.l.length) {x:Int×Int} (hx:c.l[k]=x):eF c n (c.l.take (k+1))=if x.1=n then max (eF c n (c.l.take k)) x.2 else eF c n (c.l.take k):=by
 rw[List.take_succ_eq_append_getElem h,tH,hx]
theorem rX (c:Ctx) (n:Int) (l:List (Int×Int)):clk c n≤eF c n l:=by
 unfold eF
 suffices h:∀m,m≤l.foldl (fun m x=>if x.1=n then max m x.2 else m) m from h _
 induction l with
 | nil=>intro m;simp
 | cons x l ih =>
  intro m
  simp only[List.foldl_cons]
  refine Int.le_trans ?_ (ih (if x.1=n then max m x.2 else m))
  split<;>omega

def ki (c:Ctx) (n:Int):Int:=if 1099511627776≤eF c n c.l then 2 else 0
def jp (c:Ctx) (n:Int):Int×Int:=if 1099511627776≤eF c n c.l then (0,0) else (n,eF c n c.l+1)

def lX (l:List (Int×Int)):Bool:=l.any fun x=> !al x

theorem wG {l:List (Int×Int)} {k:Nat} (h:k<l.length) {x:Int×Int} (hx:l[k]=x) (hr:al x=false):lX l=true:=by
 simp only[lX,List.any_eq_true]
 exact ⟨l[k],List.getElem_mem h,by rw[hx,hr];rfl⟩
theorem oq {l:List (Int×Int)} (h:∀j (h:j<l.length),al l[j]=true):lX l=false:=by
 simp only[lX,List.any_eq_false]
 intro x hx
 obtain ⟨j,hj,rfl⟩:=List.getElem_of_mem hx
 rw[h j hj];simp
theorem tY {l:List (Int×Int)} (h:lX l=false):∀x∈l,al x=true:=by
 intro x hx
 simp only[lX,List.any_eq_false] at h
 have:=h x hx
 cases hr:al x
 ·simp[hr] at this
 ·rfl

abbrev cM:=@Calls.mono
abbrev nR:=@Nat.le_refl
abbrev nL:=@Nat.lt_of_lt_of_le
abbrev nT:=@Nat.le_trans
abbrev oL:=@Or.inl
abbrev oR:=@Or.inr
abbrev gM:=@List.getElem_mem
abbrev nZ:=@Nat.zero_le
abbrev mS:=@List.mem_cons_self
abbrev mC:=@List.mem_cons_of_mem
abbrev sI:=@Option.some.inj
abbrev gR:=@Gr.refl
abbrev bR:=@Below.refl

theorem Tryz.info83:(Tryz.prog.info? 83).map (fun i=>(i.zero,i.size,i.bytes))=some (some (Y #[V I 0,V I 0]),2,16):=by kernel_rfl

def fy (l:List (Int×Int)):List Value:=l.flatMap fun x=>[V I x.1,V I x.2]

theorem kd (l:List (Int×Int)):(fy l).length=l.length*2:=by
 induction l with
 | nil=>rfl
 | cons x l ih=>simp only[fy,List.flatMap_cons,List.length_append] at ih ⊢;rw[ih];simp;omega
theorem oK (l m:List (Int×Int)):fy (l++m)=fy l++fy m:=by simp[fy,List.flatMap_append]
theorem uI (u:Value) (l:List (Int×Int)) (h:u∈fy l):u.oneCell'=true:=by
 simp only[fy,List.mem_flatMap] at h
 obtain ⟨x,_,hx⟩:=h
 simp only[List.mem_cons,List.not_mem_nil,or_false] at hx
 rcases hx with rfl|rfl<;>rfl
theorem l7 (l:List (Int×Int)):∀j (h:j<l.length),(fy l)[j*2]? = some (V I l[j].1)∧(fy l)[j*2+1]? = some (V I l[j].2):=by
 induction l with
 | nil=>intro j h;exact absurd h (Nat.not_lt_zero _)
 | cons x l ih =>
  intro j h
  have e:fy (x::l)= V I x.1 :: V I x.2::fy l:=rfl
  cases j with
  | zero=>rw[e];exact ⟨rfl,rfl⟩
  | succ j =>
   have:=ih j (by simpa using h)
   rw[e,show (j+1)*2=j*2+1+1 from by omega]
   simpa using this
theorem uH (l:List (Int×Int)) {j:Nat} {u:Value} (h:(fy l)[j]? = some u):∃k,∃hk:k<l.length,(j=k*2∧u= V I l[k].1)∨(j=k*2+1∧u= V I l[k].2):=by
 have hj:j<(fy l).length:=(List.getElem?_eq_some_iff.1 h).1
 rw[kd] at hj
 have hk:j / 2<l.length:=by omega
 refine ⟨j / 2,hk,?_⟩
 have:=l7 l (j / 2) hk
 by_cases he:j % 2=0
 ·left
  have e:j / 2*2=j:=by omega
  rw[e,h] at this
  exact ⟨e.symm,sI this.1⟩
 ·right
  have e:j / 2*2+1=j:=by omega
  rw[e,h] at this
  exact ⟨e.symm,sI this.2⟩

theorem Row.cells {w:World} {ad:Addr} {l:List (Int×Int)} (h:Row w (some ad) l):∀j u,(fy l)[j]? = some u→w.cell? (ad.add j)=some u:=by
 intro j u hu
 obtain ⟨k,hk,hc⟩:=uH l hu
 rcases h with h0|⟨b,off,hA,_,hcs⟩
 ·subst h0;exact absurd hk (Nat.not_lt_zero _)
 ·obtain rfl:=sI hA
  rw[Addr.add_lit]
  rcases hc with ⟨rfl,rfl⟩|⟨rfl,rfl⟩
  ·exact (hcs k hk).1
  ·exact (hcs k hk).2

def Own (w:World) (base:Nat) (v:Value) (l:List (Int×Int)):Prop:=w.ownsRow base 83 2 v l.length (fy l)

theorem Own.nil (w:World) (base:Nat):Own w base (J none 0 0) []:=World.ownsRow_nil w base _ _

theorem Own.row {w:World} {base:Nat} {v:Value} {l:List (Int×Int)} (h:Own w base v l):∃A cap,v= J A l.length cap∧(A=none→cap=0)∧Row w A l∧(∀a,A=some a→base≤a.block∧a.block<w.heap.size):=by
 rcases h.2 with ⟨hv,hn⟩|⟨g,cap,cur,hv,hb,hg,_,_,_,_⟩
 ·refine ⟨none,0,?_,fun _=>rfl,oL (List.eq_nil_of_length_eq_zero hn),fun a ha=>by cases ha⟩
  rw[hv,hn]
 ·have hlt:g<w.heap.size:=(Array.getElem?_eq_some_iff.1 hg).1
  refine ⟨some ⟨g,0,none⟩,cap,hv,fun h=>(by cases h),oR ⟨g,0,rfl,hlt,fun j hj=> ?_⟩,fun a ha=>by cases ha;exact ⟨hb,hlt⟩⟩
  have hc:=h.cells (g:=g) (by rw[hv];rfl)
  have e:=l7 l j hj
  have c0:=hc _ _ e.1
  have c1:=hc _ _ e.2
  rw[Addr.add_lit] at c0 c1
  exact ⟨c0,c1⟩

theorem Own.full {w:World} {base:Nat} {v:Value} {l:List (Int×Int)} (h:Own w base v l):∃A cap,v= J A l.length cap∧(A=none→cap=0)∧Row w A l∧l.length≤cap∧(∀a,A=some a→base≤a.block∧a.block<w.heap.size∧v.ownBlock=some a.block∧a.spot=none):=by
 obtain ⟨A,cap,hv,hA,hr,hb⟩:=h.row
 refine ⟨A,cap,hv,hA,hr,?_,fun a ha=>⟨(hb a ha).1,(hb a ha).2,by rw[hv,ha];rfl,?_⟩⟩
 ·rcases h.2 with ⟨h0,hn⟩|⟨g,cap',cur,hv',_,_,hn,_⟩
  ·omega
  ·rw[hv] at hv'
   injection hv' with _ _ h3
   omega
 ·rcases h.2 with ⟨h0,hn⟩|⟨g,cap',cur,hv',_,_,hn,_⟩
  ·rw[hv,ha] at h0
   injection h0 with h1
   cases h1
  ·rw[hv,ha] at hv'
   injection hv' with h1
   injection h1 with h1
   rw[h1]

theorem Own.below {w w':World} {base:Nat} {v:Value} {l:List (Int×Int)} (h:Own w base v l) (k:Below w.heap.size w w'):Own w' base v l :=
 h.kept (row:=none) ⟨k.os,k.tape,k.output,k.size,fun j hj _=>k.block j hj⟩ (by cases v.ownBlock<;>simp)
theorem Own.gr {w w':World} {base:Nat} {v:Value} {l:List (Int×Int)} (h:Own w base v l) (k:Gr w w'):Own w' base v l:=h.below k.below
theorem Own.setCell {w:World} {base:Nat} {v:Value} {l:List (Int×Int)} (h:Own w base v l) {a:Addr} (ha:a.block<base) (u:Value):Own (w.setCell a u) base v l:=ownsRow_setCell_below h ha u
theorem Own.mono {w:World} {base base':Nat} {v:Value} {l:List (Int×Int)} (h:Own w base v l) (hb:base'≤base):Own w base' v l:=by
 refine ⟨h.1,?_⟩
 rcases h.2 with h1|⟨g,cap,cur,hv,hg,rest⟩
 ·exact .inl h1
 ·exact .inr ⟨g,cap,cur,hv,by omega,rest⟩

theorem Own.grown_below {w w':World} {base:Nat} {v:Value} {l:List (Int×Int)} (h:Own w base v l) (hg:w.grownBy w' v.ownBlock) (hb:base≤w.heap.size):Below base w w' :=
 (bR base w).grown hg hb fun k e=>(h.lt k e).1
theorem Row.belowB {w w':World} {A:Option Addr} {l:List (Int×Int)} {B:Nat} (h:Row w A l) (hA:∀a,A=some a→l≠[]→a.block<B) (k:Below B w w'):Row w' A l:=by
 rcases h with h|⟨b,off,rfl,hb,hc⟩
 ·exact oL h
 ·by_cases h0:l=[]
  ·exact oL h0
  have hbB:=hA _ rfl h0
  exact oR ⟨b,off,rfl,nL hb k.size,fun j hj=>⟨(k.cell (p:=⟨b,off+j*2,none⟩) hbB).trans (hc j hj).1,(k.cell (p:=⟨b,off+j*2+1,none⟩) hbB).trans (hc j hj).2⟩⟩
theorem Row.lt {w:World} {A:Option Addr} {l:List (Int×Int)} (h:Row w A l):∀a,A=some a→l≠[]→a.block<w.heap.size:=by
 rcases h with h|⟨b,off,rfl,hb,_⟩
 ·intro a _ h0;exact absurd h h0
 ·intro a ha _;cases ha;exact hb

theorem ky (w:World) (ty:TypeId) (base:Nat) (v:Value) (l m:List (Int×Int)) (A:Option Addr) (cap:Nat) (hown:Own w base v l) (hr:Row w A m) (hA:A=none→cap=0)
  (hb:(l.length+m.length)*16≤140737488355328) (hbase:base≤w.heap.size) :
  ∃v' w',(Builtin.append_ #[37,37] ty #[v,J A m.length cap]).run O w= .ok v' w'∧Own w' base v' (l++m)∧w.grownBy w' v.ownBlock∧(v'.ownBlock=v.ownBlock∨v'.ownBlock=some w.heap.size):=by
 obtain ⟨i0,hi,hz0,hz1,hz2⟩:=info_parts Tryz.info83
 cases A with
 | none =>
  obtain rfl:=hA rfl
  have hm:m=[]:=by
   rcases hr with h|⟨_,_,h,_⟩
   ·exact h
   ·cases h
  subst hm
  have:=run_append_owned_none (P:=O) (w:=w) base 37 ty 83 i0 2 Tryz.underlying37 hi v l.length (fy l) hown
  exact ⟨v,w,this,by rw[List.append_nil];exact hown,⟨rfl,rfl,rfl,nR _,fun _ _ _=>rfl⟩,oL rfl⟩
 | some ad =>
  obtain ⟨v',w',h1,h2,h3,_,h5⟩:=run_append_own_at (P:=O) w base 37 ty 83 i0 _ 2 16 Tryz.underlying37 hi hz0 hz1 hz2 rfl (by omega) v l.length (fy l) hown ad m.length cap (fy m) (kd m) hr.cells (fun u hu=>uI u m hu) (by unfold maxLen;omega) hb hbase
  refine ⟨v',w',h1,?_,h3,h5⟩
  show w'.ownsRow base _ 2 v' (l++m).length (fy (l++m))
  rw[List.length_append,oK]
  exact h2

theorem lV (w:World) {o:Oper} {a:Act} {K:Act→World→Prop} {Q:Exit→Act→World→Prop} (s x:Operand)
  (ho:o.op= .call { callee:= .builtin .append,args:= #[s,x],argTypes:= #[37,37] })
  (base:Nat) (v:Value) (l m:List (Int×Int)) (A:Option Addr) (cap:Nat) (hs:a.eval s=v) (hx:a.eval x= J A m.length cap) (hown:Own w base v l) (hr:Row w A m) (hA:A=none→cap=0)
  (hb:(l.length+m.length)*16≤140737488355328) (hbase:base≤w.heap.size)
  (h:∀v' w',Own w' base v' (l++m)→w.grownBy w' v.ownBlock→(v'.ownBlock=v.ownBlock∨v'.ownBlock=some w.heap.size)→K (a.put o.dst v') w'):o.wp O a w K Q:=by
 obtain ⟨v',w',hr,h2,h3,h4⟩:=ky w o.type base v l m A cap hown hr hA hb hbase
 unfold Oper.wp execOp
 simp only[ho,resolve,invoke,builtin,Sem.run_bind,Sem.run_pure,Result.andThen_ok,List.map_toArray,List.map_cons,List.map_nil,hs,hx,hr]
 exact h v' w' h2 h3 h4

theorem aF (w:World) {ops:Array Oper} {rest:List Oper} {o:Oper} {a:Act} {Q:Exit→Act→World→Prop} (hgd:o.guard=none) (s x:Operand)
  (ho:o.op= .call { callee:= .builtin .append,args:= #[s,x],argTypes:= #[37,37] })
  (base:Nat) (v:Value) (l m:List (Int×Int)) (A:Option Addr) (cap:Nat) (hs:a.eval s=v) (hx:a.eval x= J A m.length cap) (hown:Own w base v l) (hr:Row w A m) (hA:A=none→cap=0)
  (hb:(l.length+m.length)*16≤140737488355328) (hbase:base≤w.heap.size)
  (h:∀v' w',Own w' base v' (l++m)→w.grownBy w' v.ownBlock→(v'.ownBlock=v.ownBlock∨v'.ownBlock=some w.heap.size)→wpList O ops Q rest (a.put o.dst v') w'):wpList O ops Q (o::rest) a w :=
 wpList_plain hgd fun _ hK=>lV w s x ho base v l m A cap hs hx hown hr hA hb hbase fun v' w' h2 h3 h4=>hK _ _ (h v' w' h2 h3 h4)

theorem Row.drew {w:World} {A:Option Addr} {l:List (Int×Int)} (h:Row w A l):Row w.drew A l:=h
theorem Row.drewN {w:World} {A:Option Addr} {l:List (Int×Int)} (h:Row w A l) (n:Nat):Row (w.drewN n) A l:=h
theorem dC {w w':World} (hg:w.grownBy w' (Value.slice none 0 0).ownBlock):Below w.heap.size w w':=(bR _ _).grown hg (nR _) (fun k e=>by cases e)

theorem Row.take {w:World} {A:Option Addr} {l:List (Int×Int)} (h:Row w A l) (k:Nat):Row w A (l.take k):=by
 rcases h with h|⟨b,off,hA,hb,hc⟩
 ·exact oL (by rw[h];simp)
 ·exact oR ⟨b,off,hA,hb,fun j hj=>by
   have hj':j<l.length:=by rw[List.length_take] at hj;omega
   rw[List.getElem_take]
   exact hc j hj'⟩
theorem Row.drop {w:World} {b off:Nat} {l:List (Int×Int)} (h:Row w (some ⟨b,off,none⟩) l) (k:Nat):Row w (some ⟨b,off+k*2,none⟩) (l.drop k):=by
 rcases h with h|⟨b',off',hA,hb,hc⟩
 ·exact oL (by rw[h];simp)
 ·obtain ⟨rfl,rfl⟩:b=b'∧off=off':=by injection hA with hA;injection hA with h1 h2;exact ⟨h1,h2⟩
  exact oR ⟨b,off+k*2,rfl,hb,fun j hj=>by
   have hj':k+j<l.length:=by rw[List.length_drop] at hj;omega
   rw[List.getElem_drop]
   have:=hc (k+j) hj'
   rw[show off+k*2+j*2=off+(k+j)*2 from by omega]
   exact this⟩


def aI {α : Type} (enc: α → List Value) (l:List α):List Value:=l.flatMap enc

theorem bu {α : Type} {enc: α → List Value} {k:Nat} (hk:∀x,(enc x).length=k) (l:List α):(aI enc l).length=l.length*k:=by
 induction l with
 | nil=>simp[aI]
 | cons x l ih =>
  simp only[aI,List.flatMap_cons,List.length_append,List.length_cons] at ih ⊢
  rw[ih,hk,Nat.add_mul,Nat.one_mul,Nat.add_comm]
theorem cE {α : Type} (enc: α → List Value) (l m:List α):aI enc (l++m)=aI enc l++aI enc m:=by simp[aI,List.flatMap_append]
theorem dL {α : Type} {enc: α → List Value} (h1:∀x,∀u∈enc x,u.oneCell'=true) (u:Value) (l:List α) (h:u∈aI enc l):u.oneCell'=true:=by
 simp only[aI,List.mem_flatMap] at h
 obtain ⟨x,_,hx⟩:=h
 exact h1 x u hx
theorem gZ {α : Type} {enc: α → List Value} {k:Nat} (hk:∀x,(enc x).length=k) (l:List α):∀j (h:j<l.length) i,i<k→(aI enc l)[j*k+i]? = (enc l[j])[i]? := by
 induction l with
 | nil=>intro j h;exact absurd h (Nat.not_lt_zero _)
 | cons x l ih =>
  intro j h i hi
  have e:aI enc (x::l)=enc x++aI enc l:=rfl
  rw[e]
  cases j with
  | zero=>rw[Nat.zero_mul,Nat.zero_add,List.getElem?_append_left (by rw[hk];exact hi)];rfl
  | succ j =>
   rw[List.getElem?_append_right (by rw[hk,Nat.add_mul];omega),hk,show (j+1)*k+i-k=j*k+i from by rw[Nat.add_mul];omega]
   simpa using ih j (by simpa using h) i hi
theorem sD {α : Type} {enc: α → List Value} {k:Nat} (hk:∀x,(enc x).length=k) (h0:0<k) (l:List α) {j:Nat} {u:Value} (h:(aI enc l)[j]? = some u):∃m,∃hm:m<l.length,∃i,i<k∧j=m*k+i∧(enc l[m])[i]? = some u:=by
 have hj:j<(aI enc l).length:=(List.getElem?_eq_some_iff.1 h).1
 rw[bu hk] at hj
 have hm:j / k<l.length:=Nat.div_lt_of_lt_mul (by rw[Nat.mul_comm];exact hj)
 have e:j=j / k*k+j % k:=by rw[Nat.mul_comm];exact (Nat.div_add_mod j k).symm
 refine ⟨j / k,hm,j % k,Nat.mod_lt _ h0,e,?_⟩
 rw[←gZ hk l (j / k) hm (j % k) (Nat.mod_lt _ h0),←e]
 exact h

def ay {α : Type} (enc: α → List Value) (k:Nat) (w:World) (A:Option Addr) (l:List α):Prop :=
 l=[]∨∃b off,A=some ⟨b,off,none⟩∧b<w.heap.size∧∀j (h:j<l.length) i,i<k→w.cell? ⟨b,off+j*k+i,none⟩=(enc l[j])[i]?

theorem ay.belowB {α : Type} {enc: α → List Value} {k:Nat} {w w':World} {A:Option Addr} {l:List α} {B:Nat} (h:ay enc k w A l) (hA:∀a,A=some a→l≠[]→a.block<B) (q:Below B w w'):ay enc k w' A l:=by
 rcases h with h|⟨b,off,rfl,hb,hc⟩
 ·exact oL h
 ·by_cases h0:l=[]
  ·exact oL h0
  have hbB:=hA _ rfl h0
  exact oR ⟨b,off,rfl,nL hb q.size,fun j hj i hi=>(q.cell (p:=⟨b,off+j*k+i,none⟩) hbB).trans (hc j hj i hi)⟩
theorem ay.lt {α : Type} {enc: α → List Value} {k:Nat} {w:World} {A:Option Addr} {l:List α} (h:ay enc k w A l):∀a,A=some a→l≠[]→a.block<w.heap.size:=by
 rcases h with h|⟨b,off,rfl,hb,_⟩
 ·intro a _ h0;exact absurd h h0
 ·intro a ha _;cases ha;exact hb
theorem ay.below {α : Type} {enc: α → List Value} {k:Nat} {w w':World} {A:Option Addr} {l:List α} (h:ay enc k w A l) (q:Below w.heap.size w w'):ay enc k w' A l:=h.belowB h.lt q
theorem ay.gr {α : Type} {enc: α → List Value} {k:Nat} {w w':World} {A:Option Addr} {l:List α} (h:ay enc k w A l) (q:Gr w w'):ay enc k w' A l:=h.below q.below
theorem ay.at {α : Type} {enc: α → List Value} {k:Nat} {w:World} {A:Option Addr} {l:List α} (h:ay enc k w A l) {m:Nat} (hm:m<l.length):∃b off,A=some ⟨b,off,none⟩∧b<w.heap.size∧∀j (h:j<l.length) i,i<k→w.cell? ⟨b,off+j*k+i,none⟩=(enc l[j])[i]? := by
 rcases h with h0|h
 ·exact absurd hm (by simp[h0])
 ·exact h
theorem ay.cells {α : Type} {enc: α → List Value} {k:Nat} (hk:∀x,(enc x).length=k) (h0:0<k) {w:World} {ad:Addr} {l:List α} (h:ay enc k w (some ad) l):∀j u,(aI enc l)[j]? = some u→w.cell? (ad.add j)=some u:=by
 intro j u hu
 obtain ⟨m,hm,i,hi,rfl,hc⟩:=sD hk h0 l hu
 rcases h with h1|⟨b,off,hA,_,hcs⟩
 ·subst h1;exact absurd hm (Nat.not_lt_zero _)
 ·obtain rfl:=sI hA
  rw[Addr.add_lit]
  have:=hcs m hm i hi
  rw[hc,show off+m*k+i=off+(m*k+i) from by omega] at this
  exact this

def ai {α : Type} (enc: α → List Value) (k:Nat) (e:TypeId) (w:World) (base:Nat) (v:Value) (l:List α):Prop:=w.ownsRow base e k v l.length (aI enc l)

theorem ai.nil {α : Type} (enc: α → List Value) (k:Nat) (e:TypeId) (w:World) (base:Nat):ai enc k e w base (J none 0 0) []:=World.ownsRow_nil w base _ _

theorem ai.full {α : Type} {enc: α → List Value} {k:Nat} {e:TypeId} (hk:∀x,(enc x).length=k) {w:World} {base:Nat} {v:Value} {l:List α} (h:ai enc k e w base v l):∃A cap,v= J A l.length cap∧(A=none→cap=0)∧ay enc k w A l∧l.length≤cap∧(∀a,A=some a→base≤a.block∧a.block<w.heap.size∧a.off=0∧a.spot=none)∧(∀a,A=some a→∀j,w.frozen? ⟨a.block,j,none⟩=false):=by
 rcases h.2 with ⟨hv,hn⟩|⟨g,cap,cur,hv,hb,hg,hle,_,_,_⟩
 ·refine ⟨none,0,?_,fun _=>rfl,oL (List.eq_nil_of_length_eq_zero hn),by omega,fun a ha=>(by cases ha),fun a ha=>(by cases ha)⟩
  rw[hv,hn]
 ·have hlt:g<w.heap.size:=(Array.getElem?_eq_some_iff.1 hg).1
  refine ⟨some ⟨g,0,none⟩,cap,hv,fun h=>(by cases h),oR ⟨g,0,rfl,hlt,fun j hj i hi=> ?_⟩,hle,fun a ha=>(by cases ha;exact ⟨hb,hlt,rfl,rfl⟩),fun a ha j=> ?_⟩
  ·have hc:=h.cells (g:=g) (by rw[hv];rfl)
   have e1:=gZ hk l j hj i hi
   have hin:i<(enc l[j]).length:=by rw[hk];exact hi
   rw[List.getElem?_eq_getElem hin] at e1 ⊢
   have c0:=hc _ _ e1
   rw[Addr.add_lit] at c0
   rw[show 0+j*k+i=0+(j*k+i) from by omega]
   exact c0
  ·cases ha
   exact World.ownsRow.frozenAt (by rw[←hv];exact h) (g:=g) (cap:=cap) j
theorem ai.row {α : Type} {enc: α → List Value} {k:Nat} {e:TypeId} (hk:∀x,(enc x).length=k) {w:World} {base:Nat} {v:Value} {l:List α} (h:ai enc k e w base v l):∃A cap,v= J A l.length cap∧(A=none→cap=0)∧ay enc k w A l∧(∀a,A=some a→base≤a.block∧a.block<w.heap.size):=by
 obtain ⟨A,cap,h1,h2,h3,_,h5,_⟩:=ai.full hk h
 exact ⟨A,cap,h1,h2,h3,fun a ha=>⟨(h5 a ha).1,(h5 a ha).2.1⟩⟩

theorem ai.below {α : Type} {enc: α → List Value} {k:Nat} {e:TypeId} {w w':World} {base:Nat} {v:Value} {l:List α} (h:ai enc k e w base v l) (q:Below w.heap.size w w'):ai enc k e w' base v l :=
 World.ownsRow.kept h (row:=none) ⟨q.os,q.tape,q.output,q.size,fun j hj _=>q.block j hj⟩ (by cases v.ownBlock<;>simp)
theorem ai.gr {α : Type} {enc: α → List Value} {k:Nat} {e:TypeId} {w w':World} {base:Nat} {v:Value} {l:List α} (h:ai enc k e w base v l) (q:Gr w w'):ai enc k e w' base v l:=h.below q.below
theorem ai.mono {α : Type} {enc: α → List Value} {k:Nat} {e:TypeId} {w:World} {base base':Nat} {v:Value} {l:List α} (h:ai enc k e w base v l) (hb:base'≤base):ai enc k e w base' v l:=by
 refine ⟨h.1,?_⟩
 rcases h.2 with h1|⟨g,cap,cur,hv,hg,rest⟩
 ·exact .inl h1
 ·exact .inr ⟨g,cap,cur,hv,by omega,rest⟩
theorem ai.grown_below {α : Type} {enc: α → List Value} {k:Nat} {e:TypeId} {w w':World} {base:Nat} {v:Value} {l:List α} (h:ai enc k e w base v l) (hg:w.grownBy w' v.ownBlock) (hb:base≤w.heap.size):Below base w w' :=
 (bR base w).grown hg hb fun j ej=>(World.ownsRow.lt h j ej).1

theorem o8 {α : Type} {enc: α → List Value} {k:Nat} {e:TypeId} (hk:∀x,(enc x).length=k) (h1:∀x,∀u∈enc x,u.oneCell'=true) (h0:0<k)
  (t:TypeId) (ht:Tryz.prog.underlying t=some (.slice e)) (z:Value) (bytes:Nat) (hi:(Tryz.prog.info? e).map (fun i=>(i.zero,i.size,i.bytes))=some (some z,k,bytes)) (hzs:z.cells.size=k)
  (w:World) (ty:TypeId) (base:Nat) (v:Value) (l m:List α) (A:Option Addr) (cap:Nat) (hown:ai enc k e w base v l) (hr:ay enc k w A m) (hA:A=none→cap=0)
  (hml:l.length+m.length≤maxLen) (hb:(l.length+m.length)*bytes≤140737488355328) (hbase:base≤w.heap.size) :
  ∃v' w',(Builtin.append_ #[t,t] ty #[v,J A m.length cap]).run O w= .ok v' w'∧ai enc k e w' base v' (l++m)∧w.grownBy w' v.ownBlock:=by
 obtain ⟨i0,hi,hz0,hz1,hz2⟩:=info_parts hi
 cases A with
 | none =>
  obtain rfl:=hA rfl
  have hm:m=[]:=by
   rcases hr with h|⟨_,_,h,_⟩
   ·exact h
   ·cases h
  subst hm
  have:=run_append_owned_none (P:=O) (w:=w) base t ty e i0 k ht hi v l.length (aI enc l) hown
  exact ⟨v,w,this,by rw[List.append_nil];exact hown,⟨rfl,rfl,rfl,nR _,fun _ _ _=>rfl⟩⟩
 | some ad =>
  obtain ⟨v',w',g1,g2,g3,_,_⟩:=run_append_own_at (P:=O) w base t ty e i0 z k bytes ht hi hz0 hz1 hz2 hzs h0 v l.length (aI enc l) hown ad m.length cap (aI enc m) (bu hk m) (hr.cells hk h0) (fun u hu=>dL h1 u m hu) hml hb hbase
  refine ⟨v',w',g1,?_,g3⟩
  show w'.ownsRow base _ k v' (l++m).length (aI enc (l++m))
  rw[List.length_append,cE]
  exact g2

theorem eG {α : Type} {enc: α → List Value} {k:Nat} {e:TypeId} (hk:∀x,(enc x).length=k) (h1:∀x,∀u∈enc x,u.oneCell'=true) (h0:0<k)
  (t:TypeId) (ht:Tryz.prog.underlying t=some (.slice e)) (z:Value) (bytes:Nat) (hi:(Tryz.prog.info? e).map (fun i=>(i.zero,i.size,i.bytes))=some (some z,k,bytes)) (hzs:z.cells.size=k)
  (w:World) {o:Oper} {a:Act} {K:Act→World→Prop} {Q:Exit→Act→World→Prop} (s x:Operand)
  (ho:o.op= .call { callee:= .builtin .append,args:= #[s,x],argTypes:= #[t,t] })
  (base:Nat) (v:Value) (l m:List α) (A:Option Addr) (cap:Nat) (hs:a.eval s=v) (hx:a.eval x= J A m.length cap) (hown:ai enc k e w base v l) (hr:ay enc k w A m) (hA:A=none→cap=0)
  (hml:l.length+m.length≤maxLen) (hb:(l.length+m.length)*bytes≤140737488355328) (hbase:base≤w.heap.size)
  (h:∀v' w',ai enc k e w' base v' (l++m)→w.grownBy w' v.ownBlock→K (a.put o.dst v') w'):o.wp O a w K Q:=by
 obtain ⟨v',w',hr,h2,h3⟩:=o8 hk h1 h0 t ht z bytes hi hzs w o.type base v l m A cap hown hr hA hml hb hbase
 unfold Oper.wp execOp
 simp only[ho,resolve,invoke,builtin,Sem.run_bind,Sem.run_pure,Result.andThen_ok,List.map_toArray,List.map_cons,List.map_nil,hs,hx,hr]
 exact h v' w' h2 h3

theorem ay.take {α : Type} {enc: α → List Value} {k:Nat} {w:World} {A:Option Addr} {l:List α} (h:ay enc k w A l) (m:Nat):ay enc k w A (l.take m):=by
 rcases h with h|⟨b,off,hA,hb,hc⟩
 ·exact oL (by rw[h];simp)
 ·exact oR ⟨b,off,hA,hb,fun j hj i hi=>by
   have hj':j<l.length:=by rw[List.length_take] at hj;omega
   rw[List.getElem_take]
   exact hc j hj' i hi⟩


def setClk (c:Ctx) (n s:Int):Ctx:=if n=0 then { c with c0:=s } else if n=1 then { c with c1:=s } else if n=2 then { c with c2:=s } else { c with c3:=s }

theorem dZ (c:Ctx) (n s:Int):(setClk c n s).l=c.l:=by
 unfold setClk
 by_cases h0:n=0
 ·simp[h0]
 ·by_cases h1:n=1
  ·simp[h1]
  ·by_cases h2:n=2
   ·simp[h2]
   ·simp[h0,h1,h2]
theorem dE (c:Ctx) (n s a:Int) (h0:0≤n) (h4:n<4) (g0:0≤a) (g4:a<4):clk (setClk c n s) a=if a=n then s else clk c a:=by
 have hn:n=0∨n=1∨n=2∨n=3:=by omega
 have ha:a=0∨a=1∨a=2∨a=3:=by omega
 rcases hn with rfl|rfl|rfl|rfl<;>rcases ha with rfl|rfl|rfl|rfl<;>simp[setClk,clk]

def CB (w:World) (B base:Nat) (c:Ctx):Prop:=∃v,w.cell? ⟨B,0,none⟩=some (V I c.c0)∧w.cell? ⟨B,1,none⟩=some (V I c.c1)∧w.cell? ⟨B,2,none⟩=some (V I c.c2)∧w.cell? ⟨B,3,none⟩=some (V I c.c3) ∧
 w.cell? ⟨B,4,none⟩=some v∧Own w base v c.l∧(∀j,w.frozen? ⟨B,j,none⟩=false)∧B<base∧B<w.heap.size

theorem CB.below {w w':World} {B base:Nat} {c:Ctx} (h:CB w B base c) (k:Below w.heap.size w w'):CB w' B base c:=by
 obtain ⟨v,h0,h1,h2,h3,h4,ho,hf,hB,hs⟩:=h
 exact ⟨v,(k.cell (p:=⟨B,0,none⟩) hs).trans h0,(k.cell (p:=⟨B,1,none⟩) hs).trans h1,(k.cell (p:=⟨B,2,none⟩) hs).trans h2,(k.cell (p:=⟨B,3,none⟩) hs).trans h3,(k.cell (p:=⟨B,4,none⟩) hs).trans h4,ho.below k,fun j=>(k.frozen (p:=⟨B,j,none⟩) hs).trans (hf j),hB,nL hs k.size⟩
theorem CB.gr {w w':World} {B base:Nat} {c:Ctx} (h:CB w B base c) (k:Gr w w'):CB w' B base c:=h.below k.below

theorem CB.clk {w:World} {B base:Nat} {c:Ctx} (h:CB w B base c) {a:Int} (h0:0≤a) (h4:a<4):w.cell? ⟨B,a.toNat,none⟩=some (V I (clk c a)):=by
 obtain ⟨v,k0,k1,k2,k3,_⟩:=h
 have ha:a=0∨a=1∨a=2∨a=3:=by omega
 rcases ha with rfl|rfl|rfl|rfl
 ·exact k0
 ·exact k1
 ·exact k2
 ·exact k3

theorem aa {w:World} {B j j':Nat} {u x:Value} (hx:w.cell? ⟨B,j',none⟩=some x):(w.setCell ⟨B,j,none⟩ u).cell? ⟨B,j',none⟩=some (if j'=j then u else x):=by
 by_cases h:j'=j
 ·subst h;rw[if_pos rfl];exact World.cell?_setCell_same _ _ _ hx
 ·rw[if_neg h,World.cell?_setCell_other _ _ _ _ (by intro e;injection e with e1 e2;exact h e2.symm)];exact hx

theorem CB.setClk {w:World} {B base:Nat} {c:Ctx} (h:CB w B base c) {n:Int} (h0:0≤n) (h4:n<4) (s:Int):CB (w.setCell ⟨B,n.toNat,none⟩ (V I s)) B base (setClk c n s):=by
 obtain ⟨v,k0,k1,k2,k3,k4,ho,hf,hB,hs⟩:=h
 have hn:n=0∨n=1∨n=2∨n=3:=by omega
 refine ⟨v,?_,?_,?_,?_,?_,?_,?_,hB,by simpa[World.setCell] using hs⟩
 ·rw[aa k0];rcases hn with rfl|rfl|rfl|rfl<;>rfl
 ·rw[aa k1];rcases hn with rfl|rfl|rfl|rfl<;>rfl
 ·rw[aa k2];rcases hn with rfl|rfl|rfl|rfl<;>rfl
 ·rw[aa k3];rcases hn with rfl|rfl|rfl|rfl<;>rfl
 ·rw[aa k4];rcases hn with rfl|rfl|rfl|rfl<;>rfl
 ·rw[dZ];exact ho.setCell hB _
 ·intro j;rw[World.frozen?_setCell];exact hf j

theorem CB.setL {w w1:World} {B base:Nat} {c:Ctx} (h:CB w B base c) (k:Below base w w1) {v:Value} {l:List (Int×Int)} (ho:Own w1 base v l):CB (w1.setCell ⟨B,4,none⟩ v) B base { c with l:=l }:=by
 obtain ⟨v0,k0,k1,k2,k3,k4,_,hf,hB,hs⟩:=h
 have e0:=(k.cell (p:=⟨B,0,none⟩) hB).trans k0
 have e1:=(k.cell (p:=⟨B,1,none⟩) hB).trans k1
 have e2:=(k.cell (p:=⟨B,2,none⟩) hB).trans k2
 have e3:=(k.cell (p:=⟨B,3,none⟩) hB).trans k3
 have e4:=(k.cell (p:=⟨B,4,none⟩) hB).trans k4
 refine ⟨v,?_,?_,?_,?_,?_,ho.setCell hB _,?_,hB,?_⟩
 ·rw[aa e0];rfl
 ·rw[aa e1];rfl
 ·rw[aa e2];rfl
 ·rw[aa e3];rfl
 ·rw[aa e4];rfl
 ·intro j;rw[World.frozen?_setCell];exact (k.frozen (p:=⟨B,j,none⟩) hB).trans (hf j)
 ·have:=k.size
  simp only[World.setCell,Array.size_modify]
  omega

theorem CB.start (W:World) {c:Ctx} (hc:c.l=[]) (T:TypeId):CB (W.alloc (Z #[V I c.c0,V I c.c1,V I c.c2,V I c.c3,J none 0 0] T)) W.heap.size (W.heap.size+1) c :=
 ⟨J none 0 0,ab (gR _) rfl,ab (gR _) rfl,ab (gR _) rfl,ab (gR _) rfl,ab (gR _) rfl,by rw[hc];exact Own.nil _ _,fun j=>eC (gR _) j,by omega,by simp⟩

theorem CB.lt {w:World} {B base:Nat} {c:Ctx} (h:CB w B base c):B<w.heap.size:=by
 obtain ⟨_,_,_,_,_,_,_,_,_,h⟩:=h
 exact h
theorem CB.fz {w:World} {B base:Nat} {c:Ctx} (h:CB w B base c) (j:Nat):w.frozen? ⟨B,j,none⟩=false:=by
 obtain ⟨_,_,_,_,_,_,_,h,_⟩:=h
 exact h j
theorem CB.v {w:World} {B base:Nat} {c:Ctx} (h:CB w B base c):∃v,w.cell? ⟨B,4,none⟩=some v∧Own w base v c.l:=by
 obtain ⟨v,_,_,_,_,h4,ho,_⟩:=h
 exact ⟨v,h4,ho⟩

theorem Row.setCell0 {w:World} {A:Option Addr} {l:List (Int×Int)} (h:Row w A l) {B j:Nat} (u:Value) (hB:∀a,A=some a→l≠[]→a.block≠B):Row (w.setCell ⟨B,j,none⟩ u) A l:=by
 by_cases h0:l=[]
 ·exact oL h0
 ·rcases h with h|⟨b,off,rfl,hb,hc⟩
  ·exact oL h
  ·have hne:=hB _ rfl h0
   refine oR ⟨b,off,rfl,by simpa[World.setCell] using hb,fun i hi=> ?_⟩
   rw[World.cell?_setCell_other _ _ _ _ (by intro e;injection e with e1;exact hne e1.symm),World.cell?_setCell_other _ _ _ _ (by intro e;injection e with e1;exact hne e1.symm)]
   exact hc i hi
theorem gQ {W:World} {n:Nat} (hn:W.heap.size=n) (x y:Int) (T:TypeId):Row (W.alloc (Z #[V I x,V I y] T)) (some ⟨n,0,none⟩) [(x,y)]:=by
 subst hn
 refine oR ⟨W.heap.size,0,rfl,by simp,fun j hj=> ?_⟩
 have h0:=ab (w:=W) (gR (W.alloc (Z #[V I x,V I y] T))) (j:=0) rfl
 have h1:=ab (w:=W) (gR (W.alloc (Z #[V I x,V I y] T))) (j:=1) rfl
 obtain rfl:j=0:=by simpa using hj
 exact ⟨h0,h1⟩
theorem Gr.drewN {a b:World} (h:Gr a b) (n:Nat):Gr a (b.drewN n):=h.trans ⟨n,#[],by rw[grow_empty]⟩

theorem Row.setCell {w:World} {A:Option Addr} {l:List (Int×Int)} (h:Row w A l) {B j:Nat} (u:Value) (hB:∀a,A=some a→a.block≠B):Row (w.setCell ⟨B,j,none⟩ u) A l:=by
 rcases h with h|⟨b,off,rfl,hb,hc⟩
 ·exact oL h
 ·have hne:=hB _ rfl
  refine oR ⟨b,off,rfl,by simpa[World.setCell] using hb,fun i hi=> ?_⟩
  rw[World.cell?_setCell_other _ _ _ _ (by intro e;injection e with e1;exact hne e1.symm),World.cell?_setCell_other _ _ _ _ (by intro e;injection e with e1;exact hne e1.symm)]
  exact hc i hi

def step (c:Ctx) (p:Option (Int×Int)) (x:Int×Int):Ctx :=
 if x.2≤clk c x.1 then c else if x.2=clk c x.1+1 then setClk c x.1 x.2 else if p=some x then c else { c with l:=c.l++[x] }

def au (c:Ctx) (l:List (Int×Int)):Nat→Ctx
 | 0=>c
 | k+1=>step (au c l k) (if k=0 then none else some (l.getD (k-1) (0,0))) (l.getD k (0,0))

theorem gE {c:Ctx} {l:List (Int×Int)} (h:0<l.length) {x:Int×Int} (hx:l[0]=x):au c l 1=step c none x:=by
 subst hx
 simp[au,h]
theorem fi {c:Ctx} {l:List (Int×Int)} {m:Nat} (h:m+1<l.length) {x y:Int×Int} (hx:l[m+1]=x) (hy:l[m]=y):au c l (m+2)=step (au c l (m+1)) (some y) x:=by
 subst hx hy
 have h':m<l.length:=by omega
 show step (au c l (m+1)) _ _=_
 simp[h,h']

theorem rW {c:Ctx} {p:Option (Int×Int)} {x y:Int} (h:y≤clk c x):step c p (x,y)=c:=by simp[step,h]
theorem rV {c:Ctx} {p:Option (Int×Int)} {x y:Int} (h:y=clk c x+1):step c p (x,y)=setClk c x y:=by
 have:¬y≤clk c x:=by omega
 unfold step
 rw[if_neg this,if_pos h]
theorem vQ {c:Ctx} {x y:Int} (h1:¬y≤clk c x) (h2:¬y=clk c x+1):step c (some (x,y)) (x,y)=c:=by simp[step,h1,h2]
theorem pI {c:Ctx} {p:Option (Int×Int)} {x y:Int} (h1:¬y≤clk c x) (h2:¬y=clk c x+1) (h3:p≠some (x,y)):step c p (x,y)={ c with l:=c.l++[(x,y)] }:=by simp[step,h1,h2,h3]

theorem pH {c:Ctx} {p:Option (Int×Int)} {x:Int×Int} (hc:bw c=true) (hx:al x=true):bw (step c p x)=true:=by
 have hn:=dO hx
 unfold step
 by_cases h1:x.2≤clk c x.1
 ·simpa[h1] using hc
 ·by_cases h2:x.2=clk c x.1+1
  ·rw[if_neg h1,if_pos h2]
   refine lE fun a h0 h4=> ?_
   rw[dE c x.1 x.2 a hn.1 hn.2.1 h0 h4]
   have:=cz hc a h0 h4
   split<;>simp[inB]<;>omega
  ·rw[if_neg h1,if_neg h2]
   split
   ·exact hc
   ·exact hc
theorem qr {c:Ctx} {l:List (Int×Int)} (hc:bw c=true) (hl:∀x∈l,al x=true):∀k,k≤l.length→bw (au c l k)=true:=by
 intro k
 induction k with
 | zero=>intro _;exact hc
 | succ k ih =>
  intro hk
  have hk':k<l.length:=by omega
  refine pH (ih (by omega)) ?_
  have:l.getD k (0,0)=l[k]:=by simp[hk']
  rw[this]
  exact hl _ (gM hk')
theorem vR (c:Ctx) (p:Option (Int×Int)) (x:Int×Int):(step c p x).l.length≤c.l.length+1:=by
 unfold step
 split
 ·omega
 ·split
  ·rw[dZ];omega
  ·split
   ·omega
   ·simp
theorem iL (c:Ctx) (l:List (Int×Int)):∀k,(au c l k).l.length≤c.l.length+k:=by
 intro k
 induction k with
 | zero=>exact nR _
 | succ k ih =>
  have:=vR (au c l k) (if k=0 then none else some (l.getD (k-1) (0,0))) (l.getD k (0,0))
  show (step _ _ _).l.length≤_
  omega


structure CtxAt (w:World) (B:Nat) (c:Ctx) (A:Option Addr) (cap:Nat):Prop where
 k0:w.cell? ⟨B,0,none⟩=some (V I c.c0)
 k1:w.cell? ⟨B,1,none⟩=some (V I c.c1)
 k2:w.cell? ⟨B,2,none⟩=some (V I c.c2)
 k3:w.cell? ⟨B,3,none⟩=some (V I c.c3)
 k4:w.cell? ⟨B,4,none⟩=some (J A c.l.length cap)
 lt:B<w.heap.size
 row:Row w A c.l

theorem CtxAt.below {w w':World} {B:Nat} {c:Ctx} {A:Option Addr} {cap:Nat} (h:CtxAt w B c A cap) (k:Below w.heap.size w w'):CtxAt w' B c A cap :=
 ⟨(k.cell (p:=⟨B,0,none⟩) h.lt).trans h.k0,(k.cell (p:=⟨B,1,none⟩) h.lt).trans h.k1,(k.cell (p:=⟨B,2,none⟩) h.lt).trans h.k2,(k.cell (p:=⟨B,3,none⟩) h.lt).trans h.k3,(k.cell (p:=⟨B,4,none⟩) h.lt).trans h.k4,nL h.lt k.size,h.row.below k⟩
theorem CtxAt.gr {w w':World} {B:Nat} {c:Ctx} {A:Option Addr} {cap:Nat} (h:CtxAt w B c A cap) (k:Gr w w'):CtxAt w' B c A cap:=h.below k.below
theorem CtxAt.new {w:World} {c:Ctx} {A:Option Addr} {cap:Nat} (T:TypeId) (h:Row w A c.l) {B:Nat} (hB:w.heap.size=B):CtxAt (w.alloc (Z #[V I c.c0,V I c.c1,V I c.c2,V I c.c3,J A c.l.length cap] T)) B c A cap:=by
 subst hB
 exact ⟨ab (gR _) rfl,ab (gR _) rfl,ab (gR _) rfl,ab (gR _) rfl,ab (gR _) rfl,by simp,h.gr ((gR _).alloc _)⟩

structure DotAt (w:World) (B:Nat) (x y:Int):Prop where
 k0:w.cell? ⟨B,0,none⟩=some (V I x)
 k1:w.cell? ⟨B,1,none⟩=some (V I y)
 lt:B<w.heap.size
theorem DotAt.below {w w':World} {B:Nat} {x y:Int} (h:DotAt w B x y) (k:Below w.heap.size w w'):DotAt w' B x y :=
 ⟨(k.cell (p:=⟨B,0,none⟩) h.lt).trans h.k0,(k.cell (p:=⟨B,1,none⟩) h.lt).trans h.k1,nL h.lt k.size⟩
theorem DotAt.gr {w w':World} {B:Nat} {x y:Int} (h:DotAt w B x y) (k:Gr w w'):DotAt w' B x y:=h.below k.below
theorem DotAt.new {w:World} {x y:Int} (T:TypeId) {B:Nat} (hB:w.heap.size=B):DotAt (w.alloc (Z #[V I x,V I y] T)) B x y:=by
 subst hB
 exact ⟨ab (gR _) rfl,ab (gR _) rfl,by simp⟩

theorem CtxAt.set {w:World} {B:Nat} {d:Ctx} {D:Option Addr} {dp:Nat} (h:CtxAt w B d D dp) {c:Ctx} {A:Option Addr} {cap:Nat} (hr:Row w A c.l) (hA:∀a,A=some a→a.block≠B) :
  CtxAt (((((w.setCell ⟨B,0,none⟩ (V I c.c0)).setCell ⟨B,1,none⟩ (V I c.c1)).setCell ⟨B,2,none⟩ (V I c.c2)).setCell ⟨B,3,none⟩ (V I c.c3)).setCell ⟨B,4,none⟩ (J A c.l.length cap)) B c A cap:=by
 have e0:=h.k0
 have e1:=h.k1
 have e2:=h.k2
 have e3:=h.k3
 have e4:=h.k4
 refine ⟨?_,?_,?_,?_,?_,by simpa[World.setCell] using h.lt,((((hr.setCell _ hA).setCell _ hA).setCell _ hA).setCell _ hA).setCell _ hA⟩
 ·exact aa (aa (aa (aa (aa e0))))
 ·exact aa (aa (aa (aa (aa e1))))
 ·exact aa (aa (aa (aa (aa e2))))
 ·exact aa (aa (aa (aa (aa e3))))
 ·exact aa (aa (aa (aa (aa e4))))

theorem DotAt.set {w:World} {B:Nat} {x y x' y':Int} (h:DotAt w B x y):DotAt ((w.setCell ⟨B,0,none⟩ (V I x')).setCell ⟨B,1,none⟩ (V I y')) B x' y':=by
 refine ⟨?_,?_,by simpa[World.setCell] using h.lt⟩
 ·exact aa (aa h.k0)
 ·exact aa (aa h.k1)

theorem CtxAt.other {w:World} {B:Nat} {c:Ctx} {A:Option Addr} {cap:Nat} (h:CtxAt w B c A cap) {B' j:Nat} (u:Value) (hB:B≠B') (hA:∀a,A=some a→c.l≠[]→a.block≠B'):CtxAt (w.setCell ⟨B',j,none⟩ u) B c A cap:=by
 have ho:∀i,(w.setCell ⟨B',j,none⟩ u).cell? ⟨B,i,none⟩=w.cell? ⟨B,i,none⟩:=fun i=>World.cell?_setCell_other _ _ _ _ (by intro e;injection e with e1;exact hB e1.symm)
 exact ⟨(ho 0).trans h.k0,(ho 1).trans h.k1,(ho 2).trans h.k2,(ho 3).trans h.k3,(ho 4).trans h.k4,by simpa[World.setCell] using h.lt,h.row.setCell0 _ hA⟩
theorem DotAt.other {w:World} {B:Nat} {x y:Int} (h:DotAt w B x y) {B' j:Nat} (u:Value) (hB:B≠B'):DotAt (w.setCell ⟨B',j,none⟩ u) B x y:=by
 have ho:∀i,(w.setCell ⟨B',j,none⟩ u).cell? ⟨B,i,none⟩=w.cell? ⟨B,i,none⟩:=fun i=>World.cell?_setCell_other _ _ _ _ (by intro e;injection e with e1;exact hB e1.symm)
 exact ⟨(ho 0).trans h.k0,(ho 1).trans h.k1,by simpa[World.setCell] using h.lt⟩

theorem CtxAt.other5 {w:World} {B:Nat} {c:Ctx} {A:Option Addr} {cap:Nat} (h:CtxAt w B c A cap) {B':Nat} (u0 u1 u2 u3 u4:Value) (hB:B≠B') (hA:∀a,A=some a→c.l≠[]→a.block≠B') :
  CtxAt (((((w.setCell ⟨B',0,none⟩ u0).setCell ⟨B',1,none⟩ u1).setCell ⟨B',2,none⟩ u2).setCell ⟨B',3,none⟩ u3).setCell ⟨B',4,none⟩ u4) B c A cap :=
 ((((h.other u0 hB hA).other u1 hB hA).other u2 hB hA).other u3 hB hA).other u4 hB hA
theorem DotAt.other5 {w:World} {B:Nat} {x y:Int} (h:DotAt w B x y) {B':Nat} (u0 u1 u2 u3 u4:Value) (hB:B≠B') :
  DotAt (((((w.setCell ⟨B',0,none⟩ u0).setCell ⟨B',1,none⟩ u1).setCell ⟨B',2,none⟩ u2).setCell ⟨B',3,none⟩ u3).setCell ⟨B',4,none⟩ u4) B x y :=
 ((((h.other u0 hB).other u1 hB).other u2 hB).other u3 hB).other u4 hB
theorem aZ {B:Nat} {a w:World} (h:Below B a w) {B':Nat} (hB:B≤B') (u0 u1 u2 u3 u4:Value):Below B a (((((w.setCell ⟨B',0,none⟩ u0).setCell ⟨B',1,none⟩ u1).setCell ⟨B',2,none⟩ u2).setCell ⟨B',3,none⟩ u3).setCell ⟨B',4,none⟩ u4) :=
 ((((h.setCell hB u0).setCell hB u1).setCell hB u2).setCell hB u3).setCell hB u4

structure ZAt (w:World) (B:Nat):Prop where
 k0:w.cell? ⟨B,0,none⟩=some (V I 0)
 k1:w.cell? ⟨B,1,none⟩=some (V I 0)
 k2:w.cell? ⟨B,2,none⟩=some (V I 0)
 k3:w.cell? ⟨B,3,none⟩=some (V I 0)
 k4:w.cell? ⟨B,4,none⟩=some (J none 0 0)
 fz:∀j,w.frozen? ⟨B,j,none⟩=false
 lt:B<w.heap.size
theorem ZAt.new (W:World) (T:TypeId) {B:Nat} (hB:W.heap.size=B):ZAt (W.alloc (Z #[V I 0,V I 0,V I 0,V I 0,J none 0 0] T)) B:=by
 subst hB
 exact ⟨ab (gR _) rfl,ab (gR _) rfl,ab (gR _) rfl,ab (gR _) rfl,ab (gR _) rfl,fun j=>eC (gR _) j,by simp⟩
theorem ZAt.below {w w':World} {B:Nat} (h:ZAt w B) (k:Below w.heap.size w w'):ZAt w' B :=
 ⟨(k.cell (p:=⟨B,0,none⟩) h.lt).trans h.k0,(k.cell (p:=⟨B,1,none⟩) h.lt).trans h.k1,(k.cell (p:=⟨B,2,none⟩) h.lt).trans h.k2,(k.cell (p:=⟨B,3,none⟩) h.lt).trans h.k3,(k.cell (p:=⟨B,4,none⟩) h.lt).trans h.k4,fun j=>(k.frozen (p:=⟨B,j,none⟩) h.lt).trans (h.fz j),nL h.lt k.size⟩
theorem ZAt.ctx {w:World} {B:Nat} (h:ZAt w B):CtxAt w B ⟨0,0,0,0,[]⟩ none 0:=⟨h.k0,h.k1,h.k2,h.k3,h.k4,h.lt,oL rfl⟩
theorem ZAt.other5 {w:World} {B:Nat} (h:ZAt w B) {B':Nat} (u0 u1 u2 u3 u4:Value) (hB:B≠B') :
  ZAt (((((w.setCell ⟨B',0,none⟩ u0).setCell ⟨B',1,none⟩ u1).setCell ⟨B',2,none⟩ u2).setCell ⟨B',3,none⟩ u3).setCell ⟨B',4,none⟩ u4) B:=by
 have hc:=h.ctx.other5 u0 u1 u2 u3 u4 hB (fun a ha=>by cases ha)
 exact ⟨hc.k0,hc.k1,hc.k2,hc.k3,hc.k4,fun j=>by simp only[World.frozen?_setCell];exact h.fz j,hc.lt⟩


abbrev Cel:=(Int×Int)×Int×Int×Int
def gu (x:Cel):List Value:=[V I x.1.1,V I x.1.2,V I x.2.1,V I x.2.2.1,V I x.2.2.2]
theorem dw (x:Cel):(gu x).length=5:=rfl
theorem kV (x:Cel):∀u∈gu x,u.oneCell'=true:=by
 intro u hu
 simp[gu] at hu
 rcases hu with rfl|rfl|rfl|rfl|rfl<;>rfl

structure Tab where
 c:Ctx
 e:List Cel

abbrev bA (w:World) (A:Option Addr) (l:List Cel):Prop:=ay gu 5 w A l

theorem bA.get {w:World} {A:Option Addr} {l:List Cel} (h:bA w A l) {k:Nat} (hk:k<l.length):∃b off,A=some ⟨b,off,none⟩∧b<w.heap.size∧∀j (h:j<l.length),
  w.cell? ⟨b,off+j*5,none⟩=some (V I l[j].1.1)∧w.cell? ⟨b,off+j*5+1,none⟩=some (V I l[j].1.2)∧w.cell? ⟨b,off+j*5+2,none⟩=some (V I l[j].2.1)∧w.cell? ⟨b,off+j*5+3,none⟩=some (V I l[j].2.2.1)∧w.cell? ⟨b,off+j*5+4,none⟩=some (V I l[j].2.2.2):=by
 obtain ⟨b,off,hA,hb,hc⟩:=h.at hk
 exact ⟨b,off,hA,hb,fun j hj=>⟨hc j hj 0 (by omega),hc j hj 1 (by omega),hc j hj 2 (by omega),hc j hj 3 (by omega),hc j hj 4 (by omega)⟩⟩

def aU (k c v:Int):Bool:=inB k 0 49 && inB c 0 2 && inB v (-1000) 1000
def e9 (t:Tab) (k:Nat):Bool :=
 ae t.c (t.e.getD k ((0,0),0,0,0)).1 && aU (t.e.getD k ((0,0),0,0,0)).2.1 (t.e.getD k ((0,0),0,0,0)).2.2.1 (t.e.getD k ((0,0),0,0,0)).2.2.2 && (k==0 || br (t.e.getD (k-1) ((0,0),0,0,0)).1 (t.e.getD k ((0,0),0,0,0)).1)

def am (t:Tab):Int:=if aO t.c≠0 then aO t.c else if 400<t.e.length then 2 else if (List.range t.e.length).all (e9 t) then 0 else 5

theorem uC {t:Tab} (h:aO t.c≠0):am t=aO t.c:=by simp[am,h]
theorem qm {t:Tab} (h:aO t.c=0) (hl:400<t.e.length):am t=2:=by simp[am,h,hl]
theorem jI {t:Tab} (h:aO t.c=0) (hl:t.e.length≤400) {k:Nat} (hk:k<t.e.length) (hb:e9 t k=false):am t=5:=by
 have h1:¬ 400<t.e.length:=by omega
 have h2:(List.range t.e.length).all (e9 t)=false:=by
  rw[List.all_eq_false]
  exact ⟨k,by simpa using hk,by simp[hb]⟩
 simp[am,h,h1,h2]
theorem rD {t:Tab} (h:aO t.c=0) (hl:t.e.length≤400) (ha:∀k,k<t.e.length→e9 t k=true):am t=0:=by
 have h1:¬ 400<t.e.length:=by omega
 have h2:(List.range t.e.length).all (e9 t)=true:=by
  rw[List.all_eq_true]
  intro k hk
  exact ha k (by simpa using hk)
 simp[am,h,h1,h2]
theorem af {t:Tab} (h:am t=0):aO t.c=0∧t.e.length≤400∧∀k,k<t.e.length→e9 t k=true:=by
 unfold am at h
 by_cases h1:aO t.c=0
 ·by_cases h2:400<t.e.length
  ·simp[h1,h2] at h
  ·by_cases h3:(List.range t.e.length).all (e9 t)=true
   ·refine ⟨h1,by omega,fun k hk=> ?_⟩
    rw[List.all_eq_true] at h3
    exact h3 k (by simpa using hk)
   ·simp[h1,h2,h3] at h
 ·simp[h1] at h

theorem gd {t:Tab} (h:0<t.e.length) {x:Cel} (hx:t.e[0]=x):e9 t 0=(ae t.c x.1 && aU x.2.1 x.2.2.1 x.2.2.2):=by
 subst hx
 simp[e9,h]
theorem ek {t:Tab} {m:Nat} (h:m+1<t.e.length) {x y:Cel} (hx:t.e[m+1]=x) (hy:t.e[m]=y):e9 t (m+1)=(ae t.c x.1 && aU x.2.1 x.2.2.1 x.2.2.2 && br y.1 x.1):=by
 subst hx hy
 have h':m<t.e.length:=by omega
 simp[e9,h,h']

structure TabAt (w:World) (B:Nat) (t:Tab) (A:Option Addr) (ca:Nat) (D:Option Addr) (cd:Nat):Prop where
 k0:w.cell? ⟨B,0,none⟩=some (V I t.c.c0)
 k1:w.cell? ⟨B,1,none⟩=some (V I t.c.c1)
 k2:w.cell? ⟨B,2,none⟩=some (V I t.c.c2)
 k3:w.cell? ⟨B,3,none⟩=some (V I t.c.c3)
 k4:w.cell? ⟨B,4,none⟩=some (J A t.c.l.length ca)
 k5:w.cell? ⟨B,5,none⟩=some (J D t.e.length cd)
 lt:B<w.heap.size
 row:Row w A t.c.l
 rowC:bA w D t.e

theorem TabAt.belowB {w w':World} {B N:Nat} {t:Tab} {A:Option Addr} {ca:Nat} {D:Option Addr} {cd:Nat} (h:TabAt w B t A ca D cd) (k:Below N w w') (hB:B<N) (hA:∀a,A=some a→t.c.l≠[]→a.block<N) (hD:∀a,D=some a→t.e≠[]→a.block<N):TabAt w' B t A ca D cd :=
 ⟨(k.cell (p:=⟨B,0,none⟩) hB).trans h.k0,(k.cell (p:=⟨B,1,none⟩) hB).trans h.k1,(k.cell (p:=⟨B,2,none⟩) hB).trans h.k2,(k.cell (p:=⟨B,3,none⟩) hB).trans h.k3,(k.cell (p:=⟨B,4,none⟩) hB).trans h.k4,(k.cell (p:=⟨B,5,none⟩) hB).trans h.k5,nL h.lt k.size,h.row.belowB hA k,h.rowC.belowB hD k⟩
theorem TabAt.below {w w':World} {B:Nat} {t:Tab} {A:Option Addr} {ca:Nat} {D:Option Addr} {cd:Nat} (h:TabAt w B t A ca D cd) (k:Below w.heap.size w w'):TabAt w' B t A ca D cd:=h.belowB k h.lt h.row.lt h.rowC.lt
theorem TabAt.gr {w w':World} {B:Nat} {t:Tab} {A:Option Addr} {ca:Nat} {D:Option Addr} {cd:Nat} (h:TabAt w B t A ca D cd) (k:Gr w w'):TabAt w' B t A ca D cd:=h.below k.below
theorem TabAt.new {w:World} {t:Tab} {A:Option Addr} {ca:Nat} {D:Option Addr} {cd:Nat} (T:TypeId) (hr:Row w A t.c.l) (hd:bA w D t.e) {B:Nat} (hB:B=w.heap.size):TabAt (w.alloc (Z #[V I t.c.c0,V I t.c.c1,V I t.c.c2,V I t.c.c3,J A t.c.l.length ca,J D t.e.length cd] T)) B t A ca D cd:=by
 subst hB
 have hg:Gr w (w.alloc (Z #[V I t.c.c0,V I t.c.c1,V I t.c.c2,V I t.c.c3,J A t.c.l.length ca,J D t.e.length cd] T)):=(gR w).alloc _
 exact ⟨ab (gR _) rfl,ab (gR _) rfl,ab (gR _) rfl,ab (gR _) rfl,ab (gR _) rfl,ab (gR _) rfl,by simp,hr.gr hg,hd.gr hg⟩

structure CelAt (w:World) (B:Nat) (x:Cel):Prop where
 k0:w.cell? ⟨B,0,none⟩=some (V I x.1.1)
 k1:w.cell? ⟨B,1,none⟩=some (V I x.1.2)
 k2:w.cell? ⟨B,2,none⟩=some (V I x.2.1)
 k3:w.cell? ⟨B,3,none⟩=some (V I x.2.2.1)
 k4:w.cell? ⟨B,4,none⟩=some (V I x.2.2.2)
 lt:B<w.heap.size
theorem CelAt.belowB {w w':World} {B N:Nat} {x:Cel} (h:CelAt w B x) (k:Below N w w') (hB:B<N):CelAt w' B x :=
 ⟨(k.cell (p:=⟨B,0,none⟩) hB).trans h.k0,(k.cell (p:=⟨B,1,none⟩) hB).trans h.k1,(k.cell (p:=⟨B,2,none⟩) hB).trans h.k2,(k.cell (p:=⟨B,3,none⟩) hB).trans h.k3,(k.cell (p:=⟨B,4,none⟩) hB).trans h.k4,nL h.lt k.size⟩
theorem CelAt.below {w w':World} {B:Nat} {x:Cel} (h:CelAt w B x) (k:Below w.heap.size w w'):CelAt w' B x:=h.belowB k h.lt
theorem CelAt.gr {w w':World} {B:Nat} {x:Cel} (h:CelAt w B x) (k:Gr w w'):CelAt w' B x:=h.below k.below
theorem CelAt.new {w:World} (x:Cel) (T:TypeId) {B:Nat} (hB:B=w.heap.size):CelAt (w.alloc (Z #[V I x.1.1,V I x.1.2,V I x.2.1,V I x.2.2.1,V I x.2.2.2] T)) B x:=by
 subst hB
 exact ⟨ab (gR _) rfl,ab (gR _) rfl,ab (gR _) rfl,ab (gR _) rfl,ab (gR _) rfl,by simp⟩

abbrev T6 (t:Tab) (A:Option Addr) (a:Nat) (C:Option Addr) (c:Nat):List Value:=[V I t.c.c0,V I t.c.c1,V I t.c.c2,V I t.c.c3,J A t.c.l.length a,J C t.e.length c]
abbrev T2 (t:Tab) (A:Option Addr) (a:Nat) (C:Option Addr) (c:Nat) (s:Tab) (B:Option Addr) (b:Nat) (D:Option Addr) (d:Nat):List Value:=[V I t.c.c0,V I t.c.c1,V I t.c.c2,V I t.c.c3,J A t.c.l.length a,J C t.e.length c,V I s.c.c0,V I s.c.c1,V I s.c.c2,V I s.c.c3,J B s.c.l.length b,J D s.e.length d]
abbrev Z6:List Value:=[V I 0,V I 0,V I 0,V I 0,J none 0 0,J none 0 0]
abbrev Z2:List Value:=[V I 0,V I 0,V I 0,V I 0,J none 0 0,J none 0 0,V I 0,V I 0,V I 0,V I 0,J none 0 0,J none 0 0]

theorem cR (n:Int) (w:World) :
  Calls O 64 #[V I n] w fun e w'=>e= H (X (inB n 0 3))∧w'=w:=by
 by_cases h1:0≤n
 ·by_cases h2:n<4
  ·have e:inB n 0 3=true:=by simp[inB];omega
   rw[e];clear e
   go_enter Tryz.func64,Tryz.ntmps64
   go_wp2
   go_ret
   exact ⟨rfl,rfl⟩
  ·have e:inB n 0 3=false:=by simp[inB];omega
   rw[e];clear e
   go_enter Tryz.func64,Tryz.ntmps64
   go_wp2
   go_ret
   exact ⟨rfl,rfl⟩
 ·have e:inB n 0 3=false:=by simp[inB];omega
  rw[e];clear e
  go_enter Tryz.func64,Tryz.ntmps64
  go_wp2
  go_ret
  exact ⟨rfl,rfl⟩

theorem qi (x:Int×Int) (w:World) :
  Calls O 62 #[Y #[V I x.1,V I x.2]] w fun e w'=>e= H (X (al x))∧Gr w w':=by
 obtain ⟨a,b⟩:=x
 cases h1:inB a 0 3
 ·have e:al (a,b)=false:=by simp[al,h1]
  rw[e];clear e
  go_enter Tryz.func62,Tryz.ntmps62
  go_wp2_with (go_at_call 64;refine (cR _ _).mono ?_;rintro e w' ⟨rfl,rfl⟩;rw[h1])
  go_ret
  exact ⟨rfl,(gR _).alloc _⟩
 ·by_cases h2:1≤b
  ·by_cases h3:b≤1099511627776
   ·have e:al (a,b)=true:=by unfold al;rw[h1];simp[inB,h2,h3]
    rw[e];clear e
    go_enter Tryz.func62,Tryz.ntmps62
    go_wp2_with (go_at_call 64;refine (cR _ _).mono ?_;rintro e w' ⟨rfl,rfl⟩;rw[h1])
    go_ret
    exact ⟨rfl,(gR _).alloc _⟩
   ·have e:al (a,b)=false:=by unfold al;rw[h1];simp[inB,h3]
    rw[e];clear e
    have h3b:decide (b≤1099511627776)=false:=by simpa using h3
    clear h3
    go_enter Tryz.func62,Tryz.ntmps62
    go_wp2_with (go_at_call 64;refine (cR _ _).mono ?_;rintro e w' ⟨rfl,rfl⟩;rw[h1])
    go_ret
    exact ⟨rfl,(gR _).alloc _⟩
  ·have e:al (a,b)=false:=by unfold al;rw[h1];simp[inB,h2]
   rw[e];clear e
   go_enter Tryz.func62,Tryz.ntmps62
   go_wp2_with (go_at_call 64;refine (cR _ _).mono ?_;rintro e w' ⟨rfl,rfl⟩;rw[h1])
   go_ret
   exact ⟨rfl,(gR _).alloc _⟩

def bj (x y:Int):Int:=if x<y then -1 else if y<x then 1 else 0
def dY (x y:Int×Int):Int:=if x.1<y.1 then -1 else if y.1<x.1 then 1 else bj x.2 y.2

theorem jd (x y:Int) (w:World) :
  Calls O 94 #[V I x,V I y] w fun e w'=>e= H (V I (bj x y))∧w'=w:=by
 by_cases h1:x<y
 ·have e:bj x y= -1:=by simp[bj,h1]
  rw[e];clear e
  go_enter Tryz.func94,Tryz.ntmps94
  go_wp2
  go_ret
  exact ⟨rfl,rfl⟩
 ·by_cases h2:y<x
  ·have e:bj x y=1:=by simp[bj,h1,h2]
   rw[e];clear e
   go_enter Tryz.func94,Tryz.ntmps94
   go_wp2
   go_ret
   exact ⟨rfl,rfl⟩
  ·have e:bj x y=0:=by simp[bj,h1,h2]
   rw[e];clear e
   go_enter Tryz.func94,Tryz.ntmps94
   go_wp2
   go_ret
   exact ⟨rfl,rfl⟩

theorem jQ (x y:Int×Int) (w:World) :
  Calls O 63 #[Y #[V I x.1,V I x.2],Y #[V I y.1,V I y.2]] w fun e w'=>e= H (V I (dY x y))∧Gr w w':=by
 obtain ⟨a,b⟩:=x
 obtain ⟨c,d⟩:=y
 by_cases h1:a<c
 ·have e:dY (a,b) (c,d)= -1:=by simp[dY,h1]
  have e1:bj a c= -1:=by simp[bj,h1]
  rw[e];clear e
  go_enter Tryz.func63,Tryz.ntmps63
  go_wp2_with (go_at_call 94;refine (jd _ _ _).mono ?_;rintro e w' ⟨rfl,rfl⟩;rw[e1])
  go_ret
  exact ⟨rfl,((gR _).alloc _).alloc _⟩
 ·by_cases h2:c<a
  ·have e:dY (a,b) (c,d)=1:=by simp[dY,h1,h2]
   have e1:bj a c=1:=by simp[bj,h1,h2]
   rw[e];clear e
   go_enter Tryz.func63,Tryz.ntmps63
   go_wp2_with (go_at_call 94;refine (jd _ _ _).mono ?_;rintro e w' ⟨rfl,rfl⟩;rw[e1])
   go_ret
   exact ⟨rfl,((gR _).alloc _).alloc _⟩
  ·have e:dY (a,b) (c,d)=bj b d:=by simp[dY,h1,h2]
   have e1:bj a c=0:=by simp[bj,h1,h2]
   rw[e];clear e
   go_enter Tryz.func63,Tryz.ntmps63
   go_wp2_with fail
   refine (jd _ _ _).mono ?_
   rintro e w' ⟨rfl,rfl⟩
   rw[e1]
   go_wp2_with fail
   refine (jd _ _ _).mono ?_
   rintro e w' ⟨rfl,rfl⟩
   go_wp2
   go_ret
   exact ⟨rfl,((gR _).alloc _).alloc _⟩

theorem gA {a b:Int} {r:Bool} (h:al (a,b)=r) (w:World):Calls O 62 #[Y #[V I a,V I b]] w fun e w'=>e= H (X r)∧∃q os',w'=grow (w.drewN q) os':=by
 rw[←h];exact qi (a,b) w
theorem rQ {a b c d:Int} {r:Int} (h:dY (a,b) (c,d)=r) (w:World):Calls O 63 #[Y #[V I a,V I b],Y #[V I c,V I d]] w fun e w'=>e= H (V I r)∧∃q os',w'=grow (w.drewN q) os':=by
 rw[←h];exact jQ (a,b) (c,d) w
theorem fB {n:Int} {r:Bool} (h:inB n 0 3=r) (w:World) :
  Calls O 64 #[V I n] w fun e w'=>e= H (X r)∧w'=w:=by
 rw[←h];exact cR n w
theorem gK {x y:Int×Int} (h:br x y=true):dY x y= -1:=by
 unfold br at h
 unfold dY bj
 by_cases h1:x.1<y.1
 ·simp[h1]
 ·simp[h1] at h
  have h2:¬y.1<x.1:=by omega
  simp[h.2,h1,h2]
theorem gL {x y:Int×Int} (h:br x y=false):0≤dY x y:=by
 unfold br at h
 simp at h
 unfold dY bj
 have h1:¬x.1<y.1:=by omega
 by_cases h2:y.1<x.1
 ·simp[h1,h2]
 ·have h3:¬x.2<y.2:=by have:=h.2 (by omega);omega
  by_cases h4:y.2<x.2<;>simp[h1,h2,h3,h4]

end Go.Proofs.YtkefkplnamkicabGreatDoor
