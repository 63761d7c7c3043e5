import Derived.Test.YtjmmpnmgpgaagaaGreatDoorProg
import Derived.Deep.RegionHeld3
import Derived.Shelf.SlSortCmp.NoneTotal
import Derived.Shelf.SlGeneric
import Derived.Shelf.Sort.Plain
import Derived.Shelf.Slices.In.SortNone
import Derived.Shelf.Slices.CompactI
import Derived.Shelf.Slices.Equal
import Derived.KernelRfl
import Derived.RowKit
import GoSem.Claim
import GoSem.ClaimJoined
import GoSem.ClaimMapViews
import Derived.JoinedTies
import Derived.WalkKit
import Derived.WalkSpells
import Derived.WalkLawsBesides
import Derived.Shelf.SlSortCmp.QuietGrown
import Derived.BigQuiet
import Derived.BigRegion
import Derived.Laws.StructEq
import Derived.Shelf.SlicesE.Kit
import Derived.Deep.AppendLies
import Derived.Deep.RegionLaw
import Derived.Laws.AppendOwnNone
import Derived.Maps.AppendAt
set_option maxRecDepth 100000
set_option maxHeartbeats 8000000
open Go renaming World → I, Value → J, Addr → Z, Calls → ia
open Go.Ending renaming returned → M
open Go.IntKind renaming i64 → V
open Go.Obj renaming cells → U
open Go.Proofs.Tryz renaming prog → H
open Go.RowKit renaming Below → X
open Go.Value renaming int → O, slice → Y, agg → ib, bool → ic
namespace Go.Proofs.YtjmmpnmgpgaagaaGreatDoor

def Tks (P:Program) (md:Region.Mode) (ops:Array Oper) (Q:Exit->Act->I->Prop) (S:I->Prop):List Nat->Nat->Array Bool->Act->I->Prop
 | [],fuel,listed,a,w=>wpAnyH P md ops (NoPanic Q) S fuel listed a w
 | i::l,fuel,listed,a,w=>∃f oi v,fuel=f+1/\ops[i]? = some oi/\(Region.noSelect ops && Region.free md ops listed i && (Region.ready md ops listed).contains i)=true/\YieldsIf P ops S oi v a/\Tks P md ops Q S l f (listed.setIfInBounds i true) (a.put oi.dst v) w
section
variable {P:Program} {md:Region.Mode} {ops:Array Oper} {Q:Exit->Act->I->Prop} {S:I->Prop}
theorem tks:∀(l:List Nat) {fuel:Nat} {listed:Array Bool} {a:Act} {w:I},S w->Tks P md ops Q S l fuel listed a w->wpAnyH P md ops (NoPanic Q) S fuel listed a w
 | [],_,_,_,_,_,h=>h
 | i::l,_,_,_,_,hS,⟨f,oi,v,e,h1,h2,h3,h4⟩=>by
  subst e
  simp only[Bool.and_eq_true] at h2
  exact wpAnyH_take h1 h2.1.1 h2.1.2 h2.2 (fun _ _ _ h=>h) h3 hS (tks l hS h4)
theorem tk {i:Nat} {l:List Nat} {f:Nat} {g:Array Bool} {a:Act} {w:I} {h:Oper} {v:J} (j:ops[i]? = some h) (k:(Region.noSelect ops && Region.free md ops g i && (Region.ready md ops g).contains i)=true) (n:YieldsIf P ops S h v a) (r:Tks P md ops Q S l f (g.setIfInBounds i true) (a.put h.dst v) w):Tks P md ops Q S (i::l) (f+1) g a w :=
 ⟨f,h,v,rfl,j,k,n,r⟩
theorem isW {g:Nat} {f:Array Bool} {a:Act} {w:I} {Q:Exit->Act->I->Prop} (h:wpAnyH P md ops Q S g f a w):wpAnyH P md ops Q S g f a w:=h
theorem isR {g:Nat} {f:Array Bool} {a:Act} {w:I} {rs:List Nat} {Q:Exit->Act->I->Prop} (h:AllReadyH P md ops Q S g f a w rs):AllReadyH P md ops Q S g f a w rs:=h
theorem tkk (i:Nat) (l:List Nat) {f:Nat} {g:Array Bool} {a:Act} {w:I} {h:Oper} {v:J} (u:S w) (j:ops[i]? = some h) (k:(Region.noSelect ops && Region.free md ops g i && (Region.ready md ops g).contains i)=true) (n:YieldsIf P ops S h v a) (r:Tks P md ops Q S l f (g.setIfInBounds i true) (a.put h.dst v) w):wpAnyH P md ops (NoPanic Q) S (f+1) g a w :=
 tks (i::l) u (tk j k n r)
theorem rdc {g:Nat} {f:Array Bool} {a:Act} {w:I} {i:Nat} {o:Oper} {rs:List Nat} {Q:Exit->Act->I->Prop} (k:ops[i]? = some o) (n:AllReadyH P md ops Q S g f a w rs)
  (h:∀j:Act->I->Prop,Shut (∀a w,S w->(S w->wpAnyH P md ops Q S g (f.setIfInBounds i true) a w)->j a w)->if Region.wanted o (yielded ops a.tmps)=true then Oper.wp P o a w j Q else j (a.put o.dst undef) w):AllReadyH P md ops Q S g f a w (i::rs):=AllReadyH.cons k h n
theorem rdy (i:Nat) {g:Nat} {f:Array Bool} {a:Act} {w:I} {o:Oper} {Q:Exit->Act->I->Prop} (n:Region.ready md ops f=[i]) (k:ops[i]? = some o)
  (h:∀j:Act->I->Prop,Shut (∀a w,S w->(S w->wpAnyH P md ops Q S g (f.setIfInBounds i true) a w)->j a w)->if Region.wanted o (yielded ops a.tmps)=true then Oper.wp P o a w j Q else j (a.put o.dst undef) w):wpAnyH P md ops Q S (g+1) f a w:=wpAnyH_ready n (by simp) (AllReadyH.cons k h AllReadyH.nil)
theorem tk0 {f:Nat} {g:Array Bool} {a:Act} {w:I} (h:wpAnyH P md ops (NoPanic Q) S f g a w):Tks P md ops Q S [] f g a w:=h
end
end Go.Proofs.YtjmmpnmgpgaagaaGreatDoor

namespace Go.Proofs
open Go.Shelf
def Tryz.sortInt_ren:Go.Shelf.Ren:=⟨fun|189=>154|125=>181|257=>180|128=>219|129=>98|294=>210|295=>211|296=>212|297=>213|298=>214|299=>215|216=>216|300=>217|301=>218|328=>236|329=>237|330=>238|331=>239|332=>240|215=>209|343=>257|n=>n,fun|28=>77|3=>3|46=>101|0=>0|51=>121|53=>125|4=>4|183=>281|182=>280|131=>88|5=>5|9=>9|218=>301|222=>224|228=>317|229=>318|n=>n,fun|n=>n⟩
theorem Tryz.sortInt:Go.Proofs.Lays.n189 H Tryz.sortInt_ren:={
 mixed:=by kernel_rfl
 f125:=Tryz.func181.trans (congrArg some (by kernel_rfl))
 f128:=Tryz.func219.trans (congrArg some (by kernel_rfl))
 f129:=Tryz.func98.trans (congrArg some (by kernel_rfl))
 f189:=Tryz.func154.trans (congrArg some (by kernel_rfl))
 f215:=Tryz.func209.trans (congrArg some (by kernel_rfl))
 f216:=Tryz.func216.trans (congrArg some (by kernel_rfl))
 f257:=Tryz.func180.trans (congrArg some (by kernel_rfl))
 f294:=Tryz.func210.trans (congrArg some (by kernel_rfl))
 f295:=Tryz.func211.trans (congrArg some (by kernel_rfl))
 f296:=Tryz.func212.trans (congrArg some (by kernel_rfl))
 f297:=Tryz.func213.trans (congrArg some (by kernel_rfl))
 f298:=Tryz.func214.trans (congrArg some (by kernel_rfl))
 f299:=Tryz.func215.trans (congrArg some (by kernel_rfl))
 f300:=Tryz.func217.trans (congrArg some (by kernel_rfl))
 f301:=Tryz.func218.trans (congrArg some (by kernel_rfl))
 f328:=Tryz.func236.trans (congrArg some (by kernel_rfl))
 f329:=Tryz.func237.trans (congrArg some (by kernel_rfl))
 f330:=Tryz.func238.trans (congrArg some (by kernel_rfl))
 f331:=Tryz.func239.trans (congrArg some (by kernel_rfl))
 f332:=Tryz.func240.trans (congrArg some (by kernel_rfl))
 f343:=Tryz.func257.trans (congrArg some (by kernel_rfl))
 t0:=Tryz.underlying0
 a0:=Tryz.isAgg0
 z0:=Tryz.sizeOf0
 v0:=Tryz.zeroValue0
 t3:=Tryz.underlying3
 a3:=Tryz.isAgg3
 z3:=Tryz.sizeOf3
 v3:=Tryz.zeroValue3
 t4:=Tryz.underlying4
 a4:=Tryz.isAgg4
 z4:=Tryz.sizeOf4
 v4:=Tryz.zeroValue4
 t5:=Tryz.underlying5
 a5:=Tryz.isAgg5
 z5:=Tryz.sizeOf5
 v5:=Tryz.zeroValue5
 t9:=Tryz.underlying9
 a9:=Tryz.isAgg9
 z9:=Tryz.sizeOf9
 v9:=Tryz.zeroValue9
 t28:=Tryz.underlying77
 a28:=Tryz.isAgg77
 z28:=Tryz.sizeOf77
 v28:=Tryz.zeroValue77
 t46:=Tryz.underlying101
 a46:=Tryz.isAgg101
 z46:=Tryz.sizeOf101
 v46:=Tryz.zeroValue101
 t51:=Tryz.underlying121
 a51:=Tryz.isAgg121
 z51:=Tryz.sizeOf121
 v51:=Tryz.zeroValue121
 t53:=Tryz.underlying125
 a53:=Tryz.isAgg125
 z53:=Tryz.sizeOf125
 v53:=Tryz.zeroValue125
 t131:=Tryz.underlying88
 a131:=Tryz.isAgg88
 z131:=Tryz.sizeOf88
 v131:=Tryz.zeroValue88
 t182:=Tryz.underlying280
 a182:=Tryz.isAgg280
 z182:=Tryz.sizeOf280
 v182:=Tryz.zeroValue280
 t183:=Tryz.underlying281
 a183:=Tryz.isAgg281
 z183:=Tryz.sizeOf281
 v183:=Tryz.zeroValue281
 t218:=Tryz.underlying301
 a218:=Tryz.isAgg301
 z218:=Tryz.sizeOf301
 v218:=Tryz.zeroValue301
 t222:=Tryz.underlying224
 a222:=Tryz.isAgg224
 z222:=Tryz.sizeOf224
 v222:=Tryz.zeroValue224
 t228:=Tryz.underlying317
 a228:=Tryz.isAgg317
 z228:=Tryz.sizeOf317
 v228:=Tryz.zeroValue317
 t229:=Tryz.underlying318
 a229:=Tryz.isAgg318
 z229:=Tryz.sizeOf318
 v229:=Tryz.zeroValue318 }
def Tryz.compactInt_ren:Go.Shelf.Ren:=⟨fun|20=>155|n=>n,fun|22=>77|3=>3|4=>4|0=>0|n=>n,fun|n=>n⟩
theorem Tryz.compactInt:Go.Proofs.Lays2.n20 H Tryz.compactInt_ren:={
 mixed:=by kernel_rfl
 f20:=Tryz.func155.trans (congrArg some (by kernel_rfl))
 t0:=Tryz.underlying0
 a0:=Tryz.isAgg0
 z0:=Tryz.sizeOf0
 v0:=Tryz.zeroValue0
 t3:=Tryz.underlying3
 a3:=Tryz.isAgg3
 z3:=Tryz.sizeOf3
 v3:=Tryz.zeroValue3
 t4:=Tryz.underlying4
 a4:=Tryz.isAgg4
 z4:=Tryz.sizeOf4
 v4:=Tryz.zeroValue4
 t22:=Tryz.underlying77
 a22:=Tryz.isAgg77
 z22:=Tryz.sizeOf77
 v22:=Tryz.zeroValue77
 i3:=by kernel_rfl }
def Tryz.sortCell_ren:Go.Shelf.Ren:=⟨fun|6=>194|15=>181|14=>231|28=>219|29=>98|20=>246|21=>247|22=>248|23=>249|24=>250|25=>251|26=>252|27=>253|46=>271|47=>237|48=>238|49=>272|50=>273|57=>285|n=>n,fun|22=>54|24=>187|25=>191|3=>3|39=>101|0=>0|53=>121|55=>125|4=>4|46=>281|45=>280|50=>88|5=>5|9=>9|66=>301|70=>224|76=>317|77=>318|n=>n,fun|n=>n⟩
theorem Tryz.sortCell:Go.Proofs.SlLaysF0.n6 H Tryz.sortCell_ren:={
 mixed:=by kernel_rfl
 f6:=⟨Tryz.f194.name,by decide,Tryz.func194.trans (congrArg some (by kernel_rfl))⟩
 f14:=⟨Tryz.f231.name,by decide,Tryz.func231.trans (congrArg some (by kernel_rfl))⟩
 f15:=Tryz.func181.trans (congrArg some (by kernel_rfl))
 f20:=⟨Tryz.f246.name,by decide,Tryz.func246.trans (congrArg some (by kernel_rfl))⟩
 f21:=⟨Tryz.f247.name,by decide,Tryz.func247.trans (congrArg some (by kernel_rfl))⟩
 f22:=⟨Tryz.f248.name,by decide,Tryz.func248.trans (congrArg some (by kernel_rfl))⟩
 f23:=⟨Tryz.f249.name,by decide,Tryz.func249.trans (congrArg some (by kernel_rfl))⟩
 f24:=⟨Tryz.f250.name,by decide,Tryz.func250.trans (congrArg some (by kernel_rfl))⟩
 f25:=⟨Tryz.f251.name,by decide,Tryz.func251.trans (congrArg some (by kernel_rfl))⟩
 f26:=⟨Tryz.f252.name,by decide,Tryz.func252.trans (congrArg some (by kernel_rfl))⟩
 f27:=⟨Tryz.f253.name,by decide,Tryz.func253.trans (congrArg some (by kernel_rfl))⟩
 f28:=Tryz.func219.trans (congrArg some (by kernel_rfl))
 f29:=Tryz.func98.trans (congrArg some (by kernel_rfl))
 f46:=⟨Tryz.f271.name,by decide,Tryz.func271.trans (congrArg some (by kernel_rfl))⟩
 f47:=Tryz.func237.trans (congrArg some (by kernel_rfl))
 f48:=Tryz.func238.trans (congrArg some (by kernel_rfl))
 f49:=⟨Tryz.f272.name,by decide,Tryz.func272.trans (congrArg some (by kernel_rfl))⟩
 f50:=⟨Tryz.f273.name,by decide,Tryz.func273.trans (congrArg some (by kernel_rfl))⟩
 f57:=⟨Tryz.f285.name,by decide,Tryz.func285.trans (congrArg some (by kernel_rfl))⟩
 t0:=Tryz.underlying0
 a0:=Tryz.isAgg0
 z0:=Tryz.sizeOf0
 v0:=Tryz.zeroValue0
 t3:=Tryz.underlying3
 a3:=Tryz.isAgg3
 z3:=Tryz.sizeOf3
 v3:=Tryz.zeroValue3
 t4:=Tryz.underlying4
 a4:=Tryz.isAgg4
 z4:=Tryz.sizeOf4
 v4:=Tryz.zeroValue4
 t5:=Tryz.underlying5
 a5:=Tryz.isAgg5
 z5:=Tryz.sizeOf5
 v5:=Tryz.zeroValue5
 t9:=Tryz.underlying9
 a9:=Tryz.isAgg9
 z9:=Tryz.sizeOf9
 v9:=Tryz.zeroValue9
 t22:=Tryz.underlying54
 a22:=Tryz.isAgg54
 z22:=Tryz.sizeOf54
 v22:=Tryz.zeroValue54
 t25:=Tryz.underlying191
 a25:=Tryz.isAgg191
 z25:=Tryz.sizeOf191
 v25:=Tryz.zeroValue191
 t39:=Tryz.underlying101
 a39:=Tryz.isAgg101
 z39:=Tryz.sizeOf101
 v39:=Tryz.zeroValue101
 t45:=Tryz.underlying280
 a45:=Tryz.isAgg280
 z45:=Tryz.sizeOf280
 v45:=Tryz.zeroValue280
 t46:=Tryz.underlying281
 a46:=Tryz.isAgg281
 z46:=Tryz.sizeOf281
 v46:=Tryz.zeroValue281
 t50:=Tryz.underlying88
 a50:=Tryz.isAgg88
 z50:=Tryz.sizeOf88
 v50:=Tryz.zeroValue88
 t53:=Tryz.underlying121
 a53:=Tryz.isAgg121
 z53:=Tryz.sizeOf121
 v53:=Tryz.zeroValue121
 t55:=Tryz.underlying125
 a55:=Tryz.isAgg125
 z55:=Tryz.sizeOf125
 v55:=Tryz.zeroValue125
 t66:=Tryz.underlying301
 a66:=Tryz.isAgg301
 z66:=Tryz.sizeOf301
 v66:=Tryz.zeroValue301
 t70:=Tryz.underlying224
 a70:=Tryz.isAgg224
 z70:=Tryz.sizeOf224
 v70:=Tryz.zeroValue224
 t76:=Tryz.underlying317
 a76:=Tryz.isAgg317
 z76:=Tryz.sizeOf317
 v76:=Tryz.zeroValue317
 t77:=Tryz.underlying318
 a77:=Tryz.isAgg318
 z77:=Tryz.sizeOf318
 v77:=Tryz.zeroValue318 }
end Go.Proofs

namespace Go.Proofs.YtjmmpnmgpgaagaaGreatDoor
open Go.RowKit Go.Sort
theorem zA {α : Type} {f : List α} {i : Nat} : f.toArray[i]? = f[i]? := by first | exact List.getElem?_toArray | exact List.getElem?_toArray _ _ _
theorem z0' {α : Type} {a : α} {l : List α} : (a :: l)[0]? = some a := by first | exact List.getElem?_cons_zero | exact List.getElem?_cons_zero _ _ _
theorem zS {α : Type} {a : α} {l : List α} {i : Nat} : (a :: l)[i + 1]? = l[i]? := by first | exact List.getElem?_cons_succ | exact List.getElem?_cons_succ _ _ _
theorem yA {α : Type} {l : List α} {i : Nat} {a : α} : l.toArray.setIfInBounds i a = (l.set i a).toArray := by first | exact List.setIfInBounds_toArray | exact List.setIfInBounds_toArray _ _ _
theorem aB {α : Type} {a b : α} {l : List α} : (a :: l).set 0 b = b :: l := by first | exact List.set_cons_zero | exact List.set_cons_zero _ _ _
theorem yS {α : Type} {a b : α} {l : List α} {n : Nat} : (a :: l).set (n + 1) b = a :: l.set n b := by first | exact List.set_cons_succ | exact List.set_cons_succ _ _ _
def inB (n lo hi:Int):Bool:=decide (lo<=n) && decide (n<=hi)
def am (x:Int×Int):Bool:=inB x.1 0 3 && inB x.2 1 1099511627776
def br (x y:Int×Int):Bool:=decide (x.1<y.1) || (decide (x.1=y.1) && decide (x.2<y.2))

def Gr (w w':I):Prop:=∃q os,w'=grow (w.drewN q) os

theorem Gr.refl (w:I):Gr w w:=⟨0,#[],by simp[World.drewN]⟩
theorem Gr.trans {a b c:I} (h:Gr a b) (k:Gr b c):Gr a c:=by
 obtain ⟨q,g,rfl⟩:=h
 obtain ⟨j,f,rfl⟩:=k
 exact ⟨q+j,g++f,by show grow (grow ((a.drewN q).drewN j) g) f=_;rw[grow_grow,World.drewN_drewN]⟩
theorem Gr.alloc {a b:I} (h:Gr a b) (o:Obj):Gr a (b.alloc o):=h.trans ⟨0,#[o],by rw[alloc_eq_grow];rfl⟩
theorem Gr.drew {a b:I} (h:Gr a b):Gr a b.drew:=h.trans ⟨1,#[],by rw[grow_empty];rfl⟩
theorem Gr.below {a b:I} (h:Gr a b):X a.heap.size a b:=by
 obtain ⟨q,g,rfl⟩:=h
 refine ⟨rfl,rfl,rfl,by simp[grow,World.drewN],fun k f=> ?_⟩
 show (a.heap++g)[k]? = _
 rw[Array.getElem?_append_left f]
theorem Gr.cell {a b:I} (h:Gr a b) {p:Z} (f:p.block<a.heap.size):b.cell? p=a.cell? p:=h.below.cell f

theorem Gr.size {a b:I} (h:Gr a b):a.heap.size<=b.heap.size:=h.below.size

theorem Gr.drawn {a b:I} (h:Gr a b):a.drawn<=b.drawn:=by
 obtain ⟨q,f,rfl⟩:=h
 show a.drawn<=a.drawn+q
 omega
theorem Gr.of {a b:I} (h:X a.heap.size a b) (k:a.drawn<=b.drawn):Gr a b:=by
 refine ⟨b.drawn-a.drawn,b.heap.extract a.heap.size b.heap.size,?_⟩
 have n:b.heap=a.heap++b.heap.extract a.heap.size b.heap.size:=by
  apply Array.ext_getElem?
  intro i
  by_cases hi:i<a.heap.size
  ·rw[Array.getElem?_append_left hi];exact h.block i hi
  ·rw[Array.getElem?_append_right (by omega),Array.getElem?_extract]
   have e:a.heap.size+(i-a.heap.size)=i:=by omega
   by_cases hb:i<b.heap.size
   ·rw[if_pos (by omega),e]
   ·rw[if_neg (by omega)];exact Array.getElem?_eq_none (by omega)
 obtain ⟨R,bt,L,bo,bp⟩:=b
 obtain ⟨C,r,u,E,F⟩:=a
 have f:=h.os
 have g:=h.tape
 have j:=h.output
 simp only at f g j n k
 subst f g j
 simp only[grow,World.drewN]
 rw[<-n]
 simp only[World.mk.injEq,true_and,and_true]
 omega
theorem Gr.setCell {a b:I} (h:Gr a b) {p:Z} (f:a.heap.size<=p.block) (u:J):Gr a (b.setCell p u) :=
 Gr.of (h.below.setCell f u) h.drawn

structure Ctx where
 c0:Int
 c1:Int
 c2:Int
 c3:Int
 l:List (Int×Int)

def clk (c:Ctx) (n:Int):Int:=if n=0 then c.c0 else if n=1 then c.c1 else if n=2 then c.c2 else c.c3

def ai (c:Ctx) (x:Int×Int):Bool:=c.l.contains x || (inB x.1 0 3 && decide (1<=x.2) && decide (x.2<=clk c x.1))

def Row (w:I) (A:Option Z) (l:List (Int×Int)):Prop :=
 l=[]\/∃b off,A=some ⟨b,off,none⟩/\b<w.heap.size/\∀j (h:j<l.length),w.cell? ⟨b,off+j*2,none⟩=some (O V l[j].1)/\w.cell? ⟨b,off+j*2+1,none⟩=some (O V l[j].2)

theorem Row.below {w w':I} {A:Option Z} {l:List (Int×Int)} (h:Row w A l) (k:X w.heap.size w w'):Row w' A l:=by
 rcases h with h|⟨b,off,hA,hb,hc⟩
 ·exact Or.inl h
 ·exact Or.inr ⟨b,off,hA,Nat.lt_of_lt_of_le hb k.size,fun j f=>⟨(k.cell (p:=⟨b,off+j*2,none⟩) hb).trans (hc j f).1,(k.cell (p:=⟨b,off+j*2+1,none⟩) hb).trans (hc j f).2⟩⟩

theorem Row.gr {w w':I} {A:Option Z} {l:List (Int×Int)} (h:Row w A l) (k:Gr w w'):Row w' A l:=h.below k.below

theorem DR (a b c d:Int) (w:I):(binOp .eql 185 (ib #[O V a,O V b]) (ib #[O V c,O V d])).run H w= .ok (ic (a==c && b==d)) w:=by
 have u3:=Tryz.underlying3
 have k:=Tryz.isAgg3
 have n:=Tryz.sizeOf3
 have h:Tryz.prog.underlying 185=some (.struct (Tryz.prog.fieldsOf 185)):=by kernel_rfl
 have j:Tryz.prog.stoodInHeld 185=false:=by kernel_rfl
 rw[run_eql_struct,show (10000:Nat)=9999+1 from rfl,run_equalIn_agg w 9999 185 _ _ h j]
 simp only[Program.fieldsOf,Tryz.underlying185]
 go_simp
 by_cases f:a=c<;>by_cases g:b=d<;>simp[f,g]

theorem Dr (a b c d:Int) (w:I):(binOp .neq 185 (ib #[O V a,O V b]) (ib #[O V c,O V d])).run H w= .ok (ic !(a==c && b==d)) w:=by
 have u3:=Tryz.underlying3
 have k:=Tryz.isAgg3
 have n:=Tryz.sizeOf3
 have h:Tryz.prog.underlying 185=some (.struct (Tryz.prog.fieldsOf 185)):=by kernel_rfl
 have j:Tryz.prog.stoodInHeld 185=false:=by kernel_rfl
 rw[run_neq_struct,show (10000:Nat)=9999+1 from rfl,run_equalIn_agg w 9999 185 _ _ h j]
 simp only[Program.fieldsOf,Tryz.underlying185]
 go_simp
 by_cases f:a=c<;>by_cases g:b=d<;>simp[f,g]

def nA (l:List (Int×Int)) (x:Int×Int):Bool:=l.contains x

theorem rW (f:BinOp) (p q:Operand) (a b c d:Int) (w:I):(eqGuard f 185 p q (ib #[O V a,O V b]) (ib #[O V c,O V d])).run H w= .ok () w :=
 run_eqGuard_agg w f 185 p q _ _ (by kernel_rfl)

theorem aa {w wr:I} {C1:Array J} {T1:TypeId} (h:Gr (w.alloc (U C1 T1)) wr) {j:Nat} {v:J} (f:C1[j]? = some v):wr.cell? ⟨w.heap.size,j,none⟩=some v:=by
 rw[h.cell (p:=⟨w.heap.size,j,none⟩) (by simp),World.cell?_alloc_mark w C1 T1 (0,0) j,f]

theorem l9 {w wr:I} {C1 C2:Array J} {T1 T2:TypeId} (h:Gr ((w.alloc (U C1 T1)).alloc (U C2 T2)) wr) {j:Nat} {v:J} (f:C2[j]? = some v):wr.cell? ⟨w.heap.size+1,j,none⟩=some v:=by
 have:=aa (w:=w.alloc (U C1 T1)) h f
 simpa using this

theorem j9 {w wr:I} {f g:Obj} (h:Gr ((w.alloc f).alloc g) wr):Gr (w.alloc f) wr:=((Gr.refl _).alloc g).trans h

theorem cC {w wr:I} {f:Obj} (h:Gr (w.alloc f) wr):Gr w wr:=((Gr.refl w).alloc f).trans h

theorem Gr.cellG {w W:I} (h:Gr w W) {a:Z} {v:J} (f:a.block<w.heap.size) (g:w.cell? a=some v) (n:Nat) (os:Array Obj):(grow (W.drewN n) os).cell? a=some v :=
 cell_grown (Nat.lt_of_lt_of_le f h.size) ((h.cell f).trans g) n os

theorem fN {w wr:I} {C1:Array J} {T1:TypeId} (h:Gr (w.alloc (U C1 T1)) wr) {j:Nat} {v:J} (f:C1[j]? = some v) (n:Nat) (os:Array Obj):(grow (wr.drewN n) os).cell? ⟨w.heap.size,j,none⟩=some v :=
 cell_grown (Nat.lt_of_lt_of_le (show w.heap.size<(w.alloc (U C1 T1)).heap.size by simp) h.size) (aa h f) n os

theorem Row.at {w:I} {A:Option Z} {l:List (Int×Int)} (h:Row w A l) {k:Nat} (g:k<l.length):∃b f,A=some ⟨b,f,none⟩/\b<w.heap.size/\∀j (h:j<l.length),w.cell? ⟨b,f+j*2,none⟩=some (O V l[j].1)/\w.cell? ⟨b,f+j*2+1,none⟩=some (O V l[j].2):=by
 rcases h with h0|h
 ·exact absurd g (by simp[h0])
 ·exact h

theorem jh {c:Ctx} {v:J} {a:Int} (g:0<=a) (h:a<4): #[Value.int V c.c0,O V c.c1,O V c.c2,O V c.c3,v][a.toNat]? = some (O V (clk c a)):=by
 have f:a=0\/a=1\/a=2\/a=3:=by omega
 rcases f with rfl|rfl|rfl|rfl<;>rfl

def jD (c:Ctx) (k:Nat):Bool:=am (c.l.getD k (0,0)) && (k==0 || br (c.l.getD (k-1) (0,0)) (c.l.getD k (0,0))) && decide (clk c (c.l.getD k (0,0)).1+2<=(c.l.getD k (0,0)).2)

def bv (c:Ctx):Bool:=inB c.c0 0 1099511627776 && inB c.c1 0 1099511627776 && inB c.c2 0 1099511627776 && inB c.c3 0 1099511627776

def aN (c:Ctx):Int:=if bv c=false then 1 else if 400<c.l.length then 2 else if (List.range c.l.length).all (jD c) then 0 else 5

theorem rK {c:Ctx} {a:Int} (g:0<=a) (f:a<4) (h:inB (clk c a) 0 1099511627776=false):aN c=1:=by
 have f:a=0\/a=1\/a=2\/a=3:=by omega
 have:bv c=false:=by
  unfold bv
  rcases f with rfl|rfl|rfl|rfl<;>simp only[clk] at h<;>simp_all
 simp[aN,this]

theorem nN {c:Ctx} (h:∀a:Int,0<=a->a<4->inB (clk c a) 0 1099511627776=true):bv c=true:=by
 have f:=h 0 (by omega) (by omega)
 have g:=h 1 (by omega) (by omega)
 have j:=h 2 (by omega) (by omega)
 have k:=h 3 (by omega) (by omega)
 simp only[clk] at f g j k
 simp_all [bv]

theorem cE {c:Ctx} (h:bv c=true) (a:Int) (g:0<=a) (f:a<4):0<=clk c a/\clk c a<=1099511627776:=by
 have f:a=0\/a=1\/a=2\/a=3:=by omega
 simp[bv,inB] at h
 rcases f with rfl|rfl|rfl|rfl<;>simp[clk]<;>omega

theorem tK {c:Ctx} (h:bv c=true) (f:400<c.l.length):aN c=2:=by simp[aN,h,f]
theorem li {c:Ctx} (h:bv c=true) (n:c.l.length<=400) {k:Nat} (j:k<c.l.length) (g:jD c k=false):aN c=5:=by
 have:¬ 400<c.l.length:=by omega
 have f:(List.range c.l.length).all (jD c)=false:=by
  rw[List.all_eq_false]
  exact ⟨k,by simpa using j,by simp[g]⟩
 simp[aN,h,this,f]
theorem vm {c:Ctx} (h:bv c=true) (n:c.l.length<=400) (g:∀k,k<c.l.length->jD c k=true):aN c=0:=by
 have:¬ 400<c.l.length:=by omega
 have f:(List.range c.l.length).all (jD c)=true:=by
  rw[List.all_eq_true]
  intro k j
  exact g k (by simpa using j)
 simp[aN,h,this,f]

theorem fw {c:Ctx} (h:0<c.l.length) {x:Int×Int} (f:c.l[0]=x):jD c 0=(am x && decide (clk c x.1+2<=x.2)):=by
 subst f
 simp[jD,h]
theorem ee {c:Ctx} {m:Nat} (h:m+1<c.l.length) {x y:Int×Int} (g:c.l[m+1]=x) (j:c.l[m]=y):jD c (m+1)=(am x && br y x && decide (clk c x.1+2<=x.2)):=by
 subst g j
 have f:m<c.l.length:=by omega
 simp[jD,h,f]
theorem ef {x:Int×Int} (h:am x=true):0<=x.1/\x.1<4/\1<=x.2/\x.2<=1099511627776:=by
 simp[am,inB] at h
 omega

theorem f9 {w wr:I} {C1:Array J} {T1:TypeId} (h:Gr (w.alloc (U C1 T1)) wr) (j:Nat):wr.frozen? ⟨w.heap.size,j,none⟩=false:=by
 rw[h.below.frozen (p:=⟨w.heap.size,j,none⟩) (by simp)]
 simp
theorem rA {w wr:I} {f:Obj} {C2:Array J} {T2:TypeId} (h:Gr ((w.alloc f).alloc (U C2 T2)) wr) (j:Nat):wr.frozen? ⟨w.heap.size+1,j,none⟩=false:=by
 have:=f9 (w:=w.alloc f) h j
 simpa using this

def fc (c:Ctx) (n:Int) (l:List (Int×Int)):Int:=l.foldl (fun m x=>if x.1=n then max m x.2 else m) (clk c n)
theorem yi (c:Ctx) (n:Int) (l:List (Int×Int)) (x:Int×Int):fc c n (l++[x])=if x.1=n then max (fc c n l) x.2 else fc c n l:=by
 simp[fc,List.foldl_append]
theorem yj (c:Ctx) (n:Int) (k:Nat) (h:k<c.l.length) {x:Int×Int} (f:c.l[k]=x):fc c n (c.l.take (k+1))=if x.1=n then max (fc c n (c.l.take k)) x.2 else fc c n (c.l.take k):=by
 rw[List.take_succ_eq_append_getElem h,yi,f]
theorem vP (c:Ctx) (n:Int) (l:List (Int×Int)):clk c n<=fc c n l:=by
 unfold fc
 suffices h:∀m,m<=l.foldl (fun m x=>if x.1=n then max m x.2 else m) m from h _
 induction l with
 | nil=>intro m;simp
 | cons x l ih =>
  intro m
  simp only[List.foldl_cons]
  refine Int.le_trans ?_ (ih (if x.1=n then max m x.2 else m))
  split<;>omega

def m8 (c:Ctx) (n:Int):Int:=if 1099511627776<=fc c n c.l then 2 else 0
def kL (c:Ctx) (n:Int):Int×Int:=if 1099511627776<=fc c n c.l then (0,0) else (n,fc c n c.l+1)

def oB (l:List (Int×Int)):Bool:=l.any fun x=> !am x

theorem Bb {l:List (Int×Int)} {k:Nat} (h:k<l.length) {x:Int×Int} (g:l[k]=x) (f:am x=false):oB l=true:=by
 simp only[oB,List.any_eq_true]
 exact ⟨l[k],List.getElem_mem h,by rw[g,f];rfl⟩
theorem ru {l:List (Int×Int)} (h:∀j (h:j<l.length),am l[j]=true):oB l=false:=by
 simp only[oB,List.any_eq_false]
 intro x g
 obtain ⟨j,f,rfl⟩:=List.getElem_of_mem g
 rw[h j f];simp
theorem yF {l:List (Int×Int)} (h:oB l=false):∀x∈l,am x=true:=by
 intro x g
 simp only[oB,List.any_eq_false] at h
 have:=h x g
 cases f:am x
 ·simp[f] at this
 ·rfl

abbrev cM:=@Calls.mono
abbrev nR:=@Nat.le_refl
abbrev nL:=@Nat.lt_of_lt_of_le
abbrev nT:=@Nat.le_trans
abbrev oL:=@Or.inl
abbrev oR:=@Or.inr
abbrev gM:=@List.getElem_mem
abbrev nZ:=@Nat.zero_le
abbrev mS:=@List.mem_cons_self
abbrev mC:=@List.mem_cons_of_mem
abbrev sI:=@Option.some.inj
abbrev gR:=@Gr.refl
abbrev bR:=@Below.refl
theorem ja0 {P:Program} {f:FuncId} {a:Array J} {w:I} {Q Q':Ending->I->Prop} (h:Hid (ia P f a w Q)) (k:∀e w',Q e w'->Q' e w'):ia P f a w Q':=Calls.mono (show ia P f a w Q from h.out) k
abbrev ja7 (c:Ctx) (A:Option Z) (n:Nat):Array J:=#[O V c.c0,O V c.c1,O V c.c2,O V c.c3,Y A c.l.length n]
theorem ja1 {p:Prop} (h:p):Hid p:=h
theorem ja2 {f g:Prop} (a:f) (b:g):Hid (f/\g):=⟨a,b⟩
theorem ja3 {f g h:Prop} (a:f) (b:g) (c:h):Hid (f/\g/\h):=⟨a,b,c⟩
theorem ja4 {f g h j:Prop} (a:f) (b:g) (c:h) (d:j):Hid (f/\g/\h/\j):=⟨a,b,c,d⟩
theorem ja5 {f g h j k:Prop} (a:f) (b:g) (c:h) (d:j) (e:k):Hid (f/\g/\h/\j/\k):=⟨a,b,c,d,e⟩
theorem ja6 {g h j k n r:Prop} (a:g) (b:h) (c:j) (d:k) (e:n) (f:r):Hid (g/\h/\j/\k/\n/\r):=⟨a,b,c,d,e,f⟩

theorem Tryz.info185:(Tryz.prog.info? 185).map (fun i=>(i.zero,i.size,i.bytes))=some (some (ib #[O V 0,O V 0]),2,16):=by kernel_rfl

def gn (l:List (Int×Int)):List J:=l.flatMap fun x=>[O V x.1,O V x.2]

theorem lV (l:List (Int×Int)):(gn l).length=l.length*2:=by
 induction l with
 | nil=>rfl
 | cons x l ih=>simp only[gn,List.flatMap_cons,List.length_append] at ih ⊢;rw[ih];simp;omega
theorem rQ (l m:List (Int×Int)):gn (l++m)=gn l++gn m:=by simp[gn,List.flatMap_append]
theorem zw (u:J) (l:List (Int×Int)) (h:u∈gn l):u.oneCell'=true:=by
 simp only[gn,List.mem_flatMap] at h
 obtain ⟨x,_,f⟩:=h
 simp only[List.mem_cons,List.not_mem_nil,or_false] at f
 rcases f with rfl|rfl<;>rfl
theorem nh (l:List (Int×Int)):∀j (h:j<l.length),(gn l)[j*2]? = some (O V l[j].1)/\(gn l)[j*2+1]? = some (O V l[j].2):=by
 induction l with
 | nil=>intro j h;exact absurd h (Nat.not_lt_zero _)
 | cons x l ih =>
  intro j h
  have e:gn (x::l)= O V x.1 :: O V x.2::gn l:=rfl
  cases j with
  | zero=>rw[e];exact ⟨rfl,rfl⟩
  | succ j =>
   have:=ih j (by simpa using h)
   rw[e,show (j+1)*2=j*2+1+1 from by omega]
   simpa using this
theorem zv (l:List (Int×Int)) {j:Nat} {u:J} (h:(gn l)[j]? = some u):∃k,∃f:k<l.length,(j=k*2/\u= O V l[k].1)\/(j=k*2+1/\u= O V l[k].2):=by
 have g:j<(gn l).length:=(List.getElem?_eq_some_iff.1 h).1
 rw[lV] at g
 have f:j / 2<l.length:=by omega
 refine ⟨j / 2,f,?_⟩
 have:=nh l (j / 2) f
 by_cases n:j % 2=0
 ·left
  have e:j / 2*2=j:=by omega
  rw[e,h] at this
  exact ⟨e.symm,sI this.1⟩
 ·right
  have e:j / 2*2+1=j:=by omega
  rw[e,h] at this
  exact ⟨e.symm,sI this.2⟩

theorem Row.cells {w:I} {g:Z} {l:List (Int×Int)} (h:Row w (some g) l):∀j u,(gn l)[j]? = some u->w.cell? (g.add j)=some u:=by
 intro j u r
 obtain ⟨k,f,n⟩:=zv l r
 rcases h with h0|⟨b,off,hA,_,hcs⟩
 ·subst h0;exact absurd f (Nat.not_lt_zero _)
 ·obtain rfl:=sI hA
  rw[Addr.add_lit]
  rcases n with ⟨rfl,rfl⟩|⟨rfl,rfl⟩
  ·exact (hcs k f).1
  ·exact (hcs k f).2

def Own (w:I) (base:Nat) (v:J) (l:List (Int×Int)):Prop:=w.ownsRow base 185 2 v l.length (gn l)

theorem Own.nil (w:I) (base:Nat):Own w base (Y none 0 0) []:=World.ownsRow_nil w base _ _

theorem Own.row {w:I} {base:Nat} {v:J} {l:List (Int×Int)} (h:Own w base v l):∃A cap,v= Y A l.length cap/\(A=none->cap=0)/\Row w A l/\(∀a,A=some a->base<=a.block/\a.block<w.heap.size):=by
 rcases h.2 with ⟨k,E⟩|⟨g,cap,cur,k,hb,hg,_,_,_,_⟩
 ·refine ⟨none,0,?_,fun _=>rfl,oL (List.eq_nil_of_length_eq_zero E),fun a n=>by cases n⟩
  rw[k,E]
 ·have f:g<w.heap.size:=(Array.getElem?_eq_some_iff.1 hg).1
  refine ⟨some ⟨g,0,none⟩,cap,k,fun h=>(by cases h),oR ⟨g,0,rfl,f,fun j F=> ?_⟩,fun a n=>by cases n;exact ⟨hb,f⟩⟩
  have C:=h.cells (g:=g) (by rw[k];rfl)
  have e:=nh l j F
  have r:=C _ _ e.1
  have u:=C _ _ e.2
  rw[Addr.add_lit] at r u
  exact ⟨r,u⟩

theorem Own.full {w:I} {base:Nat} {v:J} {l:List (Int×Int)} (h:Own w base v l):∃A cap,v= Y A l.length cap/\(A=none->cap=0)/\Row w A l/\l.length<=cap/\(∀a,A=some a->base<=a.block/\a.block<w.heap.size/\v.ownBlock=some a.block/\a.spot=none):=by
 obtain ⟨A,cap,j,u,C,r⟩:=h.row
 refine ⟨A,cap,j,u,C,?_,fun a f=>⟨(r a f).1,(r a f).2,by rw[j,f];rfl,?_⟩⟩
 ·rcases h.2 with ⟨k,n⟩|⟨g,cap',cur,hv',_,_,n,_⟩
  ·omega
  ·rw[j] at hv'
   injection hv' with _ _ h3
   omega
 ·rcases h.2 with ⟨k,n⟩|⟨g,cap',cur,hv',_,_,n,_⟩
  ·rw[j,f] at k
   injection k with h1
   cases h1
  ·rw[j,f] at hv'
   injection hv' with h1
   injection h1 with h1
   rw[h1]

theorem Own.below {w w':I} {base:Nat} {v:J} {l:List (Int×Int)} (h:Own w base v l) (k:X w.heap.size w w'):Own w' base v l :=
 h.kept (row:=none) ⟨k.os,k.tape,k.output,k.size,fun j f _=>k.block j f⟩ (by cases v.ownBlock<;>simp)
theorem Own.gr {w w':I} {base:Nat} {v:J} {l:List (Int×Int)} (h:Own w base v l) (k:Gr w w'):Own w' base v l:=h.below k.below
theorem Own.setCell {w:I} {base:Nat} {v:J} {l:List (Int×Int)} (h:Own w base v l) {a:Z} (f:a.block<base) (u:J):Own (w.setCell a u) base v l:=ownsRow_setCell_below h f u
theorem Own.mono {w:I} {base f:Nat} {v:J} {l:List (Int×Int)} (h:Own w base v l) (j:f<=base):Own w f v l:=by
 refine ⟨h.1,?_⟩
 rcases h.2 with h1|⟨g,cap,cur,hv,hg,rest⟩
 ·exact .inl h1
 ·exact .inr ⟨g,cap,cur,hv,by omega,rest⟩

theorem Own.grown_below {w w':I} {base:Nat} {v:J} {l:List (Int×Int)} (h:Own w base v l) (g:w.grownBy w' v.ownBlock) (f:base<=w.heap.size):X base w w' :=
 (bR base w).grown g f fun k e=>(h.lt k e).1
theorem Row.belowB {w w':I} {A:Option Z} {l:List (Int×Int)} {B:Nat} (h:Row w A l) (r:∀a,A=some a->l≠[]->a.block<B) (k:X B w w'):Row w' A l:=by
 rcases h with h|⟨b,off,rfl,hb,hc⟩
 ·exact oL h
 ·by_cases g:l=[]
  ·exact oL g
  have f:=r _ rfl g
  exact oR ⟨b,off,rfl,nL hb k.size,fun j n=>⟨(k.cell (p:=⟨b,off+j*2,none⟩) f).trans (hc j n).1,(k.cell (p:=⟨b,off+j*2+1,none⟩) f).trans (hc j n).2⟩⟩
theorem Row.lt {w:I} {A:Option Z} {l:List (Int×Int)} (h:Row w A l):∀a,A=some a->l≠[]->a.block<w.heap.size:=by
 rcases h with h|⟨b,off,rfl,hb,_⟩
 ·intro a _ f;exact absurd h f
 ·intro a g _;cases g;exact hb

theorem mq (w:I) (C:TypeId) (base:Nat) (v:J) (l m:List (Int×Int)) (A:Option Z) (cap:Nat) (f:Own w base v l) (E:Row w A m) (hA:A=none->cap=0)
  (hb:(l.length+m.length)*16<=140737488355328) (g:base<=w.heap.size) :
  ∃j w',(Builtin.append_ #[51,51] C #[v,Y A m.length cap]).run H w= .ok j w'/\Own w' base j (l++m)/\w.grownBy w' v.ownBlock/\(j.ownBlock=v.ownBlock\/j.ownBlock=some w.heap.size):=by
 obtain ⟨F,hi,k,n,r⟩:=info_parts Tryz.info185
 cases A with
 | none =>
  obtain rfl:=hA rfl
  have hm:m=[]:=by
   rcases E with h|⟨_,_,h,_⟩
   ·exact h
   ·cases h
  subst hm
  have:=run_append_owned_none (P:=H) (w:=w) base 51 C 185 F 2 Tryz.underlying51 hi v l.length (gn l) f
  exact ⟨v,w,this,by rw[List.append_nil];exact f,⟨rfl,rfl,rfl,nR _,fun _ _ _=>rfl⟩,oL rfl⟩
 | some ad =>
  obtain ⟨j,w',L,R,h3,_,h5⟩:=run_append_own_at (P:=H) w base 51 C 185 F _ 2 16 Tryz.underlying51 hi k n r rfl (by omega) v l.length (gn l) f ad m.length cap (gn m) (lV m) E.cells (fun u hu=>zw u m hu) (by unfold maxLen;omega) hb g
  refine ⟨j,w',L,?_,h3,h5⟩
  show w'.ownsRow base _ 2 j (l++m).length (gn (l++m))
  rw[List.length_append,rQ]
  exact R

theorem ox (w:I) {o:Oper} {a:Act} {K:Act->I->Prop} {Q:Exit->Act->I->Prop} (s x:Operand)
  (F:o.op= .call { callee:= .builtin .append,args:= #[s,x],argTypes:= #[51,51] })
  (base:Nat) (v:J) (l m:List (Int×Int)) (A:Option Z) (cap:Nat) (L:a.eval s=v) (R:a.eval x= Y A m.length cap) (j:Own w base v l) (k:Row w A m) (C:A=none->cap=0)
  (E:(l.length+m.length)*16<=140737488355328) (f:base<=w.heap.size)
  (h:∀g w',Own w' base g (l++m)->w.grownBy w' v.ownBlock->(g.ownBlock=v.ownBlock\/g.ownBlock=some w.heap.size)->K (a.put o.dst g) w'):o.wp H a w K Q:=by
 obtain ⟨g,w',k,n,r,u⟩:=mq w o.type base v l m A cap j k C E f
 unfold Oper.wp execOp
 simp only[F,resolve,invoke,builtin,Sem.run_bind,Sem.run_pure,Result.andThen_ok,List.map_toArray,List.map_cons,List.map_nil,L,R,k]
 exact h g w' n r u

theorem aF (w:I) {ops:Array Oper} {f:List Oper} {o:Oper} {a:Act} {Q:Exit->Act->I->Prop} (n:o.guard=none) (s x:Operand)
  (R:o.op= .call { callee:= .builtin .append,args:= #[s,x],argTypes:= #[51,51] })
  (base:Nat) (v:J) (l m:List (Int×Int)) (A:Option Z) (cap:Nat) (hs:a.eval s=v) (hx:a.eval x= Y A m.length cap) (k:Own w base v l) (hr:Row w A m) (E:A=none->cap=0)
  (L:(l.length+m.length)*16<=140737488355328) (g:base<=w.heap.size)
  (h:∀j w',Own w' base j (l++m)->w.grownBy w' v.ownBlock->(j.ownBlock=v.ownBlock\/j.ownBlock=some w.heap.size)->wpList H ops Q f (a.put o.dst j) w'):wpList H ops Q (o::f) a w :=
 wpList_plain n fun _ F=>ox w s x R base v l m A cap hs hx k hr E L g fun j w' r u C=>F _ _ (h j w' r u C)

theorem Row.drew {w:I} {A:Option Z} {l:List (Int×Int)} (h:Row w A l):Row w.drew A l:=h
theorem Row.drewN {w:I} {A:Option Z} {l:List (Int×Int)} (h:Row w A l) (n:Nat):Row (w.drewN n) A l:=h
theorem cW {w w':I} (f:w.grownBy w' (Value.slice none 0 0).ownBlock):X w.heap.size w w':=(bR _ _).grown f (nR _) (fun k e=>by cases e)

theorem Row.take {w:I} {A:Option Z} {l:List (Int×Int)} (h:Row w A l) (k:Nat):Row w A (l.take k):=by
 rcases h with h|⟨b,off,hA,hb,hc⟩
 ·exact oL (by rw[h];simp)
 ·exact oR ⟨b,off,hA,hb,fun j g=>by
   have f:j<l.length:=by rw[List.length_take] at g;omega
   rw[List.getElem_take]
   exact hc j f⟩
theorem Row.drop {w:I} {b f:Nat} {l:List (Int×Int)} (h:Row w (some ⟨b,f,none⟩) l) (k:Nat):Row w (some ⟨b,f+k*2,none⟩) (l.drop k):=by
 rcases h with h|⟨b',off',hA,hb,hc⟩
 ·exact oL (by rw[h];simp)
 ·obtain ⟨rfl,rfl⟩:b=b'/\f=off':=by injection hA with hA;injection hA with h1 h2;exact ⟨h1,h2⟩
  exact oR ⟨b,f+k*2,rfl,hb,fun j n=>by
   have g:k+j<l.length:=by rw[List.length_drop] at n;omega
   rw[List.getElem_drop]
   have:=hc (k+j) g
   rw[show f+k*2+j*2=f+(k+j)*2 from by omega]
   exact this⟩


def aL {α : Type} (enc: α -> List J) (l:List α):List J:=l.flatMap enc

theorem aW {α : Type} {enc: α -> List J} {k:Nat} (f:∀x,(enc x).length=k) (l:List α):(aL enc l).length=l.length*k:=by
 induction l with
 | nil=>simp[aL]
 | cons x l ih =>
  simp only[aL,List.flatMap_cons,List.length_append,List.length_cons] at ih ⊢
  rw[ih,f,Nat.add_mul,Nat.one_mul,Nat.add_comm]
theorem cH {α : Type} (enc: α -> List J) (l m:List α):aL enc (l++m)=aL enc l++aL enc m:=by simp[aL,List.flatMap_append]
theorem ec {α : Type} {enc: α -> List J} (f:∀x,∀u∈enc x,u.oneCell'=true) (u:J) (l:List α) (h:u∈aL enc l):u.oneCell'=true:=by
 simp only[aL,List.mem_flatMap] at h
 obtain ⟨x,_,g⟩:=h
 exact f x u g
theorem pB {α : Type} {enc: α -> List J} {k:Nat} (f:∀x,(enc x).length=k) (l:List α):∀j (h:j<l.length) i,i<k->(aL enc l)[j*k+i]? = (enc l[j])[i]? := by
 induction l with
 | nil=>intro j h;exact absurd h (Nat.not_lt_zero _)
 | cons x l ih =>
  intro j h i hi
  have e:aL enc (x::l)=enc x++aL enc l:=rfl
  rw[e]
  cases j with
  | zero=>rw[Nat.zero_mul,Nat.zero_add,List.getElem?_append_left (by rw[f];exact hi)];rfl
  | succ j =>
   rw[List.getElem?_append_right (by rw[f,Nat.add_mul];omega),f,show (j+1)*k+i-k=j*k+i from by rw[Nat.add_mul];omega]
   simpa using ih j (by simpa using h) i hi
theorem xd {α : Type} {enc: α -> List J} {k:Nat} (r:∀x,(enc x).length=k) (g:0<k) (l:List α) {j:Nat} {u:J} (h:(aL enc l)[j]? = some u):∃m,∃f:m<l.length,∃i,i<k/\j=m*k+i/\(enc l[m])[i]? = some u:=by
 have n:j<(aL enc l).length:=(List.getElem?_eq_some_iff.1 h).1
 rw[aW r] at n
 have f:j / k<l.length:=Nat.div_lt_of_lt_mul (by rw[Nat.mul_comm];exact n)
 have e:j=j / k*k+j % k:=by rw[Nat.mul_comm];exact (Nat.div_add_mod j k).symm
 refine ⟨j / k,f,j % k,Nat.mod_lt _ g,e,?_⟩
 rw[<-pB r l (j / k) f (j % k) (Nat.mod_lt _ g),<-e]
 exact h

def az {α : Type} (enc: α -> List J) (k:Nat) (w:I) (A:Option Z) (l:List α):Prop :=
 l=[]\/∃b off,A=some ⟨b,off,none⟩/\b<w.heap.size/\∀j (h:j<l.length) i,i<k->w.cell? ⟨b,off+j*k+i,none⟩=(enc l[j])[i]?

theorem az.belowB {α : Type} {enc: α -> List J} {k:Nat} {w w':I} {A:Option Z} {l:List α} {B:Nat} (h:az enc k w A l) (n:∀a,A=some a->l≠[]->a.block<B) (q:X B w w'):az enc k w' A l:=by
 rcases h with h|⟨b,off,rfl,hb,hc⟩
 ·exact oL h
 ·by_cases g:l=[]
  ·exact oL g
  have f:=n _ rfl g
  exact oR ⟨b,off,rfl,nL hb q.size,fun j r i hi=>(q.cell (p:=⟨b,off+j*k+i,none⟩) f).trans (hc j r i hi)⟩
theorem az.lt {α : Type} {enc: α -> List J} {k:Nat} {w:I} {A:Option Z} {l:List α} (h:az enc k w A l):∀a,A=some a->l≠[]->a.block<w.heap.size:=by
 rcases h with h|⟨b,off,rfl,hb,_⟩
 ·intro a _ f;exact absurd h f
 ·intro a g _;cases g;exact hb
theorem az.below {α : Type} {enc: α -> List J} {k:Nat} {w w':I} {A:Option Z} {l:List α} (h:az enc k w A l) (q:X w.heap.size w w'):az enc k w' A l:=h.belowB h.lt q
theorem az.gr {α : Type} {enc: α -> List J} {k:Nat} {w w':I} {A:Option Z} {l:List α} (h:az enc k w A l) (q:Gr w w'):az enc k w' A l:=h.below q.below
theorem az.at {α : Type} {enc: α -> List J} {k:Nat} {w:I} {A:Option Z} {l:List α} (h:az enc k w A l) {m:Nat} (g:m<l.length):∃b f,A=some ⟨b,f,none⟩/\b<w.heap.size/\∀j (h:j<l.length) i,i<k->w.cell? ⟨b,f+j*k+i,none⟩=(enc l[j])[i]? := by
 rcases h with h0|h
 ·exact absurd g (by simp[h0])
 ·exact h
theorem az.cells {α : Type} {enc: α -> List J} {k:Nat} (C:∀x,(enc x).length=k) (n:0<k) {w:I} {f:Z} {l:List α} (h:az enc k w (some f) l):∀j u,(aL enc l)[j]? = some u->w.cell? (f.add j)=some u:=by
 intro j u E
 obtain ⟨m,g,i,hi,rfl,r⟩:=xd C n l E
 rcases h with h1|⟨b,off,hA,_,hcs⟩
 ·subst h1;exact absurd g (Nat.not_lt_zero _)
 ·obtain rfl:=sI hA
  rw[Addr.add_lit]
  have:=hcs m g i hi
  rw[r,show off+m*k+i=off+(m*k+i) from by omega] at this
  exact this

def ae {α : Type} (enc: α -> List J) (k:Nat) (e:TypeId) (w:I) (base:Nat) (v:J) (l:List α):Prop:=w.ownsRow base e k v l.length (aL enc l)

theorem ae.nil {α : Type} (enc: α -> List J) (k:Nat) (e:TypeId) (w:I) (base:Nat):ae enc k e w base (Y none 0 0) []:=World.ownsRow_nil w base _ _

theorem ae.full {α : Type} {enc: α -> List J} {k:Nat} {e:TypeId} (F:∀x,(enc x).length=k) {w:I} {base:Nat} {v:J} {l:List α} (h:ae enc k e w base v l):∃A cap,v= Y A l.length cap/\(A=none->cap=0)/\az enc k w A l/\l.length<=cap/\(∀a,A=some a->base<=a.block/\a.block<w.heap.size/\a.off=0/\a.spot=none)/\(∀a,A=some a->∀j,w.frozen? ⟨a.block,j,none⟩=false):=by
 rcases h.2 with ⟨r,L⟩|⟨g,cap,cur,r,hb,hg,hle,_,_,_⟩
 ·refine ⟨none,0,?_,fun _=>rfl,oL (List.eq_nil_of_length_eq_zero L),by omega,fun a f=>(by cases f),fun a f=>(by cases f)⟩
  rw[r,L]
 ·have n:g<w.heap.size:=(Array.getElem?_eq_some_iff.1 hg).1
  refine ⟨some ⟨g,0,none⟩,cap,r,fun h=>(by cases h),oR ⟨g,0,rfl,n,fun j hj i hi=> ?_⟩,hle,fun a f=>(by cases f;exact ⟨hb,n,rfl,rfl⟩),fun a f j=> ?_⟩
  ·have R:=h.cells (g:=g) (by rw[r];rfl)
   have E:=pB F l j hj i hi
   have u:i<(enc l[j]).length:=by rw[F];exact hi
   rw[List.getElem?_eq_getElem u] at E ⊢
   have C:=R _ _ E
   rw[Addr.add_lit] at C
   rw[show 0+j*k+i=0+(j*k+i) from by omega]
   exact C
  ·cases f
   exact World.ownsRow.frozenAt (by rw[<-r];exact h) (g:=g) (cap:=cap) j
theorem ae.row {α : Type} {enc: α -> List J} {k:Nat} {e:TypeId} (u:∀x,(enc x).length=k) {w:I} {base:Nat} {v:J} {l:List α} (h:ae enc k e w base v l):∃A cap,v= Y A l.length cap/\(A=none->cap=0)/\az enc k w A l/\(∀a,A=some a->base<=a.block/\a.block<w.heap.size):=by
 obtain ⟨A,cap,j,n,r,_,f,_⟩:=ae.full u h
 exact ⟨A,cap,j,n,r,fun a g=>⟨(f a g).1,(f a g).2.1⟩⟩

theorem ae.below {α : Type} {enc: α -> List J} {k:Nat} {e:TypeId} {w w':I} {base:Nat} {v:J} {l:List α} (h:ae enc k e w base v l) (q:X w.heap.size w w'):ae enc k e w' base v l :=
 World.ownsRow.kept h (row:=none) ⟨q.os,q.tape,q.output,q.size,fun j f _=>q.block j f⟩ (by cases v.ownBlock<;>simp)
theorem ae.gr {α : Type} {enc: α -> List J} {k:Nat} {e:TypeId} {w w':I} {base:Nat} {v:J} {l:List α} (h:ae enc k e w base v l) (q:Gr w w'):ae enc k e w' base v l:=h.below q.below
theorem ae.mono {α : Type} {enc: α -> List J} {k:Nat} {e:TypeId} {w:I} {base f:Nat} {v:J} {l:List α} (h:ae enc k e w base v l) (j:f<=base):ae enc k e w f v l:=by
 refine ⟨h.1,?_⟩
 rcases h.2 with h1|⟨g,cap,cur,hv,hg,rest⟩
 ·exact .inl h1
 ·exact .inr ⟨g,cap,cur,hv,by omega,rest⟩
theorem ae.grown_below {α : Type} {enc: α -> List J} {k:Nat} {e:TypeId} {w w':I} {base:Nat} {v:J} {l:List α} (h:ae enc k e w base v l) (n:w.grownBy w' v.ownBlock) (g:base<=w.heap.size):X base w w' :=
 (bR base w).grown n g fun j f=>(World.ownsRow.lt h j f).1

theorem qW {α : Type} {enc: α -> List J} {k:Nat} {e:TypeId} (hk:∀x,(enc x).length=k) (h1:∀x,∀u∈enc x,u.oneCell'=true) (h0:0<k)
  (t:TypeId) (ht:Tryz.prog.underlying t=some (.slice e)) (z:J) (f:Nat) (hi:(Tryz.prog.info? e).map (fun i=>(i.zero,i.size,i.bytes))=some (some z,k,f)) (L:z.cells.size=k)
  (w:I) (R:TypeId) (base:Nat) (v:J) (l m:List α) (A:Option Z) (cap:Nat) (g:ae enc k e w base v l) (hr:az enc k w A m) (hA:A=none->cap=0)
  (r:l.length+m.length<=maxLen) (hb:(l.length+m.length)*f<=140737488355328) (j:base<=w.heap.size) :
  ∃n w',(Builtin.append_ #[t,t] R #[v,Y A m.length cap]).run H w= .ok n w'/\ae enc k e w' base n (l++m)/\w.grownBy w' v.ownBlock:=by
 obtain ⟨i0,hi,C,E,F⟩:=info_parts hi
 cases A with
 | none =>
  obtain rfl:=hA rfl
  have hm:m=[]:=by
   rcases hr with h|⟨_,_,h,_⟩
   ·exact h
   ·cases h
  subst hm
  have:=run_append_owned_none (P:=H) (w:=w) base t R e i0 k ht hi v l.length (aL enc l) g
  exact ⟨v,w,this,by rw[List.append_nil];exact g,⟨rfl,rfl,rfl,nR _,fun _ _ _=>rfl⟩⟩
 | some ad =>
  obtain ⟨n,w',g1,g2,g3,_,_⟩:=run_append_own_at (P:=H) w base t R e i0 z k f ht hi C E F L h0 v l.length (aL enc l) g ad m.length cap (aL enc m) (aW hk m) (hr.cells hk h0) (fun u hu=>ec h1 u m hu) r hb j
  refine ⟨n,w',g1,?_,g3⟩
  show w'.ownsRow base _ k n (l++m).length (aL enc (l++m))
  rw[List.length_append,cH]
  exact g2

theorem cU {α : Type} {enc: α -> List J} {k:Nat} {e:TypeId} (hk:∀x,(enc x).length=k) (L:∀x,∀u∈enc x,u.oneCell'=true) (F:0<k)
  (t:TypeId) (ht:Tryz.prog.underlying t=some (.slice e)) (z:J) (f:Nat) (hi:(Tryz.prog.info? e).map (fun i=>(i.zero,i.size,i.bytes))=some (some z,k,f)) (E:z.cells.size=k)
  (w:I) {o:Oper} {a:Act} {K:Act->I->Prop} {Q:Exit->Act->I->Prop} (s x:Operand)
  (ho:o.op= .call { callee:= .builtin .append,args:= #[s,x],argTypes:= #[t,t] })
  (base:Nat) (v:J) (l m:List α) (A:Option Z) (cap:Nat) (hs:a.eval s=v) (hx:a.eval x= Y A m.length cap) (j:ae enc k e w base v l) (C:az enc k w A m) (hA:A=none->cap=0)
  (r:l.length+m.length<=maxLen) (hb:(l.length+m.length)*f<=140737488355328) (g:base<=w.heap.size)
  (h:∀n w',ae enc k e w' base n (l++m)->w.grownBy w' v.ownBlock->K (a.put o.dst n) w'):o.wp H a w K Q:=by
 obtain ⟨n,w',C,R,h3⟩:=qW hk L F t ht z f hi E w o.type base v l m A cap j C hA r hb g
 unfold Oper.wp execOp
 simp only[ho,resolve,invoke,builtin,Sem.run_bind,Sem.run_pure,Result.andThen_ok,List.map_toArray,List.map_cons,List.map_nil,hs,hx,C]
 exact h n w' R h3

theorem az.take {α : Type} {enc: α -> List J} {k:Nat} {w:I} {A:Option Z} {l:List α} (h:az enc k w A l) (m:Nat):az enc k w A (l.take m):=by
 rcases h with h|⟨b,off,hA,hb,hc⟩
 ·exact oL (by rw[h];simp)
 ·exact oR ⟨b,off,hA,hb,fun j g i hi=>by
   have f:j<l.length:=by rw[List.length_take] at g;omega
   rw[List.getElem_take]
   exact hc j f i hi⟩


def setClk (c:Ctx) (n s:Int):Ctx:=if n=0 then { c with c0:=s } else if n=1 then { c with c1:=s } else if n=2 then { c with c2:=s } else { c with c3:=s }

theorem eB (c:Ctx) (n s:Int):(setClk c n s).l=c.l:=by
 unfold setClk
 by_cases f:n=0
 ·simp[f]
 ·by_cases g:n=1
  ·simp[g]
  ·by_cases h:n=2
   ·simp[h]
   ·simp[f,g,h]
theorem dV (c:Ctx) (n s a:Int) (k:0<=n) (r:n<4) (h:0<=a) (j:a<4):clk (setClk c n s) a=if a=n then s else clk c a:=by
 have g:n=0\/n=1\/n=2\/n=3:=by omega
 have f:a=0\/a=1\/a=2\/a=3:=by omega
 rcases g with rfl|rfl|rfl|rfl<;>rcases f with rfl|rfl|rfl|rfl<;>simp[setClk,clk]

def CB (w:I) (B base:Nat) (c:Ctx):Prop:=∃v,w.cell? ⟨B,0,none⟩=some (O V c.c0)/\w.cell? ⟨B,1,none⟩=some (O V c.c1)/\w.cell? ⟨B,2,none⟩=some (O V c.c2)/\w.cell? ⟨B,3,none⟩=some (O V c.c3) /\
 w.cell? ⟨B,4,none⟩=some v/\Own w base v c.l/\(∀j,w.frozen? ⟨B,j,none⟩=false)/\B<base/\B<w.heap.size

theorem CB.below {w w':I} {B base:Nat} {c:Ctx} (h:CB w B base c) (k:X w.heap.size w w'):CB w' B base c:=by
 obtain ⟨v,g,n,r,u,C,L,F,E,f⟩:=h
 exact ⟨v,(k.cell (p:=⟨B,0,none⟩) f).trans g,(k.cell (p:=⟨B,1,none⟩) f).trans n,(k.cell (p:=⟨B,2,none⟩) f).trans r,(k.cell (p:=⟨B,3,none⟩) f).trans u,(k.cell (p:=⟨B,4,none⟩) f).trans C,L.below k,fun j=>(k.frozen (p:=⟨B,j,none⟩) f).trans (F j),E,nL f k.size⟩
theorem CB.gr {w w':I} {B base:Nat} {c:Ctx} (h:CB w B base c) (k:Gr w w'):CB w' B base c:=h.below k.below

theorem CB.clk {w:I} {B base:Nat} {c:Ctx} (h:CB w B base c) {a:Int} (r:0<=a) (u:a<4):w.cell? ⟨B,a.toNat,none⟩=some (O V (clk c a)):=by
 obtain ⟨v,g,j,k,n,_⟩:=h
 have f:a=0\/a=1\/a=2\/a=3:=by omega
 rcases f with rfl|rfl|rfl|rfl
 ·exact g
 ·exact j
 ·exact k
 ·exact n

theorem ab {w:I} {B j f:Nat} {u x:J} (g:w.cell? ⟨B,f,none⟩=some x):(w.setCell ⟨B,j,none⟩ u).cell? ⟨B,f,none⟩=some (if f=j then u else x):=by
 by_cases h:f=j
 ·subst h;rw[if_pos rfl];exact World.cell?_setCell_same _ _ _ g
 ·rw[if_neg h,World.cell?_setCell_other _ _ _ _ (by intro e;injection e with e1 e2;exact h e2.symm)];exact g

theorem CB.setClk {w:I} {B base:Nat} {c:Ctx} (h:CB w B base c) {n:Int} (h0:0<=n) (h4:n<4) (s:Int):CB (w.setCell ⟨B,n.toNat,none⟩ (O V s)) B base (setClk c n s):=by
 obtain ⟨v,C,E,F,L,R,r,k,g,u⟩:=h
 have f:n=0\/n=1\/n=2\/n=3:=by omega
 refine ⟨v,?_,?_,?_,?_,?_,?_,?_,g,by simpa[World.setCell] using u⟩
 ·rw[ab C];rcases f with rfl|rfl|rfl|rfl<;>rfl
 ·rw[ab E];rcases f with rfl|rfl|rfl|rfl<;>rfl
 ·rw[ab F];rcases f with rfl|rfl|rfl|rfl<;>rfl
 ·rw[ab L];rcases f with rfl|rfl|rfl|rfl<;>rfl
 ·rw[ab R];rcases f with rfl|rfl|rfl|rfl<;>rfl
 ·rw[eB];exact r.setCell g _
 ·intro j;rw[World.frozen?_setCell];exact k j

theorem CB.setL {w w1:I} {B base:Nat} {c:Ctx} (h:CB w B base c) (k:X base w w1) {v:J} {l:List (Int×Int)} (F:Own w1 base v l):CB (w1.setCell ⟨B,4,none⟩ v) B base { c with l:=l }:=by
 obtain ⟨v0,L,R,k2,k3,k4,_,E,f,hs⟩:=h
 have g:=(k.cell (p:=⟨B,0,none⟩) f).trans L
 have n:=(k.cell (p:=⟨B,1,none⟩) f).trans R
 have r:=(k.cell (p:=⟨B,2,none⟩) f).trans k2
 have u:=(k.cell (p:=⟨B,3,none⟩) f).trans k3
 have C:=(k.cell (p:=⟨B,4,none⟩) f).trans k4
 refine ⟨v,?_,?_,?_,?_,?_,F.setCell f _,?_,f,?_⟩
 ·rw[ab g];rfl
 ·rw[ab n];rfl
 ·rw[ab r];rfl
 ·rw[ab u];rfl
 ·rw[ab C];rfl
 ·intro j;rw[World.frozen?_setCell];exact (k.frozen (p:=⟨B,j,none⟩) f).trans (E j)
 ·have:=k.size
  simp only[World.setCell,Array.size_modify]
  omega

theorem CB.start (W:I) {c:Ctx} (f:c.l=[]) (T:TypeId):CB (W.alloc (U #[O V c.c0,O V c.c1,O V c.c2,O V c.c3,Y none 0 0] T)) W.heap.size (W.heap.size+1) c :=
 ⟨Y none 0 0,aa (gR _) rfl,aa (gR _) rfl,aa (gR _) rfl,aa (gR _) rfl,aa (gR _) rfl,by rw[f];exact Own.nil _ _,fun j=>f9 (gR _) j,by omega,by simp⟩

theorem CB.lt {w:I} {B base:Nat} {c:Ctx} (h:CB w B base c):B<w.heap.size:=by
 obtain ⟨_,_,_,_,_,_,_,_,_,h⟩:=h
 exact h
theorem CB.fz {w:I} {B base:Nat} {c:Ctx} (h:CB w B base c) (j:Nat):w.frozen? ⟨B,j,none⟩=false:=by
 obtain ⟨_,_,_,_,_,_,_,h,_⟩:=h
 exact h j
theorem CB.v {w:I} {B base:Nat} {c:Ctx} (h:CB w B base c):∃v,w.cell? ⟨B,4,none⟩=some v/\Own w base v c.l:=by
 obtain ⟨v,_,_,_,_,f,g,_⟩:=h
 exact ⟨v,f,g⟩

theorem Row.setCell0 {w:I} {A:Option Z} {l:List (Int×Int)} (h:Row w A l) {B j:Nat} (u:J) (k:∀a,A=some a->l≠[]->a.block≠B):Row (w.setCell ⟨B,j,none⟩ u) A l:=by
 by_cases g:l=[]
 ·exact oL g
 ·rcases h with h|⟨b,off,rfl,hb,hc⟩
  ·exact oL h
  ·have f:=k _ rfl g
   refine oR ⟨b,off,rfl,by simpa[World.setCell] using hb,fun i hi=> ?_⟩
   rw[World.cell?_setCell_other _ _ _ _ (by intro e;injection e with e1;exact f e1.symm),World.cell?_setCell_other _ _ _ _ (by intro e;injection e with e1;exact f e1.symm)]
   exact hc i hi
theorem iZ {W:I} {n:Nat} (k:W.heap.size=n) (x y:Int) (T:TypeId):Row (W.alloc (U #[O V x,O V y] T)) (some ⟨n,0,none⟩) [(x,y)]:=by
 subst k
 refine oR ⟨W.heap.size,0,rfl,by simp,fun j h=> ?_⟩
 have f:=aa (w:=W) (gR (W.alloc (U #[O V x,O V y] T))) (j:=0) rfl
 have g:=aa (w:=W) (gR (W.alloc (U #[O V x,O V y] T))) (j:=1) rfl
 obtain rfl:j=0:=by simpa using h
 exact ⟨f,g⟩
theorem Gr.drewN {a b:I} (h:Gr a b) (n:Nat):Gr a (b.drewN n):=h.trans ⟨n,#[],by rw[grow_empty]⟩

theorem Row.setCell {w:I} {A:Option Z} {l:List (Int×Int)} (h:Row w A l) {B j:Nat} (u:J) (g:∀a,A=some a->a.block≠B):Row (w.setCell ⟨B,j,none⟩ u) A l:=by
 rcases h with h|⟨b,off,rfl,hb,hc⟩
 ·exact oL h
 ·have f:=g _ rfl
  refine oR ⟨b,off,rfl,by simpa[World.setCell] using hb,fun i hi=> ?_⟩
  rw[World.cell?_setCell_other _ _ _ _ (by intro e;injection e with e1;exact f e1.symm),World.cell?_setCell_other _ _ _ _ (by intro e;injection e with e1;exact f e1.symm)]
  exact hc i hi

def step (c:Ctx) (p:Option (Int×Int)) (x:Int×Int):Ctx :=
 if x.2<=clk c x.1 then c else if x.2=clk c x.1+1 then setClk c x.1 x.2 else if p=some x then c else { c with l:=c.l++[x] }

def ax (c:Ctx) (l:List (Int×Int)):Nat->Ctx
 | 0=>c
 | k+1=>step (ax c l k) (if k=0 then none else some (l.getD (k-1) (0,0))) (l.getD k (0,0))

theorem iO {c:Ctx} {l:List (Int×Int)} (h:0<l.length) {x:Int×Int} (f:l[0]=x):ax c l 1=step c none x:=by
 subst f
 simp[ax,h]
theorem fT {c:Ctx} {l:List (Int×Int)} {m:Nat} (h:m+1<l.length) {x y:Int×Int} (g:l[m+1]=x) (j:l[m]=y):ax c l (m+2)=step (ax c l (m+1)) (some y) x:=by
 subst g j
 have f:m<l.length:=by omega
 show step (ax c l (m+1)) _ _=_
 simp[h,f]

theorem vO {c:Ctx} {p:Option (Int×Int)} {x y:Int} (h:y<=clk c x):step c p (x,y)=c:=by simp[step,h]
theorem vN {c:Ctx} {p:Option (Int×Int)} {x y:Int} (h:y=clk c x+1):step c p (x,y)=setClk c x y:=by
 have:¬y<=clk c x:=by omega
 unfold step
 rw[if_neg this,if_pos h]
theorem AE {c:Ctx} {x y:Int} (f:¬y<=clk c x) (g:¬y=clk c x+1):step c (some (x,y)) (x,y)=c:=by simp[step,f,g]
theorem sX {c:Ctx} {p:Option (Int×Int)} {x y:Int} (f:¬y<=clk c x) (g:¬y=clk c x+1) (h:p≠some (x,y)):step c p (x,y)={ c with l:=c.l++[(x,y)] }:=by simp[step,f,g,h]

theorem sW {c:Ctx} {p:Option (Int×Int)} {x:Int×Int} (f:bv c=true) (r:am x=true):bv (step c p x)=true:=by
 have n:=ef r
 unfold step
 by_cases g:x.2<=clk c x.1
 ·simpa[g] using f
 ·by_cases j:x.2=clk c x.1+1
  ·rw[if_neg g,if_pos j]
   refine nN fun a h k=> ?_
   rw[dV c x.1 x.2 a n.1 n.2.1 h k]
   have:=cE f a h k
   split<;>simp[inB]<;>omega
  ·rw[if_neg g,if_neg j]
   split
   ·exact f
   ·exact f
theorem tU {c:Ctx} {l:List (Int×Int)} (g:bv c=true) (h:∀x∈l,am x=true):∀k,k<=l.length->bv (ax c l k)=true:=by
 intro k
 induction k with
 | zero=>intro _;exact g
 | succ k ih =>
  intro j
  have f:k<l.length:=by omega
  refine sW (ih (by omega)) ?_
  have:l.getD k (0,0)=l[k]:=by simp[f]
  rw[this]
  exact h _ (gM f)
theorem AF (c:Ctx) (p:Option (Int×Int)) (x:Int×Int):(step c p x).l.length<=c.l.length+1:=by
 unfold step
 split
 ·omega
 ·split
  ·rw[eB];omega
  ·split
   ·omega
   ·simp
theorem jX (c:Ctx) (l:List (Int×Int)):∀k,(ax c l k).l.length<=c.l.length+k:=by
 intro k
 induction k with
 | zero=>exact nR _
 | succ k ih =>
  have:=AF (ax c l k) (if k=0 then none else some (l.getD (k-1) (0,0))) (l.getD k (0,0))
  show (step _ _ _).l.length<=_
  omega


structure CtxAt (w:I) (B:Nat) (c:Ctx) (A:Option Z) (cap:Nat):Prop where
 k0:w.cell? ⟨B,0,none⟩=some (O V c.c0)
 k1:w.cell? ⟨B,1,none⟩=some (O V c.c1)
 k2:w.cell? ⟨B,2,none⟩=some (O V c.c2)
 k3:w.cell? ⟨B,3,none⟩=some (O V c.c3)
 k4:w.cell? ⟨B,4,none⟩=some (Y A c.l.length cap)
 lt:B<w.heap.size
 row:Row w A c.l

theorem CtxAt.below {w w':I} {B:Nat} {c:Ctx} {A:Option Z} {cap:Nat} (h:CtxAt w B c A cap) (k:X w.heap.size w w'):CtxAt w' B c A cap :=
 ⟨(k.cell (p:=⟨B,0,none⟩) h.lt).trans h.k0,(k.cell (p:=⟨B,1,none⟩) h.lt).trans h.k1,(k.cell (p:=⟨B,2,none⟩) h.lt).trans h.k2,(k.cell (p:=⟨B,3,none⟩) h.lt).trans h.k3,(k.cell (p:=⟨B,4,none⟩) h.lt).trans h.k4,nL h.lt k.size,h.row.below k⟩
theorem CtxAt.gr {w w':I} {B:Nat} {c:Ctx} {A:Option Z} {cap:Nat} (h:CtxAt w B c A cap) (k:Gr w w'):CtxAt w' B c A cap:=h.below k.below
theorem CtxAt.new {w:I} {c:Ctx} {A:Option Z} {cap:Nat} (T:TypeId) (h:Row w A c.l) {B:Nat} (f:w.heap.size=B):CtxAt (w.alloc (U (ja7 c A cap) T)) B c A cap:=by
 subst f
 exact ⟨aa (gR _) rfl,aa (gR _) rfl,aa (gR _) rfl,aa (gR _) rfl,aa (gR _) rfl,by simp,h.gr ((gR _).alloc _)⟩

structure DotAt (w:I) (B:Nat) (x y:Int):Prop where
 k0:w.cell? ⟨B,0,none⟩=some (O V x)
 k1:w.cell? ⟨B,1,none⟩=some (O V y)
 lt:B<w.heap.size
theorem DotAt.below {w w':I} {B:Nat} {x y:Int} (h:DotAt w B x y) (k:X w.heap.size w w'):DotAt w' B x y :=
 ⟨(k.cell (p:=⟨B,0,none⟩) h.lt).trans h.k0,(k.cell (p:=⟨B,1,none⟩) h.lt).trans h.k1,nL h.lt k.size⟩
theorem DotAt.gr {w w':I} {B:Nat} {x y:Int} (h:DotAt w B x y) (k:Gr w w'):DotAt w' B x y:=h.below k.below
theorem DotAt.new {w:I} {x y:Int} (T:TypeId) {B:Nat} (f:w.heap.size=B):DotAt (w.alloc (U #[O V x,O V y] T)) B x y:=by
 subst f
 exact ⟨aa (gR _) rfl,aa (gR _) rfl,by simp⟩

theorem CtxAt.set {w:I} {B:Nat} {d:Ctx} {D:Option Z} {g:Nat} (h:CtxAt w B d D g) {c:Ctx} {A:Option Z} {cap:Nat} (C:Row w A c.l) (f:∀a,A=some a->a.block≠B) :
  CtxAt (((((w.setCell ⟨B,0,none⟩ (O V c.c0)).setCell ⟨B,1,none⟩ (O V c.c1)).setCell ⟨B,2,none⟩ (O V c.c2)).setCell ⟨B,3,none⟩ (O V c.c3)).setCell ⟨B,4,none⟩ (Y A c.l.length cap)) B c A cap:=by
 have j:=h.k0
 have k:=h.k1
 have n:=h.k2
 have r:=h.k3
 have u:=h.k4
 refine ⟨?_,?_,?_,?_,?_,by simpa[World.setCell] using h.lt,((((C.setCell _ f).setCell _ f).setCell _ f).setCell _ f).setCell _ f⟩
 ·exact ab (ab (ab (ab (ab j))))
 ·exact ab (ab (ab (ab (ab k))))
 ·exact ab (ab (ab (ab (ab n))))
 ·exact ab (ab (ab (ab (ab r))))
 ·exact ab (ab (ab (ab (ab u))))

theorem DotAt.set {w:I} {B:Nat} {x y f g:Int} (h:DotAt w B x y):DotAt ((w.setCell ⟨B,0,none⟩ (O V f)).setCell ⟨B,1,none⟩ (O V g)) B f g:=by
 refine ⟨?_,?_,by simpa[World.setCell] using h.lt⟩
 ·exact ab (ab h.k0)
 ·exact ab (ab h.k1)

theorem CtxAt.other {w:I} {B:Nat} {c:Ctx} {A:Option Z} {cap:Nat} (h:CtxAt w B c A cap) {g j:Nat} (u:J) (n:B≠g) (k:∀a,A=some a->c.l≠[]->a.block≠g):CtxAt (w.setCell ⟨g,j,none⟩ u) B c A cap:=by
 have f:∀i,(w.setCell ⟨g,j,none⟩ u).cell? ⟨B,i,none⟩=w.cell? ⟨B,i,none⟩:=fun i=>World.cell?_setCell_other _ _ _ _ (by intro e;injection e with e1;exact n e1.symm)
 exact ⟨(f 0).trans h.k0,(f 1).trans h.k1,(f 2).trans h.k2,(f 3).trans h.k3,(f 4).trans h.k4,by simpa[World.setCell] using h.lt,h.row.setCell0 _ k⟩
theorem DotAt.other {w:I} {B:Nat} {x y:Int} (h:DotAt w B x y) {f j:Nat} (u:J) (k:B≠f):DotAt (w.setCell ⟨f,j,none⟩ u) B x y:=by
 have g:∀i,(w.setCell ⟨f,j,none⟩ u).cell? ⟨B,i,none⟩=w.cell? ⟨B,i,none⟩:=fun i=>World.cell?_setCell_other _ _ _ _ (by intro e;injection e with e1;exact k e1.symm)
 exact ⟨(g 0).trans h.k0,(g 1).trans h.k1,by simpa[World.setCell] using h.lt⟩

theorem CtxAt.other5 {w:I} {B:Nat} {c:Ctx} {A:Option Z} {cap:Nat} (h:CtxAt w B c A cap) {f:Nat} (u0 u1 u2 u3 u4:J) (j:B≠f) (g:∀a,A=some a->c.l≠[]->a.block≠f) :
  CtxAt (((((w.setCell ⟨f,0,none⟩ u0).setCell ⟨f,1,none⟩ u1).setCell ⟨f,2,none⟩ u2).setCell ⟨f,3,none⟩ u3).setCell ⟨f,4,none⟩ u4) B c A cap :=
 ((((h.other u0 j g).other u1 j g).other u2 j g).other u3 j g).other u4 j g
theorem DotAt.other5 {w:I} {B:Nat} {x y:Int} (h:DotAt w B x y) {f:Nat} (u0 u1 u2 u3 u4:J) (g:B≠f) :
  DotAt (((((w.setCell ⟨f,0,none⟩ u0).setCell ⟨f,1,none⟩ u1).setCell ⟨f,2,none⟩ u2).setCell ⟨f,3,none⟩ u3).setCell ⟨f,4,none⟩ u4) B x y :=
 ((((h.other u0 g).other u1 g).other u2 g).other u3 g).other u4 g
theorem aZ {B:Nat} {a w:I} (h:X B a w) {f:Nat} (g:B<=f) (u0 u1 u2 u3 u4:J):X B a (((((w.setCell ⟨f,0,none⟩ u0).setCell ⟨f,1,none⟩ u1).setCell ⟨f,2,none⟩ u2).setCell ⟨f,3,none⟩ u3).setCell ⟨f,4,none⟩ u4) :=
 ((((h.setCell g u0).setCell g u1).setCell g u2).setCell g u3).setCell g u4

structure ZAt (w:I) (B:Nat):Prop where
 k0:w.cell? ⟨B,0,none⟩=some (O V 0)
 k1:w.cell? ⟨B,1,none⟩=some (O V 0)
 k2:w.cell? ⟨B,2,none⟩=some (O V 0)
 k3:w.cell? ⟨B,3,none⟩=some (O V 0)
 k4:w.cell? ⟨B,4,none⟩=some (Y none 0 0)
 fz:∀j,w.frozen? ⟨B,j,none⟩=false
 lt:B<w.heap.size
theorem ZAt.new (W:I) (T:TypeId) {B:Nat} (f:W.heap.size=B):ZAt (W.alloc (U #[O V 0,O V 0,O V 0,O V 0,Y none 0 0] T)) B:=by
 subst f
 exact ⟨aa (gR _) rfl,aa (gR _) rfl,aa (gR _) rfl,aa (gR _) rfl,aa (gR _) rfl,fun j=>f9 (gR _) j,by simp⟩
theorem ZAt.below {w w':I} {B:Nat} (h:ZAt w B) (k:X w.heap.size w w'):ZAt w' B :=
 ⟨(k.cell (p:=⟨B,0,none⟩) h.lt).trans h.k0,(k.cell (p:=⟨B,1,none⟩) h.lt).trans h.k1,(k.cell (p:=⟨B,2,none⟩) h.lt).trans h.k2,(k.cell (p:=⟨B,3,none⟩) h.lt).trans h.k3,(k.cell (p:=⟨B,4,none⟩) h.lt).trans h.k4,fun j=>(k.frozen (p:=⟨B,j,none⟩) h.lt).trans (h.fz j),nL h.lt k.size⟩
theorem ZAt.ctx {w:I} {B:Nat} (h:ZAt w B):CtxAt w B ⟨0,0,0,0,[]⟩ none 0:=⟨h.k0,h.k1,h.k2,h.k3,h.k4,h.lt,oL rfl⟩
theorem ZAt.other5 {w:I} {B:Nat} (h:ZAt w B) {f:Nat} (u0 u1 u2 u3 u4:J) (k:B≠f) :
  ZAt (((((w.setCell ⟨f,0,none⟩ u0).setCell ⟨f,1,none⟩ u1).setCell ⟨f,2,none⟩ u2).setCell ⟨f,3,none⟩ u3).setCell ⟨f,4,none⟩ u4) B:=by
 have g:=h.ctx.other5 u0 u1 u2 u3 u4 k (fun a n=>by cases n)
 exact ⟨g.k0,g.k1,g.k2,g.k3,g.k4,fun j=>by simp only[World.frozen?_setCell];exact h.fz j,g.lt⟩


abbrev Cel:=(Int×Int)×Int×Int×Int
def iE (x:Cel):List J:=[O V x.1.1,O V x.1.2,O V x.2.1,O V x.2.2.1,O V x.2.2.2]
theorem dQ (x:Cel):(iE x).length=5:=rfl
theorem mV (x:Cel):∀u∈iE x,u.oneCell'=true:=by
 intro u f
 simp[iE] at f
 rcases f with rfl|rfl|rfl|rfl|rfl<;>rfl

structure Tab where
 c:Ctx
 e:List Cel

abbrev bF (w:I) (A:Option Z) (l:List Cel):Prop:=az iE 5 w A l

theorem bF.get {w:I} {A:Option Z} {l:List Cel} (h:bF w A l) {k:Nat} (C:k<l.length):∃b f,A=some ⟨b,f,none⟩/\b<w.heap.size/\∀j (h:j<l.length),
  w.cell? ⟨b,f+j*5,none⟩=some (O V l[j].1.1)/\w.cell? ⟨b,f+j*5+1,none⟩=some (O V l[j].1.2)/\w.cell? ⟨b,f+j*5+2,none⟩=some (O V l[j].2.1)/\w.cell? ⟨b,f+j*5+3,none⟩=some (O V l[j].2.2.1)/\w.cell? ⟨b,f+j*5+4,none⟩=some (O V l[j].2.2.2):=by
 obtain ⟨b,f,r,u,g⟩:=h.at C
 exact ⟨b,f,r,u,fun j n=>⟨g j n 0 (by omega),g j n 1 (by omega),g j n 2 (by omega),g j n 3 (by omega),g j n 4 (by omega)⟩⟩

def aX (k c v:Int):Bool:=inB k 0 49 && inB c 0 2 && inB v (-1000) 1000
def eG (t:Tab) (k:Nat):Bool :=
 ai t.c (t.e.getD k ((0,0),0,0,0)).1 && aX (t.e.getD k ((0,0),0,0,0)).2.1 (t.e.getD k ((0,0),0,0,0)).2.2.1 (t.e.getD k ((0,0),0,0,0)).2.2.2 && (k==0 || br (t.e.getD (k-1) ((0,0),0,0,0)).1 (t.e.getD k ((0,0),0,0,0)).1)

def aw (t:Tab):Int:=if aN t.c≠0 then aN t.c else if 400<t.e.length then 2 else if (List.range t.e.length).all (eG t) then 0 else 5

theorem zq {t:Tab} (h:aN t.c≠0):aw t=aN t.c:=by simp[aw,h]
theorem tN {t:Tab} (h:aN t.c=0) (f:400<t.e.length):aw t=2:=by simp[aw,h,f]
theorem lm {t:Tab} (h:aN t.c=0) (r:t.e.length<=400) {k:Nat} (n:k<t.e.length) (j:eG t k=false):aw t=5:=by
 have f:¬ 400<t.e.length:=by omega
 have g:(List.range t.e.length).all (eG t)=false:=by
  rw[List.all_eq_false]
  exact ⟨k,by simpa using n,by simp[j]⟩
 simp[aw,h,f,g]
theorem vn {t:Tab} (h:aN t.c=0) (r:t.e.length<=400) (j:∀k,k<t.e.length->eG t k=true):aw t=0:=by
 have f:¬ 400<t.e.length:=by omega
 have g:(List.range t.e.length).all (eG t)=true:=by
  rw[List.all_eq_true]
  intro k n
  exact j k (by simpa using n)
 simp[aw,h,f,g]
theorem aj {t:Tab} (h:aw t=0):aN t.c=0/\t.e.length<=400/\∀k,k<t.e.length->eG t k=true:=by
 unfold aw at h
 by_cases f:aN t.c=0
 ·by_cases j:400<t.e.length
  ·simp[f,j] at h
  ·by_cases g:(List.range t.e.length).all (eG t)=true
   ·refine ⟨f,by omega,fun k n=> ?_⟩
    rw[List.all_eq_true] at g
    exact g k (by simpa using n)
   ·simp[f,j,g] at h
 ·simp[f] at h

theorem ie {t:Tab} (h:0<t.e.length) {x:Cel} (f:t.e[0]=x):eG t 0=(ai t.c x.1 && aX x.2.1 x.2.2.1 x.2.2.2):=by
 subst f
 simp[eG,h]
theorem eT {t:Tab} {m:Nat} (h:m+1<t.e.length) {x y:Cel} (g:t.e[m+1]=x) (j:t.e[m]=y):eG t (m+1)=(ai t.c x.1 && aX x.2.1 x.2.2.1 x.2.2.2 && br y.1 x.1):=by
 subst g j
 have f:m<t.e.length:=by omega
 simp[eG,h,f]

structure TabAt (w:I) (B:Nat) (t:Tab) (A:Option Z) (ca:Nat) (D:Option Z) (cd:Nat):Prop where
 k0:w.cell? ⟨B,0,none⟩=some (O V t.c.c0)
 k1:w.cell? ⟨B,1,none⟩=some (O V t.c.c1)
 k2:w.cell? ⟨B,2,none⟩=some (O V t.c.c2)
 k3:w.cell? ⟨B,3,none⟩=some (O V t.c.c3)
 k4:w.cell? ⟨B,4,none⟩=some (Y A t.c.l.length ca)
 k5:w.cell? ⟨B,5,none⟩=some (Y D t.e.length cd)
 lt:B<w.heap.size
 row:Row w A t.c.l
 rowC:bF w D t.e

theorem TabAt.belowB {w w':I} {B N:Nat} {t:Tab} {A:Option Z} {ca:Nat} {D:Option Z} {g:Nat} (h:TabAt w B t A ca D g) (k:X N w w') (f:B<N) (j:∀a,A=some a->t.c.l≠[]->a.block<N) (n:∀a,D=some a->t.e≠[]->a.block<N):TabAt w' B t A ca D g :=
 ⟨(k.cell (p:=⟨B,0,none⟩) f).trans h.k0,(k.cell (p:=⟨B,1,none⟩) f).trans h.k1,(k.cell (p:=⟨B,2,none⟩) f).trans h.k2,(k.cell (p:=⟨B,3,none⟩) f).trans h.k3,(k.cell (p:=⟨B,4,none⟩) f).trans h.k4,(k.cell (p:=⟨B,5,none⟩) f).trans h.k5,nL h.lt k.size,h.row.belowB j k,h.rowC.belowB n k⟩
theorem TabAt.below {w w':I} {B:Nat} {t:Tab} {A:Option Z} {ca:Nat} {D:Option Z} {f:Nat} (h:TabAt w B t A ca D f) (k:X w.heap.size w w'):TabAt w' B t A ca D f:=h.belowB k h.lt h.row.lt h.rowC.lt
theorem TabAt.gr {w w':I} {B:Nat} {t:Tab} {A:Option Z} {ca:Nat} {D:Option Z} {f:Nat} (h:TabAt w B t A ca D f) (k:Gr w w'):TabAt w' B t A ca D f:=h.below k.below
theorem TabAt.new {w:I} {t:Tab} {A:Option Z} {ca:Nat} {D:Option Z} {f:Nat} (T:TypeId) (k:Row w A t.c.l) (j:bF w D t.e) {B:Nat} (h:B=w.heap.size):TabAt (w.alloc (U #[O V t.c.c0,O V t.c.c1,O V t.c.c2,O V t.c.c3,Y A t.c.l.length ca,Y D t.e.length f] T)) B t A ca D f:=by
 subst h
 have g:Gr w (w.alloc (U #[O V t.c.c0,O V t.c.c1,O V t.c.c2,O V t.c.c3,Y A t.c.l.length ca,Y D t.e.length f] T)):=(gR w).alloc _
 exact ⟨aa (gR _) rfl,aa (gR _) rfl,aa (gR _) rfl,aa (gR _) rfl,aa (gR _) rfl,aa (gR _) rfl,by simp,k.gr g,j.gr g⟩

structure CelAt (w:I) (B:Nat) (x:Cel):Prop where
 k0:w.cell? ⟨B,0,none⟩=some (O V x.1.1)
 k1:w.cell? ⟨B,1,none⟩=some (O V x.1.2)
 k2:w.cell? ⟨B,2,none⟩=some (O V x.2.1)
 k3:w.cell? ⟨B,3,none⟩=some (O V x.2.2.1)
 k4:w.cell? ⟨B,4,none⟩=some (O V x.2.2.2)
 lt:B<w.heap.size
theorem CelAt.belowB {w w':I} {B N:Nat} {x:Cel} (h:CelAt w B x) (k:X N w w') (f:B<N):CelAt w' B x :=
 ⟨(k.cell (p:=⟨B,0,none⟩) f).trans h.k0,(k.cell (p:=⟨B,1,none⟩) f).trans h.k1,(k.cell (p:=⟨B,2,none⟩) f).trans h.k2,(k.cell (p:=⟨B,3,none⟩) f).trans h.k3,(k.cell (p:=⟨B,4,none⟩) f).trans h.k4,nL h.lt k.size⟩
theorem CelAt.below {w w':I} {B:Nat} {x:Cel} (h:CelAt w B x) (k:X w.heap.size w w'):CelAt w' B x:=h.belowB k h.lt
theorem CelAt.gr {w w':I} {B:Nat} {x:Cel} (h:CelAt w B x) (k:Gr w w'):CelAt w' B x:=h.below k.below
theorem CelAt.new {w:I} (x:Cel) (T:TypeId) {B:Nat} (f:B=w.heap.size):CelAt (w.alloc (U #[O V x.1.1,O V x.1.2,O V x.2.1,O V x.2.2.1,O V x.2.2.2] T)) B x:=by
 subst f
 exact ⟨aa (gR _) rfl,aa (gR _) rfl,aa (gR _) rfl,aa (gR _) rfl,aa (gR _) rfl,by simp⟩

abbrev T6 (t:Tab) (A:Option Z) (a:Nat) (C:Option Z) (c:Nat):List J:=[O V t.c.c0,O V t.c.c1,O V t.c.c2,O V t.c.c3,Y A t.c.l.length a,Y C t.e.length c]
abbrev T2 (t:Tab) (A:Option Z) (a:Nat) (C:Option Z) (c:Nat) (s:Tab) (B:Option Z) (b:Nat) (D:Option Z) (d:Nat):List J:=[O V t.c.c0,O V t.c.c1,O V t.c.c2,O V t.c.c3,Y A t.c.l.length a,Y C t.e.length c,O V s.c.c0,O V s.c.c1,O V s.c.c2,O V s.c.c3,Y B s.c.l.length b,Y D s.e.length d]
abbrev Z6:List J:=[O V 0,O V 0,O V 0,O V 0,Y none 0 0,Y none 0 0]
abbrev Z2:List J:=[O V 0,O V 0,O V 0,O V 0,Y none 0 0,Y none 0 0,O V 0,O V 0,O V 0,O V 0,Y none 0 0,Y none 0 0]

theorem cZ (n:Int) (w:I) :
  ia H 151 #[O V n] w fun e w'=>e= M (ic (inB n 0 3))/\w'=w:=by
 by_cases f:0<=n
 ·by_cases g:n<4
  ·have e:inB n 0 3=true:=by simp[inB];omega
   rw[e];clear e
   go_enter Tryz.func151,Tryz.ntmps151
   go_wp2
   go_ret
   exact ⟨rfl,rfl⟩
  ·have e:inB n 0 3=false:=by simp[inB];omega
   rw[e];clear e
   go_enter Tryz.func151,Tryz.ntmps151
   go_wp2
   go_ret
   exact ⟨rfl,rfl⟩
 ·have e:inB n 0 3=false:=by simp[inB];omega
  rw[e];clear e
  go_enter Tryz.func151,Tryz.ntmps151
  go_wp2
  go_ret
  exact ⟨rfl,rfl⟩

theorem tJ (x:Int×Int) (w:I) :
  ia H 149 #[ib #[O V x.1,O V x.2]] w fun e w'=>e= M (ic (am x))/\Gr w w':=by
 obtain ⟨a,b⟩:=x
 cases f:inB a 0 3
 ·have e:am (a,b)=false:=by simp[am,f]
  rw[e];clear e
  go_enter Tryz.func149,Tryz.ntmps149
  go_wp2_with (go_at_call 151;refine (cZ _ _).mono ?_;rintro e w' ⟨rfl,rfl⟩;rw[f])
  go_ret
  exact ⟨rfl,(gR _).alloc _⟩
 ·by_cases h:1<=b
  ·by_cases g:b<=1099511627776
   ·have e:am (a,b)=true:=by unfold am;rw[f];simp[inB,h,g]
    rw[e];clear e
    go_enter Tryz.func149,Tryz.ntmps149
    go_wp2_with (go_at_call 151;refine (cZ _ _).mono ?_;rintro e w' ⟨rfl,rfl⟩;rw[f])
    go_ret
    exact ⟨rfl,(gR _).alloc _⟩
   ·have e:am (a,b)=false:=by unfold am;rw[f];simp[inB,g]
    rw[e];clear e
    have j:decide (b<=1099511627776)=false:=by simpa using g
    clear g
    go_enter Tryz.func149,Tryz.ntmps149
    go_wp2_with (go_at_call 151;refine (cZ _ _).mono ?_;rintro e w' ⟨rfl,rfl⟩;rw[f])
    go_ret
    exact ⟨rfl,(gR _).alloc _⟩
  ·have e:am (a,b)=false:=by unfold am;rw[f];simp[inB,h]
   rw[e];clear e
   go_enter Tryz.func149,Tryz.ntmps149
   go_wp2_with (go_at_call 151;refine (cZ _ _).mono ?_;rintro e w' ⟨rfl,rfl⟩;rw[f])
   go_ret
   exact ⟨rfl,(gR _).alloc _⟩

def aQ (x y:Int):Int:=if x<y then -1 else if y<x then 1 else 0
def eA (x y:Int×Int):Int:=if x.1<y.1 then -1 else if y.1<x.1 then 1 else aQ x.2 y.2

theorem jk (x y:Int) (w:I) :
  ia H 178 #[O V x,O V y] w fun e w'=>e= M (O V (aQ x y))/\w'=w:=by
 by_cases f:x<y
 ·have e:aQ x y= -1:=by simp[aQ,f]
  rw[e];clear e
  go_enter Tryz.func178,Tryz.ntmps178
  go_wp2
  go_ret
  exact ⟨rfl,rfl⟩
 ·by_cases g:y<x
  ·have e:aQ x y=1:=by simp[aQ,f,g]
   rw[e];clear e
   go_enter Tryz.func178,Tryz.ntmps178
   go_wp2
   go_ret
   exact ⟨rfl,rfl⟩
  ·have e:aQ x y=0:=by simp[aQ,f,g]
   rw[e];clear e
   go_enter Tryz.func178,Tryz.ntmps178
   go_wp2
   go_ret
   exact ⟨rfl,rfl⟩

theorem lE (x y:Int×Int) (w:I) :
  ia H 150 #[ib #[O V x.1,O V x.2],ib #[O V y.1,O V y.2]] w fun e w'=>e= M (O V (eA x y))/\Gr w w':=by
 obtain ⟨a,b⟩:=x
 obtain ⟨c,d⟩:=y
 by_cases f:a<c
 ·have e:eA (a,b) (c,d)= -1:=by simp[eA,f]
  have g:aQ a c= -1:=by simp[aQ,f]
  rw[e];clear e
  go_enter Tryz.func150,Tryz.ntmps150
  go_wp2_with (go_at_call 178;refine (jk _ _ _).mono ?_;rintro e w' ⟨rfl,rfl⟩;rw[g])
  go_ret
  exact ⟨rfl,((gR _).alloc _).alloc _⟩
 ·by_cases h:c<a
  ·have e:eA (a,b) (c,d)=1:=by simp[eA,f,h]
   have g:aQ a c=1:=by simp[aQ,f,h]
   rw[e];clear e
   go_enter Tryz.func150,Tryz.ntmps150
   go_wp2_with (go_at_call 178;refine (jk _ _ _).mono ?_;rintro e w' ⟨rfl,rfl⟩;rw[g])
   go_ret
   exact ⟨rfl,((gR _).alloc _).alloc _⟩
  ·have e:eA (a,b) (c,d)=aQ b d:=by simp[eA,f,h]
   have g:aQ a c=0:=by simp[aQ,f,h]
   rw[e];clear e
   go_enter Tryz.func150,Tryz.ntmps150
   go_wp2_with fail
   refine (jk _ _ _).mono ?_
   rintro e w' ⟨rfl,rfl⟩
   rw[g]
   go_wp2_with fail
   refine (jk _ _ _).mono ?_
   rintro e w' ⟨rfl,rfl⟩
   go_wp2
   go_ret
   exact ⟨rfl,((gR _).alloc _).alloc _⟩

theorem iM {a b:Int} {r:Bool} (h:am (a,b)=r) (w:I):ia H 149 #[ib #[O V a,O V b]] w fun e w'=>e= M (ic r)/\∃q f,w'=grow (w.drewN q) f:=by
 rw[<-h];exact tJ (a,b) w
theorem vH {a b c d:Int} {r:Int} (h:eA (a,b) (c,d)=r) (w:I):ia H 150 #[ib #[O V a,O V b],ib #[O V c,O V d]] w fun e w'=>e= M (O V r)/\∃q f,w'=grow (w.drewN q) f:=by
 rw[<-h];exact lE (a,b) (c,d) w
theorem gt {n:Int} {r:Bool} (h:inB n 0 3=r) (w:I) :
  ia H 151 #[O V n] w fun e w'=>e= M (ic r)/\w'=w:=by
 rw[<-h];exact cZ n w
theorem iT {x y:Int×Int} (h:br x y=true):eA x y= -1:=by
 unfold br at h
 unfold eA aQ
 by_cases f:x.1<y.1
 ·simp[f]
 ·simp[f] at h
  have g:¬y.1<x.1:=by omega
  simp[h.2,f,g]
theorem iU {x y:Int×Int} (h:br x y=false):0<=eA x y:=by
 unfold br at h
 simp at h
 unfold eA aQ
 have f:¬x.1<y.1:=by omega
 by_cases g:y.1<x.1
 ·simp[f,g]
 ·have j:¬x.2<y.2:=by have:=h.2 (by omega);omega
  by_cases k:y.2<x.2<;>simp[f,g,j,k]

end Go.Proofs.YtjmmpnmgpgaagaaGreatDoor
