import Derived.Test.YtbkjgjjpnfhkhaaGreatDoorProg
import Derived.Deep.RegionHeld3
import Derived.Shelf.SlSortCmp.NoneTotal
import Derived.Shelf.SlGeneric
import Derived.Shelf.Sort.Plain
import Derived.Shelf.Slices.In.SortNone
import Derived.Shelf.Slices.CompactI
import Derived.Shelf.Slices.Equal
import Derived.KernelRfl
import Derived.RowKit
import GoSem.Claim
import GoSem.ClaimJoined
import GoSem.ClaimMapViews
import Derived.JoinedTies
import Derived.WalkKit
import Derived.WalkSpells
import Derived.WalkLawsBesides
import Derived.Shelf.SlSortCmp.QuietGrown
import Derived.BigQuiet
import Derived.BigRegion
import Derived.Laws.StructEq
import Derived.Shelf.SlicesE.Kit
import Derived.Deep.AppendLies
import Derived.Deep.RegionLaw
import Derived.Laws.AppendOwnNone
import Derived.Maps.AppendAt
set_option maxRecDepth 100000
set_option maxHeartbeats 8000000
open Go renaming World → I, Value → V, Addr → H
open Go.IntKind renaming i64 → O
open Go.Obj renaming cells → X
open Go.Proofs.Tryz renaming prog → J
open Go.Value renaming int → Z, slice → Y, agg → U
namespace Go.Proofs.YtbkjgjjpnfhkhaaGreatDoor

def Tks (P:Program) (md:Region.Mode) (ops:Array Oper) (Q:Exit->Act->I->Prop) (S:I->Prop):List Nat->Nat->Array Bool->Act->I->Prop
 | [],fuel,listed,a,w=>wpAnyH P md ops (NoPanic Q) S fuel listed a w
 | i::l,fuel,listed,a,w=>∃f oi v,fuel=f+1/\ops[i]? = some oi/\(Region.noSelect ops && Region.free md ops listed i && (Region.ready md ops listed).contains i)=true/\YieldsIf P ops S oi v a/\Tks P md ops Q S l f (listed.setIfInBounds i true) (a.put oi.dst v) w
section
variable {P:Program} {md:Region.Mode} {ops:Array Oper} {Q:Exit->Act->I->Prop} {S:I->Prop}
theorem tks:∀(l:List Nat) {fuel:Nat} {listed:Array Bool} {a:Act} {w:I},S w->Tks P md ops Q S l fuel listed a w->wpAnyH P md ops (NoPanic Q) S fuel listed a w
 | [],_,_,_,_,_,h=>h
 | i::l,_,_,_,_,hS,⟨f,oi,v,e,h1,h2,h3,h4⟩=>by subst e;simp only[Bool.and_eq_true] at h2;exact wpAnyH_take h1 h2.1.1 h2.1.2 h2.2 (fun _ _ _ h=>h) h3 hS (tks l hS h4)
theorem tk {i:Nat} {l:List Nat} {f:Nat} {c:Array Bool} {a:Act} {w:I} {d:Oper} {v:V} (g:ops[i]? = some d) (h:(Region.noSelect ops && Region.free md ops c i && (Region.ready md ops c).contains i)=true) (j:YieldsIf P ops S d v a) (k:Tks P md ops Q S l f (c.setIfInBounds i true) (a.put d.dst v) w):Tks P md ops Q S (i::l) (f+1) c a w :=
 ⟨f,d,v,rfl,g,h,j,k⟩
theorem isW {d:Nat} {c:Array Bool} {a:Act} {w:I} {Q:Exit->Act->I->Prop} (h:wpAnyH P md ops Q S d c a w):wpAnyH P md ops Q S d c a w:=h
theorem isR {d:Nat} {c:Array Bool} {a:Act} {w:I} {rs:List Nat} {Q:Exit->Act->I->Prop} (h:AllReadyH P md ops Q S d c a w rs):AllReadyH P md ops Q S d c a w rs:=h
theorem tkk (i:Nat) (l:List Nat) {f:Nat} {c:Array Bool} {a:Act} {w:I} {d:Oper} {v:V} (m:S w) (g:ops[i]? = some d) (h:(Region.noSelect ops && Region.free md ops c i && (Region.ready md ops c).contains i)=true) (j:YieldsIf P ops S d v a) (k:Tks P md ops Q S l f (c.setIfInBounds i true) (a.put d.dst v) w):wpAnyH P md ops (NoPanic Q) S (f+1) c a w :=
 tks (i::l) m (tk g h j k)
theorem rdc {d:Nat} {c:Array Bool} {a:Act} {w:I} {i:Nat} {o:Oper} {rs:List Nat} {Q:Exit->Act->I->Prop} (g:ops[i]? = some o) (j:AllReadyH P md ops Q S d c a w rs)
  (h:∀f:Act->I->Prop,Shut (∀a w,S w->(S w->wpAnyH P md ops Q S d (c.setIfInBounds i true) a w)->f a w)->if Region.wanted o (yielded ops a.tmps)=true then Oper.wp P o a w f Q else f (a.put o.dst undef) w):AllReadyH P md ops Q S d c a w (i::rs):=AllReadyH.cons g h j
theorem rdy (i:Nat) {d:Nat} {c:Array Bool} {a:Act} {w:I} {o:Oper} {Q:Exit->Act->I->Prop} (j:Region.ready md ops c=[i]) (g:ops[i]? = some o)
  (h:∀f:Act->I->Prop,Shut (∀a w,S w->(S w->wpAnyH P md ops Q S d (c.setIfInBounds i true) a w)->f a w)->if Region.wanted o (yielded ops a.tmps)=true then Oper.wp P o a w f Q else f (a.put o.dst undef) w):wpAnyH P md ops Q S (d+1) c a w:=wpAnyH_ready j (by simp) (AllReadyH.cons g h AllReadyH.nil)
theorem tk0 {f:Nat} {c:Array Bool} {a:Act} {w:I} (h:wpAnyH P md ops (NoPanic Q) S f c a w):Tks P md ops Q S [] f c a w:=h
end
end Go.Proofs.YtbkjgjjpnfhkhaaGreatDoor

namespace Go.Proofs
open Go.Shelf
def Tryz.sortInt_ren:Go.Shelf.Ren:=⟨fun|189=>137|125=>95|257=>159|128=>126|129=>127|294=>184|295=>185|296=>186|297=>187|298=>188|299=>189|216=>190|300=>191|301=>192|328=>221|329=>145|330=>146|331=>222|332=>223|215=>158|343=>236|n=>n,fun|28=>99|3=>3|46=>149|0=>0|51=>173|53=>175|4=>4|183=>167|182=>166|131=>142|5=>5|9=>9|218=>189|222=>193|228=>211|229=>212|n=>n,fun|n=>n⟩
theorem Tryz.sortInt:Go.Proofs.Lays.n189 J Tryz.sortInt_ren:={
 mixed:=by kernel_rfl
 f125:=Tryz.func95.trans (congrArg some (by kernel_rfl))
 f128:=Tryz.func126.trans (congrArg some (by kernel_rfl))
 f129:=Tryz.func127.trans (congrArg some (by kernel_rfl))
 f189:=Tryz.func137.trans (congrArg some (by kernel_rfl))
 f215:=Tryz.func158.trans (congrArg some (by kernel_rfl))
 f216:=Tryz.func190.trans (congrArg some (by kernel_rfl))
 f257:=Tryz.func159.trans (congrArg some (by kernel_rfl))
 f294:=Tryz.func184.trans (congrArg some (by kernel_rfl))
 f295:=Tryz.func185.trans (congrArg some (by kernel_rfl))
 f296:=Tryz.func186.trans (congrArg some (by kernel_rfl))
 f297:=Tryz.func187.trans (congrArg some (by kernel_rfl))
 f298:=Tryz.func188.trans (congrArg some (by kernel_rfl))
 f299:=Tryz.func189.trans (congrArg some (by kernel_rfl))
 f300:=Tryz.func191.trans (congrArg some (by kernel_rfl))
 f301:=Tryz.func192.trans (congrArg some (by kernel_rfl))
 f328:=Tryz.func221.trans (congrArg some (by kernel_rfl))
 f329:=Tryz.func145.trans (congrArg some (by kernel_rfl))
 f330:=Tryz.func146.trans (congrArg some (by kernel_rfl))
 f331:=Tryz.func222.trans (congrArg some (by kernel_rfl))
 f332:=Tryz.func223.trans (congrArg some (by kernel_rfl))
 f343:=Tryz.func236.trans (congrArg some (by kernel_rfl))
 t0:=Tryz.underlying0
 a0:=Tryz.isAgg0
 z0:=Tryz.sizeOf0
 v0:=Tryz.zeroValue0
 t3:=Tryz.underlying3
 a3:=Tryz.isAgg3
 z3:=Tryz.sizeOf3
 v3:=Tryz.zeroValue3
 t4:=Tryz.underlying4
 a4:=Tryz.isAgg4
 z4:=Tryz.sizeOf4
 v4:=Tryz.zeroValue4
 t5:=Tryz.underlying5
 a5:=Tryz.isAgg5
 z5:=Tryz.sizeOf5
 v5:=Tryz.zeroValue5
 t9:=Tryz.underlying9
 a9:=Tryz.isAgg9
 z9:=Tryz.sizeOf9
 v9:=Tryz.zeroValue9
 t28:=Tryz.underlying99
 a28:=Tryz.isAgg99
 z28:=Tryz.sizeOf99
 v28:=Tryz.zeroValue99
 t46:=Tryz.underlying149
 a46:=Tryz.isAgg149
 z46:=Tryz.sizeOf149
 v46:=Tryz.zeroValue149
 t51:=Tryz.underlying173
 a51:=Tryz.isAgg173
 z51:=Tryz.sizeOf173
 v51:=Tryz.zeroValue173
 t53:=Tryz.underlying175
 a53:=Tryz.isAgg175
 z53:=Tryz.sizeOf175
 v53:=Tryz.zeroValue175
 t131:=Tryz.underlying142
 a131:=Tryz.isAgg142
 z131:=Tryz.sizeOf142
 v131:=Tryz.zeroValue142
 t182:=Tryz.underlying166
 a182:=Tryz.isAgg166
 z182:=Tryz.sizeOf166
 v182:=Tryz.zeroValue166
 t183:=Tryz.underlying167
 a183:=Tryz.isAgg167
 z183:=Tryz.sizeOf167
 v183:=Tryz.zeroValue167
 t218:=Tryz.underlying189
 a218:=Tryz.isAgg189
 z218:=Tryz.sizeOf189
 v218:=Tryz.zeroValue189
 t222:=Tryz.underlying193
 a222:=Tryz.isAgg193
 z222:=Tryz.sizeOf193
 v222:=Tryz.zeroValue193
 t228:=Tryz.underlying211
 a228:=Tryz.isAgg211
 z228:=Tryz.sizeOf211
 v228:=Tryz.zeroValue211
 t229:=Tryz.underlying212
 a229:=Tryz.isAgg212
 z229:=Tryz.sizeOf212
 v229:=Tryz.zeroValue212 }
def Tryz.compactInt_ren:Go.Shelf.Ren:=⟨fun|20=>157|n=>n,fun|22=>99|3=>3|4=>4|0=>0|n=>n,fun|n=>n⟩
theorem Tryz.compactInt:Go.Proofs.Lays2.n20 J Tryz.compactInt_ren:={
 mixed:=by kernel_rfl
 f20:=Tryz.func157.trans (congrArg some (by kernel_rfl))
 t0:=Tryz.underlying0
 a0:=Tryz.isAgg0
 z0:=Tryz.sizeOf0
 v0:=Tryz.zeroValue0
 t3:=Tryz.underlying3
 a3:=Tryz.isAgg3
 z3:=Tryz.sizeOf3
 v3:=Tryz.zeroValue3
 t4:=Tryz.underlying4
 a4:=Tryz.isAgg4
 z4:=Tryz.sizeOf4
 v4:=Tryz.zeroValue4
 t22:=Tryz.underlying99
 a22:=Tryz.isAgg99
 z22:=Tryz.sizeOf99
 v22:=Tryz.zeroValue99
 i3:=by kernel_rfl }
def Tryz.equalInt_ren:Go.Shelf.Ren:=⟨fun|111=>43|n=>n,fun|28=>99|3=>3|4=>4|0=>0|n=>n,fun|n=>n⟩
theorem Tryz.equalInt:Go.Proofs.Lays.n111 J Tryz.equalInt_ren:={
 mixed:=by kernel_rfl
 f111:=Tryz.func43.trans (congrArg some (by kernel_rfl))
 t0:=Tryz.underlying0
 a0:=Tryz.isAgg0
 z0:=Tryz.sizeOf0
 v0:=Tryz.zeroValue0
 t3:=Tryz.underlying3
 a3:=Tryz.isAgg3
 z3:=Tryz.sizeOf3
 v3:=Tryz.zeroValue3
 t4:=Tryz.underlying4
 a4:=Tryz.isAgg4
 z4:=Tryz.sizeOf4
 v4:=Tryz.zeroValue4
 t28:=Tryz.underlying99
 a28:=Tryz.isAgg99
 z28:=Tryz.sizeOf99
 v28:=Tryz.zeroValue99 }
def Tryz.sortCell_ren:Go.Shelf.Ren:=⟨fun|6=>56|15=>95|14=>94|28=>126|29=>127|20=>118|21=>119|22=>120|23=>121|24=>122|25=>123|26=>124|27=>125|46=>144|47=>145|48=>146|49=>147|50=>148|57=>171|n=>n,fun|22=>33|24=>91|25=>117|3=>3|39=>149|0=>0|53=>173|55=>175|4=>4|46=>167|45=>166|50=>142|5=>5|9=>9|66=>189|70=>193|76=>211|77=>212|n=>n,fun|n=>n⟩
theorem Tryz.sortCell:Go.Proofs.SlLaysF0.n6 J Tryz.sortCell_ren:={
 mixed:=by kernel_rfl
 f6:=⟨Tryz.f56.name,by decide,Tryz.func56.trans (congrArg some (by kernel_rfl))⟩
 f14:=⟨Tryz.f94.name,by decide,Tryz.func94.trans (congrArg some (by kernel_rfl))⟩
 f15:=Tryz.func95.trans (congrArg some (by kernel_rfl))
 f20:=⟨Tryz.f118.name,by decide,Tryz.func118.trans (congrArg some (by kernel_rfl))⟩
 f21:=⟨Tryz.f119.name,by decide,Tryz.func119.trans (congrArg some (by kernel_rfl))⟩
 f22:=⟨Tryz.f120.name,by decide,Tryz.func120.trans (congrArg some (by kernel_rfl))⟩
 f23:=⟨Tryz.f121.name,by decide,Tryz.func121.trans (congrArg some (by kernel_rfl))⟩
 f24:=⟨Tryz.f122.name,by decide,Tryz.func122.trans (congrArg some (by kernel_rfl))⟩
 f25:=⟨Tryz.f123.name,by decide,Tryz.func123.trans (congrArg some (by kernel_rfl))⟩
 f26:=⟨Tryz.f124.name,by decide,Tryz.func124.trans (congrArg some (by kernel_rfl))⟩
 f27:=⟨Tryz.f125.name,by decide,Tryz.func125.trans (congrArg some (by kernel_rfl))⟩
 f28:=Tryz.func126.trans (congrArg some (by kernel_rfl))
 f29:=Tryz.func127.trans (congrArg some (by kernel_rfl))
 f46:=⟨Tryz.f144.name,by decide,Tryz.func144.trans (congrArg some (by kernel_rfl))⟩
 f47:=Tryz.func145.trans (congrArg some (by kernel_rfl))
 f48:=Tryz.func146.trans (congrArg some (by kernel_rfl))
 f49:=⟨Tryz.f147.name,by decide,Tryz.func147.trans (congrArg some (by kernel_rfl))⟩
 f50:=⟨Tryz.f148.name,by decide,Tryz.func148.trans (congrArg some (by kernel_rfl))⟩
 f57:=⟨Tryz.f171.name,by decide,Tryz.func171.trans (congrArg some (by kernel_rfl))⟩
 t0:=Tryz.underlying0
 a0:=Tryz.isAgg0
 z0:=Tryz.sizeOf0
 v0:=Tryz.zeroValue0
 t3:=Tryz.underlying3
 a3:=Tryz.isAgg3
 z3:=Tryz.sizeOf3
 v3:=Tryz.zeroValue3
 t4:=Tryz.underlying4
 a4:=Tryz.isAgg4
 z4:=Tryz.sizeOf4
 v4:=Tryz.zeroValue4
 t5:=Tryz.underlying5
 a5:=Tryz.isAgg5
 z5:=Tryz.sizeOf5
 v5:=Tryz.zeroValue5
 t9:=Tryz.underlying9
 a9:=Tryz.isAgg9
 z9:=Tryz.sizeOf9
 v9:=Tryz.zeroValue9
 t22:=Tryz.underlying33
 a22:=Tryz.isAgg33
 z22:=Tryz.sizeOf33
 v22:=Tryz.zeroValue33
 t25:=Tryz.underlying117
 a25:=Tryz.isAgg117
 z25:=Tryz.sizeOf117
 v25:=Tryz.zeroValue117
 t39:=Tryz.underlying149
 a39:=Tryz.isAgg149
 z39:=Tryz.sizeOf149
 v39:=Tryz.zeroValue149
 t45:=Tryz.underlying166
 a45:=Tryz.isAgg166
 z45:=Tryz.sizeOf166
 v45:=Tryz.zeroValue166
 t46:=Tryz.underlying167
 a46:=Tryz.isAgg167
 z46:=Tryz.sizeOf167
 v46:=Tryz.zeroValue167
 t50:=Tryz.underlying142
 a50:=Tryz.isAgg142
 z50:=Tryz.sizeOf142
 v50:=Tryz.zeroValue142
 t53:=Tryz.underlying173
 a53:=Tryz.isAgg173
 z53:=Tryz.sizeOf173
 v53:=Tryz.zeroValue173
 t55:=Tryz.underlying175
 a55:=Tryz.isAgg175
 z55:=Tryz.sizeOf175
 v55:=Tryz.zeroValue175
 t66:=Tryz.underlying189
 a66:=Tryz.isAgg189
 z66:=Tryz.sizeOf189
 v66:=Tryz.zeroValue189
 t70:=Tryz.underlying193
 a70:=Tryz.isAgg193
 z70:=Tryz.sizeOf193
 v70:=Tryz.zeroValue193
 t76:=Tryz.underlying211
 a76:=Tryz.isAgg211
 z76:=Tryz.sizeOf211
 v76:=Tryz.zeroValue211
 t77:=Tryz.underlying212
 a77:=Tryz.isAgg212
 z77:=Tryz.sizeOf212
 v77:=Tryz.zeroValue212 }
end Go.Proofs

namespace Go.Proofs.YtbkjgjjpnfhkhaaGreatDoor
open Go.RowKit Go.Sort
theorem zA {α : Type} {c : List α} {i : Nat} : c.toArray[i]? = c[i]? := by first | exact List.getElem?_toArray | exact List.getElem?_toArray _ _ _
theorem z0' {α : Type} {a : α} {l : List α} : (a :: l)[0]? = some a := by first | exact List.getElem?_cons_zero | exact List.getElem?_cons_zero _ _ _
theorem zS {α : Type} {a : α} {l : List α} {i : Nat} : (a :: l)[i + 1]? = l[i]? := by first | exact List.getElem?_cons_succ | exact List.getElem?_cons_succ _ _ _
theorem yA {α : Type} {l : List α} {i : Nat} {a : α} : l.toArray.setIfInBounds i a = (l.set i a).toArray := by first | exact List.setIfInBounds_toArray | exact List.setIfInBounds_toArray _ _ _
theorem kh {α : Type} {a b : α} {l : List α} : (a :: l).set 0 b = b :: l := by first | exact List.set_cons_zero | exact List.set_cons_zero _ _ _
theorem yS {α : Type} {a b : α} {l : List α} {n : Nat} : (a :: l).set (n + 1) b = a :: l.set n b := by first | exact List.set_cons_succ | exact List.set_cons_succ _ _ _
def inB (n lo hi:Int):Bool:=decide (lo<=n) && decide (n<=hi)
def ai (x:Int×Int):Bool:=inB x.1 0 3 && inB x.2 1 1099511627776
def bj (x y:Int×Int):Bool:=decide (x.1<y.1) || (decide (x.1=y.1) && decide (x.2<y.2))

def Gr (w w':I):Prop:=∃q os,w'=grow (w.drewN q) os

theorem Gr.refl (w:I):Gr w w:=⟨0,#[],by simp[World.drewN]⟩
theorem Gr.trans {a b c:I} (h:Gr a b) (k:Gr b c):Gr a c:=by obtain ⟨q,f,rfl⟩:=h;obtain ⟨g,d,rfl⟩:=k;exact ⟨q+g,f++d,by show grow (grow ((a.drewN q).drewN g) f) d=_;rw[grow_grow,World.drewN_drewN]⟩
theorem Gr.alloc {a b:I} (h:Gr a b) (o:Obj):Gr a (b.alloc o):=h.trans ⟨0,#[o],by rw[alloc_eq_grow];rfl⟩
theorem Gr.drew {a b:I} (h:Gr a b):Gr a b.drew:=h.trans ⟨1,#[],by rw[grow_empty];rfl⟩
theorem Gr.below {a b:I} (h:Gr a b):Below a.heap.size a b:=by obtain ⟨q,d,rfl⟩:=h;refine ⟨rfl,rfl,rfl,by simp[grow,World.drewN],fun k c=> ?_⟩;show (a.heap++d)[k]? = _;rw[Array.getElem?_append_left c]
theorem Gr.cell {a b:I} (h:Gr a b) {p:H} (c:p.block<a.heap.size):b.cell? p=a.cell? p:=h.below.cell c

theorem Gr.size {a b:I} (h:Gr a b):a.heap.size<=b.heap.size:=h.below.size

theorem Gr.drawn {a b:I} (h:Gr a b):a.drawn<=b.drawn:=by obtain ⟨q,c,rfl⟩:=h;show a.drawn<=a.drawn+q;omega
theorem Gr.of {a b:I} (h:Below a.heap.size a b) (k:a.drawn<=b.drawn):Gr a b:=by
 refine ⟨b.drawn-a.drawn,b.heap.extract a.heap.size b.heap.size,?_⟩;have g:b.heap=a.heap++b.heap.extract a.heap.size b.heap.size:=by
  apply Array.ext_getElem?;intro i;by_cases hi:i<a.heap.size
  ·rw[Array.getElem?_append_left hi];exact h.block i hi
  ·rw[Array.getElem?_append_right (by omega),Array.getElem?_extract];have e:a.heap.size+(i-a.heap.size)=i:=by omega
   by_cases R:i<b.heap.size
   ·rw[if_pos (by omega),e]
   ·rw[if_neg (by omega)];exact Array.getElem?_eq_none (by omega)
 obtain ⟨C,F,u,D,E⟩:=b;obtain ⟨m,j,l,n,r⟩:=a;have c:=h.os;have d:=h.tape;have f:=h.output;simp only at c d f g k;subst c d f;simp only[grow,World.drewN];rw[<-g];simp only[World.mk.injEq,true_and,and_true];omega
theorem Gr.setCell {a b:I} (h:Gr a b) {p:H} (c:a.heap.size<=p.block) (u:V):Gr a (b.setCell p u) :=
 Gr.of (h.below.setCell c u) h.drawn

structure Ctx where
 c0:Int
 c1:Int
 c2:Int
 c3:Int
 l:List (Int×Int)

def clk (c:Ctx) (n:Int):Int:=if n=0 then c.c0 else if n=1 then c.c1 else if n=2 then c.c2 else c.c3

def ax (c:Ctx) (x:Int×Int):Bool:=c.l.contains x || (inB x.1 0 3 && decide (1<=x.2) && decide (x.2<=clk c x.1))

def Row (w:I) (A:Option H) (l:List (Int×Int)):Prop :=
 l=[]\/∃b off,A=some ⟨b,off,none⟩/\b<w.heap.size/\∀j (h:j<l.length),w.cell? ⟨b,off+j*2,none⟩=some (Z O l[j].1)/\w.cell? ⟨b,off+j*2+1,none⟩=some (Z O l[j].2)

theorem Row.below {w w':I} {A:Option H} {l:List (Int×Int)} (h:Row w A l) (k:Below w.heap.size w w'):Row w' A l:=by
 rcases h with h|⟨b,off,hA,hb,hc⟩
 ·exact Or.inl h
 ·exact Or.inr ⟨b,off,hA,Nat.lt_of_lt_of_le hb k.size,fun j c=>⟨(k.cell (p:=⟨b,off+j*2,none⟩) hb).trans (hc j c).1,(k.cell (p:=⟨b,off+j*2+1,none⟩) hb).trans (hc j c).2⟩⟩

theorem Row.gr {w w':I} {A:Option H} {l:List (Int×Int)} (h:Row w A l) (k:Gr w w'):Row w' A l:=h.below k.below

theorem vh (a b c d:Int) (w:I):(binOp .eql 89 (U #[Z O a,Z O b]) (U #[Z O c,Z O d])).run J w= .ok (.bool (a==c && b==d)) w:=by
 have h:Tryz.prog.underlying 89=some (.struct (Tryz.prog.fieldsOf 89)):=by kernel_rfl
 have j:Tryz.prog.stoodInHeld 89=false:=by kernel_rfl
 rw[run_eql_struct,show (10000:Nat)=9999+1 from rfl,run_equalIn_agg w 9999 89 _ _ h j];simp only[Program.fieldsOf,Tryz.underlying89];go_simp;by_cases f:a=c<;>by_cases g:b=d<;>simp[f,g]

theorem wu (a b c d:Int) (w:I):(binOp .neq 89 (U #[Z O a,Z O b]) (U #[Z O c,Z O d])).run J w= .ok (.bool !(a==c && b==d)) w:=by
 have h:Tryz.prog.underlying 89=some (.struct (Tryz.prog.fieldsOf 89)):=by kernel_rfl
 have j:Tryz.prog.stoodInHeld 89=false:=by kernel_rfl
 rw[run_neq_struct,show (10000:Nat)=9999+1 from rfl,run_equalIn_agg w 9999 89 _ _ h j];simp only[Program.fieldsOf,Tryz.underlying89];go_simp;by_cases f:a=c<;>by_cases g:b=d<;>simp[f,g]

def lV (l:List (Int×Int)) (x:Int×Int):Bool:=l.contains x

def eqL (l m:List (Int×Int)):Bool:=decide (l=m)

theorem vy (f:BinOp) (p q:Operand) (a b c d:Int) (w:I):(eqGuard f 89 p q (U #[Z O a,Z O b]) (U #[Z O c,Z O d])).run J w= .ok () w :=
 run_eqGuard_agg w f 89 p q _ _ (by kernel_rfl)

theorem ab {w wr:I} {C1:Array V} {T1:TypeId} (h:Gr (w.alloc (X C1 T1)) wr) {j:Nat} {v:V} (c:C1[j]? = some v):wr.cell? ⟨w.heap.size,j,none⟩=some v:=by rw[h.cell (p:=⟨w.heap.size,j,none⟩) (by simp),World.cell?_alloc_mark w C1 T1 (0,0) j,c]

theorem jf {w wr:I} {C1 C2:Array V} {T1 T2:TypeId} (h:Gr ((w.alloc (X C1 T1)).alloc (X C2 T2)) wr) {j:Nat} {v:V} (c:C2[j]? = some v):wr.cell? ⟨w.heap.size+1,j,none⟩=some v:=by have:=ab (w:=w.alloc (X C1 T1)) h c;simpa using this

theorem dK {w wr:I} {c d:Obj} (h:Gr ((w.alloc c).alloc d) wr):Gr (w.alloc c) wr:=((Gr.refl _).alloc d).trans h

theorem br {w wr:I} {c:Obj} (h:Gr (w.alloc c) wr):Gr w wr:=((Gr.refl w).alloc c).trans h

theorem Gr.cellG {w W:I} (h:Gr w W) {a:H} {v:V} (c:a.block<w.heap.size) (d:w.cell? a=some v) (n:Nat) (os:Array Obj):(grow (W.drewN n) os).cell? a=some v :=
 cell_grown (Nat.lt_of_lt_of_le c h.size) ((h.cell c).trans d) n os

theorem cw {w wr:I} {C1:Array V} {T1:TypeId} (h:Gr (w.alloc (X C1 T1)) wr) {j:Nat} {v:V} (c:C1[j]? = some v) (n:Nat) (os:Array Obj):(grow (wr.drewN n) os).cell? ⟨w.heap.size,j,none⟩=some v :=
 cell_grown (Nat.lt_of_lt_of_le (show w.heap.size<(w.alloc (X C1 T1)).heap.size by simp) h.size) (ab h c) n os

theorem Row.at {w:I} {A:Option H} {l:List (Int×Int)} (h:Row w A l) {k:Nat} (d:k<l.length):∃b c,A=some ⟨b,c,none⟩/\b<w.heap.size/\∀j (h:j<l.length),w.cell? ⟨b,c+j*2,none⟩=some (Z O l[j].1)/\w.cell? ⟨b,c+j*2+1,none⟩=some (Z O l[j].2):=by
 rcases h with h0|h
 ·exact absurd d (by simp[h0])
 ·exact h

theorem dM {c:Ctx} {v:V} {a:Int} (f:0<=a) (g:a<4): #[Value.int O c.c0,Z O c.c1,Z O c.c2,Z O c.c3,v][a.toNat]? = some (Z O (clk c a)):=by
 have d:a=0\/a=1\/a=2\/a=3:=by omega
 rcases d with rfl|rfl|rfl|rfl<;>rfl

def fD (c:Ctx) (k:Nat):Bool:=ai (c.l.getD k (0,0)) && (k==0 || bj (c.l.getD (k-1) (0,0)) (c.l.getD k (0,0))) && decide (clk c (c.l.getD k (0,0)).1+2<=(c.l.getD k (0,0)).2)

def aW (c:Ctx):Bool:=inB c.c0 0 1099511627776 && inB c.c1 0 1099511627776 && inB c.c2 0 1099511627776 && inB c.c3 0 1099511627776

def aU (c:Ctx):Int:=if aW c=false then 1 else if 400<c.l.length then 2 else if (List.range c.l.length).all (fD c) then 0 else 5

theorem lC {c:Ctx} {a:Int} (f:0<=a) (d:a<4) (h:inB (clk c a) 0 1099511627776=false):aU c=1:=by
 have d:a=0\/a=1\/a=2\/a=3:=by omega
 have:aW c=false:=by unfold aW;rcases d with rfl|rfl|rfl|rfl<;>simp only[clk] at h<;>simp_all
 simp[aU,this]

theorem io {c:Ctx} (h:∀a:Int,0<=a->a<4->inB (clk c a) 0 1099511627776=true):aW c=true:=by have d:=h 0 (by omega) (by omega);have f:=h 1 (by omega) (by omega);have g:=h 2 (by omega) (by omega);have j:=h 3 (by omega) (by omega);simp only[clk] at d f g j;simp_all [aW]

theorem bF {c:Ctx} (h:aW c=true) (a:Int) (f:0<=a) (d:a<4):0<=clk c a/\clk c a<=1099511627776:=by
 have d:a=0\/a=1\/a=2\/a=3:=by omega
 simp[aW,inB] at h;rcases d with rfl|rfl|rfl|rfl<;>simp[clk]<;>omega

theorem lD {c:Ctx} (h:aW c=true) (d:400<c.l.length):aU c=2:=by simp[aU,h,d]
theorem eI {c:Ctx} (h:aW c=true) (j:c.l.length<=400) {k:Nat} (g:k<c.l.length) (f:fD c k=false):aU c=5:=by
 have:¬ 400<c.l.length:=by omega
 have d:(List.range c.l.length).all (fD c)=false:=by rw[List.all_eq_false];exact ⟨k,by simpa using g,by simp[f]⟩
 simp[aU,h,this,d]
theorem ow {c:Ctx} (h:aW c=true) (j:c.l.length<=400) (f:∀k,k<c.l.length->fD c k=true):aU c=0:=by
 have:¬ 400<c.l.length:=by omega
 have d:(List.range c.l.length).all (fD c)=true:=by rw[List.all_eq_true];intro k g;exact f k (by simpa using g)
 simp[aU,h,this,d]

theorem dR {c:Ctx} (h:0<c.l.length) {x:Int×Int} (d:c.l[0]=x):fD c 0=(ai x && decide (clk c x.1+2<=x.2)):=by subst d;simp[fD,h]
theorem cS {c:Ctx} {m:Nat} (h:m+1<c.l.length) {x y:Int×Int} (f:c.l[m+1]=x) (g:c.l[m]=y):fD c (m+1)=(ai x && bj y x && decide (clk c x.1+2<=x.2)):=by
 subst f g;have d:m<c.l.length:=by omega
 simp[fD,h,d]
theorem dr {x:Int×Int} (h:ai x=true):0<=x.1/\x.1<4/\1<=x.2/\x.2<=1099511627776:=by simp[ai,inB] at h;omega

theorem ee {w wr:I} {C1:Array V} {T1:TypeId} (h:Gr (w.alloc (X C1 T1)) wr) (j:Nat):wr.frozen? ⟨w.heap.size,j,none⟩=false:=by rw[h.below.frozen (p:=⟨w.heap.size,j,none⟩) (by simp)];simp
theorem lj {w wr:I} {c:Obj} {C2:Array V} {T2:TypeId} (h:Gr ((w.alloc c).alloc (X C2 T2)) wr) (j:Nat):wr.frozen? ⟨w.heap.size+1,j,none⟩=false:=by have:=ee (w:=w.alloc c) h j;simpa using this

def eA (c:Ctx) (n:Int) (l:List (Int×Int)):Int:=l.foldl (fun m x=>if x.1=n then max m x.2 else m) (clk c n)
theorem uq (c:Ctx) (n:Int) (l:List (Int×Int)) (x:Int×Int):eA c n (l++[x])=if x.1=n then max (eA c n l) x.2 else eA c n l:=by simp[eA,List.foldl_append]
theorem nY (c:Ctx) (n:Int) (k:Nat) (h:k<c.l.length) {x:Int×Int} (d:c.l[k]=x):eA c n (c.l.take (k+1))=if x.1=n then max (eA c n (c.l.take k)) x.2 else eA c n (c.l.take k):=by rw[List.take_succ_eq_append_getElem h,uq,d]
theorem oN (c:Ctx) (n:Int) (l:List (Int×Int)):clk c n<=eA c n l:=by
 unfold eA;suffices h:∀m,m<=l.foldl (fun m x=>if x.1=n then max m x.2 else m) m from h _
 induction l with
 | nil=>intro m;simp
 | cons x l ih =>intro m;simp only[List.foldl_cons];refine Int.le_trans ?_ (ih (if x.1=n then max m x.2 else m));split<;>omega

def dJ (c:Ctx) (n:Int):Int:=if 1099511627776<=eA c n c.l then 2 else 0
def dh (c:Ctx) (n:Int):Int×Int:=if 1099511627776<=eA c n c.l then (0,0) else (n,eA c n c.l+1)

def oX (l:List (Int×Int)):Bool:=l.any fun x=> !ai x

theorem xV {l:List (Int×Int)} {k:Nat} (h:k<l.length) {x:Int×Int} (d:l[k]=x) (c:ai x=false):oX l=true:=by simp only[oX,List.any_eq_true];exact ⟨l[k],List.getElem_mem h,by rw[d,c];rfl⟩
theorem oY {l:List (Int×Int)} (h:∀j (h:j<l.length),ai l[j]=true):oX l=false:=by simp only[oX,List.any_eq_false];intro x d;obtain ⟨j,c,rfl⟩:=List.getElem_of_mem d;rw[h j c];simp
theorem uH {l:List (Int×Int)} (h:oX l=false):∀x∈l,ai x=true:=by
 intro x d;simp only[oX,List.any_eq_false] at h;have:=h x d;cases c:ai x
 ·simp[c] at this
 ·rfl

abbrev cM:=@Calls.mono
abbrev nR:=@Nat.le_refl
abbrev nL:=@Nat.lt_of_lt_of_le
abbrev nT:=@Nat.le_trans
abbrev oL:=@Or.inl
abbrev oR:=@Or.inr
abbrev gM:=@List.getElem_mem
abbrev nZ:=@Nat.zero_le
abbrev mS:=@List.mem_cons_self
abbrev mC:=@List.mem_cons_of_mem
abbrev sI:=@Option.some.inj
abbrev gR:=@Gr.refl
abbrev bR:=@Below.refl
theorem ja0 {P:Program} {f:FuncId} {a:Array V} {w:I} {Q c:Ending->I->Prop} (h:Hid (Calls P f a w Q)) (k:∀e w',Q e w'->c e w'):Calls P f a w c:=Calls.mono (show Calls P f a w Q from h.out) k
abbrev ja7 (c:Ctx) (A:Option H) (n:Nat):Array V:=#[Z O c.c0,Z O c.c1,Z O c.c2,Z O c.c3,Y A c.l.length n]
theorem ja1 {p:Prop} (h:p):Hid p:=h
theorem ja2 {c d:Prop} (a:c) (b:d):Hid (c/\d):=⟨a,b⟩
theorem ja3 {d f g:Prop} (a:d) (b:f) (c:g):Hid (d/\f/\g):=⟨a,b,c⟩
theorem ja4 {f g h j:Prop} (a:f) (b:g) (c:h) (d:j):Hid (f/\g/\h/\j):=⟨a,b,c,d⟩
theorem ja5 {f g h j k:Prop} (a:f) (b:g) (c:h) (d:j) (e:k):Hid (f/\g/\h/\j/\k):=⟨a,b,c,d,e⟩
theorem ja6 {g h j k l m:Prop} (a:g) (b:h) (c:j) (d:k) (e:l) (f:m):Hid (g/\h/\j/\k/\l/\m):=⟨a,b,c,d,e,f⟩
theorem ja9 {p:Prop} (h:p):Hid p:=h
theorem jb0 {α:Type} (a:α):∃x,a=x:=⟨a,rfl⟩
abbrev jb1 (w:I) (B j:Nat) (v:V):Prop:=w.cell? ⟨B,j,none⟩=some v
abbrev jb2 (w v:I):Prop:=Below w.heap.size w v
abbrev _root_.Go.World.jb3 (w:I) (B j:Nat) (v:V):I:=w.setCell ⟨B,j,none⟩ v
abbrev jb4 (B j:Nat):Option H:=some ⟨B,j,none⟩
abbrev jb5 (B j:Nat):H:=⟨B,j,none⟩

theorem Tryz.info89:(Tryz.prog.info? 89).map (fun i=>(i.zero,i.size,i.bytes))=some (some (U #[Z O 0,Z O 0]),2,16):=by kernel_rfl

def gk (l:List (Int×Int)):List V:=l.flatMap fun x=>[Z O x.1,Z O x.2]

theorem km (l:List (Int×Int)):(gk l).length=l.length*2:=by
 induction l with
 | nil=>rfl
 | cons x l ih=>simp only[gk,List.flatMap_cons,List.length_append] at ih ⊢;rw[ih];simp;omega
theorem pB (l m:List (Int×Int)):gk (l++m)=gk l++gk m:=by simp[gk,List.flatMap_append]
theorem vt (u:V) (l:List (Int×Int)) (h:u∈gk l):u.oneCell'=true:=by simp only[gk,List.mem_flatMap] at h;obtain ⟨x,_,c⟩:=h;simp only[List.mem_cons,List.not_mem_nil,or_false] at c;rcases c with rfl|rfl<;>rfl
theorem lJ (l:List (Int×Int)):∀j (h:j<l.length),(gk l)[j*2]? = some (Z O l[j].1)/\(gk l)[j*2+1]? = some (Z O l[j].2):=by
 induction l with
 | nil=>intro j h;exact absurd h (Nat.not_lt_zero _)
 | cons x l ih =>
  intro j h
  have e:gk (x::l)= Z O x.1 :: Z O x.2::gk l:=rfl
  cases j with
  | zero=>rw[e];exact ⟨rfl,rfl⟩
  | succ j =>
   have:=ih j (by simpa using h)
   rw[e,show (j+1)*2=j*2+1+1 from by omega]
   simpa using this
theorem vr (l:List (Int×Int)) {j:Nat} {u:V} (h:(gk l)[j]? = some u):∃k,∃c:k<l.length,(j=k*2/\u= Z O l[k].1)\/(j=k*2+1/\u= Z O l[k].2):=by
 have d:j<(gk l).length:=(List.getElem?_eq_some_iff.1 h).1;rw[km] at d;have c:j / 2<l.length:=by omega
 refine ⟨j / 2,c,?_⟩;have:=lJ l (j / 2) c;by_cases f:j % 2=0
 ·left;have e:j / 2*2=j:=by omega
  rw[e,h] at this;exact ⟨e.symm,sI this.1⟩
 ·right;have e:j / 2*2+1=j:=by omega
  rw[e,h] at this;exact ⟨e.symm,sI this.2⟩

theorem Row.cells {w:I} {d:H} {l:List (Int×Int)} (h:Row w (some d) l):∀j u,(gk l)[j]? = some u->w.cell? (d.add j)=some u:=by
 intro j u g;obtain ⟨k,c,f⟩:=vr l g;rcases h with h0|⟨b,off,hA,_,hcs⟩
 ·subst h0;exact absurd c (Nat.not_lt_zero _)
 ·obtain rfl:=sI hA;rw[Addr.add_lit];rcases f with ⟨rfl,rfl⟩|⟨rfl,rfl⟩
  ·exact (hcs k c).1
  ·exact (hcs k c).2

def Own (w:I) (base:Nat) (v:V) (l:List (Int×Int)):Prop:=w.ownsRow base 89 2 v l.length (gk l)

theorem Own.nil (w:I) (c:Nat):Own w c (Y none 0 0) []:=World.ownsRow_nil w c _ _

theorem Own.row {w:I} {c:Nat} {v:V} {l:List (Int×Int)} (h:Own w c v l):∃A cap,v= Y A l.length cap/\(A=none->cap=0)/\Row w A l/\(∀a,A=some a->c<=a.block/\a.block<w.heap.size):=by
 rcases h.2 with ⟨f,u⟩|⟨g,cap,cur,f,hb,hg,_,_,_,_⟩
 ·refine ⟨none,0,?_,fun _=>rfl,oL (List.eq_nil_of_length_eq_zero u),fun a k=>by cases k⟩;rw[f,u]
 ·have d:g<w.heap.size:=(Array.getElem?_eq_some_iff.1 hg).1;refine ⟨some (jb5 g 0),cap,f,fun h=>(by cases h),oR ⟨g,0,rfl,d,fun j C=> ?_⟩,fun a k=>by cases k;exact ⟨hb,d⟩⟩;have r:=h.cells (g:=g) (by rw[f];rfl);have e:=lJ l j C;have m:=r _ _ e.1;have n:=r _ _ e.2;rw[Addr.add_lit] at m n;exact ⟨m,n⟩

theorem Own.full {w:I} {c:Nat} {v:V} {l:List (Int×Int)} (h:Own w c v l):∃A cap,v= Y A l.length cap/\(A=none->cap=0)/\Row w A l/\l.length<=cap/\(∀a,A=some a->c<=a.block/\a.block<w.heap.size/\v.ownBlock=some a.block/\a.spot=none):=by
 obtain ⟨A,cap,f,n,r,m⟩:=h.row;refine ⟨A,cap,f,n,r,?_,fun a d=>⟨(m a d).1,(m a d).2,by rw[f,d];rfl,?_⟩⟩
 ·rcases h.2 with ⟨j,k⟩|⟨g,cap',cur,hv',_,_,k,_⟩
  ·omega
  ·rw[f] at hv';injection hv' with _ _ h3;omega
 ·rcases h.2 with ⟨j,k⟩|⟨g,cap',cur,hv',_,_,k,_⟩
  ·rw[f,d] at j;injection j with h1;cases h1
  ·rw[f,d] at hv';injection hv' with h1;injection h1 with h1;rw[h1]

theorem Own.below {w w':I} {c:Nat} {v:V} {l:List (Int×Int)} (h:Own w c v l) (k:jb2 w w'):Own w' c v l :=
 h.kept (row:=none) ⟨k.os,k.tape,k.output,k.size,fun j d _=>k.block j d⟩ (by cases v.ownBlock<;>simp)
theorem Own.gr {w w':I} {c:Nat} {v:V} {l:List (Int×Int)} (h:Own w c v l) (k:Gr w w'):Own w' c v l:=h.below k.below
theorem Own.setCell {w:I} {c:Nat} {v:V} {l:List (Int×Int)} (h:Own w c v l) {a:H} (d:a.block<c) (u:V):Own (w.setCell a u) c v l:=ownsRow_setCell_below h d u
theorem Own.mono {w:I} {d c:Nat} {v:V} {l:List (Int×Int)} (h:Own w d v l) (f:c<=d):Own w c v l:=by
 refine ⟨h.1,?_⟩;rcases h.2 with h1|⟨g,cap,cur,hv,hg,rest⟩
 ·exact .inl h1
 ·exact .inr ⟨g,cap,cur,hv,by omega,rest⟩

theorem Own.grown_below {w w':I} {c:Nat} {v:V} {l:List (Int×Int)} (h:Own w c v l) (f:w.grownBy w' v.ownBlock) (d:c<=w.heap.size):Below c w w' :=
 (bR c w).grown f d fun k e=>(h.lt k e).1
theorem Row.belowB {w w':I} {A:Option H} {l:List (Int×Int)} {B:Nat} (h:Row w A l) (g:∀a,A=some a->l≠[]->a.block<B) (k:Below B w w'):Row w' A l:=by
 rcases h with h|⟨b,off,rfl,hb,hc⟩
 ·exact oL h
 ·by_cases d:l=[]
  ·exact oL d
  have c:=g _ rfl d;exact oR ⟨b,off,rfl,nL hb k.size,fun j f=>⟨(k.cell (p:=(jb5 b (off+j*2))) c).trans (hc j f).1,(k.cell (p:=(jb5 b (off+j*2+1))) c).trans (hc j f).2⟩⟩
theorem Row.lt {w:I} {A:Option H} {l:List (Int×Int)} (h:Row w A l):∀a,A=some a->l≠[]->a.block<w.heap.size:=by
 rcases h with h|⟨b,off,rfl,hb,_⟩
 ·intro a _ c;exact absurd h c
 ·intro a d _;cases d;exact hb

theorem kE (w:I) (r:TypeId) (c:Nat) (v:V) (l m:List (Int×Int)) (A:Option H) (cap:Nat) (d:Own w c v l) (C:Row w A m) (hA:A=none->cap=0)
  (hb:(l.length+m.length)*16<=140737488355328) (f:c<=w.heap.size) :
  ∃g w',(Builtin.append_ #[30,30] r #[v,Y A m.length cap]).run J w= .ok g w'/\Own w' c g (l++m)/\w.grownBy w' v.ownBlock/\(g.ownBlock=v.ownBlock\/g.ownBlock=some w.heap.size):=by
 obtain ⟨D,hi,j,k,n⟩:=info_parts Tryz.info89;cases A with
 | none =>
  obtain rfl:=hA rfl;have hm:m=[]:=by
   rcases C with h|⟨_,_,h,_⟩
   ·exact h
   ·cases h
  subst hm;have:=run_append_owned_none (P:=J) (w:=w) c 30 r 89 D 2 Tryz.underlying30 hi v l.length (gk l) d;exact ⟨v,w,this,by rw[List.append_nil];exact d,⟨rfl,rfl,rfl,nR _,fun _ _ _=>rfl⟩,oL rfl⟩
 | some ad =>obtain ⟨g,w',E,F,R,_,h5⟩:=run_append_own_at (P:=J) w c 30 r 89 D _ 2 16 Tryz.underlying30 hi j k n rfl (by omega) v l.length (gk l) d ad m.length cap (gk m) (km m) C.cells (fun u hu=>vt u m hu) (by unfold maxLen;omega) hb f;refine ⟨g,w',E,?_,R,h5⟩;show w'.ownsRow c _ 2 g (l++m).length (gk (l++m));rw[List.length_append,pB];exact F

theorem iy (w:I) {o:Oper} {a:Act} {K:Act->I->Prop} {Q:Exit->Act->I->Prop} (s x:Operand)
  (D:o.op= .call { callee:= .builtin .append,args:= #[s,x],argTypes:= #[30,30] })
  (c:Nat) (v:V) (l m:List (Int×Int)) (A:Option H) (cap:Nat) (E:a.eval s=v) (F:a.eval x= Y A m.length cap) (g:Own w c v l) (j:Row w A m) (u:A=none->cap=0)
  (C:(l.length+m.length)*16<=140737488355328) (d:c<=w.heap.size)
  (h:∀f w',Own w' c f (l++m)->w.grownBy w' v.ownBlock->(f.ownBlock=v.ownBlock\/f.ownBlock=some w.heap.size)->K (a.put o.dst f) w'):o.wp J a w K Q:=by obtain ⟨f,w',j,k,n,r⟩:=kE w o.type c v l m A cap g j u C d;unfold Oper.wp execOp;simp only[D,resolve,invoke,builtin,Sem.run_bind,Sem.run_pure,Result.andThen_ok,List.map_toArray,List.map_cons,List.map_nil,E,F,j];exact h f w' k n r

theorem al (w:I) {ops:Array Oper} {d:List Oper} {o:Oper} {a:Act} {Q:Exit->Act->I->Prop} (k:o.guard=none) (s x:Operand)
  (F:o.op= .call { callee:= .builtin .append,args:= #[s,x],argTypes:= #[30,30] })
  (c:Nat) (v:V) (l m:List (Int×Int)) (A:Option H) (cap:Nat) (hs:a.eval s=v) (hx:a.eval x= Y A m.length cap) (j:Own w c v l) (R:Row w A m) (C:A=none->cap=0)
  (E:(l.length+m.length)*16<=140737488355328) (f:c<=w.heap.size)
  (h:∀g w',Own w' c g (l++m)->w.grownBy w' v.ownBlock->(g.ownBlock=v.ownBlock\/g.ownBlock=some w.heap.size)->wpList J ops Q d (a.put o.dst g) w'):wpList J ops Q (o::d) a w :=
 wpList_plain k fun _ D=>iy w s x F c v l m A cap hs hx j R C E f fun g w' n r u=>D _ _ (h g w' n r u)

theorem cN (w:I) {ops:Array Oper} {o:Oper} {a:Act} {K:Act->I->Prop} {Q:Exit->Act->I->Prop} {E:Prop} (j:o.guard=none) (s x:Operand)
  (r:o.op= .call { callee:= .builtin .append,args:= #[s,x],argTypes:= #[30,30] })
  (c:Nat) (v:V) (l m:List (Int×Int)) (A:Option H) (cap:Nat) (C:a.eval s=v) (F:a.eval x= Y A m.length cap) (f:Own w c v l) (u:Row w A m) (k:A=none->cap=0)
  (n:(l.length+m.length)*16<=140737488355328) (d:c<=w.heap.size)
  (h:∀g w',Own w' c g (l++m)->w.grownBy w' v.ownBlock->(g.ownBlock=v.ownBlock\/g.ownBlock=some w.heap.size)->K (a.put o.dst g) w') :
  if Region.wanted o (yielded ops a.tmps)=true then Oper.wp J o a w K Q else E:=by
 have D:Region.wanted o (yielded ops a.tmps)=true:=by simp[Region.wanted,j]
 rw[if_pos D];exact iy w s x r c v l m A cap C F f u k n d h

theorem fP (w:I) {ops:Array Oper} {o:Oper} {a:Act} {K:Act->I->Prop} {Q:Exit->Act->I->Prop} {E:Prop} (j:o.guard=none) (s x:Operand)
  (F:o.op= .call { callee:= .builtin .append,args:= #[s,x],argTypes:= #[30,30] })
  (c:Nat) (v:V) (l m:List (Int×Int)) (n:Nat) (D:m.length=n) (A:Option H) (cap:Nat) (hs:a.eval s=v) (hx:a.eval x= Y A n cap) (f:Own w c v l) (R:Row w A m) (u:A=none->cap=0)
  (C:(l.length+m.length)*16<=140737488355328) (d:c<=w.heap.size)
  (h:∀g w',Own w' c g (l++m)->w.grownBy w' v.ownBlock->K (a.put o.dst g) w') :
  if Region.wanted o (yielded ops a.tmps)=true then Oper.wp J o a w K Q else E:=by subst D;exact cN w j s x F c v l m A cap hs hx f R u C d fun g w' k r _=>h g w' k r

theorem Row.drew {w:I} {A:Option H} {l:List (Int×Int)} (h:Row w A l):Row w.drew A l:=h
theorem Row.drewN {w:I} {A:Option H} {l:List (Int×Int)} (h:Row w A l) (n:Nat):Row (w.drewN n) A l:=h
theorem bB {w w':I} (c:w.grownBy w' (Value.slice none 0 0).ownBlock):jb2 w w':=(bR _ _).grown c (nR _) (fun k e=>by cases e)

theorem Row.take {w:I} {A:Option H} {l:List (Int×Int)} (h:Row w A l) (k:Nat):Row w A (l.take k):=by
 rcases h with h|⟨b,off,hA,hb,hc⟩
 ·exact oL (by rw[h];simp)
 ·exact oR ⟨b,off,hA,hb,fun j d=>by have c:j<l.length:=(by rw[List.length_take] at d;omega);rw[List.getElem_take];exact hc j c⟩
theorem Row.drop {w:I} {b c:Nat} {l:List (Int×Int)} (h:Row w (jb4 b c) l) (k:Nat):Row w (jb4 b (c+k*2)) (l.drop k):=by
 rcases h with h|⟨b',off',hA,hb,hc⟩
 ·exact oL (by rw[h];simp)
 ·obtain ⟨rfl,rfl⟩:b=b'/\c=off':=by injection hA with hA;injection hA with h1 h2;exact ⟨h1,h2⟩
  exact oR ⟨b,c+k*2,rfl,hb,fun j f=>by have d:k+j<l.length:=(by rw[List.length_drop] at f;omega);rw[List.getElem_drop];have:=hc (k+j) d;rw[show c+k*2+j*2=c+(k+j)*2 from by omega];exact this⟩


def bu {α : Type} (enc: α -> List V) (l:List α):List V:=l.flatMap enc

theorem cA {α : Type} {enc: α -> List V} {k:Nat} (c:∀x,(enc x).length=k) (l:List α):(bu enc l).length=l.length*k:=by
 induction l with
 | nil=>simp[bu]
 | cons x l ih =>
  simp only[bu,List.flatMap_cons,List.length_append,List.length_cons] at ih ⊢
  rw[ih,c,Nat.add_mul,Nat.one_mul,Nat.add_comm]
theorem cV {α : Type} (enc: α -> List V) (l m:List α):bu enc (l++m)=bu enc l++bu enc m:=by simp[bu,List.flatMap_append]
theorem ef {α : Type} {enc: α -> List V} (c:∀x,∀u∈enc x,u.oneCell'=true) (u:V) (l:List α) (h:u∈bu enc l):u.oneCell'=true:=by simp only[bu,List.mem_flatMap] at h;obtain ⟨x,_,d⟩:=h;exact c x u d
theorem np {α : Type} {enc: α -> List V} {k:Nat} (c:∀x,(enc x).length=k) (l:List α):∀j (h:j<l.length) i,i<k->(bu enc l)[j*k+i]? = (enc l[j])[i]? := by
 induction l with
 | nil=>intro j h;exact absurd h (Nat.not_lt_zero _)
 | cons x l ih =>
  intro j h i hi
  have e:bu enc (x::l)=enc x++bu enc l:=rfl
  rw[e]
  cases j with
  | zero=>rw[Nat.zero_mul,Nat.zero_add,List.getElem?_append_left (by rw[c];exact hi)];rfl
  | succ j =>
   rw[List.getElem?_append_right (by rw[c,Nat.add_mul];omega),c,show (j+1)*k+i-k=j*k+i from by rw[Nat.add_mul];omega]
   simpa using ih j (by simpa using h) i hi
theorem t8 {α : Type} {enc: α -> List V} {k:Nat} (g:∀x,(enc x).length=k) (d:0<k) (l:List α) {j:Nat} {u:V} (h:(bu enc l)[j]? = some u):∃m,∃c:m<l.length,∃i,i<k/\j=m*k+i/\(enc l[m])[i]? = some u:=by
 have f:j<(bu enc l).length:=(List.getElem?_eq_some_iff.1 h).1;rw[cA g] at f;have c:j / k<l.length:=Nat.div_lt_of_lt_mul (by rw[Nat.mul_comm];exact f);have e:j=j / k*k+j % k:=by rw[Nat.mul_comm];exact (Nat.div_add_mod j k).symm
 refine ⟨j / k,c,j % k,Nat.mod_lt _ d,e,?_⟩;rw[<-np g l (j / k) c (j % k) (Nat.mod_lt _ d),<-e];exact h

def aC {α : Type} (enc: α -> List V) (k:Nat) (w:I) (A:Option H) (l:List α):Prop :=
 l=[]\/∃b off,A=some ⟨b,off,none⟩/\b<w.heap.size/\∀j (h:j<l.length) i,i<k->w.cell? ⟨b,off+j*k+i,none⟩=(enc l[j])[i]?

theorem aC.belowB {α : Type} {enc: α -> List V} {k:Nat} {w w':I} {A:Option H} {l:List α} {B:Nat} (h:aC enc k w A l) (f:∀a,A=some a->l≠[]->a.block<B) (q:Below B w w'):aC enc k w' A l:=by
 rcases h with h|⟨b,off,rfl,hb,hc⟩
 ·exact oL h
 ·by_cases d:l=[]
  ·exact oL d
  have c:=f _ rfl d;exact oR ⟨b,off,rfl,nL hb q.size,fun j g i hi=>(q.cell (p:=(jb5 b (off+j*k+i))) c).trans (hc j g i hi)⟩
theorem aC.lt {α : Type} {enc: α -> List V} {k:Nat} {w:I} {A:Option H} {l:List α} (h:aC enc k w A l):∀a,A=some a->l≠[]->a.block<w.heap.size:=by
 rcases h with h|⟨b,off,rfl,hb,_⟩
 ·intro a _ c;exact absurd h c
 ·intro a d _;cases d;exact hb
theorem aC.below {α : Type} {enc: α -> List V} {k:Nat} {w w':I} {A:Option H} {l:List α} (h:aC enc k w A l) (q:jb2 w w'):aC enc k w' A l:=h.belowB h.lt q
theorem aC.gr {α : Type} {enc: α -> List V} {k:Nat} {w w':I} {A:Option H} {l:List α} (h:aC enc k w A l) (q:Gr w w'):aC enc k w' A l:=h.below q.below
theorem aC.at {α : Type} {enc: α -> List V} {k:Nat} {w:I} {A:Option H} {l:List α} (h:aC enc k w A l) {m:Nat} (d:m<l.length):∃b c,A=some (jb5 b c)/\b<w.heap.size/\∀j (h:j<l.length) i,i<k->w.cell? (jb5 b (c+j*k+i))=(enc l[j])[i]? := by
 rcases h with h0|h
 ·exact absurd d (by simp[h0])
 ·exact h
theorem aC.cells {α : Type} {enc: α -> List V} {k:Nat} (n:∀x,(enc x).length=k) (f:0<k) {w:I} {c:H} {l:List α} (h:aC enc k w (some c) l):∀j u,(bu enc l)[j]? = some u->w.cell? (c.add j)=some u:=by
 intro j u r;obtain ⟨m,d,i,hi,rfl,g⟩:=t8 n f l r;rcases h with h1|⟨b,off,hA,_,hcs⟩
 ·subst h1;exact absurd d (Nat.not_lt_zero _)
 ·obtain rfl:=sI hA;rw[Addr.add_lit];have:=hcs m d i hi;rw[g,show off+m*k+i=off+(m*k+i) from by omega] at this;exact this

def ae {α : Type} (enc: α -> List V) (k:Nat) (e:TypeId) (w:I) (base:Nat) (v:V) (l:List α):Prop:=w.ownsRow base e k v l.length (bu enc l)

theorem ae.nil {α : Type} (enc: α -> List V) (k:Nat) (e:TypeId) (w:I) (c:Nat):ae enc k e w c (Y none 0 0) []:=World.ownsRow_nil w c _ _

theorem ae.full {α : Type} {enc: α -> List V} {k:Nat} {e:TypeId} (C:∀x,(enc x).length=k) {w:I} {c:Nat} {v:V} {l:List α} (h:ae enc k e w c v l):∃A cap,v= Y A l.length cap/\(A=none->cap=0)/\aC enc k w A l/\l.length<=cap/\(∀a,A=some a->c<=a.block/\a.block<w.heap.size/\a.off=0/\a.spot=none)/\(∀a,A=some a->∀j,w.frozen? (jb5 a.block j)=false):=by
 rcases h.2 with ⟨m,D⟩|⟨g,cap,cur,m,hb,hg,hle,_,_,_⟩
 ·refine ⟨none,0,?_,fun _=>rfl,oL (List.eq_nil_of_length_eq_zero D),by omega,fun a d=>(by cases d),fun a d=>(by cases d)⟩;rw[m,D]
 ·have f:g<w.heap.size:=(Array.getElem?_eq_some_iff.1 hg).1;refine ⟨some (jb5 g 0),cap,m,fun h=>(by cases h),oR ⟨g,0,rfl,f,fun j F i hi=> ?_⟩,hle,fun a d=>(by cases d;exact ⟨hb,f,rfl,rfl⟩),fun a d j=> ?_⟩
  ·have E:=h.cells (g:=g) (by rw[m];rfl);have u:=np C l j F i hi;have n:i<(enc l[j]).length:=by rw[C];exact hi
   rw[List.getElem?_eq_getElem n] at u ⊢;have r:=E _ _ u;rw[Addr.add_lit] at r;rw[show 0+j*k+i=0+(j*k+i) from by omega];exact r
  ·cases d;exact World.ownsRow.frozenAt (by rw[<-m];exact h) (g:=g) (cap:=cap) j
theorem ae.row {α : Type} {enc: α -> List V} {k:Nat} {e:TypeId} (n:∀x,(enc x).length=k) {w:I} {c:Nat} {v:V} {l:List α} (h:ae enc k e w c v l):∃A cap,v= Y A l.length cap/\(A=none->cap=0)/\aC enc k w A l/\(∀a,A=some a->c<=a.block/\a.block<w.heap.size):=by obtain ⟨A,cap,g,j,m,_,d,_⟩:=ae.full n h;exact ⟨A,cap,g,j,m,fun a f=>⟨(d a f).1,(d a f).2.1⟩⟩

theorem ae.below {α : Type} {enc: α -> List V} {k:Nat} {e:TypeId} {w w':I} {c:Nat} {v:V} {l:List α} (h:ae enc k e w c v l) (q:jb2 w w'):ae enc k e w' c v l :=
 World.ownsRow.kept h (row:=none) ⟨q.os,q.tape,q.output,q.size,fun j d _=>q.block j d⟩ (by cases v.ownBlock<;>simp)
theorem ae.gr {α : Type} {enc: α -> List V} {k:Nat} {e:TypeId} {w w':I} {c:Nat} {v:V} {l:List α} (h:ae enc k e w c v l) (q:Gr w w'):ae enc k e w' c v l:=h.below q.below
theorem ae.mono {α : Type} {enc: α -> List V} {k:Nat} {e:TypeId} {w:I} {d c:Nat} {v:V} {l:List α} (h:ae enc k e w d v l) (f:c<=d):ae enc k e w c v l:=by
 refine ⟨h.1,?_⟩;rcases h.2 with h1|⟨g,cap,cur,hv,hg,rest⟩
 ·exact .inl h1
 ·exact .inr ⟨g,cap,cur,hv,by omega,rest⟩
theorem ae.grown_below {α : Type} {enc: α -> List V} {k:Nat} {e:TypeId} {w w':I} {c:Nat} {v:V} {l:List α} (h:ae enc k e w c v l) (g:w.grownBy w' v.ownBlock) (f:c<=w.heap.size):Below c w w' :=
 (bR c w).grown g f fun j d=>(World.ownsRow.lt h j d).1

theorem oJ {α : Type} {enc: α -> List V} {k:Nat} {e:TypeId} (hk:∀x,(enc x).length=k) (h1:∀x,∀u∈enc x,u.oneCell'=true) (R:0<k)
  (t:TypeId) (ht:Tryz.prog.underlying t=some (.slice e)) (z:V) (d:Nat) (hi:(Tryz.prog.info? e).map (fun i=>(i.zero,i.size,i.bytes))=some (some z,k,d)) (E:z.cells.size=k)
  (w:I) (F:TypeId) (c:Nat) (v:V) (l m:List α) (A:Option H) (cap:Nat) (f:ae enc k e w c v l) (hr:aC enc k w A m) (hA:A=none->cap=0)
  (n:l.length+m.length<=maxLen) (hb:(l.length+m.length)*d<=140737488355328) (g:c<=w.heap.size) :
  ∃j w',(Builtin.append_ #[t,t] F #[v,Y A m.length cap]).run J w= .ok j w'/\ae enc k e w' c j (l++m)/\w.grownBy w' v.ownBlock:=by
 obtain ⟨i0,hi,r,C,D⟩:=info_parts hi;cases A with
 | none =>
  obtain rfl:=hA rfl;have hm:m=[]:=by
   rcases hr with h|⟨_,_,h,_⟩
   ·exact h
   ·cases h
  subst hm;have:=run_append_owned_none (P:=J) (w:=w) c t F e i0 k ht hi v l.length (bu enc l) f;exact ⟨v,w,this,by rw[List.append_nil];exact f,⟨rfl,rfl,rfl,nR _,fun _ _ _=>rfl⟩⟩
 | some ad =>obtain ⟨j,w',g1,g2,g3,_,_⟩:=run_append_own_at (P:=J) w c t F e i0 z k d ht hi r C D E R v l.length (bu enc l) f ad m.length cap (bu enc m) (cA hk m) (hr.cells hk R) (fun u hu=>ef h1 u m hu) n hb g;refine ⟨j,w',g1,?_,g3⟩;show w'.ownsRow c _ k j (l++m).length (bu enc (l++m));rw[List.length_append,cV];exact g2

theorem dL {α : Type} {enc: α -> List V} {k:Nat} {e:TypeId} (hk:∀x,(enc x).length=k) (E:∀x,∀u∈enc x,u.oneCell'=true) (D:0<k)
  (t:TypeId) (ht:Tryz.prog.underlying t=some (.slice e)) (z:V) (c:Nat) (hi:(Tryz.prog.info? e).map (fun i=>(i.zero,i.size,i.bytes))=some (some z,k,c)) (C:z.cells.size=k)
  (w:I) {o:Oper} {a:Act} {K:Act->I->Prop} {Q:Exit->Act->I->Prop} (s x:Operand)
  (ho:o.op= .call { callee:= .builtin .append,args:= #[s,x],argTypes:= #[t,t] })
  (d:Nat) (v:V) (l m:List α) (A:Option H) (cap:Nat) (hs:a.eval s=v) (hx:a.eval x= Y A m.length cap) (g:ae enc k e w d v l) (r:aC enc k w A m) (hA:A=none->cap=0)
  (n:l.length+m.length<=maxLen) (hb:(l.length+m.length)*c<=140737488355328) (f:d<=w.heap.size)
  (h:∀j w',ae enc k e w' d j (l++m)->w.grownBy w' v.ownBlock->K (a.put o.dst j) w'):o.wp J a w K Q:=by obtain ⟨j,w',r,F,R⟩:=oJ hk E D t ht z c hi C w o.type d v l m A cap g r hA n hb f;unfold Oper.wp execOp;simp only[ho,resolve,invoke,builtin,Sem.run_bind,Sem.run_pure,Result.andThen_ok,List.map_toArray,List.map_cons,List.map_nil,hs,hx,r];exact h j w' F R

theorem aC.take {α : Type} {enc: α -> List V} {k:Nat} {w:I} {A:Option H} {l:List α} (h:aC enc k w A l) (m:Nat):aC enc k w A (l.take m):=by
 rcases h with h|⟨b,off,hA,hb,hc⟩
 ·exact oL (by rw[h];simp)
 ·exact oR ⟨b,off,hA,hb,fun j d i hi=>by have c:j<l.length:=(by rw[List.length_take] at d;omega);rw[List.getElem_take];exact hc j c i hi⟩


def setClk (c:Ctx) (n s:Int):Ctx:=if n=0 then { c with c0:=s } else if n=1 then { c with c1:=s } else if n=2 then { c with c2:=s } else { c with c3:=s }

theorem dX (c:Ctx) (n s:Int):(setClk c n s).l=c.l:=by
 unfold setClk;by_cases d:n=0
 ·simp[d]
 ·by_cases f:n=1
  ·simp[f]
  ·by_cases g:n=2
   ·simp[g]
   ·simp[d,f,g]
theorem dI (c:Ctx) (n s a:Int) (j:0<=n) (k:n<4) (g:0<=a) (h:a<4):clk (setClk c n s) a=if a=n then s else clk c a:=by
 have f:n=0\/n=1\/n=2\/n=3:=by omega
 have d:a=0\/a=1\/a=2\/a=3:=by omega
 rcases f with rfl|rfl|rfl|rfl<;>rcases d with rfl|rfl|rfl|rfl<;>simp[setClk,clk]

def CB (w:I) (B base:Nat) (c:Ctx):Prop:=∃v,w.cell? ⟨B,0,none⟩=some (Z O c.c0)/\w.cell? ⟨B,1,none⟩=some (Z O c.c1)/\w.cell? ⟨B,2,none⟩=some (Z O c.c2)/\w.cell? ⟨B,3,none⟩=some (Z O c.c3) /\
 w.cell? ⟨B,4,none⟩=some v/\Own w base v c.l/\(∀j,w.frozen? ⟨B,j,none⟩=false)/\B<base/\B<w.heap.size

theorem CB.below {w w':I} {B d:Nat} {c:Ctx} (h:CB w B d c) (k:jb2 w w'):CB w' B d c:=by obtain ⟨v,g,l,m,n,r,D,C,u,f⟩:=h;exact ⟨v,(k.cell (p:=(jb5 B 0)) f).trans g,(k.cell (p:=(jb5 B 1)) f).trans l,(k.cell (p:=(jb5 B 2)) f).trans m,(k.cell (p:=(jb5 B 3)) f).trans n,(k.cell (p:=(jb5 B 4)) f).trans r,D.below k,fun j=>(k.frozen (p:=(jb5 B j)) f).trans (C j),u,nL f k.size⟩
theorem CB.gr {w w':I} {B d:Nat} {c:Ctx} (h:CB w B d c) (k:Gr w w'):CB w' B d c:=h.below k.below

theorem CB.clk {w:I} {B d:Nat} {c:Ctx} (h:CB w B d c) {a:Int} (m:0<=a) (n:a<4):jb1 w B a.toNat (Z O (clk c a)):=by
 obtain ⟨v,g,j,k,l,_⟩:=h;have f:a=0\/a=1\/a=2\/a=3:=by omega
 rcases f with rfl|rfl|rfl|rfl
 ·exact g
 ·exact j
 ·exact k
 ·exact l

theorem aa {w:I} {B j c:Nat} {u x:V} (d:w.cell? (jb5 B c)=some x):(w.setCell (jb5 B j) u).cell? (jb5 B c)=some (if c=j then u else x):=by
 by_cases h:c=j
 ·subst h;rw[if_pos rfl];exact World.cell?_setCell_same _ _ _ d
 ·rw[if_neg h,World.cell?_setCell_other _ _ _ _ (by intro e;injection e with e1 e2;exact h e2.symm)];exact d

theorem CB.setClk {w:I} {B d:Nat} {c:Ctx} (h:CB w B d c) {n:Int} (F:0<=n) (R:n<4) (s:Int):CB (w.jb3 B n.toNat (Z O s)) B d (setClk c n s):=by
 obtain ⟨v,r,u,C,D,E,l,k,g,m⟩:=h;have f:n=0\/n=1\/n=2\/n=3:=by omega
 refine ⟨v,?_,?_,?_,?_,?_,?_,?_,g,by simpa[World.setCell] using m⟩
 ·rw[aa r];rcases f with rfl|rfl|rfl|rfl<;>rfl
 ·rw[aa u];rcases f with rfl|rfl|rfl|rfl<;>rfl
 ·rw[aa C];rcases f with rfl|rfl|rfl|rfl<;>rfl
 ·rw[aa D];rcases f with rfl|rfl|rfl|rfl<;>rfl
 ·rw[aa E];rcases f with rfl|rfl|rfl|rfl<;>rfl
 ·rw[dX];exact l.setCell g _
 ·intro j;rw[World.frozen?_setCell];exact k j

theorem CB.setL {w g:I} {B d:Nat} {c:Ctx} (h:CB w B d c) (k:Below d w g) {v:V} {l:List (Int×Int)} (E:Own g d v l):CB (g.jb3 B 4 v) B d { c with l:=l }:=by
 obtain ⟨v0,F,R,k2,k3,k4,_,D,f,hs⟩:=h;have m:=(k.cell (p:=(jb5 B 0)) f).trans F;have n:=(k.cell (p:=(jb5 B 1)) f).trans R;have r:=(k.cell (p:=(jb5 B 2)) f).trans k2;have u:=(k.cell (p:=(jb5 B 3)) f).trans k3;have C:=(k.cell (p:=(jb5 B 4)) f).trans k4;refine ⟨v,?_,?_,?_,?_,?_,E.setCell f _,?_,f,?_⟩
 ·rw[aa m];rfl
 ·rw[aa n];rfl
 ·rw[aa r];rfl
 ·rw[aa u];rfl
 ·rw[aa C];rfl
 ·intro j;rw[World.frozen?_setCell];exact (k.frozen (p:=(jb5 B j)) f).trans (D j)
 ·have:=k.size;simp only[World.setCell,Array.size_modify];omega

theorem CB.start (W:I) {c:Ctx} (d:c.l=[]) (T:TypeId):CB (W.alloc (X #[Z O c.c0,Z O c.c1,Z O c.c2,Z O c.c3,Y none 0 0] T)) W.heap.size (W.heap.size+1) c :=
 ⟨Y none 0 0,ab (gR _) rfl,ab (gR _) rfl,ab (gR _) rfl,ab (gR _) rfl,ab (gR _) rfl,by rw[d];exact Own.nil _ _,fun j=>ee (gR _) j,by omega,by simp⟩

theorem CB.lt {w:I} {B d:Nat} {c:Ctx} (h:CB w B d c):B<w.heap.size:=by obtain ⟨_,_,_,_,_,_,_,_,_,h⟩:=h;exact h
theorem CB.fz {w:I} {B d:Nat} {c:Ctx} (h:CB w B d c) (j:Nat):w.frozen? (jb5 B j)=false:=by obtain ⟨_,_,_,_,_,_,_,h,_⟩:=h;exact h j
theorem CB.v {w:I} {B d:Nat} {c:Ctx} (h:CB w B d c):∃v,jb1 w B 4 v/\Own w d v c.l:=by obtain ⟨v,_,_,_,_,f,g,_⟩:=h;exact ⟨v,f,g⟩

theorem Row.setCell0 {w:I} {A:Option H} {l:List (Int×Int)} (h:Row w A l) {B j:Nat} (u:V) (f:∀a,A=some a->l≠[]->a.block≠B):Row (w.jb3 B j u) A l:=by
 by_cases d:l=[]
 ·exact oL d
 ·rcases h with h|⟨b,off,rfl,hb,hc⟩
  ·exact oL h
  ·have c:=f _ rfl d;refine oR ⟨b,off,rfl,by simpa[World.setCell] using hb,fun i hi=> ?_⟩;rw[World.cell?_setCell_other _ _ _ _ (by intro e;injection e with e1;exact c e1.symm),World.cell?_setCell_other _ _ _ _ (by intro e;injection e with e1;exact c e1.symm)];exact hc i hi
theorem ed {W:I} {n:Nat} (g:W.heap.size=n) (x y:Int) (T:TypeId):Row (W.alloc (X #[Z O x,Z O y] T)) (jb4 n 0) [(x,y)]:=by
 subst g;refine oR ⟨W.heap.size,0,rfl,by simp,fun j f=> ?_⟩;have c:=ab (w:=W) (gR (W.alloc (X #[Z O x,Z O y] T))) (j:=0) rfl;have d:=ab (w:=W) (gR (W.alloc (X #[Z O x,Z O y] T))) (j:=1) rfl;obtain rfl:j=0:=by simpa using f
 exact ⟨c,d⟩
theorem Gr.drewN {a b:I} (h:Gr a b) (n:Nat):Gr a (b.drewN n):=h.trans ⟨n,#[],by rw[grow_empty]⟩

theorem Row.setCell {w:I} {A:Option H} {l:List (Int×Int)} (h:Row w A l) {B j:Nat} (u:V) (d:∀a,A=some a->a.block≠B):Row (w.jb3 B j u) A l:=by
 rcases h with h|⟨b,off,rfl,hb,hc⟩
 ·exact oL h
 ·have c:=d _ rfl;refine oR ⟨b,off,rfl,by simpa[World.setCell] using hb,fun i hi=> ?_⟩;rw[World.cell?_setCell_other _ _ _ _ (by intro e;injection e with e1;exact c e1.symm),World.cell?_setCell_other _ _ _ _ (by intro e;injection e with e1;exact c e1.symm)];exact hc i hi

def step (c:Ctx) (p:Option (Int×Int)) (x:Int×Int):Ctx :=
 if x.2<=clk c x.1 then c else if x.2=clk c x.1+1 then setClk c x.1 x.2 else if p=some x then c else { c with l:=c.l++[x] }

def aA (c:Ctx) (l:List (Int×Int)):Nat->Ctx
 | 0=>c
 | k+1=>step (aA c l k) (if k=0 then none else some (l.getD (k-1) (0,0))) (l.getD k (0,0))

theorem ij {c:Ctx} {l:List (Int×Int)} (h:0<l.length) {x:Int×Int} (d:l[0]=x):aA c l 1=step c none x:=by subst d;simp[aA,h]
theorem fI {c:Ctx} {l:List (Int×Int)} {m:Nat} (h:m+1<l.length) {x y:Int×Int} (f:l[m+1]=x) (g:l[m]=y):aA c l (m+2)=step (aA c l (m+1)) (some y) x:=by
 subst f g;have d:m<l.length:=by omega
 show step (aA c l (m+1)) _ _=_;simp[h,d]

theorem sA {c:Ctx} {p:Option (Int×Int)} {x y:Int} (h:y<=clk c x):step c p (x,y)=c:=by simp[step,h]
theorem sz {c:Ctx} {p:Option (Int×Int)} {x y:Int} (h:y=clk c x+1):step c p (x,y)=setClk c x y:=by
 have:¬y<=clk c x:=by omega
 unfold step;rw[if_neg this,if_pos h]
theorem xw {c:Ctx} {x y:Int} (d:¬y<=clk c x) (f:¬y=clk c x+1):step c (some (x,y)) (x,y)=c:=by simp[step,d,f]
theorem qx {c:Ctx} {p:Option (Int×Int)} {x y:Int} (d:¬y<=clk c x) (f:¬y=clk c x+1) (g:p≠some (x,y)):step c p (x,y)={ c with l:=c.l++[(x,y)] }:=by simp[step,d,f,g]

theorem qw {c:Ctx} {p:Option (Int×Int)} {x:Int×Int} (d:aW c=true) (l:ai x=true):aW (step c p x)=true:=by
 have k:=dr l;unfold step;by_cases f:x.2<=clk c x.1
 ·simpa[f] using d
 ·by_cases h:x.2=clk c x.1+1
  ·rw[if_neg f,if_pos h];refine io fun a g j=> ?_;rw[dI c x.1 x.2 a k.1 k.2.1 g j];have:=bF d a g j;split<;>simp[inB]<;>omega
  ·rw[if_neg f,if_neg h];split
   ·exact d
   ·exact d
theorem ri {c:Ctx} {l:List (Int×Int)} (f:aW c=true) (g:∀x∈l,ai x=true):∀k,k<=l.length->aW (aA c l k)=true:=by
 intro k;induction k with
 | zero=>intro _;exact f
 | succ k ih =>
  intro h;have d:k<l.length:=by omega
  refine qw (ih (by omega)) ?_;have:l.getD k (0,0)=l[k]:=by simp[d]
  rw[this];exact g _ (gM d)
theorem xx (c:Ctx) (p:Option (Int×Int)) (x:Int×Int):(step c p x).l.length<=c.l.length+1:=by
 unfold step;split
 ·omega
 ·split
  ·rw[dX];omega
  ·split
   ·omega
   ·simp
theorem iX (c:Ctx) (l:List (Int×Int)):∀k,(aA c l k).l.length<=c.l.length+k:=by
 intro k;induction k with
 | zero=>exact nR _
 | succ k ih =>have:=xx (aA c l k) (if k=0 then none else some (l.getD (k-1) (0,0))) (l.getD k (0,0));show (step _ _ _).l.length<=_;omega

end Go.Proofs.YtbkjgjjpnfhkhaaGreatDoor
