/-
  The library's slices.Sort, Compact and Equal at ints, and slices.SortFunc at cells: where their functions and types stand in this program.
  What is said of dots, contexts and worlds: the plain notions that the contracts speak of.
  Lists of dots in memory of the call's own, and what append makes of them.
-/
import Derived.Shelf.SlSortCmp.NoneTotal
import Derived.Shelf.SlGeneric
import Derived.Shelf.Sort.Plain
import Derived.Shelf.Slices.In.SortNone
import Derived.Shelf.Slices.CompactI
import Derived.Shelf.Slices.Equal
import Derived.Test.YtkadjjmkokhldaaGreatProg
import Derived.Test.YtkadjjmkokhldaaGreatRows
import Derived.WalkKit
import Derived.WalkSpells
import Derived.WalkLawsBesides
import Derived.Shelf.SlSortCmp.QuietGrown
import Derived.BigQuiet
import Derived.BigRegion
import Derived.Laws.StructEq
import Derived.Shelf.SlicesE.Kit
import Derived.Deep.AppendLies
import Derived.Deep.RegionLaw
import Derived.Laws.AppendOwnNone
import Derived.Maps.AppendAt
namespace Go.Proofs
open Go.Shelf
def Tryz.sortInt_ren:Go.Shelf.Ren:=⟨fun|189=>115|125=>83|257=>144|128=>102|129=>103|294=>165|295=>166|296=>167|297=>168|298=>169|299=>170|216=>171|300=>172|301=>173|328=>182|329=>127|330=>128|331=>183|332=>184|215=>117|343=>186|n=>n,fun|28=>46|3=>3|46=>139|0=>0|51=>161|53=>163|4=>4|183=>155|182=>154|131=>121|5=>5|9=>9|218=>180|222=>184|228=>199|229=>200|n=>n,fun|n=>n⟩
theorem Tryz.sortInt:Go.Proofs.Lays.n189 Tryz.prog Tryz.sortInt_ren:={
 mixed:=by kernel_rfl
 f125:=Tryz.func83.trans (congrArg some (by kernel_rfl))
 f128:=Tryz.func102.trans (congrArg some (by kernel_rfl))
 f129:=Tryz.func103.trans (congrArg some (by kernel_rfl))
 f189:=Tryz.func115.trans (congrArg some (by kernel_rfl))
 f215:=Tryz.func117.trans (congrArg some (by kernel_rfl))
 f216:=Tryz.func171.trans (congrArg some (by kernel_rfl))
 f257:=Tryz.func144.trans (congrArg some (by kernel_rfl))
 f294:=Tryz.func165.trans (congrArg some (by kernel_rfl))
 f295:=Tryz.func166.trans (congrArg some (by kernel_rfl))
 f296:=Tryz.func167.trans (congrArg some (by kernel_rfl))
 f297:=Tryz.func168.trans (congrArg some (by kernel_rfl))
 f298:=Tryz.func169.trans (congrArg some (by kernel_rfl))
 f299:=Tryz.func170.trans (congrArg some (by kernel_rfl))
 f300:=Tryz.func172.trans (congrArg some (by kernel_rfl))
 f301:=Tryz.func173.trans (congrArg some (by kernel_rfl))
 f328:=Tryz.func182.trans (congrArg some (by kernel_rfl))
 f329:=Tryz.func127.trans (congrArg some (by kernel_rfl))
 f330:=Tryz.func128.trans (congrArg some (by kernel_rfl))
 f331:=Tryz.func183.trans (congrArg some (by kernel_rfl))
 f332:=Tryz.func184.trans (congrArg some (by kernel_rfl))
 f343:=Tryz.func186.trans (congrArg some (by kernel_rfl))
 t0:=Tryz.underlying0
 a0:=Tryz.isAgg0
 z0:=Tryz.sizeOf0
 v0:=Tryz.zeroValue0
 t3:=Tryz.underlying3
 a3:=Tryz.isAgg3
 z3:=Tryz.sizeOf3
 v3:=Tryz.zeroValue3
 t4:=Tryz.underlying4
 a4:=Tryz.isAgg4
 z4:=Tryz.sizeOf4
 v4:=Tryz.zeroValue4
 t5:=Tryz.underlying5
 a5:=Tryz.isAgg5
 z5:=Tryz.sizeOf5
 v5:=Tryz.zeroValue5
 t9:=Tryz.underlying9
 a9:=Tryz.isAgg9
 z9:=Tryz.sizeOf9
 v9:=Tryz.zeroValue9
 t28:=Tryz.underlying46
 a28:=Tryz.isAgg46
 z28:=Tryz.sizeOf46
 v28:=Tryz.zeroValue46
 t46:=Tryz.underlying139
 a46:=Tryz.isAgg139
 z46:=Tryz.sizeOf139
 v46:=Tryz.zeroValue139
 t51:=Tryz.underlying161
 a51:=Tryz.isAgg161
 z51:=Tryz.sizeOf161
 v51:=Tryz.zeroValue161
 t53:=Tryz.underlying163
 a53:=Tryz.isAgg163
 z53:=Tryz.sizeOf163
 v53:=Tryz.zeroValue163
 t131:=Tryz.underlying121
 a131:=Tryz.isAgg121
 z131:=Tryz.sizeOf121
 v131:=Tryz.zeroValue121
 t182:=Tryz.underlying154
 a182:=Tryz.isAgg154
 z182:=Tryz.sizeOf154
 v182:=Tryz.zeroValue154
 t183:=Tryz.underlying155
 a183:=Tryz.isAgg155
 z183:=Tryz.sizeOf155
 v183:=Tryz.zeroValue155
 t218:=Tryz.underlying180
 a218:=Tryz.isAgg180
 z218:=Tryz.sizeOf180
 v218:=Tryz.zeroValue180
 t222:=Tryz.underlying184
 a222:=Tryz.isAgg184
 z222:=Tryz.sizeOf184
 v222:=Tryz.zeroValue184
 t228:=Tryz.underlying199
 a228:=Tryz.isAgg199
 z228:=Tryz.sizeOf199
 v228:=Tryz.zeroValue199
 t229:=Tryz.underlying200
 a229:=Tryz.isAgg200
 z229:=Tryz.sizeOf200
 v229:=Tryz.zeroValue200 }
def Tryz.compactInt_ren:Go.Shelf.Ren:=⟨fun|20=>116|n=>n,fun|22=>46|3=>3|4=>4|0=>0|n=>n,fun|n=>n⟩
theorem Tryz.compactInt:Go.Proofs.Lays2.n20 Tryz.prog Tryz.compactInt_ren:={
 mixed:=by kernel_rfl
 f20:=Tryz.func116.trans (congrArg some (by kernel_rfl))
 t0:=Tryz.underlying0
 a0:=Tryz.isAgg0
 z0:=Tryz.sizeOf0
 v0:=Tryz.zeroValue0
 t3:=Tryz.underlying3
 a3:=Tryz.isAgg3
 z3:=Tryz.sizeOf3
 v3:=Tryz.zeroValue3
 t4:=Tryz.underlying4
 a4:=Tryz.isAgg4
 z4:=Tryz.sizeOf4
 v4:=Tryz.zeroValue4
 t22:=Tryz.underlying46
 a22:=Tryz.isAgg46
 z22:=Tryz.sizeOf46
 v22:=Tryz.zeroValue46
 i3:=by kernel_rfl }
def Tryz.equalInt_ren:Go.Shelf.Ren:=⟨fun|111=>33|n=>n,fun|28=>46|3=>3|4=>4|0=>0|n=>n,fun|n=>n⟩
theorem Tryz.equalInt:Go.Proofs.Lays.n111 Tryz.prog Tryz.equalInt_ren:={
 mixed:=by kernel_rfl
 f111:=Tryz.func33.trans (congrArg some (by kernel_rfl))
 t0:=Tryz.underlying0
 a0:=Tryz.isAgg0
 z0:=Tryz.sizeOf0
 v0:=Tryz.zeroValue0
 t3:=Tryz.underlying3
 a3:=Tryz.isAgg3
 z3:=Tryz.sizeOf3
 v3:=Tryz.zeroValue3
 t4:=Tryz.underlying4
 a4:=Tryz.isAgg4
 z4:=Tryz.sizeOf4
 v4:=Tryz.zeroValue4
 t28:=Tryz.underlying46
 a28:=Tryz.isAgg46
 z28:=Tryz.sizeOf46
 v28:=Tryz.zeroValue46 }
def Tryz.sortCell_ren:Go.Shelf.Ren:=⟨fun|6=>66|15=>83|14=>82|28=>102|29=>103|20=>94|21=>95|22=>96|23=>97|24=>98|25=>99|26=>100|27=>101|46=>126|47=>127|48=>128|49=>129|50=>130|57=>148|n=>n,fun|22=>35|24=>55|25=>120|3=>3|39=>139|0=>0|53=>161|55=>163|4=>4|46=>155|45=>154|50=>121|5=>5|9=>9|66=>180|70=>184|76=>199|77=>200|n=>n,fun|n=>n⟩
theorem Tryz.sortCell:Go.Proofs.SlLaysF0.n6 Tryz.prog Tryz.sortCell_ren:={
 mixed:=by kernel_rfl
 f6:=⟨Tryz.f66.name,by decide,Tryz.func66.trans (congrArg some (by kernel_rfl))⟩
 f14:=⟨Tryz.f82.name,by decide,Tryz.func82.trans (congrArg some (by kernel_rfl))⟩
 f15:=Tryz.func83.trans (congrArg some (by kernel_rfl))
 f20:=⟨Tryz.f94.name,by decide,Tryz.func94.trans (congrArg some (by kernel_rfl))⟩
 f21:=⟨Tryz.f95.name,by decide,Tryz.func95.trans (congrArg some (by kernel_rfl))⟩
 f22:=⟨Tryz.f96.name,by decide,Tryz.func96.trans (congrArg some (by kernel_rfl))⟩
 f23:=⟨Tryz.f97.name,by decide,Tryz.func97.trans (congrArg some (by kernel_rfl))⟩
 f24:=⟨Tryz.f98.name,by decide,Tryz.func98.trans (congrArg some (by kernel_rfl))⟩
 f25:=⟨Tryz.f99.name,by decide,Tryz.func99.trans (congrArg some (by kernel_rfl))⟩
 f26:=⟨Tryz.f100.name,by decide,Tryz.func100.trans (congrArg some (by kernel_rfl))⟩
 f27:=⟨Tryz.f101.name,by decide,Tryz.func101.trans (congrArg some (by kernel_rfl))⟩
 f28:=Tryz.func102.trans (congrArg some (by kernel_rfl))
 f29:=Tryz.func103.trans (congrArg some (by kernel_rfl))
 f46:=⟨Tryz.f126.name,by decide,Tryz.func126.trans (congrArg some (by kernel_rfl))⟩
 f47:=Tryz.func127.trans (congrArg some (by kernel_rfl))
 f48:=Tryz.func128.trans (congrArg some (by kernel_rfl))
 f49:=⟨Tryz.f129.name,by decide,Tryz.func129.trans (congrArg some (by kernel_rfl))⟩
 f50:=⟨Tryz.f130.name,by decide,Tryz.func130.trans (congrArg some (by kernel_rfl))⟩
 f57:=⟨Tryz.f148.name,by decide,Tryz.func148.trans (congrArg some (by kernel_rfl))⟩
 t0:=Tryz.underlying0
 a0:=Tryz.isAgg0
 z0:=Tryz.sizeOf0
 v0:=Tryz.zeroValue0
 t3:=Tryz.underlying3
 a3:=Tryz.isAgg3
 z3:=Tryz.sizeOf3
 v3:=Tryz.zeroValue3
 t4:=Tryz.underlying4
 a4:=Tryz.isAgg4
 z4:=Tryz.sizeOf4
 v4:=Tryz.zeroValue4
 t5:=Tryz.underlying5
 a5:=Tryz.isAgg5
 z5:=Tryz.sizeOf5
 v5:=Tryz.zeroValue5
 t9:=Tryz.underlying9
 a9:=Tryz.isAgg9
 z9:=Tryz.sizeOf9
 v9:=Tryz.zeroValue9
 t22:=Tryz.underlying35
 a22:=Tryz.isAgg35
 z22:=Tryz.sizeOf35
 v22:=Tryz.zeroValue35
 t25:=Tryz.underlying120
 a25:=Tryz.isAgg120
 z25:=Tryz.sizeOf120
 v25:=Tryz.zeroValue120
 t39:=Tryz.underlying139
 a39:=Tryz.isAgg139
 z39:=Tryz.sizeOf139
 v39:=Tryz.zeroValue139
 t45:=Tryz.underlying154
 a45:=Tryz.isAgg154
 z45:=Tryz.sizeOf154
 v45:=Tryz.zeroValue154
 t46:=Tryz.underlying155
 a46:=Tryz.isAgg155
 z46:=Tryz.sizeOf155
 v46:=Tryz.zeroValue155
 t50:=Tryz.underlying121
 a50:=Tryz.isAgg121
 z50:=Tryz.sizeOf121
 v50:=Tryz.zeroValue121
 t53:=Tryz.underlying161
 a53:=Tryz.isAgg161
 z53:=Tryz.sizeOf161
 v53:=Tryz.zeroValue161
 t55:=Tryz.underlying163
 a55:=Tryz.isAgg163
 z55:=Tryz.sizeOf163
 v55:=Tryz.zeroValue163
 t66:=Tryz.underlying180
 a66:=Tryz.isAgg180
 z66:=Tryz.sizeOf180
 v66:=Tryz.zeroValue180
 t70:=Tryz.underlying184
 a70:=Tryz.isAgg184
 z70:=Tryz.sizeOf184
 v70:=Tryz.zeroValue184
 t76:=Tryz.underlying199
 a76:=Tryz.isAgg199
 z76:=Tryz.sizeOf199
 v76:=Tryz.zeroValue199
 t77:=Tryz.underlying200
 a77:=Tryz.isAgg200
 z77:=Tryz.sizeOf200
 v77:=Tryz.zeroValue200 }
end Go.Proofs

namespace Go.Proofs.YtkadjjmkokhldaaGreat
open Go.RowKit Go.Sort

/-- A number from one to another one. -/
def inB (n lo hi:Int):Bool:=decide (lo≤n) && decide (n≤hi)
/-- A right dot. -/
def rightB (x:Int×Int):Bool:=inB x.1 0 3 && inB x.2 1 1099511627776
/-- One dot ahead of another. -/
def befB (x y:Int×Int):Bool:=decide (x.1<y.1) || (decide (x.1=y.1) && decide (x.2<y.2))

/-- w' is w, some draws on, with some blocks behind it. -/
def Gr (w w':World):Prop:=∃q os,w'=grow (w.drewN q) os

theorem Gr.refl (w:World):Gr w w:=⟨0,#[],by simp[World.drewN]⟩
theorem Gr.trans {a b c:World} (h:Gr a b) (k:Gr b c):Gr a c:=by
 obtain ⟨q,os,rfl⟩:=h
 obtain ⟨q',os',rfl⟩:=k
 exact ⟨q+q',os++os',by show grow (grow ((a.drewN q).drewN q') os) os'=_;rw[grow_grow,World.drewN_drewN]⟩
theorem Gr.alloc {a b:World} (h:Gr a b) (o:Obj):Gr a (b.alloc o):=h.trans ⟨0,#[o],by rw[alloc_eq_grow];rfl⟩
theorem Gr.drew {a b:World} (h:Gr a b):Gr a b.drew:=h.trans ⟨1,#[],by rw[grow_empty];rfl⟩
theorem Gr.below {a b:World} (h:Gr a b):Below a.heap.size a b:=by
 obtain ⟨q,os,rfl⟩:=h
 refine ⟨rfl,rfl,rfl,by simp[grow,World.drewN],fun k hk=> ?_⟩
 show (a.heap++os)[k]? = _
 rw[Array.getElem?_append_left hk]
theorem Gr.cell {a b:World} (h:Gr a b) {p:Addr} (hp:p.block<a.heap.size):b.cell? p=a.cell? p:=h.below.cell hp

theorem Gr.size {a b:World} (h:Gr a b):a.heap.size≤b.heap.size:=h.below.size

theorem Gr.drawn {a b:World} (h:Gr a b):a.drawn≤b.drawn:=by
 obtain ⟨q,os,rfl⟩:=h
 show a.drawn≤a.drawn+q
 omega
theorem Gr.of {a b:World} (h:Below a.heap.size a b) (k:a.drawn≤b.drawn):Gr a b:=by
 refine ⟨b.drawn-a.drawn,b.heap.extract a.heap.size b.heap.size,?_⟩
 have hh:b.heap=a.heap++b.heap.extract a.heap.size b.heap.size:=by
  apply Array.ext_getElem?
  intro i
  by_cases hi:i<a.heap.size
  ·rw[Array.getElem?_append_left hi];exact h.block i hi
  ·rw[Array.getElem?_append_right (by omega),Array.getElem?_extract]
   have e:a.heap.size+(i-a.heap.size)=i:=by omega
   by_cases hb:i<b.heap.size
   ·rw[if_pos (by omega),e]
   ·rw[if_neg (by omega)];exact Array.getElem?_eq_none (by omega)
 obtain ⟨bh,bt,bd,bo,bp⟩:=b
 obtain ⟨ah,at',ad,ao,ap⟩:=a
 have h1:=h.os
 have h2:=h.tape
 have h3:=h.output
 simp only at h1 h2 h3 hh k
 subst h1 h2 h3
 simp only[grow,World.drewN]
 rw[←hh]
 simp only[World.mk.injEq,true_and,and_true]
 omega
theorem Gr.setCell {a b:World} (h:Gr a b) {p:Addr} (hp:a.heap.size≤p.block) (u:Value):Gr a (b.setCell p u) :=
 Gr.of (h.below.setCell hp u) h.drawn

/-- A context: four clocks and a cloud. -/
structure Ctx where
 c0:Int
 c1:Int
 c2:Int
 c3:Int
 l:List (Int×Int)

/-- The clock of a node. -/
def clk (c:Ctx) (n:Int):Int:=if n=0 then c.c0 else if n=1 then c.c1 else if n=2 then c.c2 else c.c3

/-- A context has a dot. -/
def hasB (c:Ctx) (x:Int×Int):Bool:=c.l.contains x || (inB x.1 0 3 && decide (1≤x.2) && decide (x.2≤clk c x.1))

/-- The slice at A reads as the dots l. -/
def Row (w:World) (A:Option Addr) (l:List (Int×Int)):Prop :=
 l=[]∨∃b off,A=some ⟨b,off,none⟩∧b<w.heap.size∧∀j (h:j<l.length),w.cell? ⟨b,off+j*2,none⟩=some (.int .i64 l[j].1)∧w.cell? ⟨b,off+j*2+1,none⟩=some (.int .i64 l[j].2)

theorem Row.below {w w':World} {A:Option Addr} {l:List (Int×Int)} (h:Row w A l) (k:Below w.heap.size w w'):Row w' A l:=by
 rcases h with h|⟨b,off,hA,hb,hc⟩
 ·exact Or.inl h
 ·exact Or.inr ⟨b,off,hA,Nat.lt_of_lt_of_le hb k.size,fun j hj=>⟨(k.cell (p:=⟨b,off+j*2,none⟩) hb).trans (hc j hj).1,(k.cell (p:=⟨b,off+j*2+1,none⟩) hb).trans (hc j hj).2⟩⟩

theorem Row.gr {w w':World} {A:Option Addr} {l:List (Int×Int)} (h:Row w A l) (k:Gr w w'):Row w' A l:=h.below k.below

/-- '==' on two dots. -/
theorem eqDot (a b c d:Int) (w:World):(binOp .eql 52 (.agg #[.int .i64 a,.int .i64 b]) (.agg #[.int .i64 c,.int .i64 d])).run Tryz.prog w= .ok (.bool (a==c && b==d)) w:=by
 have u3:=Tryz.underlying3
 have a3:=Tryz.isAgg3
 have z3:=Tryz.sizeOf3
 have hS:Tryz.prog.underlying 52=some (.struct (Tryz.prog.fieldsOf 52)):=by kernel_rfl
 have hp:Tryz.prog.stoodInHeld 52=false:=by kernel_rfl
 rw[run_eql_struct,show (10000:Nat)=9999+1 from rfl,run_equalIn_agg w 9999 52 _ _ hS hp]
 simp only[Program.fieldsOf,Tryz.underlying52]
 go_simp
 by_cases h1:a=c<;>by_cases h2:b=d<;>simp[h1,h2]

/-- '!=' on two dots. -/
theorem neqDot (a b c d:Int) (w:World):(binOp .neq 52 (.agg #[.int .i64 a,.int .i64 b]) (.agg #[.int .i64 c,.int .i64 d])).run Tryz.prog w= .ok (.bool !(a==c && b==d)) w:=by
 have u3:=Tryz.underlying3
 have a3:=Tryz.isAgg3
 have z3:=Tryz.sizeOf3
 have hS:Tryz.prog.underlying 52=some (.struct (Tryz.prog.fieldsOf 52)):=by kernel_rfl
 have hp:Tryz.prog.stoodInHeld 52=false:=by kernel_rfl
 rw[run_neq_struct,show (10000:Nat)=9999+1 from rfl,run_equalIn_agg w 9999 52 _ _ hS hp]
 simp only[Program.fieldsOf,Tryz.underlying52]
 go_simp
 by_cases h1:a=c<;>by_cases h2:b=d<;>simp[h1,h2]

/-- A list has a dot. -/
def memB (l:List (Int×Int)) (x:Int×Int):Bool:=l.contains x

/-- Two lists of dots are the same. -/
def eqL (l m:List (Int×Int)):Bool:=decide (l=m)

theorem guardDot (op:BinOp) (p q:Operand) (a b c d:Int) (w:World):(eqGuard op 52 p q (.agg #[.int .i64 a,.int .i64 b]) (.agg #[.int .i64 c,.int .i64 d])).run Tryz.prog w= .ok () w :=
 run_eqGuard_agg w op 52 p q _ _ (by kernel_rfl)

/-- The cells of a block that was laid, in whatever has grown of it. -/
theorem box1 {w wr:World} {C1:Array Value} {T1:TypeId} (h:Gr (w.alloc (.cells C1 T1)) wr) {j:Nat} {v:Value} (hv:C1[j]? = some v):wr.cell? ⟨w.heap.size,j,none⟩=some v:=by
 rw[h.cell (p:=⟨w.heap.size,j,none⟩) (by simp),World.cell?_alloc_mark w C1 T1 (0,0) j,hv]

theorem box2 {w wr:World} {C1 C2:Array Value} {T1 T2:TypeId} (h:Gr ((w.alloc (.cells C1 T1)).alloc (.cells C2 T2)) wr) {j:Nat} {v:Value} (hv:C2[j]? = some v):wr.cell? ⟨w.heap.size+1,j,none⟩=some v:=by
 have:=box1 (w:=w.alloc (.cells C1 T1)) h hv
 simpa using this

theorem unbox_in {w wr:World} {o1 o2:Obj} (h:Gr ((w.alloc o1).alloc o2) wr):Gr (w.alloc o1) wr:=((Gr.refl _).alloc o2).trans h

theorem unbox {w wr:World} {o1:Obj} (h:Gr (w.alloc o1) wr):Gr w wr:=((Gr.refl w).alloc o1).trans h

/-- A cell that was there, in whatever has grown of it, some draws and blocks on. -/
theorem Gr.cellG {w W:World} (h:Gr w W) {a:Addr} {v:Value} (hb:a.block<w.heap.size) (hc:w.cell? a=some v) (n:Nat) (os:Array Obj):(grow (W.drewN n) os).cell? a=some v :=
 cell_grown (Nat.lt_of_lt_of_le hb h.size) ((h.cell hb).trans hc) n os

theorem box1G {w wr:World} {C1:Array Value} {T1:TypeId} (h:Gr (w.alloc (.cells C1 T1)) wr) {j:Nat} {v:Value} (hv:C1[j]? = some v) (n:Nat) (os:Array Obj):(grow (wr.drewN n) os).cell? ⟨w.heap.size,j,none⟩=some v :=
 cell_grown (Nat.lt_of_lt_of_le (show w.heap.size<(w.alloc (.cells C1 T1)).heap.size by simp) h.size) (box1 h hv) n os

theorem Row.at {w:World} {A:Option Addr} {l:List (Int×Int)} (h:Row w A l) {k:Nat} (hk:k<l.length):∃b off,A=some ⟨b,off,none⟩∧b<w.heap.size∧∀j (h:j<l.length),w.cell? ⟨b,off+j*2,none⟩=some (.int .i64 l[j].1)∧w.cell? ⟨b,off+j*2+1,none⟩=some (.int .i64 l[j].2):=by
 rcases h with h0|h
 ·exact absurd hk (by simp[h0])
 ·exact h

/-- The clock's cells of a boxed context. -/
theorem clkCell {c:Ctx} {v:Value} {a:Int} (h0:0≤a) (h3:a<4): #[Value.int .i64 c.c0,.int .i64 c.c1,.int .i64 c.c2,.int .i64 c.c3,v][a.toNat]? = some (.int .i64 (clk c a)):=by
 have h4:a=0∨a=1∨a=2∨a=3:=by omega
 rcases h4 with rfl|rfl|rfl|rfl<;>rfl

/-- Is the cloud's dot at k right, behind the one ahead of it, and above the clock? -/
def okAt (c:Ctx) (k:Nat):Bool:=rightB (c.l.getD k (0,0)) && (k==0 || befB (c.l.getD (k-1) (0,0)) (c.l.getD k (0,0))) && decide (clk c (c.l.getD k (0,0)).1+2≤(c.l.getD k (0,0)).2)

/-- Are the clocks in range? -/
def okClk (c:Ctx):Bool:=inB c.c0 0 1099511627776 && inB c.c1 0 1099511627776 && inB c.c2 0 1099511627776 && inB c.c3 0 1099511627776

/-- What is wrong with a context (an error's number). -/
def errC (c:Ctx):Int:=if okClk c=false then 1 else if 400<c.l.length then 2 else if (List.range c.l.length).all (okAt c) then 0 else 5

theorem errC_clk {c:Ctx} {a:Int} (h0:0≤a) (h4:a<4) (h:inB (clk c a) 0 1099511627776=false):errC c=1:=by
 have h4:a=0∨a=1∨a=2∨a=3:=by omega
 have:okClk c=false:=by
  unfold okClk
  rcases h4 with rfl|rfl|rfl|rfl<;>simp only[clk] at h<;>simp_all
 simp[errC,this]

theorem okClk_of {c:Ctx} (h:∀a:Int,0≤a→a<4→inB (clk c a) 0 1099511627776=true):okClk c=true:=by
 have h0:=h 0 (by omega) (by omega)
 have h1:=h 1 (by omega) (by omega)
 have h2:=h 2 (by omega) (by omega)
 have h3:=h 3 (by omega) (by omega)
 simp only[clk] at h0 h1 h2 h3
 simp_all [okClk]

theorem clk_of_ok {c:Ctx} (h:okClk c=true) (a:Int) (h0:0≤a) (h4:a<4):0≤clk c a∧clk c a≤1099511627776:=by
 have h4:a=0∨a=1∨a=2∨a=3:=by omega
 simp[okClk,inB] at h
 rcases h4 with rfl|rfl|rfl|rfl<;>simp[clk]<;>omega

theorem errC_large {c:Ctx} (h:okClk c=true) (hl:400<c.l.length):errC c=2:=by simp[errC,h,hl]
theorem errC_form {c:Ctx} (h:okClk c=true) (hl:c.l.length≤400) {k:Nat} (hk:k<c.l.length) (hb:okAt c k=false):errC c=5:=by
 have:¬ 400<c.l.length:=by omega
 have h2:(List.range c.l.length).all (okAt c)=false:=by
  rw[List.all_eq_false]
  exact ⟨k,by simpa using hk,by simp[hb]⟩
 simp[errC,h,this,h2]
theorem errC_ok {c:Ctx} (h:okClk c=true) (hl:c.l.length≤400) (ha:∀k,k<c.l.length→okAt c k=true):errC c=0:=by
 have:¬ 400<c.l.length:=by omega
 have h2:(List.range c.l.length).all (okAt c)=true:=by
  rw[List.all_eq_true]
  intro k hk
  exact ha k (by simpa using hk)
 simp[errC,h,this,h2]

theorem okAt_zero {c:Ctx} (h:0<c.l.length) {x:Int×Int} (hx:c.l[0]=x):okAt c 0=(rightB x && decide (clk c x.1+2≤x.2)):=by
 subst hx
 simp[okAt,h]
theorem okAt_succ {c:Ctx} {m:Nat} (h:m+1<c.l.length) {x y:Int×Int} (hx:c.l[m+1]=x) (hy:c.l[m]=y):okAt c (m+1)=(rightB x && befB y x && decide (clk c x.1+2≤x.2)):=by
 subst hx hy
 have h':m<c.l.length:=by omega
 simp[okAt,h,h']
theorem rightB_node {x:Int×Int} (h:rightB x=true):0≤x.1∧x.1<4∧1≤x.2∧x.2≤1099511627776:=by
 simp[rightB,inB] at h
 omega

theorem box1f {w wr:World} {C1:Array Value} {T1:TypeId} (h:Gr (w.alloc (.cells C1 T1)) wr) (j:Nat):wr.frozen? ⟨w.heap.size,j,none⟩=false:=by
 rw[h.below.frozen (p:=⟨w.heap.size,j,none⟩) (by simp)]
 simp
theorem box2f {w wr:World} {o1:Obj} {C2:Array Value} {T2:TypeId} (h:Gr ((w.alloc o1).alloc (.cells C2 T2)) wr) (j:Nat):wr.frozen? ⟨w.heap.size+1,j,none⟩=false:=by
 have:=box1f (w:=w.alloc o1) h j
 simpa using this

/-- The greatest number of a node's dots, among the clock and the first of the cloud. -/
def topS (c:Ctx) (n:Int) (l:List (Int×Int)):Int:=l.foldl (fun m x=>if x.1=n then max m x.2 else m) (clk c n)
theorem topS_snoc (c:Ctx) (n:Int) (l:List (Int×Int)) (x:Int×Int):topS c n (l++[x])=if x.1=n then max (topS c n l) x.2 else topS c n l:=by
 simp[topS,List.foldl_append]
theorem topS_take (c:Ctx) (n:Int) (k:Nat) (h:k<c.l.length) {x:Int×Int} (hx:c.l[k]=x):topS c n (c.l.take (k+1))=if x.1=n then max (topS c n (c.l.take k)) x.2 else topS c n (c.l.take k):=by
 rw[List.take_succ_eq_append_getElem h,topS_snoc,hx]
theorem topS_lo (c:Ctx) (n:Int) (l:List (Int×Int)):clk c n≤topS c n l:=by
 unfold topS
 suffices h:∀m,m≤l.foldl (fun m x=>if x.1=n then max m x.2 else m) m from h _
 induction l with
 | nil=>intro m;simp
 | cons x l ih =>
  intro m
  simp only[List.foldl_cons]
  refine Int.le_trans ?_ (ih (if x.1=n then max m x.2 else m))
  split<;>omega

/-- The error that Next tells of a right context and a node. -/
def nextE (c:Ctx) (n:Int):Int:=if 1099511627776≤topS c n c.l then 2 else 0
/-- The dot that it tells. -/
def nextD (c:Ctx) (n:Int):Int×Int:=if 1099511627776≤topS c n c.l then (0,0) else (n,topS c n c.l+1)

/-- One of a list is no right dot. -/
def badL (l:List (Int×Int)):Bool:=l.any fun x=> !rightB x

theorem badL_at {l:List (Int×Int)} {k:Nat} (h:k<l.length) {x:Int×Int} (hx:l[k]=x) (hr:rightB x=false):badL l=true:=by
 simp only[badL,List.any_eq_true]
 exact ⟨l[k],List.getElem_mem h,by rw[hx,hr];rfl⟩
theorem badL_not {l:List (Int×Int)} (h:∀j (h:j<l.length),rightB l[j]=true):badL l=false:=by
 simp only[badL,List.any_eq_false]
 intro x hx
 obtain ⟨j,hj,rfl⟩:=List.getElem_of_mem hx
 rw[h j hj];simp
theorem badL_all {l:List (Int×Int)} (h:badL l=false):∀x∈l,rightB x=true:=by
 intro x hx
 simp only[badL,List.any_eq_false] at h
 have:=h x hx
 cases hr:rightB x
 ·simp[hr] at this
 ·rfl

end Go.Proofs.YtkadjjmkokhldaaGreat

namespace Go.Proofs.YtkadjjmkokhldaaGreat
open Go.RowKit Go.Sort

theorem Tryz.info52:(Tryz.prog.info? 52).map (fun i=>(i.zero,i.size,i.bytes))=some (some (.agg #[.int .i64 0,.int .i64 0]),2,16):=by kernel_rfl

/-- The cells of a list of dots. -/
def flat (l:List (Int×Int)):List Value:=l.flatMap fun x=>[.int .i64 x.1,.int .i64 x.2]

theorem flat_length (l:List (Int×Int)):(flat l).length=l.length*2:=by
 induction l with
 | nil=>rfl
 | cons x l ih=>simp only[flat,List.flatMap_cons,List.length_append] at ih ⊢;rw[ih];simp;omega
theorem flat_append (l m:List (Int×Int)):flat (l++m)=flat l++flat m:=by simp[flat,List.flatMap_append]
theorem flat_one (u:Value) (l:List (Int×Int)) (h:u∈flat l):u.oneCell'=true:=by
 simp only[flat,List.mem_flatMap] at h
 obtain ⟨x,_,hx⟩:=h
 simp only[List.mem_cons,List.not_mem_nil,or_false] at hx
 rcases hx with rfl|rfl<;>rfl
theorem flat_get (l:List (Int×Int)):∀j (h:j<l.length),(flat l)[j*2]? = some (.int .i64 l[j].1)∧(flat l)[j*2+1]? = some (.int .i64 l[j].2):=by
 induction l with
 | nil=>intro j h;exact absurd h (Nat.not_lt_zero _)
 | cons x l ih =>
  intro j h
  have e:flat (x::l)= .int .i64 x.1 :: .int .i64 x.2::flat l:=rfl
  cases j with
  | zero=>rw[e];exact ⟨rfl,rfl⟩
  | succ j =>
   have:=ih j (by simpa using h)
   rw[e,show (j+1)*2=j*2+1+1 from by omega]
   simpa using this
theorem flat_got (l:List (Int×Int)) {j:Nat} {u:Value} (h:(flat l)[j]? = some u):∃k,∃hk:k<l.length,(j=k*2∧u= .int .i64 l[k].1)∨(j=k*2+1∧u= .int .i64 l[k].2):=by
 have hj:j<(flat l).length:=(List.getElem?_eq_some_iff.1 h).1
 rw[flat_length] at hj
 have hk:j / 2<l.length:=by omega
 refine ⟨j / 2,hk,?_⟩
 have:=flat_get l (j / 2) hk
 by_cases he:j % 2=0
 ·left
  have e:j / 2*2=j:=by omega
  rw[e,h] at this
  exact ⟨e.symm,Option.some.inj this.1⟩
 ·right
  have e:j / 2*2+1=j:=by omega
  rw[e,h] at this
  exact ⟨e.symm,Option.some.inj this.2⟩

theorem Row.cells {w:World} {ad:Addr} {l:List (Int×Int)} (h:Row w (some ad) l):∀j u,(flat l)[j]? = some u→w.cell? (ad.add j)=some u:=by
 intro j u hu
 obtain ⟨k,hk,hc⟩:=flat_got l hu
 rcases h with h0|⟨b,off,hA,_,hcs⟩
 ·subst h0;exact absurd hk (Nat.not_lt_zero _)
 ·obtain rfl:=Option.some.inj hA
  rw[Addr.add_lit]
  rcases hc with ⟨rfl,rfl⟩|⟨rfl,rfl⟩
  ·exact (hcs k hk).1
  ·exact (hcs k hk).2

/-- The value v owns the dots l, from block 'base' on. -/
def Own (w:World) (base:Nat) (v:Value) (l:List (Int×Int)):Prop:=w.ownsRow base 52 2 v l.length (flat l)

theorem Own.nil (w:World) (base:Nat):Own w base (.slice none 0 0) []:=World.ownsRow_nil w base _ _

theorem Own.row {w:World} {base:Nat} {v:Value} {l:List (Int×Int)} (h:Own w base v l):∃A cap,v= .slice A l.length cap∧(A=none→cap=0)∧Row w A l∧(∀a,A=some a→base≤a.block∧a.block<w.heap.size):=by
 rcases h.2 with ⟨hv,hn⟩|⟨g,cap,cur,hv,hb,hg,_,_,_,_⟩
 ·refine ⟨none,0,?_,fun _=>rfl,Or.inl (List.eq_nil_of_length_eq_zero hn),fun a ha=>by cases ha⟩
  rw[hv,hn]
 ·have hlt:g<w.heap.size:=(Array.getElem?_eq_some_iff.1 hg).1
  refine ⟨some ⟨g,0,none⟩,cap,hv,fun h=>(by cases h),Or.inr ⟨g,0,rfl,hlt,fun j hj=> ?_⟩,fun a ha=>by cases ha;exact ⟨hb,hlt⟩⟩
  have hc:=h.cells (g:=g) (by rw[hv];rfl)
  have e:=flat_get l j hj
  have c0:=hc _ _ e.1
  have c1:=hc _ _ e.2
  rw[Addr.add_lit] at c0 c1
  exact ⟨c0,c1⟩

theorem Own.full {w:World} {base:Nat} {v:Value} {l:List (Int×Int)} (h:Own w base v l):∃A cap,v= .slice A l.length cap∧(A=none→cap=0)∧Row w A l∧l.length≤cap∧(∀a,A=some a→base≤a.block∧a.block<w.heap.size∧v.ownBlock=some a.block∧a.spot=none):=by
 obtain ⟨A,cap,hv,hA,hr,hb⟩:=h.row
 refine ⟨A,cap,hv,hA,hr,?_,fun a ha=>⟨(hb a ha).1,(hb a ha).2,by rw[hv,ha];rfl,?_⟩⟩
 ·rcases h.2 with ⟨h0,hn⟩|⟨g,cap',cur,hv',_,_,hn,_⟩
  ·omega
  ·rw[hv] at hv'
   injection hv' with _ _ h3
   omega
 ·rcases h.2 with ⟨h0,hn⟩|⟨g,cap',cur,hv',_,_,hn,_⟩
  ·rw[hv,ha] at h0
   injection h0 with h1
   cases h1
  ·rw[hv,ha] at hv'
   injection hv' with h1
   injection h1 with h1
   rw[h1]

theorem Own.below {w w':World} {base:Nat} {v:Value} {l:List (Int×Int)} (h:Own w base v l) (k:Below w.heap.size w w'):Own w' base v l :=
 h.kept (row:=none) ⟨k.os,k.tape,k.output,k.size,fun j hj _=>k.block j hj⟩ (by cases v.ownBlock<;>simp)
theorem Own.gr {w w':World} {base:Nat} {v:Value} {l:List (Int×Int)} (h:Own w base v l) (k:Gr w w'):Own w' base v l:=h.below k.below
theorem Own.setCell {w:World} {base:Nat} {v:Value} {l:List (Int×Int)} (h:Own w base v l) {a:Addr} (ha:a.block<base) (u:Value):Own (w.setCell a u) base v l:=ownsRow_setCell_below h ha u
theorem Own.mono {w:World} {base base':Nat} {v:Value} {l:List (Int×Int)} (h:Own w base v l) (hb:base'≤base):Own w base' v l:=by
 refine ⟨h.1,?_⟩
 rcases h.2 with h1|⟨g,cap,cur,hv,hg,rest⟩
 ·exact .inl h1
 ·exact .inr ⟨g,cap,cur,hv,by omega,rest⟩

theorem Own.grown_below {w w':World} {base:Nat} {v:Value} {l:List (Int×Int)} (h:Own w base v l) (hg:w.grownBy w' v.ownBlock) (hb:base≤w.heap.size):Below base w w' :=
 (Below.refl base w).grown hg hb fun k e=>(h.lt k e).1
theorem Row.belowB {w w':World} {A:Option Addr} {l:List (Int×Int)} {B:Nat} (h:Row w A l) (hA:∀a,A=some a→l≠[]→a.block<B) (k:Below B w w'):Row w' A l:=by
 rcases h with h|⟨b,off,rfl,hb,hc⟩
 ·exact Or.inl h
 ·by_cases h0:l=[]
  ·exact Or.inl h0
  have hbB:=hA _ rfl h0
  exact Or.inr ⟨b,off,rfl,Nat.lt_of_lt_of_le hb k.size,fun j hj=>⟨(k.cell (p:=⟨b,off+j*2,none⟩) hbB).trans (hc j hj).1,(k.cell (p:=⟨b,off+j*2+1,none⟩) hbB).trans (hc j hj).2⟩⟩
theorem Row.lt {w:World} {A:Option Addr} {l:List (Int×Int)} (h:Row w A l):∀a,A=some a→l≠[]→a.block<w.heap.size:=by
 rcases h with h|⟨b,off,rfl,hb,_⟩
 ·intro a _ h0;exact absurd h h0
 ·intro a ha _;cases ha;exact hb

/-- append(v, m...): whatever m is. -/
theorem run_append_dots (w:World) (ty:TypeId) (base:Nat) (v:Value) (l m:List (Int×Int)) (A:Option Addr) (cap:Nat) (hown:Own w base v l) (hr:Row w A m) (hA:A=none→cap=0)
  (hb:(l.length+m.length)*16≤140737488355328) (hbase:base≤w.heap.size) :
  ∃v' w',(Builtin.append_ #[32,32] ty #[v,.slice A m.length cap]).run Tryz.prog w= .ok v' w'∧Own w' base v' (l++m)∧w.grownBy w' v.ownBlock∧(v'.ownBlock=v.ownBlock∨v'.ownBlock=some w.heap.size):=by
 obtain ⟨i0,hi,hz0,hz1,hz2⟩:=info_parts Tryz.info52
 cases A with
 | none =>
  obtain rfl:=hA rfl
  have hm:m=[]:=by
   rcases hr with h|⟨_,_,h,_⟩
   ·exact h
   ·cases h
  subst hm
  have:=run_append_owned_none (P:=Tryz.prog) (w:=w) base 32 ty 52 i0 2 Tryz.underlying32 hi v l.length (flat l) hown
  exact ⟨v,w,this,by rw[List.append_nil];exact hown,⟨rfl,rfl,rfl,Nat.le_refl _,fun _ _ _=>rfl⟩,Or.inl rfl⟩
 | some ad =>
  obtain ⟨v',w',h1,h2,h3,_,h5⟩:=run_append_own_at (P:=Tryz.prog) w base 32 ty 52 i0 _ 2 16 Tryz.underlying32 hi hz0 hz1 hz2 rfl (by omega) v l.length (flat l) hown ad m.length cap (flat m) (flat_length m) hr.cells (fun u hu=>flat_one u m hu) (by unfold maxLen;omega) hb hbase
  refine ⟨v',w',h1,?_,h3,h5⟩
  show w'.ownsRow base _ 2 v' (l++m).length (flat (l++m))
  rw[List.length_append,flat_append]
  exact h2

theorem wp_append_dots (w:World) {o:Oper} {a:Act} {K:Act→World→Prop} {Q:Exit→Act→World→Prop} (s x:Operand)
  (ho:o.op= .call { callee:= .builtin .append,args:= #[s,x],argTypes:= #[32,32] })
  (base:Nat) (v:Value) (l m:List (Int×Int)) (A:Option Addr) (cap:Nat) (hs:a.eval s=v) (hx:a.eval x= .slice A m.length cap) (hown:Own w base v l) (hr:Row w A m) (hA:A=none→cap=0)
  (hb:(l.length+m.length)*16≤140737488355328) (hbase:base≤w.heap.size)
  (h:∀v' w',Own w' base v' (l++m)→w.grownBy w' v.ownBlock→(v'.ownBlock=v.ownBlock∨v'.ownBlock=some w.heap.size)→K (a.put o.dst v') w'):o.wp Tryz.prog a w K Q:=by
 obtain ⟨v',w',hr,h2,h3,h4⟩:=run_append_dots w o.type base v l m A cap hown hr hA hb hbase
 unfold Oper.wp execOp
 simp only[ho,resolve,invoke,builtin,Sem.run_bind,Sem.run_pure,Result.andThen_ok,List.map_toArray,List.map_cons,List.map_nil,hs,hx,hr]
 exact h v' w' h2 h3 h4

theorem wpList_append_dots (w:World) {ops:Array Oper} {rest:List Oper} {o:Oper} {a:Act} {Q:Exit→Act→World→Prop} (hgd:o.guard=none) (s x:Operand)
  (ho:o.op= .call { callee:= .builtin .append,args:= #[s,x],argTypes:= #[32,32] })
  (base:Nat) (v:Value) (l m:List (Int×Int)) (A:Option Addr) (cap:Nat) (hs:a.eval s=v) (hx:a.eval x= .slice A m.length cap) (hown:Own w base v l) (hr:Row w A m) (hA:A=none→cap=0)
  (hb:(l.length+m.length)*16≤140737488355328) (hbase:base≤w.heap.size)
  (h:∀v' w',Own w' base v' (l++m)→w.grownBy w' v.ownBlock→(v'.ownBlock=v.ownBlock∨v'.ownBlock=some w.heap.size)→wpList Tryz.prog ops Q rest (a.put o.dst v') w'):wpList Tryz.prog ops Q (o::rest) a w :=
 wpList_plain hgd fun _ hK=>wp_append_dots w s x ho base v l m A cap hs hx hown hr hA hb hbase fun v' w' h2 h3 h4=>hK _ _ (h v' w' h2 h3 h4)

theorem Row.drew {w:World} {A:Option Addr} {l:List (Int×Int)} (h:Row w A l):Row w.drew A l:=h
theorem Row.drewN {w:World} {A:Option Addr} {l:List (Int×Int)} (h:Row w A l) (n:Nat):Row (w.drewN n) A l:=h
theorem below_none {w w':World} (hg:w.grownBy w' (Value.slice none 0 0).ownBlock):Below w.heap.size w w':=(Below.refl _ _).grown hg (Nat.le_refl _) (fun k e=>by cases e)

/-- The first dots of a slice. -/
theorem Row.take {w:World} {A:Option Addr} {l:List (Int×Int)} (h:Row w A l) (k:Nat):Row w A (l.take k):=by
 rcases h with h|⟨b,off,hA,hb,hc⟩
 ·exact Or.inl (by rw[h];simp)
 ·exact Or.inr ⟨b,off,hA,hb,fun j hj=>by
   have hj':j<l.length:=by rw[List.length_take] at hj;omega
   rw[List.getElem_take]
   exact hc j hj'⟩
/-- The dots of a slice from k on. -/
theorem Row.drop {w:World} {b off:Nat} {l:List (Int×Int)} (h:Row w (some ⟨b,off,none⟩) l) (k:Nat):Row w (some ⟨b,off+k*2,none⟩) (l.drop k):=by
 rcases h with h|⟨b',off',hA,hb,hc⟩
 ·exact Or.inl (by rw[h];simp)
 ·obtain ⟨rfl,rfl⟩:b=b'∧off=off':=by injection hA with hA;injection hA with h1 h2;exact ⟨h1,h2⟩
  exact Or.inr ⟨b,off+k*2,rfl,hb,fun j hj=>by
   have hj':k+j<l.length:=by rw[List.length_drop] at hj;omega
   rw[List.getElem_drop]
   have:=hc (k+j) hj'
   rw[show off+k*2+j*2=off+(k+j)*2 from by omega]
   exact this⟩

end Go.Proofs.YtkadjjmkokhldaaGreat
