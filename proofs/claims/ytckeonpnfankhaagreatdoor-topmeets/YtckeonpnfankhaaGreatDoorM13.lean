/-
  The numbers of a step that may stand in a query are small.
  The library's strconv.Itoa: where its functions and types stand in this program.
  strconv.Itoa: the text of a number.
  query.signOf, strconv.Itoa, query.printList: texts of a step's parts.
  query.printPart: one part of a step.
  query.printLine: the line of a step.
-/
import Derived.Test.YtckeonpnfankhaaGreatDoorM09
import Derived.Shelf.Strconv.Itoa3
import Derived.Shelf.Unicode.PredsPay
import Derived.Lib.ItoaLen
import Derived.Lib.Join
import Derived.Lib.JoinLaws
set_option maxRecDepth 100000
set_option maxHeartbeats 8000000
namespace Go.Proofs.YtckeonpnfankhaaGreatDoor

def Small (n:Int):Prop:= -1073741824≤n∧n≤1073741824
structure Fine (s:Stp):Prop where
 a:Small s.a
 b:Small s.b
 c:Small s.c
 o:Small s.o
 v:Small s.v
 l:s.l.length≤8∧∀x∈s.l,Small x
theorem bi {n lo hi:Int} (h:inB n lo hi=true) (h1: -1073741824≤lo) (h2:hi≤1073741824):Small n:=by
 simp only[inB,Bool.and_eq_true,decide_eq_true_eq] at h
 exact ⟨by omega,by omega⟩
theorem aw {n:Int} (h:decide (n=0)=true):Small n:=by
 have:n=0:=by simpa using h
 exact ⟨by omega,by omega⟩
theorem eu {l:List Int} (h:l.isEmpty=true):l.length≤8∧∀x∈l,Small x:=by
 have:l=[]:=by simpa using h
 subst this
 exact ⟨by simp,fun x hx=>by cases hx⟩
theorem sj {s:Stp} {ah:List Int} (h:aH s ah≠0) (hl:ah.length≤8) (hah:∀x∈ah,0≤x∧x≤8):Fine s:=by
 have ga:=lr hah s.a.toNat
 have gb:=lr hah s.b.toNat
 by_cases h9:1≤s.k∧s.k≤9
 ·have hk:s.k=1∨s.k=2∨s.k=3∨s.k=4∨s.k=5∨s.k=6∨s.k=7∨s.k=8∨s.k=9:=by omega
  rcases hk with hk|hk|hk|hk|hk|hk|hk|hk|hk
  ·rw[yO hk] at h
   have t:=Classical.not_not.1 (fun e=>h (if_neg e))
   simp only[Bool.and_eq_true] at t
   obtain ⟨⟨⟨⟨⟨t1,t2⟩,t3⟩,t4⟩,t5⟩,t6⟩:=t
   exact ⟨bi t1 (by omega) (by omega),aw t2,aw t3,aw t4,aw t5,eu t6⟩
  ·rw[ze hk] at h
   have t:=Classical.not_not.1 (fun e=>h (if_neg e))
   simp only[Bool.and_eq_true] at t
   obtain ⟨⟨⟨⟨⟨t1,t2⟩,t3⟩,t4⟩,t5⟩,t6⟩:=t
   exact ⟨bi t1 (by omega) (by omega),aw t2,bi t6 (by omega) (by omega),bi t4 (by omega) (by omega),bi t5 (by omega) (by omega),eu t3⟩
  ·rw[yV hk] at h
   have t:=Classical.not_not.1 (fun e=>h (if_neg e))
   simp only[Bool.and_eq_true] at t
   obtain ⟨⟨⟨⟨⟨⟨t1,t2⟩,t3⟩,t4⟩,t5⟩,t6⟩,t7⟩:=t
   exact ⟨bi t1 (by omega) (by omega),aw t2,aw t5,aw t6,aw t7,⟨by simp only[inB,Bool.and_eq_true,decide_eq_true_eq] at t3;omega,fun x hx=>bi (List.all_eq_true.1 t4 x hx) (by omega) (by omega)⟩⟩
  ·rw[yI hk] at h
   have t:=Classical.not_not.1 (fun e=>h (if_neg e))
   simp only[Bool.and_eq_true] at t
   obtain ⟨⟨⟨⟨⟨⟨t1,t2⟩,t3⟩,t4⟩,t5⟩,t6⟩,t7⟩:=t
   exact ⟨bi t1 (by omega) (by omega),bi t2 (by omega) (by omega),bi t6 (by omega) (by omega),aw t7,bi t5 (by omega) (by omega),eu t3⟩
  ·rw[yT hk] at h
   have t:=Classical.not_not.1 (fun e=>h (if_neg e))
   simp only[Bool.and_eq_true] at t
   obtain ⟨⟨⟨⟨⟨⟨t1,t2⟩,t3⟩,t4⟩,t5⟩,t6⟩,t7⟩:=t
   exact ⟨bi t1 (by omega) (by omega),bi t2 (by omega) (by omega),aw t5,aw t6,aw t7,eu t3⟩
  ·rw[yQ hk] at h
   have t:=Classical.not_not.1 (fun e=>h (if_neg e))
   simp only[Bool.and_eq_true] at t
   obtain ⟨⟨⟨⟨⟨⟨t1,t2⟩,t3⟩,t4⟩,t5⟩,t6⟩,t7⟩:=t
   exact ⟨bi t1 (by omega) (by omega),bi t2 (by omega) (by omega),aw t5,aw t6,aw t7,eu t3⟩
  ·rw[zq hk] at h
   have t:=Classical.not_not.1 (fun e=>h (if_neg e))
   simp only[Bool.and_eq_true] at t
   obtain ⟨⟨⟨⟨⟨t1,t2⟩,t3⟩,t4⟩,t5⟩,t6⟩:=t
   exact ⟨bi t1 (by omega) (by omega),aw t2,aw t4,aw t5,aw t6,eu t3⟩
  ·rw[zn hk] at h
   have t:=Classical.not_not.1 (fun e=>h (if_neg e))
   simp only[Bool.and_eq_true] at t
   obtain ⟨⟨⟨⟨⟨t1,t2⟩,t3⟩,t4⟩,t5⟩,t6⟩:=t
   exact ⟨bi t1 (by omega) (by omega),aw t2,bi t4 (by omega) (by omega),aw t5,aw t6,eu t3⟩
  ·rw[zw hk] at h
   have t:=Classical.not_not.1 (fun e=>h (if_neg e))
   simp only[Bool.and_eq_true] at t
   obtain ⟨⟨⟨⟨⟨t1,t2⟩,t3⟩,t4⟩,t5⟩,t6⟩:=t
   exact ⟨bi t1 (by omega) (by omega),aw t2,bi t5 (by omega) (by omega),aw t6,bi t4 (by omega) (by omega),eu t3⟩
 ·exact absurd (yq h9) h

end Go.Proofs.YtckeonpnfankhaaGreatDoor

namespace Go.Proofs
open Go.Shelf
def Tryz.lays171_ren:Go.Shelf.Ren:=⟨fun|171=>124|243=>176|246=>207|283=>224|284=>225|285=>226|286=>227|129=>153|317=>249|318=>250|319=>251|320=>252|337=>260|338=>261|n=>n,fun|3=>3|9=>9|2=>2|4=>4|171=>294|0=>0|53=>229|37=>266|5=>5|173=>296|212=>317|51=>227|20=>20|213=>318|46=>179|232=>326|233=>327|n=>n,fun|17=>5|18=>6|19=>7|n=>n⟩
theorem Tryz.lays171:Go.Proofs.LaysM.n171 Tryz.prog Tryz.lays171_ren:={
 mixed:=by kernel_rfl
 f129:=Tryz.func153.trans (congrArg some (by kernel_rfl))
 f171:=Tryz.func124.trans (congrArg some (by kernel_rfl))
 f243:=Tryz.func176.trans (congrArg some (by kernel_rfl))
 f246:=Tryz.func207.trans (congrArg some (by kernel_rfl))
 f283:=Tryz.func224.trans (congrArg some (by kernel_rfl))
 f284:=Tryz.func225.trans (congrArg some (by kernel_rfl))
 f285:=Tryz.func226.trans (congrArg some (by kernel_rfl))
 f286:=Tryz.func227.trans (congrArg some (by kernel_rfl))
 f317:=Tryz.func249.trans (congrArg some (by kernel_rfl))
 f318:=Tryz.func250.trans (congrArg some (by kernel_rfl))
 f319:=Tryz.func251.trans (congrArg some (by kernel_rfl))
 f320:=Tryz.func252.trans (congrArg some (by kernel_rfl))
 f337:=Tryz.func260.trans (congrArg some (by kernel_rfl))
 f338:=Tryz.func261.trans (congrArg some (by kernel_rfl))
 t0:=Tryz.underlying0
 a0:=Tryz.isAgg0
 z0:=Tryz.sizeOf0
 v0:=Tryz.zeroValue0
 t2:=Tryz.underlying2
 a2:=Tryz.isAgg2
 z2:=Tryz.sizeOf2
 v2:=Tryz.zeroValue2
 t3:=Tryz.underlying3
 a3:=Tryz.isAgg3
 z3:=Tryz.sizeOf3
 v3:=Tryz.zeroValue3
 t4:=Tryz.underlying4
 a4:=Tryz.isAgg4
 z4:=Tryz.sizeOf4
 v4:=Tryz.zeroValue4
 t5:=Tryz.underlying5
 a5:=Tryz.isAgg5
 z5:=Tryz.sizeOf5
 v5:=Tryz.zeroValue5
 t9:=Tryz.underlying9
 a9:=Tryz.isAgg9
 z9:=Tryz.sizeOf9
 v9:=Tryz.zeroValue9
 t20:=Tryz.underlying20
 a20:=Tryz.isAgg20
 z20:=Tryz.sizeOf20
 v20:=Tryz.zeroValue20
 t37:=Tryz.underlying266
 a37:=Tryz.isAgg266
 z37:=Tryz.sizeOf266
 v37:=Tryz.zeroValue266
 t46:=Tryz.underlying179
 a46:=Tryz.isAgg179
 z46:=Tryz.sizeOf179
 v46:=Tryz.zeroValue179
 t51:=Tryz.underlying227
 a51:=Tryz.isAgg227
 z51:=Tryz.sizeOf227
 v51:=Tryz.zeroValue227
 t53:=Tryz.underlying229
 a53:=Tryz.isAgg229
 z53:=Tryz.sizeOf229
 v53:=Tryz.zeroValue229
 t171:=Tryz.underlying294
 a171:=Tryz.isAgg294
 z171:=Tryz.sizeOf294
 v171:=Tryz.zeroValue294
 t173:=Tryz.underlying296
 a173:=Tryz.isAgg296
 z173:=Tryz.sizeOf296
 v173:=Tryz.zeroValue296
 t212:=Tryz.underlying317
 a212:=Tryz.isAgg317
 z212:=Tryz.sizeOf317
 v212:=Tryz.zeroValue317
 t213:=Tryz.underlying318
 a213:=Tryz.isAgg318
 z213:=Tryz.sizeOf318
 t232:=Tryz.underlying326
 a232:=Tryz.isAgg326
 z232:=Tryz.sizeOf326
 v232:=Tryz.zeroValue326
 t233:=Tryz.underlying327
 a233:=Tryz.isAgg327
 z233:=Tryz.sizeOf327
 v233:=Tryz.zeroValue327
 g17:=by kernel_rfl
 g18:=by kernel_rfl
 g19:=by kernel_rfl
 i0:=by kernel_rfl
 i2:=by kernel_rfl
 i3:=by kernel_rfl
 i4:=by kernel_rfl
 i5:=by kernel_rfl
 i9:=by kernel_rfl
 i20:=by kernel_rfl
 i37:=by kernel_rfl
 i46:=by kernel_rfl
 i51:=by kernel_rfl
 i53:=by kernel_rfl
 i171:=by kernel_rfl
 i173:=by kernel_rfl
 i212:=by kernel_rfl
 i232:=by kernel_rfl
 i233:=by kernel_rfl
 m17:=by kernel_rfl
 m18:=by kernel_rfl
 m19:=by kernel_rfl }
end Go.Proofs

namespace Go.Proofs.YtckeonpnfankhaaGreatDoor
open Go.RowKit Go.Sort

def nI (w : World) : Prop := Lib.TabIs Tryz.prog w "internal/strconv.uint64pow10" .u64 Lib.pow10Tab
theorem nI.below {w w':World} (h:nI w) (k:Below w.heap.size w w'):nI w':=by
 have hs : (Tryz.prog.globalNamed "internal/strconv.uint64pow10").isSome = true := by kernel_rfl
 obtain ⟨g,hg⟩:=Option.isSome_iff_exists.1 hs
 exact TabIs_below hg h k
theorem nI.gr {w w':World} (h:nI w) (k:Gr w w'):nI w':=h.below k.below

def jh (o:Int):List UInt8:=if o=1 then [60] else if o=2 then [61] else if o=3 then [62] else []
theorem qK (o:Int) (w:World):Calls Tryz.prog 121 #[.int .i64 o] w fun e w'=>e= .returned (.string ⟨(jh o).toArray⟩)∧w'=w:=by
 by_cases h1:o=1
 ·subst h1
  go_enter Tryz.func121,Tryz.ntmps121
  go_wp2
  go_ret
  exact ⟨rfl,rfl⟩
 by_cases h2:o=2
 ·subst h2
  go_enter Tryz.func121,Tryz.ntmps121
  go_wp2
  go_ret
  exact ⟨rfl,rfl⟩
 by_cases h3:o=3
 ·subst h3
  go_enter Tryz.func121,Tryz.ntmps121
  go_wp2
  go_ret
  exact ⟨rfl,rfl⟩
 have e1:jh o=[]:=by unfold jh;rw[if_neg h1,if_neg h2,if_neg h3]
 have q1:(o==1)=false:=beq_eq_false_iff_ne.2 h1
 have q2:(o==2)=false:=beq_eq_false_iff_ne.2 h2
 have q3:(o==3)=false:=beq_eq_false_iff_ne.2 h3
 rw[e1]
 clear h1 h2 h3 e1
 go_enter Tryz.func121,Tryz.ntmps121
 go_wp2
 go_ret
 exact ⟨rfl,rfl⟩

def wh (x:List UInt8):List Value:=[.string ⟨x.toArray⟩]
abbrev sp (w:World) (A:Option Addr) (l:List (List UInt8)):Prop:=ax wh 1 w A l


theorem sR (k:Int):(bf k).length≤4:=by
 unfold bf
 repeat' split
 all_goals simp
end Go.Proofs.YtckeonpnfankhaaGreatDoor
