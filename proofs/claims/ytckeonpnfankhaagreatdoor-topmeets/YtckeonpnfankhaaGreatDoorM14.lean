/-
  query.Print: the text of a query.
  What Parse reads: texts cut at a byte, numbers told in one way alone. No run in this text.
  What Parse reads: a line's step, a text's query; Print's texts are read as they were, and what is read is printed as it stood. No run in this text.
  Print's lines and texts are read as they were. No run in this text.
  The library's strings.TrimPrefix, Cut, Split and strconv.Atoi: where their functions and types stand in this program.
  query.parseNumber: the number that a word tells.
-/
import Derived.Test.YtckeonpnfankhaaGreatDoorM13
import Derived.Lib.Atoi
import Derived.Shelf.LaysC
import Derived.Shelf.Strings.Prefix
import Derived.Shelf.Strings.Shaped
import Derived.Shelf.Strings.SplitShaped
import Derived.Shelf.Strconv.Atoi
import Derived.Shelf.Strconv.AtoiErr
import Derived.Lib.AtoiBound
set_option maxRecDepth 100000
set_option maxHeartbeats 8000000
namespace Go.Proofs.YtckeonpnfankhaaGreatDoor
open Go.RowKit Go.Sort


def aU (c:UInt8):List UInt8→List (List UInt8)
 | []=>[[]]
 | b::r=>if b=c then []::aU c r else match aU c r with
  | []=>[[b]]
  | x::t=>(b::x)::t
theorem jy (c:UInt8):∀l,aU c l≠[]
 | []=>by simp[aU]
 | b::r=>by
  unfold aU
  split
  ·simp
  ·split<;>simp
theorem iG {c:UInt8}:∀(x l:List UInt8),c ∉ x→aU c (x++c::l)=x::aU c l
 | [],l,_=>by simp[aU]
 | b::x,l,h=>by
  have hb:¬b=c:=fun e=>h (by simp[e])
  have ih:=iG x l (fun e=>h (mC _ e))
  rw[List.cons_append,aU,if_neg hb,ih]
theorem iK {c:UInt8}:∀(x:List UInt8),c ∉ x→aU c x=[x]
 | [],_=>by simp[aU]
 | b::x,h=>by
  have hb:¬b=c:=fun e=>h (by simp[e])
  have ih:=iK x (fun e=>h (mC _ e))
  rw[aU,if_neg hb,ih]
def dc (x:List UInt8):Option Int:=if 10<(Lib.trimPrefix x [45]).length then none else match Lib.atoi x with
 | none=>none
 | some n=>if Lib.itoa n=x then some n else none
theorem ti {x:List UInt8} {n:Int} (h:dc x=some n):Lib.itoa n=x:=by
 unfold dc at h
 split at h
 ·simp at h
 ·split at h
  ·simp at h
  ·split at h
   ·simp at h;subst h;assumption
   ·simp at h

def dU:List (List UInt8)→Option (List Int)
 | []=>some []
 | x::r=>match dc x with
  | none=>none
  | some n=>match dU r with
   | none=>none
   | some l=>some (n::l)
theorem mu:∀ {xs:List (List UInt8)} {l:List Int},dU xs=some l→l.map Lib.itoa=xs
 | [],l,h=>by simp[dU] at h;subst h;rfl
 | x::r,l,h=>by
  unfold dU at h
  cases e:dc x with
  | none=>rw[e] at h;simp at h
  | some n =>
   cases e2:dU r with
   | none=>rw[e,e2] at h;simp at h
   | some m =>
    rw[e,e2] at h
    simp at h
    subst h
    rw[List.map_cons,ti e,mu e2]
def iv (x:List UInt8):Option (List Int):=dU (aU 44 x)
def cY (x:List UInt8):Int:=if x=[60] then 1 else if x=[61] then 2 else if x=[62] then 3 else 0
theorem pM {x:List UInt8} (h:cY x≠0):jh (cY x)=x:=by
 unfold cY at h ⊢
 split
 ·next e=>rw[e];rfl
 ·split
  ·next e=>rw[e];rfl
  ·split
   ·next e=>rw[e];rfl
   ·next a b c=>simp[a,b,c] at h
theorem qD {o:Int} (h:o=1∨o=2∨o=3):cY (jh o)=o:=by
 rcases h with rfl|rfl|rfl<;>rfl
def dj (x:List UInt8):Int:=if x=dN 1 then 1 else if x=dN 2 then 2 else if x=dN 3 then 3 else if x=dN 4 then 4 else if x=dN 5 then 5 else if x=dN 6 then 6 else if x=dN 7 then 7 else if x=dN 8 then 8 else if x=dN 9 then 9 else 0
theorem qp {x:List UInt8} (h:dj x≠0):dN (dj x)=x∧1≤dj x∧dj x≤9:=by
 unfold dj at h ⊢
 repeat' split
 all_goals first
  | (next e=>exact ⟨e.symm,by decide,by decide⟩)
  | (simp only[*,if_false] at h;exact absurd rfl h)
theorem pT {k:Int} (h:1≤k∧k≤9):dj (dN k)=k:=by
 have:k=1∨k=2∨k=3∨k=4∨k=5∨k=6∨k=7∨k=8∨k=9:=by omega
 rcases this with rfl|rfl|rfl|rfl|rfl|rfl|rfl|rfl|rfl<;>rfl
def cV (s:Stp) (p:UInt8) (x:List UInt8):Option Stp :=
 if p=79 then (if cY x=0 then none else some { s with o:=cY x })
 else if p=76 then (match iv x with
  | none=>none
  | some l=>some { s with l:=l })
 else match dc x with
  | none=>none
  | some n=>some (if p=65 then { s with a:=n } else if p=66 then { s with b:=n } else if p=67 then { s with c:=n } else { s with v:=n })
def dD (s:Stp):List UInt8→List (List UInt8)→Option Stp
 | [],[]=>some s
 | p::ps,x::xs=>match cV s p x with
  | none=>none
  | some t=>dD t ps xs
 | [],_::_=>none
 | _::_,[]=>none
def fC (k:Int):Stp:=⟨k,0,0,0,0,0,none,0,[]⟩
def ip (x:List UInt8):Option Stp:=match aU 32 x with
 | []=>none
 | y::r=>if dj y=0∨r.length≠(bf (dj y)).length then none else dD (fC (dj y)) (bf (dj y)) r
theorem uG {k:Int}:(∀p∈bf k,p∈([65,66,67,79,86,76]:List UInt8))∧(bf k).Nodup:=by
 unfold bf
 repeat' split
 all_goals decide

def clr (s:Stp):Stp:={ s with p:=none,n:=0 }
def jI:List (List UInt8)→Option (List Stp)
 | []=>none
 | [x]=>if x=[] then some [] else none
 | x::y::r=>match ip x with
  | none=>none
  | some s=>match jI (y::r) with
   | none=>none
   | some q=>some (s::q)
def dX (x:List UInt8):Option (List Stp):=jI (aU 10 x)
end Go.Proofs.YtckeonpnfankhaaGreatDoor

namespace Go.Proofs
open Go.Shelf
def Tryz.lays101_ren:Go.Shelf.Ren:=⟨fun|101=>122|208=>173|206=>201|n=>n,fun|9=>9|4=>4|3=>3|n=>n,fun|n=>n⟩
theorem Tryz.lays101:Go.Proofs.Lays.n101 Tryz.prog Tryz.lays101_ren:={
 mixed:=by kernel_rfl
 f101:=Tryz.func122.trans (congrArg some (by kernel_rfl))
 f206:=Tryz.func201.trans (congrArg some (by kernel_rfl))
 f208:=Tryz.func173.trans (congrArg some (by kernel_rfl))
 t3:=Tryz.underlying3
 a3:=Tryz.isAgg3
 z3:=Tryz.sizeOf3
 v3:=Tryz.zeroValue3
 t4:=Tryz.underlying4
 a4:=Tryz.isAgg4
 z4:=Tryz.sizeOf4
 v4:=Tryz.zeroValue4
 t9:=Tryz.underlying9
 a9:=Tryz.isAgg9
 z9:=Tryz.sizeOf9
 v9:=Tryz.zeroValue9 }
def Tryz.lays145_ren:Go.Shelf.Ren:=⟨fun|145=>40|220=>59|219=>83|217=>114|225=>115|224=>116|267=>117|266=>168|314=>169|n=>n,fun|9=>9|4=>4|59=>102|3=>3|5=>5|46=>179|146=>242|51=>227|n=>n,fun|1=>0|n=>n⟩
theorem Tryz.lays145:Go.Proofs.LaysM.n145 Tryz.prog Tryz.lays145_ren:={
 mixed:=by kernel_rfl
 f145:=Tryz.func40.trans (congrArg some (by kernel_rfl))
 f217:=Tryz.func114.trans (congrArg some (by kernel_rfl))
 f219:=Tryz.func83.trans (congrArg some (by kernel_rfl))
 f220:=Tryz.func59.trans (congrArg some (by kernel_rfl))
 f224:=Tryz.func116.trans (congrArg some (by kernel_rfl))
 f225:=Tryz.func115.trans (congrArg some (by kernel_rfl))
 f266:=Tryz.func168.trans (congrArg some (by kernel_rfl))
 f267:=Tryz.func117.trans (congrArg some (by kernel_rfl))
 f314:=Tryz.func169.trans (congrArg some (by kernel_rfl))
 t3:=Tryz.underlying3
 a3:=Tryz.isAgg3
 z3:=Tryz.sizeOf3
 v3:=Tryz.zeroValue3
 t4:=Tryz.underlying4
 a4:=Tryz.isAgg4
 z4:=Tryz.sizeOf4
 v4:=Tryz.zeroValue4
 t5:=Tryz.underlying5
 a5:=Tryz.isAgg5
 z5:=Tryz.sizeOf5
 v5:=Tryz.zeroValue5
 t9:=Tryz.underlying9
 a9:=Tryz.isAgg9
 z9:=Tryz.sizeOf9
 v9:=Tryz.zeroValue9
 t46:=Tryz.underlying179
 a46:=Tryz.isAgg179
 z46:=Tryz.sizeOf179
 v46:=Tryz.zeroValue179
 t51:=Tryz.underlying227
 a51:=Tryz.isAgg227
 z51:=Tryz.sizeOf227
 v51:=Tryz.zeroValue227
 t59:=Tryz.underlying102
 a59:=Tryz.isAgg102
 z59:=Tryz.sizeOf102
 v59:=Tryz.zeroValue102
 t146:=Tryz.underlying242
 a146:=Tryz.isAgg242
 z146:=Tryz.sizeOf242
 v146:=Tryz.zeroValue242
 g1:=by kernel_rfl
 i3:=by kernel_rfl
 i4:=by kernel_rfl
 i5:=by kernel_rfl
 i9:=by kernel_rfl
 i46:=by kernel_rfl
 i51:=by kernel_rfl
 i59:=by kernel_rfl
 i146:=by kernel_rfl
 m1:=by kernel_rfl
 s1_3:=fun w h=>Go.Proofs.cell_of_shapedOpen_int (zero:= #[.int .i64 0]) (t:=3) h (of_decide_eq_true (by kernel_rfl)) (by kernel_rfl) rfl (by kernel_rfl) (by kernel_rfl) Tryz.underlying3 }
def Tryz.lays146_ren:Go.Shelf.Ren:=⟨fun|146=>60|221=>84|268=>118|138=>119|143=>120|195=>170|197=>171|218=>172|219=>83|260=>200|217=>114|225=>115|224=>116|267=>117|266=>168|314=>169|n=>n,fun|9=>9|31=>129|3=>3|4=>4|0=>0|105=>244|21=>21|5=>5|46=>179|119=>284|139=>287|138=>286|146=>242|51=>227|n=>n,fun|1=>0|3=>1|4=>2|n=>n⟩
theorem Tryz.lays146:Go.Proofs.LaysM.n146 Tryz.prog Tryz.lays146_ren:={
 mixed:=by kernel_rfl
 f138:=Tryz.func119.trans (congrArg some (by kernel_rfl))
 f143:=Tryz.func120.trans (congrArg some (by kernel_rfl))
 f146:=Tryz.func60.trans (congrArg some (by kernel_rfl))
 f195:=Tryz.func170.trans (congrArg some (by kernel_rfl))
 f197:=Tryz.func171.trans (congrArg some (by kernel_rfl))
 f217:=Tryz.func114.trans (congrArg some (by kernel_rfl))
 f218:=Tryz.func172.trans (congrArg some (by kernel_rfl))
 f219:=Tryz.func83.trans (congrArg some (by kernel_rfl))
 f221:=Tryz.func84.trans (congrArg some (by kernel_rfl))
 f224:=Tryz.func116.trans (congrArg some (by kernel_rfl))
 f225:=Tryz.func115.trans (congrArg some (by kernel_rfl))
 f260:=Tryz.func200.trans (congrArg some (by kernel_rfl))
 f266:=Tryz.func168.trans (congrArg some (by kernel_rfl))
 f267:=Tryz.func117.trans (congrArg some (by kernel_rfl))
 f268:=Tryz.func118.trans (congrArg some (by kernel_rfl))
 f314:=Tryz.func169.trans (congrArg some (by kernel_rfl))
 t0:=Tryz.underlying0
 a0:=Tryz.isAgg0
 z0:=Tryz.sizeOf0
 v0:=Tryz.zeroValue0
 t3:=Tryz.underlying3
 a3:=Tryz.isAgg3
 z3:=Tryz.sizeOf3
 v3:=Tryz.zeroValue3
 t4:=Tryz.underlying4
 a4:=Tryz.isAgg4
 z4:=Tryz.sizeOf4
 v4:=Tryz.zeroValue4
 t5:=Tryz.underlying5
 a5:=Tryz.isAgg5
 z5:=Tryz.sizeOf5
 v5:=Tryz.zeroValue5
 t9:=Tryz.underlying9
 a9:=Tryz.isAgg9
 z9:=Tryz.sizeOf9
 v9:=Tryz.zeroValue9
 t21:=Tryz.underlying21
 a21:=Tryz.isAgg21
 z21:=Tryz.sizeOf21
 v21:=Tryz.zeroValue21
 t31:=Tryz.underlying129
 a31:=Tryz.isAgg129
 z31:=Tryz.sizeOf129
 v31:=Tryz.zeroValue129
 t46:=Tryz.underlying179
 a46:=Tryz.isAgg179
 z46:=Tryz.sizeOf179
 v46:=Tryz.zeroValue179
 t51:=Tryz.underlying227
 a51:=Tryz.isAgg227
 z51:=Tryz.sizeOf227
 v51:=Tryz.zeroValue227
 t105:=Tryz.underlying244
 a105:=Tryz.isAgg244
 z105:=Tryz.sizeOf244
 v105:=Tryz.zeroValue244
 t119:=Tryz.underlying284
 a119:=Tryz.isAgg284
 z119:=Tryz.sizeOf284
 t138:=Tryz.underlying286
 a138:=Tryz.isAgg286
 z138:=Tryz.sizeOf286
 v138:=Tryz.zeroValue286
 t139:=Tryz.underlying287
 a139:=Tryz.isAgg287
 z139:=Tryz.sizeOf287
 v139:=Tryz.zeroValue287
 t146:=Tryz.underlying242
 a146:=Tryz.isAgg242
 z146:=Tryz.sizeOf242
 v146:=Tryz.zeroValue242
 g1:=by kernel_rfl
 g3:=by kernel_rfl
 g4:=by kernel_rfl
 i0:=by kernel_rfl
 i3:=by kernel_rfl
 i4:=by kernel_rfl
 i5:=by kernel_rfl
 i9:=by kernel_rfl
 i21:=by kernel_rfl
 i31:=by kernel_rfl
 i46:=by kernel_rfl
 i51:=by kernel_rfl
 i105:=by kernel_rfl
 i138:=by kernel_rfl
 i139:=by kernel_rfl
 i146:=by kernel_rfl
 m1:=by kernel_rfl
 s1_3:=fun w h=>Go.Proofs.cell_of_shapedOpen_int (zero:= #[.int .i64 0]) (t:=3) h (of_decide_eq_true (by kernel_rfl)) (by kernel_rfl) rfl (by kernel_rfl) (by kernel_rfl) Tryz.underlying3
 m3:=by kernel_rfl
 m4:=by kernel_rfl }
def Tryz.lays172_ren:Go.Shelf.Ren:=⟨fun|172=>123|244=>174|245=>175|247=>202|279=>203|280=>204|281=>205|282=>206|287=>221|316=>222|171=>124|205=>223|321=>247|322=>248|243=>176|246=>207|283=>224|284=>225|285=>226|286=>227|129=>153|317=>249|318=>250|319=>251|320=>252|337=>260|338=>261|n=>n,fun|9=>9|3=>3|75=>195|76=>196|4=>4|5=>5|167=>265|37=>266|0=>0|85=>267|2=>2|168=>269|53=>229|175=>288|46=>179|210=>292|127=>312|145=>315|143=>313|21=>21|171=>294|173=>296|212=>317|51=>227|20=>20|213=>318|232=>326|233=>327|80=>328|n=>n,fun|15=>3|16=>4|17=>5|18=>6|19=>7|n=>n⟩
theorem Tryz.lays172:Go.Proofs.LaysC.n172 Tryz.prog Tryz.lays172_ren:={
 mixed:=by kernel_rfl
 f129:=Tryz.func153.trans (congrArg some (by kernel_rfl))
 f171:=Tryz.func124.trans (congrArg some (by kernel_rfl))
 f172:=Tryz.func123.trans (congrArg some (by kernel_rfl))
 f205:=Tryz.func223.trans (congrArg some (by kernel_rfl))
 f243:=Tryz.func176.trans (congrArg some (by kernel_rfl))
 f244:=Tryz.func174.trans (congrArg some (by kernel_rfl))
 f245:=Tryz.func175.trans (congrArg some (by kernel_rfl))
 f246:=Tryz.func207.trans (congrArg some (by kernel_rfl))
 f247:=Tryz.func202.trans (congrArg some (by kernel_rfl))
 f279:=Tryz.func203.trans (congrArg some (by kernel_rfl))
 f280:=Tryz.func204.trans (congrArg some (by kernel_rfl))
 f281:=Tryz.func205.trans (congrArg some (by kernel_rfl))
 f282:=Tryz.func206.trans (congrArg some (by kernel_rfl))
 f283:=Tryz.func224.trans (congrArg some (by kernel_rfl))
 f284:=Tryz.func225.trans (congrArg some (by kernel_rfl))
 f285:=Tryz.func226.trans (congrArg some (by kernel_rfl))
 f286:=Tryz.func227.trans (congrArg some (by kernel_rfl))
 f287:=Tryz.func221.trans (congrArg some (by kernel_rfl))
 f316:=Tryz.func222.trans (congrArg some (by kernel_rfl))
 f317:=Tryz.func249.trans (congrArg some (by kernel_rfl))
 f318:=Tryz.func250.trans (congrArg some (by kernel_rfl))
 f319:=Tryz.func251.trans (congrArg some (by kernel_rfl))
 f320:=Tryz.func252.trans (congrArg some (by kernel_rfl))
 f321:=Tryz.func247.trans (congrArg some (by kernel_rfl))
 f322:=Tryz.func248.trans (congrArg some (by kernel_rfl))
 f337:=Tryz.func260.trans (congrArg some (by kernel_rfl))
 f338:=Tryz.func261.trans (congrArg some (by kernel_rfl))
 t0:=Tryz.underlying0
 a0:=Tryz.isAgg0
 z0:=Tryz.sizeOf0
 v0:=Tryz.zeroValue0
 t2:=Tryz.underlying2
 a2:=Tryz.isAgg2
 z2:=Tryz.sizeOf2
 v2:=Tryz.zeroValue2
 t3:=Tryz.underlying3
 a3:=Tryz.isAgg3
 z3:=Tryz.sizeOf3
 v3:=Tryz.zeroValue3
 t4:=Tryz.underlying4
 a4:=Tryz.isAgg4
 z4:=Tryz.sizeOf4
 v4:=Tryz.zeroValue4
 t5:=Tryz.underlying5
 a5:=Tryz.isAgg5
 z5:=Tryz.sizeOf5
 v5:=Tryz.zeroValue5
 t9:=Tryz.underlying9
 a9:=Tryz.isAgg9
 z9:=Tryz.sizeOf9
 v9:=Tryz.zeroValue9
 t20:=Tryz.underlying20
 a20:=Tryz.isAgg20
 z20:=Tryz.sizeOf20
 v20:=Tryz.zeroValue20
 t21:=Tryz.underlying21
 a21:=Tryz.isAgg21
 z21:=Tryz.sizeOf21
 v21:=Tryz.zeroValue21
 t37:=Tryz.underlying266
 a37:=Tryz.isAgg266
 z37:=Tryz.sizeOf266
 v37:=Tryz.zeroValue266
 t46:=Tryz.underlying179
 a46:=Tryz.isAgg179
 z46:=Tryz.sizeOf179
 v46:=Tryz.zeroValue179
 t51:=Tryz.underlying227
 a51:=Tryz.isAgg227
 z51:=Tryz.sizeOf227
 v51:=Tryz.zeroValue227
 t53:=Tryz.underlying229
 a53:=Tryz.isAgg229
 z53:=Tryz.sizeOf229
 v53:=Tryz.zeroValue229
 t75:=Tryz.underlying195
 a75:=Tryz.isAgg195
 z75:=Tryz.sizeOf195
 v75:=Tryz.zeroValue195
 t76:=Tryz.underlying196
 a76:=Tryz.isAgg196
 z76:=Tryz.sizeOf196
 v76:=Tryz.zeroValue196
 t85:=Tryz.underlying267
 a85:=Tryz.isAgg267
 z85:=Tryz.sizeOf267
 v85:=Tryz.zeroValue267
 t127:=Tryz.underlying312
 a127:=Tryz.isAgg312
 z127:=Tryz.sizeOf312
 v127:=Tryz.zeroValue312
 t143:=Tryz.underlying313
 a143:=Tryz.isAgg313
 z143:=Tryz.sizeOf313
 v143:=Tryz.zeroValue313
 t145:=Tryz.underlying315
 a145:=Tryz.isAgg315
 z145:=Tryz.sizeOf315
 v145:=Tryz.zeroValue315
 t167:=Tryz.underlying265
 a167:=Tryz.isAgg265
 z167:=Tryz.sizeOf265
 v167:=Tryz.zeroValue265
 t168:=Tryz.underlying269
 a168:=Tryz.isAgg269
 z168:=Tryz.sizeOf269
 v168:=Tryz.zeroValue269
 t171:=Tryz.underlying294
 a171:=Tryz.isAgg294
 z171:=Tryz.sizeOf294
 v171:=Tryz.zeroValue294
 t173:=Tryz.underlying296
 a173:=Tryz.isAgg296
 z173:=Tryz.sizeOf296
 v173:=Tryz.zeroValue296
 t175:=Tryz.underlying288
 a175:=Tryz.isAgg288
 z175:=Tryz.sizeOf288
 v175:=Tryz.zeroValue288
 t210:=Tryz.underlying292
 a210:=Tryz.isAgg292
 z210:=Tryz.sizeOf292
 v210:=Tryz.zeroValue292
 t212:=Tryz.underlying317
 a212:=Tryz.isAgg317
 z212:=Tryz.sizeOf317
 v212:=Tryz.zeroValue317
 t213:=Tryz.underlying318
 a213:=Tryz.isAgg318
 z213:=Tryz.sizeOf318
 t232:=Tryz.underlying326
 a232:=Tryz.isAgg326
 z232:=Tryz.sizeOf326
 v232:=Tryz.zeroValue326
 t233:=Tryz.underlying327
 a233:=Tryz.isAgg327
 z233:=Tryz.sizeOf327
 v233:=Tryz.zeroValue327
 g15:=by kernel_rfl
 g16:=by kernel_rfl
 g17:=by kernel_rfl
 g18:=by kernel_rfl
 g19:=by kernel_rfl
 t80:=Tryz.underlying328
 a80:=Tryz.isAgg328
 z80:=Tryz.sizeOf328
 v80:=Tryz.zeroValue328
 i0:=by kernel_rfl
 i2:=by kernel_rfl
 i3:=by kernel_rfl
 i4:=by kernel_rfl
 i5:=by kernel_rfl
 i9:=by kernel_rfl
 i20:=by kernel_rfl
 i21:=by kernel_rfl
 i37:=by kernel_rfl
 i46:=by kernel_rfl
 i51:=by kernel_rfl
 i53:=by kernel_rfl
 i75:=by kernel_rfl
 i76:=by kernel_rfl
 i80:=by kernel_rfl
 i85:=by kernel_rfl
 i127:=by kernel_rfl
 i143:=by kernel_rfl
 i145:=by kernel_rfl
 i167:=by kernel_rfl
 i168:=by kernel_rfl
 i171:=by kernel_rfl
 i173:=by kernel_rfl
 i175:=by kernel_rfl
 i210:=by kernel_rfl
 i212:=by kernel_rfl
 i232:=by kernel_rfl
 i233:=by kernel_rfl
 m15:=by kernel_rfl
 m16:=by kernel_rfl
 m17:=by kernel_rfl
 m18:=by kernel_rfl
 m19:=by kernel_rfl
 c0:=by kernel_rfl
 c2:=by kernel_rfl
 c3:=by kernel_rfl
 c4:=by kernel_rfl
 c5:=by kernel_rfl
 c9:=by kernel_rfl
 c20:=by kernel_rfl
 c21:=by kernel_rfl
 c37:=by kernel_rfl
 c46:=by kernel_rfl
 c51:=by kernel_rfl
 c53:=by kernel_rfl
 c75:=by kernel_rfl
 c76:=by kernel_rfl
 c80:=by kernel_rfl
 c85:=by kernel_rfl
 c127:=by kernel_rfl
 c143:=by kernel_rfl
 c145:=by kernel_rfl
 c167:=by kernel_rfl
 c168:=by kernel_rfl
 c171:=by kernel_rfl
 c173:=by kernel_rfl
 c175:=by kernel_rfl
 c210:=by kernel_rfl
 c212:=by kernel_rfl
 c213:=by kernel_rfl
 c232:=by kernel_rfl
 c233:=by kernel_rfl }
end Go.Proofs

namespace Go.Proofs.YtckeonpnfankhaaGreatDoor
open Go.RowKit Go.Sort

structure Reads (w:World):Prop where
 len:∃m,w.cell? ⟨Tryz.lays145_ren.g 1,0,none⟩=some (.int .i64 m)
 syn:∃ev,w.cell? ⟨Tryz.lays172_ren.g 15,0,none⟩=some ev∧(ev= .nilIface∨∃te pe,ev= .iface te pe)
 tens:nI w
theorem Reads.below {w w':World} (h:Reads w) (k:Below w.heap.size w w'):Reads w':=by
 obtain ⟨m,hm⟩:=h.len
 obtain ⟨ev,he,hv⟩:=h.syn
 exact ⟨⟨m,(k.cell (World.block_lt_of_cell? w _ hm)).trans hm⟩,⟨ev,(k.cell (World.block_lt_of_cell? w _ he)).trans he,hv⟩,h.tens.below k⟩
theorem Reads.gr {w w':World} (h:Reads w) (k:Gr w w'):Reads w':=h.below k.below
theorem uS (x y:List UInt8) (w:World):Calls Tryz.prog 122 #[.string ⟨x.toArray⟩,.string ⟨y.toArray⟩] w fun e w'=>e= .returned (.string ⟨(Lib.trimPrefix x y).toArray⟩)∧w'=w:=by
 have hc:=Any.strings_TrimPrefix Tryz.lays101 ⟨x.toArray⟩ ⟨y.toArray⟩ w
 change Calls Tryz.prog 122 _ _ _ at hc
 exact hc
theorem xn {x:List UInt8} {n:Int} (hl:x.length≤18) (h:Lib.atoi x=some n) (w:World):Calls Tryz.prog 123 #[.string ⟨x.toArray⟩] w fun e w'=>e= .returned (.tuple #[.int .i64 n,.nilIface])∧Below w.heap.size w w':=by
 have hc:=Any.strconv_Atoi Tryz.lays172.toM.1 ⟨x.toArray⟩ n hl h w
 change Calls Tryz.prog 123 _ _ _ at hc
 refine hc.mono ?_
 rintro e w' ⟨rfl,t,rfl⟩
 exact ⟨rfl,Go.Joins.below_bytesWorld _ _ _ _ (nR _)⟩
theorem ng {n:Int} (h0: -9223372036854775808≤n) (h1:n≤9223372036854775807) {w:World} (ht:nI w):Calls Tryz.prog 124 #[.int .i64 n] w fun e w'=>e= .returned (.string ⟨(Lib.itoa n).toArray⟩)∧Gr w w':=by
 have hc:=Any.strconv_Itoa Tryz.lays171 n h0 h1 w ht
 change Calls Tryz.prog 124 _ _ _ at hc
 exact hc
theorem wT {x:List UInt8} (hl:x.length≤18) (h:Lib.atoi x=none) (w:World) (hr:Reads w):Calls Tryz.prog 123 #[.string ⟨x.toArray⟩] w fun e w'=>(∃N,e= .returned (.tuple #[.int .i64 0,.iface (Tryz.lays172_ren.t 168) (.pointer (some ⟨N,0,none⟩))]))∧Below w.heap.size w w':=by
 obtain ⟨ev,he,hv⟩:=hr.syn
 have hc:=Any.strconv_Atoi_err Tryz.lays172 ⟨x.toArray⟩ hl h ev w he hv
 change Calls Tryz.prog 123 _ _ _ at hc
 refine hc.mono ?_
 rintro e w' ⟨N,rfl,_,_,hb⟩
 exact ⟨⟨N,rfl⟩,hb⟩
theorem gk (x:List UInt8) (w:World) (hr:Reads w):Calls Tryz.prog 87 #[.string ⟨x.toArray⟩] w fun e w'=>e= .returned (.tuple #[.int .i64 ((dc x).getD 0),.bool (dc x).isSome])∧Below w.heap.size w w':=by
 have htr:=uS x [45] w
 have htH:Hid _:=htr
 clear htr
 obtain ⟨T,hT⟩:∃T,Lib.trimPrefix x [45]=T:=⟨_,rfl⟩
 have hTl:T.length≤x.length:=by
  rw[←hT]
  unfold Lib.trimPrefix
  split
  ·simp
  ·exact nR _
 by_cases h10:10<T.length
 ·have hn:dc x=none:=by unfold dc;rw[hT,if_pos h10]
  rw[hn]
  have hc:decide ((10:Int)<(T.length:Int))=true:=decide_eq_true (by omega)
  rw[hT] at htH
  go_enter Tryz.func87,Tryz.ntmps87
  go_wp2_with fail
  refine cM (show Calls _ _ _ _ _ from htH.out) ?_
  rintro e w1 ⟨rfl,rfl⟩
  go_wp2
  go_ret2
  exact ⟨rfl,bR _ _⟩
 have hc:decide ((10:Int)<(T.length:Int))=false:=decide_eq_false (by omega)
 have hx:x.length≤18:=by
  have:x.length≤T.length+1:=by
   rw[←hT]
   unfold Lib.trimPrefix
   split<;>simp<;>omega
  omega
 cases ha:Lib.atoi x with
 | none =>
  have hn:dc x=none:=by unfold dc;rw[hT,if_neg h10,ha]
  rw[hn]
  rw[hT] at htH
  have hat:=wT hx ha w hr
  have haH:Hid _:=hat
  clear hat
  go_enter Tryz.func87,Tryz.ntmps87
  go_wp2_with fail
  refine cM (show Calls _ _ _ _ _ from htH.out) ?_
  rintro e w1 ⟨rfl,rfl⟩
  go_wp2_with fail
  refine cM (show Calls _ _ _ _ _ from haH.out) ?_
  rintro e w2 ⟨⟨N,rfl⟩,hb⟩
  go_wp2
  go_ret2
  exact ⟨rfl,hb⟩
 | some n =>
  have hnb: -9223372036854775808≤n∧n≤9223372036854775807:=by have:=Lib.atoi_bound ha hx;omega
  rw[hT] at htH
  have hat:=xn hx ha w
  have haH:Hid _:=hat
  clear hat
  by_cases hi:Lib.itoa n=x
  ·have hn:dc x=some n:=by unfold dc;rw[hT,if_neg h10,ha];simp[hi]
   rw[hn]
   go_enter Tryz.func87,Tryz.ntmps87
   go_wp2_with fail
   refine cM (show Calls _ _ _ _ _ from htH.out) ?_
   rintro e w1 ⟨rfl,rfl⟩
   go_wp2_with fail
   refine cM (show Calls _ _ _ _ _ from haH.out) ?_
   rintro e w2 ⟨rfl,hb⟩
   have hit:=ng hnb.1 hnb.2 (hr.below hb).tens
   rw[hi] at hit
   have hiH:Hid _:=hit
   clear hit
   go_wp2_with fail
   refine cM (show Calls _ _ _ _ _ from hiH.out) ?_
   rintro e w3 ⟨rfl,hg⟩
   go_wp2
   go_ret2
   exact ⟨rfl,hb.trans (hg.below.mono hb.size)⟩
  ·have hn:dc x=none:=by unfold dc;rw[hT,if_neg h10,ha];simp[hi]
   rw[hn]
   have hne:(Lib.itoa n==x)=false:=by simpa using hi
   go_enter Tryz.func87,Tryz.ntmps87
   go_wp2_with fail
   refine cM (show Calls _ _ _ _ _ from htH.out) ?_
   rintro e w1 ⟨rfl,rfl⟩
   go_wp2_with fail
   refine cM (show Calls _ _ _ _ _ from haH.out) ?_
   rintro e w2 ⟨rfl,hb⟩
   have hit:=ng hnb.1 hnb.2 (hr.below hb).tens
   have hiH:Hid _:=hit
   clear hit
   go_wp2_with fail
   refine cM (show Calls _ _ _ _ _ from hiH.out) ?_
   rintro e w3 ⟨rfl,hg⟩
   go_wp2
   go_ret2
   exact ⟨rfl,hb.trans (hg.below.mono hb.size)⟩

end Go.Proofs.YtckeonpnfankhaaGreatDoor
