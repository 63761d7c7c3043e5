/-
  The library's strings.TrimPrefix, Cut, Split and strconv.Atoi: where their functions and types stand in this program.
  query.Number: the number that a word of so many digits tells.
  query.opOf, query.kindOf: the op of a sign, the kind of a word.
  strings.Split and strings.Cut at one byte.
  query.parseList: the numbers that a word tells.
  query.parsePart: one part is put into a step.
-/
import Derived.Shelf.LaysC
import Derived.Shelf.Strings.Prefix
import Derived.Shelf.Strings.Shaped
import Derived.Shelf.Strings.SplitShaped
import Derived.Shelf.Strconv.Atoi
import Derived.Test.YtkefkplnamkicaaGreatDoorM15
import Derived.Shelf.Strconv.AtoiErr
import Derived.Lib.AtoiBound
set_option maxRecDepth 100000
set_option maxHeartbeats 8000000
open Go.Ending renaming returned → J
open Go.IntKind renaming i64 → S
open Go.Proofs.Tryz renaming prog → I
open Go.Value renaming int → V, string → O, pointer → Z, bool → H, tuple → Y, slice → X
namespace Go.Proofs
open Go.Shelf
def Tryz.lays101_ren:Go.Shelf.Ren:=⟨fun|101=>122|208=>173|206=>201|n=>n,fun|9=>9|4=>4|3=>3|n=>n,fun|n=>n⟩
theorem Tryz.lays101:Go.Proofs.Lays.n101 I Tryz.lays101_ren:={
 mixed:=by kernel_rfl
 f101:=Tryz.func122.trans (congrArg some (by kernel_rfl))
 f206:=Tryz.func201.trans (congrArg some (by kernel_rfl))
 f208:=Tryz.func173.trans (congrArg some (by kernel_rfl))
 t3:=Tryz.underlying3
 a3:=Tryz.isAgg3
 z3:=Tryz.sizeOf3
 v3:=Tryz.zeroValue3
 t4:=Tryz.underlying4
 a4:=Tryz.isAgg4
 z4:=Tryz.sizeOf4
 v4:=Tryz.zeroValue4
 t9:=Tryz.underlying9
 a9:=Tryz.isAgg9
 z9:=Tryz.sizeOf9
 v9:=Tryz.zeroValue9 }
def Tryz.lays145_ren:Go.Shelf.Ren:=⟨fun|145=>40|220=>59|219=>83|217=>114|225=>115|224=>116|267=>117|266=>168|314=>169|n=>n,fun|9=>9|4=>4|59=>102|3=>3|5=>5|46=>179|146=>242|51=>227|n=>n,fun|1=>0|n=>n⟩
theorem Tryz.lays145:Go.Proofs.LaysM.n145 I Tryz.lays145_ren:={
 mixed:=by kernel_rfl
 f145:=Tryz.func40.trans (congrArg some (by kernel_rfl))
 f217:=Tryz.func114.trans (congrArg some (by kernel_rfl))
 f219:=Tryz.func83.trans (congrArg some (by kernel_rfl))
 f220:=Tryz.func59.trans (congrArg some (by kernel_rfl))
 f224:=Tryz.func116.trans (congrArg some (by kernel_rfl))
 f225:=Tryz.func115.trans (congrArg some (by kernel_rfl))
 f266:=Tryz.func168.trans (congrArg some (by kernel_rfl))
 f267:=Tryz.func117.trans (congrArg some (by kernel_rfl))
 f314:=Tryz.func169.trans (congrArg some (by kernel_rfl))
 t3:=Tryz.underlying3
 a3:=Tryz.isAgg3
 z3:=Tryz.sizeOf3
 v3:=Tryz.zeroValue3
 t4:=Tryz.underlying4
 a4:=Tryz.isAgg4
 z4:=Tryz.sizeOf4
 v4:=Tryz.zeroValue4
 t5:=Tryz.underlying5
 a5:=Tryz.isAgg5
 z5:=Tryz.sizeOf5
 v5:=Tryz.zeroValue5
 t9:=Tryz.underlying9
 a9:=Tryz.isAgg9
 z9:=Tryz.sizeOf9
 v9:=Tryz.zeroValue9
 t46:=Tryz.underlying179
 a46:=Tryz.isAgg179
 z46:=Tryz.sizeOf179
 v46:=Tryz.zeroValue179
 t51:=Tryz.underlying227
 a51:=Tryz.isAgg227
 z51:=Tryz.sizeOf227
 v51:=Tryz.zeroValue227
 t59:=Tryz.underlying102
 a59:=Tryz.isAgg102
 z59:=Tryz.sizeOf102
 v59:=Tryz.zeroValue102
 t146:=Tryz.underlying242
 a146:=Tryz.isAgg242
 z146:=Tryz.sizeOf242
 v146:=Tryz.zeroValue242
 g1:=by kernel_rfl
 i3:=by kernel_rfl
 i4:=by kernel_rfl
 i5:=by kernel_rfl
 i9:=by kernel_rfl
 i46:=by kernel_rfl
 i51:=by kernel_rfl
 i59:=by kernel_rfl
 i146:=by kernel_rfl
 m1:=by kernel_rfl
 s1_3:=fun w h=>Go.Proofs.cell_of_shapedOpen_int (zero:= #[V S 0]) (t:=3) h (of_decide_eq_true (by kernel_rfl)) (by kernel_rfl) rfl (by kernel_rfl) (by kernel_rfl) Tryz.underlying3 }
def Tryz.lays146_ren:Go.Shelf.Ren:=⟨fun|146=>60|221=>84|268=>118|138=>119|143=>120|195=>170|197=>171|218=>172|219=>83|260=>200|217=>114|225=>115|224=>116|267=>117|266=>168|314=>169|n=>n,fun|9=>9|31=>129|3=>3|4=>4|0=>0|105=>244|21=>21|5=>5|46=>179|119=>284|139=>287|138=>286|146=>242|51=>227|n=>n,fun|1=>0|3=>1|4=>2|n=>n⟩
theorem Tryz.lays146:Go.Proofs.LaysM.n146 I Tryz.lays146_ren:={
 mixed:=by kernel_rfl
 f138:=Tryz.func119.trans (congrArg some (by kernel_rfl))
 f143:=Tryz.func120.trans (congrArg some (by kernel_rfl))
 f146:=Tryz.func60.trans (congrArg some (by kernel_rfl))
 f195:=Tryz.func170.trans (congrArg some (by kernel_rfl))
 f197:=Tryz.func171.trans (congrArg some (by kernel_rfl))
 f217:=Tryz.func114.trans (congrArg some (by kernel_rfl))
 f218:=Tryz.func172.trans (congrArg some (by kernel_rfl))
 f219:=Tryz.func83.trans (congrArg some (by kernel_rfl))
 f221:=Tryz.func84.trans (congrArg some (by kernel_rfl))
 f224:=Tryz.func116.trans (congrArg some (by kernel_rfl))
 f225:=Tryz.func115.trans (congrArg some (by kernel_rfl))
 f260:=Tryz.func200.trans (congrArg some (by kernel_rfl))
 f266:=Tryz.func168.trans (congrArg some (by kernel_rfl))
 f267:=Tryz.func117.trans (congrArg some (by kernel_rfl))
 f268:=Tryz.func118.trans (congrArg some (by kernel_rfl))
 f314:=Tryz.func169.trans (congrArg some (by kernel_rfl))
 t0:=Tryz.underlying0
 a0:=Tryz.isAgg0
 z0:=Tryz.sizeOf0
 v0:=Tryz.zeroValue0
 t3:=Tryz.underlying3
 a3:=Tryz.isAgg3
 z3:=Tryz.sizeOf3
 v3:=Tryz.zeroValue3
 t4:=Tryz.underlying4
 a4:=Tryz.isAgg4
 z4:=Tryz.sizeOf4
 v4:=Tryz.zeroValue4
 t5:=Tryz.underlying5
 a5:=Tryz.isAgg5
 z5:=Tryz.sizeOf5
 v5:=Tryz.zeroValue5
 t9:=Tryz.underlying9
 a9:=Tryz.isAgg9
 z9:=Tryz.sizeOf9
 v9:=Tryz.zeroValue9
 t21:=Tryz.underlying21
 a21:=Tryz.isAgg21
 z21:=Tryz.sizeOf21
 v21:=Tryz.zeroValue21
 t31:=Tryz.underlying129
 a31:=Tryz.isAgg129
 z31:=Tryz.sizeOf129
 v31:=Tryz.zeroValue129
 t46:=Tryz.underlying179
 a46:=Tryz.isAgg179
 z46:=Tryz.sizeOf179
 v46:=Tryz.zeroValue179
 t51:=Tryz.underlying227
 a51:=Tryz.isAgg227
 z51:=Tryz.sizeOf227
 v51:=Tryz.zeroValue227
 t105:=Tryz.underlying244
 a105:=Tryz.isAgg244
 z105:=Tryz.sizeOf244
 v105:=Tryz.zeroValue244
 t119:=Tryz.underlying284
 a119:=Tryz.isAgg284
 z119:=Tryz.sizeOf284
 t138:=Tryz.underlying286
 a138:=Tryz.isAgg286
 z138:=Tryz.sizeOf286
 v138:=Tryz.zeroValue286
 t139:=Tryz.underlying287
 a139:=Tryz.isAgg287
 z139:=Tryz.sizeOf287
 v139:=Tryz.zeroValue287
 t146:=Tryz.underlying242
 a146:=Tryz.isAgg242
 z146:=Tryz.sizeOf242
 v146:=Tryz.zeroValue242
 g1:=by kernel_rfl
 g3:=by kernel_rfl
 g4:=by kernel_rfl
 i0:=by kernel_rfl
 i3:=by kernel_rfl
 i4:=by kernel_rfl
 i5:=by kernel_rfl
 i9:=by kernel_rfl
 i21:=by kernel_rfl
 i31:=by kernel_rfl
 i46:=by kernel_rfl
 i51:=by kernel_rfl
 i105:=by kernel_rfl
 i138:=by kernel_rfl
 i139:=by kernel_rfl
 i146:=by kernel_rfl
 m1:=by kernel_rfl
 s1_3:=fun w h=>Go.Proofs.cell_of_shapedOpen_int (zero:= #[V S 0]) (t:=3) h (of_decide_eq_true (by kernel_rfl)) (by kernel_rfl) rfl (by kernel_rfl) (by kernel_rfl) Tryz.underlying3
 m3:=by kernel_rfl
 m4:=by kernel_rfl }
def Tryz.lays172_ren:Go.Shelf.Ren:=⟨fun|172=>123|244=>174|245=>175|247=>202|279=>203|280=>204|281=>205|282=>206|287=>221|316=>222|171=>124|205=>223|321=>247|322=>248|243=>176|246=>207|283=>224|284=>225|285=>226|286=>227|129=>153|317=>249|318=>250|319=>251|320=>252|337=>260|338=>261|n=>n,fun|9=>9|3=>3|75=>195|76=>196|4=>4|5=>5|167=>265|37=>266|0=>0|85=>267|2=>2|168=>269|53=>229|175=>288|46=>179|210=>292|127=>312|145=>315|143=>313|21=>21|171=>294|173=>296|212=>317|51=>227|20=>20|213=>318|232=>326|233=>327|80=>328|n=>n,fun|15=>3|16=>4|17=>5|18=>6|19=>7|n=>n⟩
theorem Tryz.lays172:Go.Proofs.LaysC.n172 I Tryz.lays172_ren:={
 mixed:=by kernel_rfl
 f129:=Tryz.func153.trans (congrArg some (by kernel_rfl))
 f171:=Tryz.func124.trans (congrArg some (by kernel_rfl))
 f172:=Tryz.func123.trans (congrArg some (by kernel_rfl))
 f205:=Tryz.func223.trans (congrArg some (by kernel_rfl))
 f243:=Tryz.func176.trans (congrArg some (by kernel_rfl))
 f244:=Tryz.func174.trans (congrArg some (by kernel_rfl))
 f245:=Tryz.func175.trans (congrArg some (by kernel_rfl))
 f246:=Tryz.func207.trans (congrArg some (by kernel_rfl))
 f247:=Tryz.func202.trans (congrArg some (by kernel_rfl))
 f279:=Tryz.func203.trans (congrArg some (by kernel_rfl))
 f280:=Tryz.func204.trans (congrArg some (by kernel_rfl))
 f281:=Tryz.func205.trans (congrArg some (by kernel_rfl))
 f282:=Tryz.func206.trans (congrArg some (by kernel_rfl))
 f283:=Tryz.func224.trans (congrArg some (by kernel_rfl))
 f284:=Tryz.func225.trans (congrArg some (by kernel_rfl))
 f285:=Tryz.func226.trans (congrArg some (by kernel_rfl))
 f286:=Tryz.func227.trans (congrArg some (by kernel_rfl))
 f287:=Tryz.func221.trans (congrArg some (by kernel_rfl))
 f316:=Tryz.func222.trans (congrArg some (by kernel_rfl))
 f317:=Tryz.func249.trans (congrArg some (by kernel_rfl))
 f318:=Tryz.func250.trans (congrArg some (by kernel_rfl))
 f319:=Tryz.func251.trans (congrArg some (by kernel_rfl))
 f320:=Tryz.func252.trans (congrArg some (by kernel_rfl))
 f321:=Tryz.func247.trans (congrArg some (by kernel_rfl))
 f322:=Tryz.func248.trans (congrArg some (by kernel_rfl))
 f337:=Tryz.func260.trans (congrArg some (by kernel_rfl))
 f338:=Tryz.func261.trans (congrArg some (by kernel_rfl))
 t0:=Tryz.underlying0
 a0:=Tryz.isAgg0
 z0:=Tryz.sizeOf0
 v0:=Tryz.zeroValue0
 t2:=Tryz.underlying2
 a2:=Tryz.isAgg2
 z2:=Tryz.sizeOf2
 v2:=Tryz.zeroValue2
 t3:=Tryz.underlying3
 a3:=Tryz.isAgg3
 z3:=Tryz.sizeOf3
 v3:=Tryz.zeroValue3
 t4:=Tryz.underlying4
 a4:=Tryz.isAgg4
 z4:=Tryz.sizeOf4
 v4:=Tryz.zeroValue4
 t5:=Tryz.underlying5
 a5:=Tryz.isAgg5
 z5:=Tryz.sizeOf5
 v5:=Tryz.zeroValue5
 t9:=Tryz.underlying9
 a9:=Tryz.isAgg9
 z9:=Tryz.sizeOf9
 v9:=Tryz.zeroValue9
 t20:=Tryz.underlying20
 a20:=Tryz.isAgg20
 z20:=Tryz.sizeOf20
 v20:=Tryz.zeroValue20
 t21:=Tryz.underlying21
 a21:=Tryz.isAgg21
 z21:=Tryz.sizeOf21
 v21:=Tryz.zeroValue21
 t37:=Tryz.underlying266
 a37:=Tryz.isAgg266
 z37:=Tryz.sizeOf266
 v37:=Tryz.zeroValue266
 t46:=Tryz.underlying179
 a46:=Tryz.isAgg179
 z46:=Tryz.sizeOf179
 v46:=Tryz.zeroValue179
 t51:=Tryz.underlying227
 a51:=Tryz.isAgg227
 z51:=Tryz.sizeOf227
 v51:=Tryz.zeroValue227
 t53:=Tryz.underlying229
 a53:=Tryz.isAgg229
 z53:=Tryz.sizeOf229
 v53:=Tryz.zeroValue229
 t75:=Tryz.underlying195
 a75:=Tryz.isAgg195
 z75:=Tryz.sizeOf195
 v75:=Tryz.zeroValue195
 t76:=Tryz.underlying196
 a76:=Tryz.isAgg196
 z76:=Tryz.sizeOf196
 v76:=Tryz.zeroValue196
 t85:=Tryz.underlying267
 a85:=Tryz.isAgg267
 z85:=Tryz.sizeOf267
 v85:=Tryz.zeroValue267
 t127:=Tryz.underlying312
 a127:=Tryz.isAgg312
 z127:=Tryz.sizeOf312
 v127:=Tryz.zeroValue312
 t143:=Tryz.underlying313
 a143:=Tryz.isAgg313
 z143:=Tryz.sizeOf313
 v143:=Tryz.zeroValue313
 t145:=Tryz.underlying315
 a145:=Tryz.isAgg315
 z145:=Tryz.sizeOf315
 v145:=Tryz.zeroValue315
 t167:=Tryz.underlying265
 a167:=Tryz.isAgg265
 z167:=Tryz.sizeOf265
 v167:=Tryz.zeroValue265
 t168:=Tryz.underlying269
 a168:=Tryz.isAgg269
 z168:=Tryz.sizeOf269
 v168:=Tryz.zeroValue269
 t171:=Tryz.underlying294
 a171:=Tryz.isAgg294
 z171:=Tryz.sizeOf294
 v171:=Tryz.zeroValue294
 t173:=Tryz.underlying296
 a173:=Tryz.isAgg296
 z173:=Tryz.sizeOf296
 v173:=Tryz.zeroValue296
 t175:=Tryz.underlying288
 a175:=Tryz.isAgg288
 z175:=Tryz.sizeOf288
 v175:=Tryz.zeroValue288
 t210:=Tryz.underlying292
 a210:=Tryz.isAgg292
 z210:=Tryz.sizeOf292
 v210:=Tryz.zeroValue292
 t212:=Tryz.underlying317
 a212:=Tryz.isAgg317
 z212:=Tryz.sizeOf317
 v212:=Tryz.zeroValue317
 t213:=Tryz.underlying318
 a213:=Tryz.isAgg318
 z213:=Tryz.sizeOf318
 t232:=Tryz.underlying326
 a232:=Tryz.isAgg326
 z232:=Tryz.sizeOf326
 v232:=Tryz.zeroValue326
 t233:=Tryz.underlying327
 a233:=Tryz.isAgg327
 z233:=Tryz.sizeOf327
 v233:=Tryz.zeroValue327
 g15:=by kernel_rfl
 g16:=by kernel_rfl
 g17:=by kernel_rfl
 g18:=by kernel_rfl
 g19:=by kernel_rfl
 t80:=Tryz.underlying328
 a80:=Tryz.isAgg328
 z80:=Tryz.sizeOf328
 v80:=Tryz.zeroValue328
 i0:=by kernel_rfl
 i2:=by kernel_rfl
 i3:=by kernel_rfl
 i4:=by kernel_rfl
 i5:=by kernel_rfl
 i9:=by kernel_rfl
 i20:=by kernel_rfl
 i21:=by kernel_rfl
 i37:=by kernel_rfl
 i46:=by kernel_rfl
 i51:=by kernel_rfl
 i53:=by kernel_rfl
 i75:=by kernel_rfl
 i76:=by kernel_rfl
 i80:=by kernel_rfl
 i85:=by kernel_rfl
 i127:=by kernel_rfl
 i143:=by kernel_rfl
 i145:=by kernel_rfl
 i167:=by kernel_rfl
 i168:=by kernel_rfl
 i171:=by kernel_rfl
 i173:=by kernel_rfl
 i175:=by kernel_rfl
 i210:=by kernel_rfl
 i212:=by kernel_rfl
 i232:=by kernel_rfl
 i233:=by kernel_rfl
 m15:=by kernel_rfl
 m16:=by kernel_rfl
 m17:=by kernel_rfl
 m18:=by kernel_rfl
 m19:=by kernel_rfl
 c0:=by kernel_rfl
 c2:=by kernel_rfl
 c3:=by kernel_rfl
 c4:=by kernel_rfl
 c5:=by kernel_rfl
 c9:=by kernel_rfl
 c20:=by kernel_rfl
 c21:=by kernel_rfl
 c37:=by kernel_rfl
 c46:=by kernel_rfl
 c51:=by kernel_rfl
 c53:=by kernel_rfl
 c75:=by kernel_rfl
 c76:=by kernel_rfl
 c80:=by kernel_rfl
 c85:=by kernel_rfl
 c127:=by kernel_rfl
 c143:=by kernel_rfl
 c145:=by kernel_rfl
 c167:=by kernel_rfl
 c168:=by kernel_rfl
 c171:=by kernel_rfl
 c173:=by kernel_rfl
 c175:=by kernel_rfl
 c210:=by kernel_rfl
 c212:=by kernel_rfl
 c213:=by kernel_rfl
 c232:=by kernel_rfl
 c233:=by kernel_rfl }
end Go.Proofs

namespace Go.Proofs.YtkefkplnamkicaaGreatDoor
open Go.RowKit Go.Sort

structure Reads (w:World):Prop where
 len:∃m,w.cell? ⟨Tryz.lays145_ren.g 1,0,none⟩=some (V S m)
 syn:∃ev,w.cell? ⟨Tryz.lays172_ren.g 15,0,none⟩=some ev∧(ev= .nilIface∨∃te pe,ev= .iface te pe)
 tens:pz w
theorem Reads.below {w w':World} (h:Reads w) (k:Below w.heap.size w w'):Reads w':=by
 obtain ⟨m,hm⟩:=h.len
 obtain ⟨ev,he,hv⟩:=h.syn
 exact ⟨⟨m,(k.cell (World.block_lt_of_cell? w _ hm)).trans hm⟩,⟨ev,(k.cell (World.block_lt_of_cell? w _ he)).trans he,hv⟩,h.tens.below k⟩
theorem Reads.gr {w w':World} (h:Reads w) (k:Gr w w'):Reads w':=h.below k.below
theorem yp (x y:List UInt8) (w:World):Calls I 122 #[O ⟨x.toArray⟩,O ⟨y.toArray⟩] w fun e w'=>e= J (O ⟨(Lib.trimPrefix x y).toArray⟩)∧w'=w:=by
 have hc:=Any.strings_TrimPrefix Tryz.lays101 ⟨x.toArray⟩ ⟨y.toArray⟩ w
 change Calls I 122 _ _ _ at hc
 exact hc
theorem yG {x:List UInt8} {n:Int} (hl:x.length≤18) (h:Lib.atoi x=some n) (w:World):Calls I 123 #[O ⟨x.toArray⟩] w fun e w'=>e= J (Y #[V S n,.nilIface])∧Below w.heap.size w w':=by
 have hc:=Any.strconv_Atoi Tryz.lays172.toM.1 ⟨x.toArray⟩ n hl h w
 change Calls I 123 _ _ _ at hc
 refine hc.mono ?_
 rintro e w' ⟨rfl,t,rfl⟩
 exact ⟨rfl,Go.Joins.below_bytesWorld _ _ _ _ (nR _)⟩
theorem oJ {n:Int} (h0: -9223372036854775808≤n) (h1:n≤9223372036854775807) {w:World} (ht:pz w):Calls I 124 #[V S n] w fun e w'=>e= J (O ⟨(Lib.itoa n).toArray⟩)∧Gr w w':=by
 have hc:=Any.strconv_Itoa Tryz.lays171 n h0 h1 w ht
 change Calls I 124 _ _ _ at hc
 exact hc
theorem yF {x:List UInt8} (hl:x.length≤18) (h:Lib.atoi x=none) (w:World) (hr:Reads w):Calls I 123 #[O ⟨x.toArray⟩] w fun e w'=>(∃N,e= J (Y #[V S 0,.iface (Tryz.lays172_ren.t 168) (Z (some ⟨N,0,none⟩))]))∧Below w.heap.size w w':=by
 obtain ⟨ev,he,hv⟩:=hr.syn
 have hc:=Any.strconv_Atoi_err Tryz.lays172 ⟨x.toArray⟩ hl h ev w he hv
 change Calls I 123 _ _ _ at hc
 refine hc.mono ?_
 rintro e w' ⟨N,rfl,_,_,hb⟩
 exact ⟨⟨N,rfl⟩,hb⟩
def lw (d:Int) (x:List UInt8):Option Int:=if d<((Lib.trimPrefix x [45]).length:Int) then none else match Lib.atoi x with
 | none=>none
 | some n=>if Lib.itoa n=x then some n else none
theorem xF (x:List UInt8):lw 10 x=ee x:=by
 unfold lw ee
 by_cases h:10<(Lib.trimPrefix x [45]).length
 ·rw[if_pos (by omega),if_pos h]
 ·rw[if_neg (by omega),if_neg h]
  cases Lib.atoi x<;>rfl
theorem sT (d:Int) (hd:d≤17) (x:List UInt8) (w:World) (hr:Reads w):Calls I 87 #[O ⟨x.toArray⟩,V S d] w fun e w'=>e= J (Y #[V S ((lw d x).getD 0),H (lw d x).isSome])∧Below w.heap.size w w':=by
 have htr:=yp x [45] w
 have htH:Hid _:=htr
 clear htr
 obtain ⟨T,hT⟩:∃T,Lib.trimPrefix x [45]=T:=⟨_,rfl⟩
 have hTl:T.length≤x.length:=by
  rw[←hT]
  unfold Lib.trimPrefix
  split
  ·simp
  ·exact nR _
 by_cases h10:d<(T.length:Int)
 ·have hn:lw d x=none:=by unfold lw;rw[hT,if_pos h10]
  rw[hn]
  have hc:decide (d<(T.length:Int))=true:=decide_eq_true (by omega)
  rw[hT] at htH
  go_enter Tryz.func87,Tryz.ntmps87
  go_wp2_with fail
  refine cM (show Calls _ _ _ _ _ from htH.out) ?_
  rintro e w1 ⟨rfl,rfl⟩
  go_wp2
  go_ret2
  exact ⟨rfl,bR _ _⟩
 have hc:decide (d<(T.length:Int))=false:=decide_eq_false (by omega)
 have hx:x.length≤18:=by
  have:x.length≤T.length+1:=by
   rw[←hT]
   unfold Lib.trimPrefix
   split<;>simp<;>omega
  omega
 cases ha:Lib.atoi x with
 | none =>
  have hn:lw d x=none:=by unfold lw;rw[hT,if_neg h10,ha]
  rw[hn]
  rw[hT] at htH
  have hat:=yF hx ha w hr
  have haH:Hid _:=hat
  clear hat
  go_enter Tryz.func87,Tryz.ntmps87
  go_wp2_with fail
  refine cM (show Calls _ _ _ _ _ from htH.out) ?_
  rintro e w1 ⟨rfl,rfl⟩
  go_wp2_with fail
  refine cM (show Calls _ _ _ _ _ from haH.out) ?_
  rintro e w2 ⟨⟨N,rfl⟩,hb⟩
  go_wp2
  go_ret2
  exact ⟨rfl,hb⟩
 | some n =>
  have hnb: -9223372036854775808≤n∧n≤9223372036854775807:=by have:=Lib.atoi_bound ha hx;omega
  rw[hT] at htH
  have hat:=yG hx ha w
  have haH:Hid _:=hat
  clear hat
  by_cases hi:Lib.itoa n=x
  ·have hn:lw d x=some n:=by unfold lw;rw[hT,if_neg h10,ha];simp[hi]
   rw[hn]
   go_enter Tryz.func87,Tryz.ntmps87
   go_wp2_with fail
   refine cM (show Calls _ _ _ _ _ from htH.out) ?_
   rintro e w1 ⟨rfl,rfl⟩
   go_wp2_with fail
   refine cM (show Calls _ _ _ _ _ from haH.out) ?_
   rintro e w2 ⟨rfl,hb⟩
   have hit:=oJ hnb.1 hnb.2 (hr.below hb).tens
   rw[hi] at hit
   have hiH:Hid _:=hit
   clear hit
   go_wp2_with fail
   refine cM (show Calls _ _ _ _ _ from hiH.out) ?_
   rintro e w3 ⟨rfl,hg⟩
   go_wp2
   go_ret2
   exact ⟨rfl,hb.trans (hg.below.mono hb.size)⟩
  ·have hn:lw d x=none:=by unfold lw;rw[hT,if_neg h10,ha];simp[hi]
   rw[hn]
   have hne:(Lib.itoa n==x)=false:=by simpa using hi
   go_enter Tryz.func87,Tryz.ntmps87
   go_wp2_with fail
   refine cM (show Calls _ _ _ _ _ from htH.out) ?_
   rintro e w1 ⟨rfl,rfl⟩
   go_wp2_with fail
   refine cM (show Calls _ _ _ _ _ from haH.out) ?_
   rintro e w2 ⟨rfl,hb⟩
   have hit:=oJ hnb.1 hnb.2 (hr.below hb).tens
   have hiH:Hid _:=hit
   clear hit
   go_wp2_with fail
   refine cM (show Calls _ _ _ _ _ from hiH.out) ?_
   rintro e w3 ⟨rfl,hg⟩
   go_wp2
   go_ret2
   exact ⟨rfl,hb.trans (hg.below.mono hb.size)⟩
theorem gW (x:List UInt8) (w:World) (hr:Reads w):Calls I 87 #[O ⟨x.toArray⟩,V S 10] w fun e w'=>e= J (Y #[V S ((ee x).getD 0),H (ee x).isSome])∧Below w.heap.size w w':=by
 rw[←xF];exact sT 10 (by decide) x w hr


theorem rA (x:List UInt8):0≤dc x∧dc x≤3:=by
 unfold dc
 repeat' split
 all_goals decide
theorem xI (x:List UInt8) (w:World):Calls I 85 #[O ⟨x.toArray⟩] w fun e w'=>e= J (V S (dc x))∧w'=w:=by
 go_enter Tryz.func85,Tryz.ntmps85
 go_wp2
 go_loopw [3] (fun i wr=>∃j:Nat,j≤3∧i= V S ((j:Int)+1)∧Hid (∀m:Nat,m<j→jZ ((m:Int)+1)≠x)∧wr=w) (fun i _=>4-(intOf i).toNat)
 case atStart=>exact ⟨0,nZ _,rfl,fun m h=>by omega,rfl⟩
 case round =>
  obtain ⟨j,hj,rfl,hall,rfl⟩:=hrel
  by_cases hlt:j<3
  ·have hle:decide ((j:Int)+1≤3)=true:=decide_eq_true (by omega)
   have hsg:=tf ((j:Int)+1) wr
   have hsgH:Hid _:=hsg
   clear hsg
   by_cases hq:jZ ((j:Int)+1)=x
   ·have hfin:Hid (dc x=(j:Int)+1):=by
     show _=_
     rw[←hq]
     exact th (by omega)
    rw[hq] at hsgH
    clear hq
    go_wp2_with (go_at_call 121;(refine cM (show Calls _ _ _ _ _ from hsgH.out) ?_);rintro e w' ⟨rfl,rfl⟩)
    go_ret
    exact ⟨by rw[hfin.out];rfl,rfl⟩
   ·have hb:(jZ ((j:Int)+1)==x)=false:=by simpa using hq
    have hqH:Hid (jZ ((j:Int)+1)≠x):=hq
    clear hq
    go_wp2_with (go_at_call 121;(refine cM (show Calls _ _ _ _ _ from hsgH.out) ?_);rintro e w' ⟨rfl,rfl⟩)
    go_roundw
    case rel =>
     refine ⟨j+1,by omega,by go_num,?_,by trivial⟩
     intro m hm
     by_cases e:m=j
     ·subst e;exact hqH.out
     ·exact hall m (by omega)
    case measure=>simp[intOf];omega
  ·have hle:decide ((j:Int)+1≤3)=false:=decide_eq_false (by omega)
   have hfin:Hid (dc x=0):=by
    show _=_
    by_cases h0:dc x=0
    ·exact h0
    ·have hr:=rA x
     have ht:=ti h0
     exact absurd (by rw[show (((dc x).toNat-1:Nat):Int)+1=dc x by omega];exact ht) (hall ((dc x).toNat-1) (by omega))
   go_wp2
   go_ret
   exact ⟨by rw[hfin.out];rfl,rfl⟩

theorem sB (x:List UInt8) (w:World):Calls I 61 #[O ⟨x.toArray⟩] w fun e w'=>e= J (V S (du x))∧w'=w:=by
 go_enter Tryz.func61,Tryz.ntmps61
 go_wp2
 go_loopw [3] (fun i wr=>∃j:Nat,j≤9∧i= V S ((j:Int)+1)∧Hid (∀m:Nat,m<j→ek ((m:Int)+1)≠x)∧wr=w) (fun i _=>10-(intOf i).toNat)
 case atStart=>exact ⟨0,nZ _,rfl,fun m h=>by omega,rfl⟩
 case round =>
  obtain ⟨j,hj,rfl,hall,rfl⟩:=hrel
  by_cases hlt:j<9
  ·have hle:decide ((j:Int)+1≤9)=true:=decide_eq_true (by omega)
   have hsg:=jn ((j:Int)+1) wr
   obtain ⟨P,hP⟩:∃P,dH ((j:Int)+1)=P:=⟨_,rfl⟩
   rw[hP] at hsg
   have hsgH:Hid _:=hsg
   clear hsg hP
   by_cases hq:ek ((j:Int)+1)=x
   ·have hfin:Hid (du x=(j:Int)+1):=by
     show _=_
     rw[←hq]
     exact sC (by omega)
    rw[hq] at hsgH
    clear hq
    go_wp2_with (go_at_call 62;(refine cM (show Calls _ _ _ _ _ from hsgH.out) ?_);rintro e w' ⟨rfl,rfl⟩)
    go_ret
    exact ⟨by rw[hfin.out];rfl,rfl⟩
   ·have hb:(ek ((j:Int)+1)==x)=false:=by simpa using hq
    have hqH:Hid (ek ((j:Int)+1)≠x):=hq
    clear hq
    go_wp2_with (go_at_call 62;(refine cM (show Calls _ _ _ _ _ from hsgH.out) ?_);rintro e w' ⟨rfl,rfl⟩)
    go_roundw
    case rel =>
     refine ⟨j+1,by omega,by go_num,?_,by trivial⟩
     intro m hm
     by_cases e:m=j
     ·subst e;exact hqH.out
     ·exact hall m (by omega)
    case measure=>simp[intOf];omega
  ·have hle:decide ((j:Int)+1≤9)=false:=decide_eq_false (by omega)
   have hfin:Hid (du x=0):=by
    show _=_
    by_cases h0:du x=0
    ·exact h0
    ·have ht:=sD h0
     exact absurd (by rw[show (((du x).toNat-1:Nat):Int)+1=du x by omega];exact ht.1) (hall ((du x).toNat-1) (by omega))
   go_wp2
   go_ret
   exact ⟨by rw[hfin.out];rfl,rfl⟩

theorem Bf (c b:UInt8) (l:List UInt8):[c].isPrefixOf (b::l)=(c==b):=by simp[List.isPrefixOf]
theorem pI (c:UInt8):∀x:List UInt8,(c ∉ x∧Lib.index x [c]= -1)∨(∃a r,x=a++c::r∧c ∉ a∧Lib.index x [c]=(a.length:Int))
 | []=>oL ⟨by simp,rfl⟩
 | b::l=>by
  rw[Lib.index,Bf]
  by_cases h:c=b
  ·subst h
   exact oR ⟨[],l,rfl,by simp,by simp⟩
  ·have hb:¬(c==b)=true:=by simpa using h
   rw[if_neg hb]
   rcases pI c l with ⟨h1,h2⟩|⟨a,r,h1,h2,h3⟩
   ·refine oL ⟨by simp[h,h1],by rw[h2];rfl⟩
   ·refine oR ⟨b::a,r,by rw[h1];rfl,by simp[h,h2],?_⟩
    have hn:¬(Lib.index l [c] == -1)=true:=by rw[h3];simp
    rw[if_neg hn,h3]
    simp
theorem tY (c:UInt8):∀(n:Nat) (x:List UInt8),x.length≤n→Lib.split x [c]=aH c x
 | n,x,hn=>by
  rcases pI c x with ⟨h1,h2⟩|⟨a,r,h1,h2,h3⟩
  ·unfold Lib.split
   rw[Lib.count_miss h2,Lib.splitK,jx x h1]
  ·cases n with
   | zero=>rw[h1] at hn;simp at hn
   | succ n =>
    have hr:r.length≤n:=by rw[h1] at hn;simp at hn;omega
    have ih:=tY c n r hr
    have hd:x.drop (a.length+[c].length)=r:=by rw[h1];simp
    have ht:x.take a.length=a:=by rw[h1];simp
    unfold Lib.split at ih ⊢
    rw[Lib.count_hit (by simp) h3,hd,Nat.add_comm,Lib.splitK]
    have hm:¬(Lib.index x [c] == -1)=true:=by rw[h3];simp
    rw[if_neg hm,h3,show ((a.length:Int)).toNat+0=a.length by simp,show ((a.length:Int)).toNat+[c].length=a.length+[c].length by simp,hd,ht,ih,h1,fl a r h2]
theorem rD (c:UInt8) (x:List UInt8):Lib.splitB ⟨#[c]⟩ 0 (Lib.countB ⟨x.toArray⟩ ⟨#[c]⟩) ⟨x.toArray⟩=(aH c x).map fun y=>(⟨y.toArray⟩:ByteArray):=by
 have h:=Lib.splitB_data ⟨#[c]⟩ 0 (Lib.countB ⟨x.toArray⟩ ⟨#[c]⟩) ⟨x.toArray⟩
 have h2:Lib.splitK [c] 0 (Lib.count x [c]) x=aH c x:=tY c x.length x (nR _)
 have h3:(Lib.splitB ⟨#[c]⟩ 0 (Lib.countB ⟨x.toArray⟩ ⟨#[c]⟩) ⟨x.toArray⟩).map (·.data.toList)=aH c x:=h.trans h2
 rw[←h3,List.map_map]
 have:((fun y:List UInt8=>(⟨y.toArray⟩:ByteArray)) ∘ fun b:ByteArray=>b.data.toList)=id:=by
  funext b
  rfl
 rw[this,List.map_id]
theorem iU (c:UInt8):∀x,(aH c x).length≤x.length+1
 | []=>by simp[aH]
 | b::r=>by
  have ih:=iU c r
  rw[aH]
  split
  ·simp;omega
  ·split
   ·simp
   ·next e=>rw[e] at ih;simp at ih ⊢;omega
theorem yM (c:UInt8) (x:List UInt8):Lib.countB ⟨x.toArray⟩ ⟨#[c]⟩+1=(aH c x).length:=by
 have h:=Lib.splitB_all ⟨#[c]⟩ (nR 1) 0 _ (⟨x.toArray⟩:ByteArray) rfl
 rw[rD,List.length_map] at h
 exact h.symm
theorem xS {W:World} (xs:List (List UInt8)) (T:TypeId):uh (W.alloc (.cells ((xs.map fun y=>(⟨y.toArray⟩:ByteArray)).map Value.string).toArray T)) (some ⟨W.heap.size,0,none⟩) xs:=by
 refine oR ⟨W.heap.size,0,rfl,by simp,fun j hj i hi=> ?_⟩
 obtain rfl:i=0:=by omega
 simp[yX,List.getElem?_eq_getElem hj]
theorem pn (x:List UInt8) (c:UInt8) (w:World) (hr:Reads w) (hx:x.length<4294967281):Calls I 60 #[O ⟨x.toArray⟩,O ⟨#[c]⟩] w fun e w'=>e= J (X (some ⟨w.heap.size,0,none⟩) (aH c x).length (aH c x).length)∧uh w' (some ⟨w.heap.size,0,none⟩) (aH c x)∧Below w.heap.size w w':=by
 obtain ⟨m,hm⟩:=hr.len
 have hc:=Any.strings_Split Tryz.lays146.1 Tryz.lays146.i9 ⟨x.toArray⟩ ⟨#[c]⟩ m w hx hm (nR 1)
 change Calls I 60 _ _ _ at hc
 rw[rD] at hc
 refine hc.mono ?_
 rintro e w' ⟨rfl,rfl⟩
 have:=yM c x
 refine ⟨?_,xS _ _,Below.alloc (bR _ _) (nR _) _⟩
 rw[←this]
theorem zk (w:World) (n:Nat):Gr w (w.drewN n):=Gr.of ⟨rfl,rfl,rfl,nR _,fun _ _=>rfl⟩ (by simp[World.drewN])
theorem yN (x:List UInt8) (c:UInt8) (w:World) (hr:Reads w) (hx:x.length<4294967281):Calls I 40 #[O ⟨x.toArray⟩,O ⟨#[c]⟩] w fun e w'=>(∃a r b,e= J (Y #[O ⟨a.toArray⟩,O ⟨r.toArray⟩,H b])∧((b=true∧x=a++c::r∧c ∉ a)∨(b=false∧c ∉ x∧a=x∧r=[])))∧Gr w w':=by
 obtain ⟨m,hm⟩:=hr.len
 have hc:=Any.strings_Cut Tryz.lays145.1 ⟨x.toArray⟩ ⟨#[c]⟩ m w hx hm
 change Calls I 40 _ _ _ at hc
 refine hc.mono ?_
 rintro e w' ⟨rfl,n,rfl⟩
 refine ⟨⟨_,_,_,rfl,?_⟩,zk _ _⟩
 show ((Lib.cut x [c]).2.2=true∧x=(Lib.cut x [c]).1++c::(Lib.cut x [c]).2.1∧c ∉ (Lib.cut x [c]).1)∨((Lib.cut x [c]).2.2=false∧c ∉ x∧(Lib.cut x [c]).1=x∧(Lib.cut x [c]).2.1=[])
 unfold Lib.cut
 rcases pI c x with ⟨h1,h2⟩|⟨a,r,h1,h2,h3⟩
 ·rw[if_neg (by omega)]
  exact oR ⟨rfl,h1,rfl,rfl⟩
 ·have hd:x.drop (a.length+[c].length)=r:=by rw[h1];simp
  have ht:x.take a.length=a:=by rw[h1];simp
  rw[if_pos (by omega),h3]
  simp only[Int.toNat_natCast,hd,ht]
  exact oL ⟨trivial,h1,h2⟩

theorem mK:∀ {xs:List (List UInt8)} {M:List Int} {y:List UInt8} {n:Int},ef xs=some M→ee y=some n→ef (xs++[y])=some (M++[n])
 | [],M,y,n,h,k=>by
  obtain rfl:=sI h
  simp[ef,k]
 | x::r,M,y,n,h,k=>by
  rw[ef] at h
  cases e:ee x with
  | none=>rw[e] at h;simp at h
  | some a =>
   cases e2:ef r with
   | none=>rw[e,e2] at h;simp at h
   | some m =>
    rw[e,e2] at h
    obtain rfl:=sI h
    rw[List.cons_append,ef,e,mK e2 k]
    rfl
theorem mJ:∀ {xs:List (List UInt8)} {y:List UInt8},y∈xs→ee y=none→ef xs=none
 | [],y,h,_=>by simp at h
 | x::r,y,h,k=>by
  rw[ef]
  rcases List.mem_cons.1 h with rfl|h
  ·rw[k]
  ·rw[mJ h k]
   cases ee x<;>rfl
theorem nK (x:List UInt8) (w:World) (hr:Reads w) (hx:x.length≤100000):Calls I 86 #[O ⟨x.toArray⟩] w fun e w'=>(∃v,e= J (Y #[v,H (ja x).isSome])∧eB w' w.heap.size v ((ja x).getD []))∧Below w.heap.size w w':=by
 have hsp:=pn x 44 w hr (by omega)
 have hln:=iU 44 x
 unfold ja
 obtain ⟨ls,hls⟩:∃ls,aH 44 x=ls:=⟨_,rfl⟩
 rw[hls] at hsp hln ⊢
 have hspH:Hid _:=hsp
 clear hsp hls
 go_enter Tryz.func86,Tryz.ntmps86
 go_wp2_with fail
 refine cM (show Calls _ _ _ _ _ from hspH.out) ?_
 rintro e w1 ⟨rfl,hrow,hb⟩
 have hH:Hid (uh w1 (some ⟨w.heap.size,0,none⟩) ls∧Below w.heap.size w w1∧Reads w1):=⟨hrow,hb,hr.below hb⟩
 clear hspH hrow hb hr
 go_wp2
 go_loopw [4,12] (fun v i wr=>∃j:Nat,j≤ls.length∧i= V S j∧Hid (∃M,ef (ls.take j)=some M∧M.length=j∧eB wr w1.heap.size v M∧Below w1.heap.size w1 wr)) (fun _ i _=>ls.length-(intOf i).toNat)
 case atStart=>exact ⟨0,nZ _,rfl,[],rfl,rfl,af.nil _ _ _ _ _,bR _ _⟩
 case round =>
  obtain ⟨j,hj,rfl,hov⟩:=hrel
  obtain ⟨M,hM,hMl,hown,hbl⟩:=hov.out
  clear hov
  by_cases hlt:j<ls.length
  ·have hltz:(j:Int)<(ls.length:Int):=by omega
   obtain ⟨b,off,hA,_,hcs⟩:=(hH.out.1.below hbl).at hlt
   obtain ⟨y,hy⟩:∃y,ls[j]=y:=⟨_,rfl⟩
   have e0:=hcs j hlt 0 (by omega)
   rw[hy] at e0
   simp only[Option.some.injEq,Addr.mk.injEq,and_true] at hA
   obtain ⟨rfl,rfl⟩:=hA
   have e1:wr.cell? ⟨w.heap.size,j,none⟩=some (O ⟨y.toArray⟩):=by simpa[yX] using e0
   have hpn:=gW y wr (hH.out.2.2.below hbl)
   clear hcs e0
   cases hq:ee y with
   | none =>
    rw[hq] at hpn
    have hpnH:Hid _:=hpn
    have hfin:Hid (ef ls=none∧Below w.heap.size w wr):=⟨mJ (by rw[←hy];exact gM hlt) hq,hH.out.2.1.trans (hbl.mono hH.out.2.1.size)⟩
    clear hpn hM hown hbl hq hy
    go_wp2_with fail
    refine cM (show Calls _ _ _ _ _ from hpnH.out) ?_
    rintro e w2 ⟨rfl,hb2⟩
    have hfin2:Hid (ef ls=none∧Below w.heap.size w w2):=⟨hfin.out.1,hfin.out.2.trans (hb2.mono hfin.out.2.size)⟩
    clear hpnH hfin hb2
    go_wp2
    go_ret2
    refine ⟨⟨X none 0 0,?_,?_⟩,hfin2.out.2⟩
    ·rw[hfin2.out.1];rfl
    ·rw[hfin2.out.1];exact af.nil _ _ _ _ _
   | some n =>
    rw[hq] at hpn
    have hpnH:Hid _:=hpn
    have hst:Hid (ef (ls.take (j+1))=some (M++[n])∧(M++[n]).length=j+1):=⟨by rw[List.take_succ_eq_append_getElem hlt,hy];exact mK hM hq,by simp[hMl]⟩
    have hoH:Hid (eB wr w1.heap.size u4 M∧Below w1.heap.size w1 wr):=⟨hown,hbl⟩
    clear hpn hM hown hbl hq hy
    go_wp2_with fail
    refine cM (show Calls _ _ _ _ _ from hpnH.out) ?_
    rintro e w2 ⟨rfl,hb2⟩
    clear hpnH
    have hg2:Gr w2 (w2.alloc (.cells #[V S n] 3)):=(gR _).alloc _
    have hoX:Hid (eB (w2.alloc (.cells #[V S n] 3)) w1.heap.size u4 M∧ay (w2.alloc (.cells #[V S n] 3)) (some ⟨w2.heap.size,0,none⟩) [n]∧M.length+1≤maxLen∧(M.length+1)*8≤140737488355328∧Below w1.heap.size w1 (w2.alloc (.cells #[V S n] 3))):=⟨(hoH.out.1.below hb2).gr hg2,iT rfl n 3,by unfold maxLen;omega,by omega,(hoH.out.2.trans (hb2.mono hoH.out.2.size)).trans (hg2.below.mono (hoH.out.2.trans (hb2.mono hoH.out.2.size)).size)⟩
    clear hg2 hb2 hoH
    go_wp2_with (at_builtin;refine bg _ rfl _ _ rfl w1.heap.size u4 M [n] (some ⟨w2.heap.size,0,none⟩) 1 rfl rfl hoX.out.1 hoX.out.2.1 (fun h=>by cases h) hoX.out.2.2.1 hoX.out.2.2.2.1 hoX.out.2.2.2.2.size ?_;intro v7 w7 hown7 hg7)
    have hfin7:Hid (eB w7 w1.heap.size v7 (M++[n])∧Below w1.heap.size w1 w7):=⟨hown7,hoX.out.2.2.2.2.trans (af.grown_below hoX.out.1 hg7 hoX.out.2.2.2.2.size)⟩
    clear hown7 hg7 hoX
    go_roundw
    case rel=>exact ⟨j+1,by omega,by go_num,_,hst.out.1,hst.out.2,hfin7.out.1,hfin7.out.2⟩
    case measure=>simp[intOf];omega
  ·have hltz:¬(j:Int)<(ls.length:Int):=by omega
   rw[List.take_of_length_le (by omega)] at hM
   have hfin:Hid (ef ls=some M∧eB wr w.heap.size u4 M∧Below w.heap.size w wr):=⟨hM,hown.mono hH.out.2.1.size,hH.out.2.1.trans (hbl.mono hH.out.2.1.size)⟩
   clear hM hown hbl
   go_wp2
   go_ret2
   refine ⟨⟨u4,?_,?_⟩,hfin.out.2.2⟩
   ·rw[hfin.out.1];rfl
   ·rw[hfin.out.1];exact hfin.out.2.1

structure Box (w:World) (b:Nat) (s:Stp):Prop where
 c0:w.cell? ⟨b,0,none⟩=some (V S s.k)
 c1:w.cell? ⟨b,1,none⟩=some (V S s.a)
 c2:w.cell? ⟨b,2,none⟩=some (V S s.b)
 c3:w.cell? ⟨b,3,none⟩=some (V S s.c)
 c4:w.cell? ⟨b,4,none⟩=some (V S s.o)
 c5:w.cell? ⟨b,5,none⟩=some (V S s.v)
 c6:w.cell? ⟨b,6,none⟩=some (X s.p s.l.length s.n)
 fz:∀j,w.frozen? ⟨b,j,none⟩=false
 lt:b<w.heap.size
theorem Box.below {w w':World} {b:Nat} {s:Stp} (h:Box w b s) (k:Below w.heap.size w w'):Box w' b s :=
 ⟨(k.cell (p:=⟨b,0,none⟩) h.lt).trans h.c0,(k.cell (p:=⟨b,1,none⟩) h.lt).trans h.c1,(k.cell (p:=⟨b,2,none⟩) h.lt).trans h.c2,(k.cell (p:=⟨b,3,none⟩) h.lt).trans h.c3,(k.cell (p:=⟨b,4,none⟩) h.lt).trans h.c4,(k.cell (p:=⟨b,5,none⟩) h.lt).trans h.c5,(k.cell (p:=⟨b,6,none⟩) h.lt).trans h.c6,fun j=>(k.frozen (p:=⟨b,j,none⟩) h.lt).trans (h.fz j),nL h.lt k.size⟩
theorem eD {w:World} {B j j':Nat} {u x:Value} (hx:w.cell? ⟨B,j',none⟩=some x):(w.setCell ⟨B,j,none⟩ u).cell? ⟨B,j',none⟩=some (if j'=j then u else x):=by
 by_cases h:j'=j
 ·subst h;rw[if_pos rfl];exact World.cell?_setCell_same _ _ _ hx
 ·rw[if_neg h,World.cell?_setCell_other _ _ _ _ (by intro e;injection e with e1 e2;exact h e2.symm)];exact hx
theorem Box.set {w:World} {b:Nat} {s t:Stp} (h:Box w b s) (j:Nat) (u:Value)
  (h0:some (if 0=j then u else V S s.k)=some (V S t.k)) (h1:some (if 1=j then u else V S s.a)=some (V S t.a)) (h2:some (if 2=j then u else V S s.b)=some (V S t.b)) (h3:some (if 3=j then u else V S s.c)=some (V S t.c)) (h4:some (if 4=j then u else V S s.o)=some (V S t.o)) (h5:some (if 5=j then u else V S s.v)=some (V S t.v)) (h6:some (if 6=j then u else X s.p s.l.length s.n)=some (X t.p t.l.length t.n)):Box (w.setCell ⟨b,j,none⟩ u) b t :=
 ⟨(eD h.c0).trans h0,(eD h.c1).trans h1,(eD h.c2).trans h2,(eD h.c3).trans h3,(eD h.c4).trans h4,(eD h.c5).trans h5,(eD h.c6).trans h6,fun i=>by simp only[World.frozen?_setCell];exact h.fz i,by simpa[World.setCell] using h.lt⟩
structure Kept (b:Nat) (w w':World):Prop where
 os:w'.os=w.os
 tape:w'.tape=w.tape
 output:w'.output=w.output
 size:w.heap.size≤w'.heap.size
 block:∀k,k<w.heap.size→k≠b→w'.heap[k]? = w.heap[k]?
theorem Kept.of {b:Nat} {w w':World} (h:Below w.heap.size w w'):Kept b w w':=⟨h.os,h.tape,h.output,h.size,fun k hk _=>h.block k hk⟩
theorem Kept.set {b:Nat} {w w':World} (h:Kept b w w') (j:Nat) (u:Value):Kept b w (w'.setCell ⟨b,j,none⟩ u) :=
 ⟨h.os,h.tape,h.output,by simpa[World.setCell] using h.size,fun k hk hn=>(Below.heap_setCell w' ⟨b,j,none⟩ u k hn).trans (h.block k hk hn)⟩
theorem Kept.trans {b:Nat} {w w' w'':World} (h:Kept b w w') (k:Kept b w' w''):Kept b w w'' :=
 ⟨k.os.trans h.os,k.tape.trans h.tape,k.output.trans h.output,nT h.size k.size,fun i hi hn=>(k.block i (nL hi h.size) hn).trans (h.block i hi hn)⟩
theorem Kept.below {b B:Nat} {w w':World} (h:Kept b w w') (hB:B≤b) (hs:B≤w.heap.size):Below B w w' :=
 ⟨h.os,h.tape,h.output,h.size,fun k hk=>h.block k (by omega) (by omega)⟩
structure Good (lo:Nat) (w:World) (s:Stp):Prop where
 row:ay w s.p s.l
 len:s.l.length≤maxLen
 nil:s.p=none→s.n=0
 far:∀a,s.p=some a→lo≤a.block∧a.block<w.heap.size
theorem pR {b:Nat} {w w':World} {A:Option Addr} {l:List Int} (h:ay w A l) (k:Kept b w w') (hf:∀a,A=some a→a.block≠b):ay w' A l:=by
 rcases h with h|⟨c,off,rfl,hc,hcs⟩
 ·exact oL h
 ·have hn:c≠b:=hf _ rfl
  exact oR ⟨c,off,rfl,nL hc k.size,fun j hj i hi=>(World.cell?_of_block (w:=w) (k.block c hc hn)).trans (hcs j hj i hi)⟩
theorem Good.kept {b lo:Nat} {w w':World} {s:Stp} (h:Good lo w s) (hlo:b<lo) (k:Kept b w w'):Good lo w' s:=⟨pR h.row k (fun a ha=>by have:=h.far a ha;omega),h.len,h.nil,fun a ha=>⟨(h.far a ha).1,nL (h.far a ha).2 k.size⟩⟩
theorem Good.as {b:Nat} {w:World} {s t:Stp} (h:Good b w s) (hl:t.l=s.l) (hp:t.p=s.p) (hn:t.n=s.n):Good b w t:=⟨by rw[hl,hp];exact h.row,by rw[hl];exact h.len,by rw[hp,hn];exact h.nil,by rw[hp];exact h.far⟩

theorem pQ (s:Stp) (x:List UInt8) (b:Nat) (w:World) (hB:Box w b s):Calls I 63 #[Z (some ⟨b,0,none⟩),V .u8 79,O ⟨x.toArray⟩] w fun e w'=>e= J (H (dc x != 0))∧w'=w.setCell ⟨b,4,none⟩ (V S (dc x)):=by
 have ho:=xI x w
 have hoH:Hid _:=ho
 have hc:=hB.c4
 have hz:=hB.fz 4
 clear ho hB
 obtain ⟨n,hn⟩:∃n,dc x=n:=⟨_,rfl⟩
 rw[hn] at hoH ⊢
 clear hn
 go_enter Tryz.func63,Tryz.ntmps63
 go_wp2_with fail
 refine cM (show Calls _ _ _ _ _ from hoH.out) ?_
 rintro e w1 ⟨rfl,rfl⟩
 go_wp2
 go_ret
 exact ⟨rfl,rfl⟩

theorem mR (s:Stp) (x:List UInt8) (b:Nat) (w:World) (hB:Box w b s) (hr:Reads w) (hx:x.length≤100000):Calls I 63 #[Z (some ⟨b,0,none⟩),V .u8 76,O ⟨x.toArray⟩] w fun e w'=>e= J (H (ja x).isSome)∧∃v w1,eB w1 w.heap.size v ((ja x).getD [])∧Below w.heap.size w w1∧w'=w1.setCell ⟨b,6,none⟩ v:=by
 have ho:=nK x w hr hx
 have hoH:Hid _:=ho
 have hBH:Hid (Box w b s):=hB
 clear ho hB hr
 go_enter Tryz.func63,Tryz.ntmps63
 go_wp2_with fail
 refine cM (show Calls _ _ _ _ _ from hoH.out) ?_
 rintro e w1 ⟨⟨v,rfl,hv⟩,hb⟩
 have hc:=(hBH.out.below hb).c6
 have hz:=(hBH.out.below hb).fz 6
 have hvH:Hid (eB w1 w.heap.size v ((ja x).getD [])∧Below w.heap.size w w1):=⟨hv,hb⟩
 obtain ⟨A,cap,hvA,-,-,-⟩:=af.row bZ hv
 subst hvA
 clear hv hb hoH hBH
 go_wp2
 go_ret
 exact ⟨rfl,_,w1,hvH.out.1,hvH.out.2,rfl⟩

theorem eM (x:List UInt8) (b:Nat) (p:Int) (f:Nat) (w:World) (hr:Reads w) (hf:zh p=f) (h1:(p==79)=false) (h2:(p==76)=false) (u:Value) (hc:w.cell? ⟨b,f,none⟩=some u) (hz:w.frozen? ⟨b,f,none⟩=false):Calls I 63 #[Z (some ⟨b,0,none⟩),V .u8 p,O ⟨x.toArray⟩] w fun e w'=>e= J (H (ee x).isSome)∧∃w1,Below w.heap.size w w1∧w'=w1.setCell ⟨b,f,none⟩ (V S ((ee x).getD 0)):=by
 have hfl:=ow b p w
 rw[hf] at hfl
 have hflH:Hid _:=hfl
 have hnm:=gW x w hr
 have hnmH:Hid _:=hnm
 clear hfl hnm hf hr
 go_enter Tryz.func63,Tryz.ntmps63
 go_wp2_with fail
 refine cM (show Calls _ _ _ _ _ from hflH.out) ?_
 rintro e w1 ⟨rfl,rfl⟩
 clear hflH
 go_wp2_with fail
 refine cM (show Calls _ _ _ _ _ from hnmH.out) ?_
 rintro e w2 ⟨rfl,hb⟩
 have hlt:=World.block_lt_of_cell? w1 _ hc
 have hc2:w2.cell? ⟨b,f,none⟩=some u:=(hb.cell (p:=⟨b,f,none⟩) hlt).trans hc
 have hz2:w2.frozen? ⟨b,f,none⟩=false:=(hb.frozen (p:=⟨b,f,none⟩) hlt).trans hz
 have hbH:Hid _:=hb
 clear hb hnmH hc hz hlt
 go_wp2
 go_ret
 exact ⟨rfl,w2,hbH.out,rfl⟩
theorem nM (s:Stp) (p:UInt8) (hp:p∈([65,66,67,79,86,76]:List UInt8)) (x:List UInt8) (b:Nat) (w:World) (hB:Box w b s) {lo:Nat} (hlo:b<lo) (hlw:lo≤w.heap.size) (hG:Good lo w s) (hr:Reads w) (hx:x.length≤100000) :
  Calls I 63 #[Z (some ⟨b,0,none⟩),V .u8 (p.toNat:Int),O ⟨x.toArray⟩] w fun e w'=>e= J (H (d9 s p x).isSome)∧Kept b w w'∧∀t,d9 s p x=some t→∃t',clr t'=clr t∧Box w' b t'∧Good lo w' t':=by
 simp only[List.mem_cons,List.not_mem_nil,or_false] at hp
 rcases hp with rfl|rfl|rfl|rfl|rfl|rfl
 ·refine cM (eM x b 65 1 w hr rfl rfl rfl _ hB.c1 (hB.fz 1)) ?_
  rintro e w' ⟨rfl,w1,hb,rfl⟩
  have hpt:d9 s 65 x=match ee x with
   | none=>none
   | some n=>some { s with a:=n }:=by unfold d9;rw[if_neg (by decide),if_neg (by decide)];rfl
  rw[hpt]
  have hk:Kept b w (w1.setCell ⟨b,1,none⟩ (V S ((ee x).getD 0))):=(Kept.of hb).set 1 _
  cases hq:ee x with
  | none=>exact ⟨rfl,by rw[hq] at hk;exact hk,fun t ht=>by cases ht⟩
  | some n =>
   rw[hq] at hk
   refine ⟨rfl,hk,fun t ht=> ?_⟩
   obtain rfl:=sI ht
   exact ⟨_,rfl,(hB.below hb).set 1 _ rfl rfl rfl rfl rfl rfl rfl,(hG.kept hlo hk).as rfl rfl rfl⟩
 ·refine cM (eM x b 66 2 w hr rfl rfl rfl _ hB.c2 (hB.fz 2)) ?_
  rintro e w' ⟨rfl,w1,hb,rfl⟩
  have hpt:d9 s 66 x=match ee x with
   | none=>none
   | some n=>some { s with b:=n }:=by unfold d9;rw[if_neg (by decide),if_neg (by decide)];rfl
  rw[hpt]
  have hk:Kept b w (w1.setCell ⟨b,2,none⟩ (V S ((ee x).getD 0))):=(Kept.of hb).set 2 _
  cases hq:ee x with
  | none=>exact ⟨rfl,by rw[hq] at hk;exact hk,fun t ht=>by cases ht⟩
  | some n =>
   rw[hq] at hk
   refine ⟨rfl,hk,fun t ht=> ?_⟩
   obtain rfl:=sI ht
   exact ⟨_,rfl,(hB.below hb).set 2 _ rfl rfl rfl rfl rfl rfl rfl,(hG.kept hlo hk).as rfl rfl rfl⟩
 ·refine cM (eM x b 67 3 w hr rfl rfl rfl _ hB.c3 (hB.fz 3)) ?_
  rintro e w' ⟨rfl,w1,hb,rfl⟩
  have hpt:d9 s 67 x=match ee x with
   | none=>none
   | some n=>some { s with c:=n }:=by unfold d9;rw[if_neg (by decide),if_neg (by decide)];rfl
  rw[hpt]
  have hk:Kept b w (w1.setCell ⟨b,3,none⟩ (V S ((ee x).getD 0))):=(Kept.of hb).set 3 _
  cases hq:ee x with
  | none=>exact ⟨rfl,by rw[hq] at hk;exact hk,fun t ht=>by cases ht⟩
  | some n =>
   rw[hq] at hk
   refine ⟨rfl,hk,fun t ht=> ?_⟩
   obtain rfl:=sI ht
   exact ⟨_,rfl,(hB.below hb).set 3 _ rfl rfl rfl rfl rfl rfl rfl,(hG.kept hlo hk).as rfl rfl rfl⟩
 ·refine cM (pQ s x b w hB) ?_
  rintro e w' ⟨rfl,rfl⟩
  have hk:Kept b w (w.setCell ⟨b,4,none⟩ (V S (dc x))):=(Kept.of (bR _ _)).set 4 _
  have hpt:d9 s 79 x=if dc x=0 then none else some { s with o:=dc x }:=by unfold d9;rw[if_pos rfl]
  rw[hpt]
  by_cases h0:dc x=0
  ·rw[if_pos h0]
   exact ⟨by rw[h0];rfl,hk,fun t ht=>by cases ht⟩
  ·rw[if_neg h0]
   refine ⟨by rw[show (dc x != 0)=true by simpa using h0];rfl,hk,fun t ht=> ?_⟩
   obtain rfl:=sI ht
   exact ⟨_,rfl,hB.set 4 _ rfl rfl rfl rfl rfl rfl rfl,(hG.kept hlo hk).as rfl rfl rfl⟩
 ·refine cM (eM x b 86 5 w hr rfl rfl rfl _ hB.c5 (hB.fz 5)) ?_
  rintro e w' ⟨rfl,w1,hb,rfl⟩
  have hpt:d9 s 86 x=match ee x with
   | none=>none
   | some n=>some { s with v:=n }:=by unfold d9;rw[if_neg (by decide),if_neg (by decide)];rfl
  rw[hpt]
  have hk:Kept b w (w1.setCell ⟨b,5,none⟩ (V S ((ee x).getD 0))):=(Kept.of hb).set 5 _
  cases hq:ee x with
  | none=>exact ⟨rfl,by rw[hq] at hk;exact hk,fun t ht=>by cases ht⟩
  | some n =>
   rw[hq] at hk
   refine ⟨rfl,hk,fun t ht=> ?_⟩
   obtain rfl:=sI ht
   exact ⟨_,rfl,(hB.below hb).set 5 _ rfl rfl rfl rfl rfl rfl rfl,(hG.kept hlo hk).as rfl rfl rfl⟩
 ·refine cM (mR s x b w hB hr hx) ?_
  rintro e w' ⟨rfl,v,w1,hv,hb,rfl⟩
  have hk:Kept b w (w1.setCell ⟨b,6,none⟩ v):=(Kept.of hb).set 6 _
  have hpt:d9 s 76 x=match ja x with
   | none=>none
   | some l=>some { s with l:=l }:=by unfold d9;rw[if_neg (by decide),if_pos rfl];rfl
  rw[hpt]
  cases hq:ja x with
  | none=>exact ⟨rfl,hk,fun t ht=>by cases ht⟩
  | some l =>
   refine ⟨rfl,hk,fun t ht=> ?_⟩
   obtain rfl:=sI ht
   rw[hq] at hv
   obtain ⟨A,cap,rfl,hnil,hrow,hfar⟩:=af.row bZ hv
   have hf:∀a,A=some a→a.block≠b:=fun a ha=>by have:=(hfar a ha).1;have:=hB.lt;omega
   refine ⟨{ s with l:=l,p:=A,n:=cap },rfl,(hB.below hb).set 6 _ rfl rfl rfl rfl rfl rfl rfl,⟨?_,?_,hnil,fun a ha=>⟨nT hlw (hfar a ha).1,by have:=(hfar a ha).2;simpa[World.setCell] using this⟩⟩⟩
   ·exact pR hrow ((Kept.of (bR _ _)).set 6 _) hf
   ·have h1:=congrArg List.length (oV hq)
    have h2:=iU 44 x
    rw[List.length_map] at h1
    show l.length≤maxLen
    unfold maxLen
    omega
end Go.Proofs.YtkefkplnamkicaaGreatDoor
