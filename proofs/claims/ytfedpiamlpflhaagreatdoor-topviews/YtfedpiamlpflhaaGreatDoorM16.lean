/-
  The library's strings.TrimPrefix, Cut, Split and strconv.Atoi: where their functions and types stand in this program.
  query.parseNumber: the number that a word tells.
  query.opOf, query.kindOf: the op of a sign, the kind of a word.
  strings.Split and strings.Cut at one byte.
  query.parseList: the numbers that a word tells.
  query.parsePart: one part is put into a step.
-/
import Derived.Shelf.LaysC
import Derived.Shelf.Strings.Prefix
import Derived.Shelf.Strings.Shaped
import Derived.Shelf.Strings.SplitShaped
import Derived.Shelf.Strconv.Atoi
import Derived.Test.YtfedpiamlpflhaaGreatDoorM15
import Derived.Shelf.Strconv.AtoiErr
import Derived.Lib.AtoiBound
set_option maxRecDepth 100000
set_option maxHeartbeats 8000000
open Go.Ending renaming returned → J
open Go.IntKind renaming i64 → O
open Go.Proofs.Tryz renaming prog → I
open Go.Value renaming int → V, string → S, pointer → Z, bool → H, slice → Y, tuple → X
namespace Go.Proofs
open Go.Shelf
def Tryz.lays101_ren:Go.Shelf.Ren:=⟨fun|101=>107|208=>149|206=>183|n=>n,fun|9=>9|4=>4|3=>3|n=>n,fun|n=>n⟩
theorem Tryz.lays101:Go.Proofs.Lays.n101 I Tryz.lays101_ren:={
 mixed:=by kernel_rfl
 f101:=Tryz.func107.trans (congrArg some (by kernel_rfl))
 f206:=Tryz.func183.trans (congrArg some (by kernel_rfl))
 f208:=Tryz.func149.trans (congrArg some (by kernel_rfl))
 t3:=Tryz.underlying3
 a3:=Tryz.isAgg3
 z3:=Tryz.sizeOf3
 v3:=Tryz.zeroValue3
 t4:=Tryz.underlying4
 a4:=Tryz.isAgg4
 z4:=Tryz.sizeOf4
 v4:=Tryz.zeroValue4
 t9:=Tryz.underlying9
 a9:=Tryz.isAgg9
 z9:=Tryz.sizeOf9
 v9:=Tryz.zeroValue9 }
def Tryz.lays145_ren:Go.Shelf.Ren:=⟨fun|145=>23|220=>43|219=>67|217=>99|225=>100|224=>101|267=>102|266=>144|314=>145|n=>n,fun|9=>9|4=>4|59=>83|3=>3|5=>5|46=>179|146=>223|51=>222|n=>n,fun|1=>0|n=>n⟩
theorem Tryz.lays145:Go.Proofs.LaysM.n145 I Tryz.lays145_ren:={
 mixed:=by kernel_rfl
 f145:=Tryz.func23.trans (congrArg some (by kernel_rfl))
 f217:=Tryz.func99.trans (congrArg some (by kernel_rfl))
 f219:=Tryz.func67.trans (congrArg some (by kernel_rfl))
 f220:=Tryz.func43.trans (congrArg some (by kernel_rfl))
 f224:=Tryz.func101.trans (congrArg some (by kernel_rfl))
 f225:=Tryz.func100.trans (congrArg some (by kernel_rfl))
 f266:=Tryz.func144.trans (congrArg some (by kernel_rfl))
 f267:=Tryz.func102.trans (congrArg some (by kernel_rfl))
 f314:=Tryz.func145.trans (congrArg some (by kernel_rfl))
 t3:=Tryz.underlying3
 a3:=Tryz.isAgg3
 z3:=Tryz.sizeOf3
 v3:=Tryz.zeroValue3
 t4:=Tryz.underlying4
 a4:=Tryz.isAgg4
 z4:=Tryz.sizeOf4
 v4:=Tryz.zeroValue4
 t5:=Tryz.underlying5
 a5:=Tryz.isAgg5
 z5:=Tryz.sizeOf5
 v5:=Tryz.zeroValue5
 t9:=Tryz.underlying9
 a9:=Tryz.isAgg9
 z9:=Tryz.sizeOf9
 v9:=Tryz.zeroValue9
 t46:=Tryz.underlying179
 a46:=Tryz.isAgg179
 z46:=Tryz.sizeOf179
 v46:=Tryz.zeroValue179
 t51:=Tryz.underlying222
 a51:=Tryz.isAgg222
 z51:=Tryz.sizeOf222
 v51:=Tryz.zeroValue222
 t59:=Tryz.underlying83
 a59:=Tryz.isAgg83
 z59:=Tryz.sizeOf83
 v59:=Tryz.zeroValue83
 t146:=Tryz.underlying223
 a146:=Tryz.isAgg223
 z146:=Tryz.sizeOf223
 v146:=Tryz.zeroValue223
 g1:=by kernel_rfl
 i3:=by kernel_rfl
 i4:=by kernel_rfl
 i5:=by kernel_rfl
 i9:=by kernel_rfl
 i46:=by kernel_rfl
 i51:=by kernel_rfl
 i59:=by kernel_rfl
 i146:=by kernel_rfl
 m1:=by kernel_rfl
 s1_3:=fun w h=>Go.Proofs.cell_of_shapedOpen_int (zero:= #[V O 0]) (t:=3) h (of_decide_eq_true (by kernel_rfl)) (by kernel_rfl) rfl (by kernel_rfl) (by kernel_rfl) Tryz.underlying3 }
def Tryz.lays146_ren:Go.Shelf.Ren:=⟨fun|146=>44|221=>68|268=>103|138=>104|143=>105|195=>146|197=>147|218=>148|219=>67|260=>182|217=>99|225=>100|224=>101|267=>102|266=>144|314=>145|n=>n,fun|9=>9|31=>112|3=>3|4=>4|0=>0|105=>225|21=>21|5=>5|46=>179|119=>272|139=>275|138=>274|146=>223|51=>222|n=>n,fun|1=>0|3=>1|4=>2|n=>n⟩
theorem Tryz.lays146:Go.Proofs.LaysM.n146 I Tryz.lays146_ren:={
 mixed:=by kernel_rfl
 f138:=Tryz.func104.trans (congrArg some (by kernel_rfl))
 f143:=Tryz.func105.trans (congrArg some (by kernel_rfl))
 f146:=Tryz.func44.trans (congrArg some (by kernel_rfl))
 f195:=Tryz.func146.trans (congrArg some (by kernel_rfl))
 f197:=Tryz.func147.trans (congrArg some (by kernel_rfl))
 f217:=Tryz.func99.trans (congrArg some (by kernel_rfl))
 f218:=Tryz.func148.trans (congrArg some (by kernel_rfl))
 f219:=Tryz.func67.trans (congrArg some (by kernel_rfl))
 f221:=Tryz.func68.trans (congrArg some (by kernel_rfl))
 f224:=Tryz.func101.trans (congrArg some (by kernel_rfl))
 f225:=Tryz.func100.trans (congrArg some (by kernel_rfl))
 f260:=Tryz.func182.trans (congrArg some (by kernel_rfl))
 f266:=Tryz.func144.trans (congrArg some (by kernel_rfl))
 f267:=Tryz.func102.trans (congrArg some (by kernel_rfl))
 f268:=Tryz.func103.trans (congrArg some (by kernel_rfl))
 f314:=Tryz.func145.trans (congrArg some (by kernel_rfl))
 t0:=Tryz.underlying0
 a0:=Tryz.isAgg0
 z0:=Tryz.sizeOf0
 v0:=Tryz.zeroValue0
 t3:=Tryz.underlying3
 a3:=Tryz.isAgg3
 z3:=Tryz.sizeOf3
 v3:=Tryz.zeroValue3
 t4:=Tryz.underlying4
 a4:=Tryz.isAgg4
 z4:=Tryz.sizeOf4
 v4:=Tryz.zeroValue4
 t5:=Tryz.underlying5
 a5:=Tryz.isAgg5
 z5:=Tryz.sizeOf5
 v5:=Tryz.zeroValue5
 t9:=Tryz.underlying9
 a9:=Tryz.isAgg9
 z9:=Tryz.sizeOf9
 v9:=Tryz.zeroValue9
 t21:=Tryz.underlying21
 a21:=Tryz.isAgg21
 z21:=Tryz.sizeOf21
 v21:=Tryz.zeroValue21
 t31:=Tryz.underlying112
 a31:=Tryz.isAgg112
 z31:=Tryz.sizeOf112
 v31:=Tryz.zeroValue112
 t46:=Tryz.underlying179
 a46:=Tryz.isAgg179
 z46:=Tryz.sizeOf179
 v46:=Tryz.zeroValue179
 t51:=Tryz.underlying222
 a51:=Tryz.isAgg222
 z51:=Tryz.sizeOf222
 v51:=Tryz.zeroValue222
 t105:=Tryz.underlying225
 a105:=Tryz.isAgg225
 z105:=Tryz.sizeOf225
 v105:=Tryz.zeroValue225
 t119:=Tryz.underlying272
 a119:=Tryz.isAgg272
 z119:=Tryz.sizeOf272
 t138:=Tryz.underlying274
 a138:=Tryz.isAgg274
 z138:=Tryz.sizeOf274
 v138:=Tryz.zeroValue274
 t139:=Tryz.underlying275
 a139:=Tryz.isAgg275
 z139:=Tryz.sizeOf275
 v139:=Tryz.zeroValue275
 t146:=Tryz.underlying223
 a146:=Tryz.isAgg223
 z146:=Tryz.sizeOf223
 v146:=Tryz.zeroValue223
 g1:=by kernel_rfl
 g3:=by kernel_rfl
 g4:=by kernel_rfl
 i0:=by kernel_rfl
 i3:=by kernel_rfl
 i4:=by kernel_rfl
 i5:=by kernel_rfl
 i9:=by kernel_rfl
 i21:=by kernel_rfl
 i31:=by kernel_rfl
 i46:=by kernel_rfl
 i51:=by kernel_rfl
 i105:=by kernel_rfl
 i138:=by kernel_rfl
 i139:=by kernel_rfl
 i146:=by kernel_rfl
 m1:=by kernel_rfl
 s1_3:=fun w h=>Go.Proofs.cell_of_shapedOpen_int (zero:= #[V O 0]) (t:=3) h (of_decide_eq_true (by kernel_rfl)) (by kernel_rfl) rfl (by kernel_rfl) (by kernel_rfl) Tryz.underlying3
 m3:=by kernel_rfl
 m4:=by kernel_rfl }
def Tryz.lays172_ren:Go.Shelf.Ren:=⟨fun|172=>108|244=>150|245=>151|247=>184|279=>185|280=>186|281=>187|282=>188|287=>207|316=>208|171=>109|205=>209|321=>234|322=>235|243=>152|246=>189|283=>210|284=>211|285=>212|286=>213|129=>168|317=>236|318=>237|319=>238|320=>239|337=>247|338=>248|n=>n,fun|9=>9|3=>3|75=>184|76=>185|4=>4|5=>5|167=>251|37=>252|0=>0|85=>253|2=>2|168=>255|53=>238|175=>276|46=>179|210=>280|127=>303|145=>306|143=>304|21=>21|171=>282|173=>284|212=>308|51=>222|20=>20|213=>309|232=>317|233=>318|80=>319|n=>n,fun|15=>3|16=>4|17=>5|18=>6|19=>7|n=>n⟩
theorem Tryz.lays172:Go.Proofs.LaysC.n172 I Tryz.lays172_ren:={
 mixed:=by kernel_rfl
 f129:=Tryz.func168.trans (congrArg some (by kernel_rfl))
 f171:=Tryz.func109.trans (congrArg some (by kernel_rfl))
 f172:=Tryz.func108.trans (congrArg some (by kernel_rfl))
 f205:=Tryz.func209.trans (congrArg some (by kernel_rfl))
 f243:=Tryz.func152.trans (congrArg some (by kernel_rfl))
 f244:=Tryz.func150.trans (congrArg some (by kernel_rfl))
 f245:=Tryz.func151.trans (congrArg some (by kernel_rfl))
 f246:=Tryz.func189.trans (congrArg some (by kernel_rfl))
 f247:=Tryz.func184.trans (congrArg some (by kernel_rfl))
 f279:=Tryz.func185.trans (congrArg some (by kernel_rfl))
 f280:=Tryz.func186.trans (congrArg some (by kernel_rfl))
 f281:=Tryz.func187.trans (congrArg some (by kernel_rfl))
 f282:=Tryz.func188.trans (congrArg some (by kernel_rfl))
 f283:=Tryz.func210.trans (congrArg some (by kernel_rfl))
 f284:=Tryz.func211.trans (congrArg some (by kernel_rfl))
 f285:=Tryz.func212.trans (congrArg some (by kernel_rfl))
 f286:=Tryz.func213.trans (congrArg some (by kernel_rfl))
 f287:=Tryz.func207.trans (congrArg some (by kernel_rfl))
 f316:=Tryz.func208.trans (congrArg some (by kernel_rfl))
 f317:=Tryz.func236.trans (congrArg some (by kernel_rfl))
 f318:=Tryz.func237.trans (congrArg some (by kernel_rfl))
 f319:=Tryz.func238.trans (congrArg some (by kernel_rfl))
 f320:=Tryz.func239.trans (congrArg some (by kernel_rfl))
 f321:=Tryz.func234.trans (congrArg some (by kernel_rfl))
 f322:=Tryz.func235.trans (congrArg some (by kernel_rfl))
 f337:=Tryz.func247.trans (congrArg some (by kernel_rfl))
 f338:=Tryz.func248.trans (congrArg some (by kernel_rfl))
 t0:=Tryz.underlying0
 a0:=Tryz.isAgg0
 z0:=Tryz.sizeOf0
 v0:=Tryz.zeroValue0
 t2:=Tryz.underlying2
 a2:=Tryz.isAgg2
 z2:=Tryz.sizeOf2
 v2:=Tryz.zeroValue2
 t3:=Tryz.underlying3
 a3:=Tryz.isAgg3
 z3:=Tryz.sizeOf3
 v3:=Tryz.zeroValue3
 t4:=Tryz.underlying4
 a4:=Tryz.isAgg4
 z4:=Tryz.sizeOf4
 v4:=Tryz.zeroValue4
 t5:=Tryz.underlying5
 a5:=Tryz.isAgg5
 z5:=Tryz.sizeOf5
 v5:=Tryz.zeroValue5
 t9:=Tryz.underlying9
 a9:=Tryz.isAgg9
 z9:=Tryz.sizeOf9
 v9:=Tryz.zeroValue9
 t20:=Tryz.underlying20
 a20:=Tryz.isAgg20
 z20:=Tryz.sizeOf20
 v20:=Tryz.zeroValue20
 t21:=Tryz.underlying21
 a21:=Tryz.isAgg21
 z21:=Tryz.sizeOf21
 v21:=Tryz.zeroValue21
 t37:=Tryz.underlying252
 a37:=Tryz.isAgg252
 z37:=Tryz.sizeOf252
 v37:=Tryz.zeroValue252
 t46:=Tryz.underlying179
 a46:=Tryz.isAgg179
 z46:=Tryz.sizeOf179
 v46:=Tryz.zeroValue179
 t51:=Tryz.underlying222
 a51:=Tryz.isAgg222
 z51:=Tryz.sizeOf222
 v51:=Tryz.zeroValue222
 t53:=Tryz.underlying238
 a53:=Tryz.isAgg238
 z53:=Tryz.sizeOf238
 v53:=Tryz.zeroValue238
 t75:=Tryz.underlying184
 a75:=Tryz.isAgg184
 z75:=Tryz.sizeOf184
 v75:=Tryz.zeroValue184
 t76:=Tryz.underlying185
 a76:=Tryz.isAgg185
 z76:=Tryz.sizeOf185
 v76:=Tryz.zeroValue185
 t85:=Tryz.underlying253
 a85:=Tryz.isAgg253
 z85:=Tryz.sizeOf253
 v85:=Tryz.zeroValue253
 t127:=Tryz.underlying303
 a127:=Tryz.isAgg303
 z127:=Tryz.sizeOf303
 v127:=Tryz.zeroValue303
 t143:=Tryz.underlying304
 a143:=Tryz.isAgg304
 z143:=Tryz.sizeOf304
 v143:=Tryz.zeroValue304
 t145:=Tryz.underlying306
 a145:=Tryz.isAgg306
 z145:=Tryz.sizeOf306
 v145:=Tryz.zeroValue306
 t167:=Tryz.underlying251
 a167:=Tryz.isAgg251
 z167:=Tryz.sizeOf251
 v167:=Tryz.zeroValue251
 t168:=Tryz.underlying255
 a168:=Tryz.isAgg255
 z168:=Tryz.sizeOf255
 v168:=Tryz.zeroValue255
 t171:=Tryz.underlying282
 a171:=Tryz.isAgg282
 z171:=Tryz.sizeOf282
 v171:=Tryz.zeroValue282
 t173:=Tryz.underlying284
 a173:=Tryz.isAgg284
 z173:=Tryz.sizeOf284
 v173:=Tryz.zeroValue284
 t175:=Tryz.underlying276
 a175:=Tryz.isAgg276
 z175:=Tryz.sizeOf276
 v175:=Tryz.zeroValue276
 t210:=Tryz.underlying280
 a210:=Tryz.isAgg280
 z210:=Tryz.sizeOf280
 v210:=Tryz.zeroValue280
 t212:=Tryz.underlying308
 a212:=Tryz.isAgg308
 z212:=Tryz.sizeOf308
 v212:=Tryz.zeroValue308
 t213:=Tryz.underlying309
 a213:=Tryz.isAgg309
 z213:=Tryz.sizeOf309
 t232:=Tryz.underlying317
 a232:=Tryz.isAgg317
 z232:=Tryz.sizeOf317
 v232:=Tryz.zeroValue317
 t233:=Tryz.underlying318
 a233:=Tryz.isAgg318
 z233:=Tryz.sizeOf318
 v233:=Tryz.zeroValue318
 g15:=by kernel_rfl
 g16:=by kernel_rfl
 g17:=by kernel_rfl
 g18:=by kernel_rfl
 g19:=by kernel_rfl
 t80:=Tryz.underlying319
 a80:=Tryz.isAgg319
 z80:=Tryz.sizeOf319
 v80:=Tryz.zeroValue319
 i0:=by kernel_rfl
 i2:=by kernel_rfl
 i3:=by kernel_rfl
 i4:=by kernel_rfl
 i5:=by kernel_rfl
 i9:=by kernel_rfl
 i20:=by kernel_rfl
 i21:=by kernel_rfl
 i37:=by kernel_rfl
 i46:=by kernel_rfl
 i51:=by kernel_rfl
 i53:=by kernel_rfl
 i75:=by kernel_rfl
 i76:=by kernel_rfl
 i80:=by kernel_rfl
 i85:=by kernel_rfl
 i127:=by kernel_rfl
 i143:=by kernel_rfl
 i145:=by kernel_rfl
 i167:=by kernel_rfl
 i168:=by kernel_rfl
 i171:=by kernel_rfl
 i173:=by kernel_rfl
 i175:=by kernel_rfl
 i210:=by kernel_rfl
 i212:=by kernel_rfl
 i232:=by kernel_rfl
 i233:=by kernel_rfl
 m15:=by kernel_rfl
 m16:=by kernel_rfl
 m17:=by kernel_rfl
 m18:=by kernel_rfl
 m19:=by kernel_rfl
 c0:=by kernel_rfl
 c2:=by kernel_rfl
 c3:=by kernel_rfl
 c4:=by kernel_rfl
 c5:=by kernel_rfl
 c9:=by kernel_rfl
 c20:=by kernel_rfl
 c21:=by kernel_rfl
 c37:=by kernel_rfl
 c46:=by kernel_rfl
 c51:=by kernel_rfl
 c53:=by kernel_rfl
 c75:=by kernel_rfl
 c76:=by kernel_rfl
 c80:=by kernel_rfl
 c85:=by kernel_rfl
 c127:=by kernel_rfl
 c143:=by kernel_rfl
 c145:=by kernel_rfl
 c167:=by kernel_rfl
 c168:=by kernel_rfl
 c171:=by kernel_rfl
 c173:=by kernel_rfl
 c175:=by kernel_rfl
 c210:=by kernel_rfl
 c212:=by kernel_rfl
 c213:=by kernel_rfl
 c232:=by kernel_rfl
 c233:=by kernel_rfl }
end Go.Proofs

namespace Go.Proofs.YtfedpiamlpflhaaGreatDoor
open Go.RowKit Go.Sort

structure Reads (w:World):Prop where
 len:∃m,w.cell? ⟨Tryz.lays145_ren.g 1,0,none⟩=some (V O m)
 syn:∃ev,w.cell? ⟨Tryz.lays172_ren.g 15,0,none⟩=some ev∧(ev= .nilIface∨∃te pe,ev= .iface te pe)
 tens:nF w
theorem Reads.below {w w':World} (h:Reads w) (k:Below w.heap.size w w'):Reads w':=by
 obtain ⟨m,hm⟩:=h.len
 obtain ⟨ev,he,hv⟩:=h.syn
 exact ⟨⟨m,(k.cell (World.block_lt_of_cell? w _ hm)).trans hm⟩,⟨ev,(k.cell (World.block_lt_of_cell? w _ he)).trans he,hv⟩,h.tens.below k⟩
theorem Reads.gr {w w':World} (h:Reads w) (k:Gr w w'):Reads w':=h.below k.below
theorem vP (x y:List UInt8) (w:World):Calls I 107 #[S ⟨x.toArray⟩,S ⟨y.toArray⟩] w fun e w'=>e= J (S ⟨(Lib.trimPrefix x y).toArray⟩)∧w'=w:=by
 have hc:=Any.strings_TrimPrefix Tryz.lays101 ⟨x.toArray⟩ ⟨y.toArray⟩ w
 change Calls I 107 _ _ _ at hc
 exact hc
theorem wl {x:List UInt8} {n:Int} (hl:x.length≤18) (h:Lib.atoi x=some n) (w:World):Calls I 108 #[S ⟨x.toArray⟩] w fun e w'=>e= J (X #[V O n,.nilIface])∧Below w.heap.size w w':=by
 have hc:=Any.strconv_Atoi Tryz.lays172.toM.1 ⟨x.toArray⟩ n hl h w
 change Calls I 108 _ _ _ at hc
 refine hc.mono ?_
 rintro e w' ⟨rfl,t,rfl⟩
 exact ⟨rfl,Go.Joins.below_bytesWorld _ _ _ _ (nR _)⟩
theorem mN {n:Int} (h0: -9223372036854775808≤n) (h1:n≤9223372036854775807) {w:World} (ht:nF w):Calls I 109 #[V O n] w fun e w'=>e= J (S ⟨(Lib.itoa n).toArray⟩)∧Gr w w':=by
 have hc:=Any.strconv_Itoa Tryz.lays171 n h0 h1 w ht
 change Calls I 109 _ _ _ at hc
 exact hc
theorem wk {x:List UInt8} (hl:x.length≤18) (h:Lib.atoi x=none) (w:World) (hr:Reads w):Calls I 108 #[S ⟨x.toArray⟩] w fun e w'=>(∃N,e= J (X #[V O 0,.iface (Tryz.lays172_ren.t 168) (Z (some ⟨N,0,none⟩))]))∧Below w.heap.size w w':=by
 obtain ⟨ev,he,hv⟩:=hr.syn
 have hc:=Any.strconv_Atoi_err Tryz.lays172 ⟨x.toArray⟩ hl h ev w he hv
 change Calls I 108 _ _ _ at hc
 refine hc.mono ?_
 rintro e w' ⟨N,rfl,_,_,hb⟩
 exact ⟨⟨N,rfl⟩,hb⟩
theorem gn (x:List UInt8) (w:World) (hr:Reads w):Calls I 71 #[S ⟨x.toArray⟩] w fun e w'=>e= J (X #[V O ((dc x).getD 0),H (dc x).isSome])∧Below w.heap.size w w':=by
 have htr:=vP x [45] w
 have htH:Hid _:=htr
 clear htr
 obtain ⟨T,hT⟩:∃T,Lib.trimPrefix x [45]=T:=⟨_,rfl⟩
 have hTl:T.length≤x.length:=by
  rw[←hT]
  unfold Lib.trimPrefix
  split
  ·simp
  ·exact nR _
 by_cases h10:10<T.length
 ·have hn:dc x=none:=by unfold dc;rw[hT,if_pos h10]
  rw[hn]
  have hc:decide ((10:Int)<(T.length:Int))=true:=decide_eq_true (by omega)
  rw[hT] at htH
  go_enter Tryz.func71,Tryz.ntmps71
  go_wp2_with fail
  refine cM (show Calls _ _ _ _ _ from htH.out) ?_
  rintro e w1 ⟨rfl,rfl⟩
  go_wp2
  go_ret2
  exact ⟨rfl,bR _ _⟩
 have hc:decide ((10:Int)<(T.length:Int))=false:=decide_eq_false (by omega)
 have hx:x.length≤18:=by
  have:x.length≤T.length+1:=by
   rw[←hT]
   unfold Lib.trimPrefix
   split<;>simp<;>omega
  omega
 cases ha:Lib.atoi x with
 | none =>
  have hn:dc x=none:=by unfold dc;rw[hT,if_neg h10,ha]
  rw[hn]
  rw[hT] at htH
  have hat:=wk hx ha w hr
  have haH:Hid _:=hat
  clear hat
  go_enter Tryz.func71,Tryz.ntmps71
  go_wp2_with fail
  refine cM (show Calls _ _ _ _ _ from htH.out) ?_
  rintro e w1 ⟨rfl,rfl⟩
  go_wp2_with fail
  refine cM (show Calls _ _ _ _ _ from haH.out) ?_
  rintro e w2 ⟨⟨N,rfl⟩,hb⟩
  go_wp2
  go_ret2
  exact ⟨rfl,hb⟩
 | some n =>
  have hnb: -9223372036854775808≤n∧n≤9223372036854775807:=by have:=Lib.atoi_bound ha hx;omega
  rw[hT] at htH
  have hat:=wl hx ha w
  have haH:Hid _:=hat
  clear hat
  by_cases hi:Lib.itoa n=x
  ·have hn:dc x=some n:=by unfold dc;rw[hT,if_neg h10,ha];simp[hi]
   rw[hn]
   go_enter Tryz.func71,Tryz.ntmps71
   go_wp2_with fail
   refine cM (show Calls _ _ _ _ _ from htH.out) ?_
   rintro e w1 ⟨rfl,rfl⟩
   go_wp2_with fail
   refine cM (show Calls _ _ _ _ _ from haH.out) ?_
   rintro e w2 ⟨rfl,hb⟩
   have hit:=mN hnb.1 hnb.2 (hr.below hb).tens
   rw[hi] at hit
   have hiH:Hid _:=hit
   clear hit
   go_wp2_with fail
   refine cM (show Calls _ _ _ _ _ from hiH.out) ?_
   rintro e w3 ⟨rfl,hg⟩
   go_wp2
   go_ret2
   exact ⟨rfl,hb.trans (hg.below.mono hb.size)⟩
  ·have hn:dc x=none:=by unfold dc;rw[hT,if_neg h10,ha];simp[hi]
   rw[hn]
   have hne:(Lib.itoa n==x)=false:=by simpa using hi
   go_enter Tryz.func71,Tryz.ntmps71
   go_wp2_with fail
   refine cM (show Calls _ _ _ _ _ from htH.out) ?_
   rintro e w1 ⟨rfl,rfl⟩
   go_wp2_with fail
   refine cM (show Calls _ _ _ _ _ from haH.out) ?_
   rintro e w2 ⟨rfl,hb⟩
   have hit:=mN hnb.1 hnb.2 (hr.below hb).tens
   have hiH:Hid _:=hit
   clear hit
   go_wp2_with fail
   refine cM (show Calls _ _ _ _ _ from hiH.out) ?_
   rintro e w3 ⟨rfl,hg⟩
   go_wp2
   go_ret2
   exact ⟨rfl,hb.trans (hg.below.mono hb.size)⟩


theorem pE (x:List UInt8):0≤cW x∧cW x≤3:=by
 unfold cW
 repeat' split
 all_goals decide
theorem ve (x:List UInt8) (w:World):Calls I 69 #[S ⟨x.toArray⟩] w fun e w'=>e= J (V O (cW x))∧w'=w:=by
 go_enter Tryz.func69,Tryz.ntmps69
 go_wp2
 go_loopw [3] (fun i wr=>∃j:Nat,j≤3∧i= V O ((j:Int)+1)∧Hid (∀m:Nat,m<j→js ((m:Int)+1)≠x)∧wr=w) (fun i _=>4-(intOf i).toNat)
 case atStart=>exact ⟨0,nZ _,rfl,fun m h=>by omega,rfl⟩
 case round =>
  obtain ⟨j,hj,rfl,hall,rfl⟩:=hrel
  by_cases hlt:j<3
  ·have hle:decide ((j:Int)+1≤3)=true:=decide_eq_true (by omega)
   have hsg:=qS ((j:Int)+1) wr
   have hsgH:Hid _:=hsg
   clear hsg
   by_cases hq:js ((j:Int)+1)=x
   ·have hfin:Hid (cW x=(j:Int)+1):=by
     show _=_
     rw[←hq]
     exact qT (by omega)
    rw[hq] at hsgH
    clear hq
    go_wp2_with (go_at_call 106;(refine cM (show Calls _ _ _ _ _ from hsgH.out) ?_);rintro e w' ⟨rfl,rfl⟩)
    go_ret
    exact ⟨by rw[hfin.out];rfl,rfl⟩
   ·have hb:(js ((j:Int)+1)==x)=false:=by simpa using hq
    have hqH:Hid (js ((j:Int)+1)≠x):=hq
    clear hq
    go_wp2_with (go_at_call 106;(refine cM (show Calls _ _ _ _ _ from hsgH.out) ?_);rintro e w' ⟨rfl,rfl⟩)
    go_roundw
    case rel =>
     refine ⟨j+1,by omega,by go_num,?_,by trivial⟩
     intro m hm
     by_cases e:m=j
     ·subst e;exact hqH.out
     ·exact hall m (by omega)
    case measure=>simp[intOf];omega
  ·have hle:decide ((j:Int)+1≤3)=false:=decide_eq_false (by omega)
   have hfin:Hid (cW x=0):=by
    show _=_
    by_cases h0:cW x=0
    ·exact h0
    ·have hr:=pE x
     have ht:=qU h0
     exact absurd (by rw[show (((cW x).toNat-1:Nat):Int)+1=cW x by omega];exact ht) (hall ((cW x).toNat-1) (by omega))
   go_wp2
   go_ret
   exact ⟨by rw[hfin.out];rfl,rfl⟩

theorem qv (x:List UInt8) (w:World):Calls I 45 #[S ⟨x.toArray⟩] w fun e w'=>e= J (V O (dh x))∧w'=w:=by
 go_enter Tryz.func45,Tryz.ntmps45
 go_wp2
 go_loopw [3] (fun i wr=>∃j:Nat,j≤9∧i= V O ((j:Int)+1)∧Hid (∀m:Nat,m<j→dS ((m:Int)+1)≠x)∧wr=w) (fun i _=>10-(intOf i).toNat)
 case atStart=>exact ⟨0,nZ _,rfl,fun m h=>by omega,rfl⟩
 case round =>
  obtain ⟨j,hj,rfl,hall,rfl⟩:=hrel
  by_cases hlt:j<9
  ·have hle:decide ((j:Int)+1≤9)=true:=decide_eq_true (by omega)
   have hsg:=iL ((j:Int)+1) wr
   obtain ⟨P,hP⟩:∃P,bg ((j:Int)+1)=P:=⟨_,rfl⟩
   rw[hP] at hsg
   have hsgH:Hid _:=hsg
   clear hsg hP
   by_cases hq:dS ((j:Int)+1)=x
   ·have hfin:Hid (dh x=(j:Int)+1):=by
     show _=_
     rw[←hq]
     exact qw (by omega)
    rw[hq] at hsgH
    clear hq
    go_wp2_with (go_at_call 46;(refine cM (show Calls _ _ _ _ _ from hsgH.out) ?_);rintro e w' ⟨rfl,rfl⟩)
    go_ret
    exact ⟨by rw[hfin.out];rfl,rfl⟩
   ·have hb:(dS ((j:Int)+1)==x)=false:=by simpa using hq
    have hqH:Hid (dS ((j:Int)+1)≠x):=hq
    clear hq
    go_wp2_with (go_at_call 46;(refine cM (show Calls _ _ _ _ _ from hsgH.out) ?_);rintro e w' ⟨rfl,rfl⟩)
    go_roundw
    case rel =>
     refine ⟨j+1,by omega,by go_num,?_,by trivial⟩
     intro m hm
     by_cases e:m=j
     ·subst e;exact hqH.out
     ·exact hall m (by omega)
    case measure=>simp[intOf];omega
  ·have hle:decide ((j:Int)+1≤9)=false:=decide_eq_false (by omega)
   have hfin:Hid (dh x=0):=by
    show _=_
    by_cases h0:dh x=0
    ·exact h0
    ·have ht:=qx h0
     exact absurd (by rw[show (((dh x).toNat-1:Nat):Int)+1=dh x by omega];exact ht.1) (hall ((dh x).toNat-1) (by omega))
   go_wp2
   go_ret
   exact ⟨by rw[hfin.out];rfl,rfl⟩

theorem zm (c b:UInt8) (l:List UInt8):[c].isPrefixOf (b::l)=(c==b):=by simp[List.isPrefixOf]
theorem nM (c:UInt8):∀x:List UInt8,(c ∉ x∧Lib.index x [c]= -1)∨(∃a r,x=a++c::r∧c ∉ a∧Lib.index x [c]=(a.length:Int))
 | []=>oL ⟨by simp,rfl⟩
 | b::l=>by
  rw[Lib.index,zm]
  by_cases h:c=b
  ·subst h
   exact oR ⟨[],l,rfl,by simp,by simp⟩
  ·have hb:¬(c==b)=true:=by simpa using h
   rw[if_neg hb]
   rcases nM c l with ⟨h1,h2⟩|⟨a,r,h1,h2,h3⟩
   ·refine oL ⟨by simp[h,h1],by rw[h2];rfl⟩
   ·refine oR ⟨b::a,r,by rw[h1];rfl,by simp[h,h2],?_⟩
    have hn:¬(Lib.index l [c] == -1)=true:=by rw[h3];simp
    rw[if_neg hn,h3]
    simp
theorem rN (c:UInt8):∀(n:Nat) (x:List UInt8),x.length≤n→Lib.split x [c]=aW c x
 | n,x,hn=>by
  rcases nM c x with ⟨h1,h2⟩|⟨a,r,h1,h2,h3⟩
  ·unfold Lib.split
   rw[Lib.count_miss h2,Lib.splitK,iV x h1]
  ·cases n with
   | zero=>rw[h1] at hn;simp at hn
   | succ n =>
    have hr:r.length≤n:=by rw[h1] at hn;simp at hn;omega
    have ih:=rN c n r hr
    have hd:x.drop (a.length+[c].length)=r:=by rw[h1];simp
    have ht:x.take a.length=a:=by rw[h1];simp
    unfold Lib.split at ih ⊢
    rw[Lib.count_hit (by simp) h3,hd,Nat.add_comm,Lib.splitK]
    have hm:¬(Lib.index x [c] == -1)=true:=by rw[h3];simp
    rw[if_neg hm,h3,show ((a.length:Int)).toNat+0=a.length by simp,show ((a.length:Int)).toNat+[c].length=a.length+[c].length by simp,hd,ht,ih,h1,iU a r h2]
theorem pG (c:UInt8) (x:List UInt8):Lib.splitB ⟨#[c]⟩ 0 (Lib.countB ⟨x.toArray⟩ ⟨#[c]⟩) ⟨x.toArray⟩=(aW c x).map fun y=>(⟨y.toArray⟩:ByteArray):=by
 have h:=Lib.splitB_data ⟨#[c]⟩ 0 (Lib.countB ⟨x.toArray⟩ ⟨#[c]⟩) ⟨x.toArray⟩
 have h2:Lib.splitK [c] 0 (Lib.count x [c]) x=aW c x:=rN c x.length x (nR _)
 have h3:(Lib.splitB ⟨#[c]⟩ 0 (Lib.countB ⟨x.toArray⟩ ⟨#[c]⟩) ⟨x.toArray⟩).map (·.data.toList)=aW c x:=h.trans h2
 rw[←h3,List.map_map]
 have:((fun y:List UInt8=>(⟨y.toArray⟩:ByteArray)) ∘ fun b:ByteArray=>b.data.toList)=id:=by
  funext b
  rfl
 rw[this,List.map_id]
theorem ig (c:UInt8):∀x,(aW c x).length≤x.length+1
 | []=>by simp[aW]
 | b::r=>by
  have ih:=ig c r
  rw[aW]
  split
  ·simp;omega
  ·split
   ·simp
   ·next e=>rw[e] at ih;simp at ih ⊢;omega
theorem ww (c:UInt8) (x:List UInt8):Lib.countB ⟨x.toArray⟩ ⟨#[c]⟩+1=(aW c x).length:=by
 have h:=Lib.splitB_all ⟨#[c]⟩ (nR 1) 0 _ (⟨x.toArray⟩:ByteArray) rfl
 rw[pG,List.length_map] at h
 exact h.symm
theorem vt {W:World} (xs:List (List UInt8)) (T:TypeId):rW (W.alloc (.cells ((xs.map fun y=>(⟨y.toArray⟩:ByteArray)).map Value.string).toArray T)) (some ⟨W.heap.size,0,none⟩) xs:=by
 refine oR ⟨W.heap.size,0,rfl,by simp,fun j hj i hi=> ?_⟩
 obtain rfl:i=0:=by omega
 simp[wI,List.getElem?_eq_getElem hj]
theorem nu (x:List UInt8) (c:UInt8) (w:World) (hr:Reads w) (hx:x.length<4294967281):Calls I 44 #[S ⟨x.toArray⟩,S ⟨#[c]⟩] w fun e w'=>e= J (Y (some ⟨w.heap.size,0,none⟩) (aW c x).length (aW c x).length)∧rW w' (some ⟨w.heap.size,0,none⟩) (aW c x)∧Below w.heap.size w w':=by
 obtain ⟨m,hm⟩:=hr.len
 have hc:=Any.strings_Split Tryz.lays146.1 Tryz.lays146.i9 ⟨x.toArray⟩ ⟨#[c]⟩ m w hx hm (nR 1)
 change Calls I 44 _ _ _ at hc
 rw[pG] at hc
 refine hc.mono ?_
 rintro e w' ⟨rfl,rfl⟩
 have:=ww c x
 refine ⟨?_,vt _ _,Below.alloc (bR _ _) (nR _) _⟩
 rw[←this]
theorem wR (w:World) (n:Nat):Gr w (w.drewN n):=Gr.of ⟨rfl,rfl,rfl,nR _,fun _ _=>rfl⟩ (by simp[World.drewN])
theorem wy (x:List UInt8) (c:UInt8) (w:World) (hr:Reads w) (hx:x.length<4294967281):Calls I 23 #[S ⟨x.toArray⟩,S ⟨#[c]⟩] w fun e w'=>(∃a r b,e= J (X #[S ⟨a.toArray⟩,S ⟨r.toArray⟩,H b])∧((b=true∧x=a++c::r∧c ∉ a)∨(b=false∧c ∉ x∧a=x∧r=[])))∧Gr w w':=by
 obtain ⟨m,hm⟩:=hr.len
 have hc:=Any.strings_Cut Tryz.lays145.1 ⟨x.toArray⟩ ⟨#[c]⟩ m w hx hm
 change Calls I 23 _ _ _ at hc
 refine hc.mono ?_
 rintro e w' ⟨rfl,n,rfl⟩
 refine ⟨⟨_,_,_,rfl,?_⟩,wR _ _⟩
 show ((Lib.cut x [c]).2.2=true∧x=(Lib.cut x [c]).1++c::(Lib.cut x [c]).2.1∧c ∉ (Lib.cut x [c]).1)∨((Lib.cut x [c]).2.2=false∧c ∉ x∧(Lib.cut x [c]).1=x∧(Lib.cut x [c]).2.1=[])
 unfold Lib.cut
 rcases nM c x with ⟨h1,h2⟩|⟨a,r,h1,h2,h3⟩
 ·rw[if_neg (by omega)]
  exact oR ⟨rfl,h1,rfl,rfl⟩
 ·have hd:x.drop (a.length+[c].length)=r:=by rw[h1];simp
  have ht:x.take a.length=a:=by rw[h1];simp
  rw[if_pos (by omega),h3]
  simp only[Int.toNat_natCast,hd,ht]
  exact oL ⟨trivial,h1,h2⟩

theorem lr:∀ {xs:List (List UInt8)} {M:List Int} {y:List UInt8} {n:Int},dP xs=some M→dc y=some n→dP (xs++[y])=some (M++[n])
 | [],M,y,n,h,k=>by
  obtain rfl:=sI h
  simp[dP,k]
 | x::r,M,y,n,h,k=>by
  rw[dP] at h
  cases e:dc x with
  | none=>rw[e] at h;simp at h
  | some a =>
   cases e2:dP r with
   | none=>rw[e,e2] at h;simp at h
   | some m =>
    rw[e,e2] at h
    obtain rfl:=sI h
    rw[List.cons_append,dP,e,lr e2 k]
    rfl
theorem lq:∀ {xs:List (List UInt8)} {y:List UInt8},y∈xs→dc y=none→dP xs=none
 | [],y,h,_=>by simp at h
 | x::r,y,h,k=>by
  rw[dP]
  rcases List.mem_cons.1 h with rfl|h
  ·rw[k]
  ·rw[lq h k]
   cases dc x<;>rfl
theorem m8 (x:List UInt8) (w:World) (hr:Reads w) (hx:x.length≤100000):Calls I 70 #[S ⟨x.toArray⟩] w fun e w'=>(∃v,e= J (X #[v,H (iz x).isSome])∧dY w' w.heap.size v ((iz x).getD []))∧Below w.heap.size w w':=by
 have hsp:=nu x 44 w hr (by omega)
 have hln:=ig 44 x
 unfold iz
 obtain ⟨ls,hls⟩:∃ls,aW 44 x=ls:=⟨_,rfl⟩
 rw[hls] at hsp hln ⊢
 have hspH:Hid _:=hsp
 clear hsp hls
 go_enter Tryz.func70,Tryz.ntmps70
 go_wp2_with fail
 refine cM (show Calls _ _ _ _ _ from hspH.out) ?_
 rintro e w1 ⟨rfl,hrow,hb⟩
 have hH:Hid (rW w1 (some ⟨w.heap.size,0,none⟩) ls∧Below w.heap.size w w1∧Reads w1):=⟨hrow,hb,hr.below hb⟩
 clear hspH hrow hb hr
 go_wp2
 go_loopw [4,12] (fun v i wr=>∃j:Nat,j≤ls.length∧i= V O j∧Hid (∃M,dP (ls.take j)=some M∧M.length=j∧dY wr w1.heap.size v M∧Below w1.heap.size w1 wr)) (fun _ i _=>ls.length-(intOf i).toNat)
 case atStart=>exact ⟨0,nZ _,rfl,[],rfl,rfl,ag.nil _ _ _ _ _,bR _ _⟩
 case round =>
  obtain ⟨j,hj,rfl,hov⟩:=hrel
  obtain ⟨M,hM,hMl,hown,hbl⟩:=hov.out
  clear hov
  by_cases hlt:j<ls.length
  ·have hltz:(j:Int)<(ls.length:Int):=by omega
   obtain ⟨b,off,hA,_,hcs⟩:=(hH.out.1.below hbl).at hlt
   obtain ⟨y,hy⟩:∃y,ls[j]=y:=⟨_,rfl⟩
   have e0:=hcs j hlt 0 (by omega)
   rw[hy] at e0
   simp only[Option.some.injEq,Addr.mk.injEq,and_true] at hA
   obtain ⟨rfl,rfl⟩:=hA
   have e1:wr.cell? ⟨w.heap.size,j,none⟩=some (S ⟨y.toArray⟩):=by simpa[wI] using e0
   have hpn:=gn y wr (hH.out.2.2.below hbl)
   clear hcs e0
   cases hq:dc y with
   | none =>
    rw[hq] at hpn
    have hpnH:Hid _:=hpn
    have hfin:Hid (dP ls=none∧Below w.heap.size w wr):=⟨lq (by rw[←hy];exact gM hlt) hq,hH.out.2.1.trans (hbl.mono hH.out.2.1.size)⟩
    clear hpn hM hown hbl hq hy
    go_wp2_with fail
    refine cM (show Calls _ _ _ _ _ from hpnH.out) ?_
    rintro e w2 ⟨rfl,hb2⟩
    have hfin2:Hid (dP ls=none∧Below w.heap.size w w2):=⟨hfin.out.1,hfin.out.2.trans (hb2.mono hfin.out.2.size)⟩
    clear hpnH hfin hb2
    go_wp2
    go_ret2
    refine ⟨⟨Y none 0 0,?_,?_⟩,hfin2.out.2⟩
    ·rw[hfin2.out.1];rfl
    ·rw[hfin2.out.1];exact ag.nil _ _ _ _ _
   | some n =>
    rw[hq] at hpn
    have hpnH:Hid _:=hpn
    have hst:Hid (dP (ls.take (j+1))=some (M++[n])∧(M++[n]).length=j+1):=⟨by rw[List.take_succ_eq_append_getElem hlt,hy];exact lr hM hq,by simp[hMl]⟩
    have hoH:Hid (dY wr w1.heap.size u4 M∧Below w1.heap.size w1 wr):=⟨hown,hbl⟩
    clear hpn hM hown hbl hq hy
    go_wp2_with fail
    refine cM (show Calls _ _ _ _ _ from hpnH.out) ?_
    rintro e w2 ⟨rfl,hb2⟩
    clear hpnH
    have hg2:Gr w2 (w2.alloc (.cells #[V O n] 3)):=(gR _).alloc _
    have hoX:Hid (dY (w2.alloc (.cells #[V O n] 3)) w1.heap.size u4 M∧ay (w2.alloc (.cells #[V O n] 3)) (some ⟨w2.heap.size,0,none⟩) [n]∧M.length+1≤maxLen∧(M.length+1)*8≤140737488355328∧Below w1.heap.size w1 (w2.alloc (.cells #[V O n] 3))):=⟨(hoH.out.1.below hb2).gr hg2,ie rfl n 3,by unfold maxLen;omega,by omega,(hoH.out.2.trans (hb2.mono hoH.out.2.size)).trans (hg2.below.mono (hoH.out.2.trans (hb2.mono hoH.out.2.size)).size)⟩
    clear hg2 hb2 hoH
    go_wp2_with (at_builtin;refine aT _ rfl _ _ rfl w1.heap.size u4 M [n] (some ⟨w2.heap.size,0,none⟩) 1 rfl rfl hoX.out.1 hoX.out.2.1 (fun h=>by cases h) hoX.out.2.2.1 hoX.out.2.2.2.1 hoX.out.2.2.2.2.size ?_;intro v7 w7 hown7 hg7)
    have hfin7:Hid (dY w7 w1.heap.size v7 (M++[n])∧Below w1.heap.size w1 w7):=⟨hown7,hoX.out.2.2.2.2.trans (ag.grown_below hoX.out.1 hg7 hoX.out.2.2.2.2.size)⟩
    clear hown7 hg7 hoX
    go_roundw
    case rel=>exact ⟨j+1,by omega,by go_num,_,hst.out.1,hst.out.2,hfin7.out.1,hfin7.out.2⟩
    case measure=>simp[intOf];omega
  ·have hltz:¬(j:Int)<(ls.length:Int):=by omega
   rw[List.take_of_length_le (by omega)] at hM
   have hfin:Hid (dP ls=some M∧dY wr w.heap.size u4 M∧Below w.heap.size w wr):=⟨hM,hown.mono hH.out.2.1.size,hH.out.2.1.trans (hbl.mono hH.out.2.1.size)⟩
   clear hM hown hbl
   go_wp2
   go_ret2
   refine ⟨⟨u4,?_,?_⟩,hfin.out.2.2⟩
   ·rw[hfin.out.1];rfl
   ·rw[hfin.out.1];exact hfin.out.2.1

structure Box (w:World) (b:Nat) (s:Stp):Prop where
 c0:w.cell? ⟨b,0,none⟩=some (V O s.k)
 c1:w.cell? ⟨b,1,none⟩=some (V O s.a)
 c2:w.cell? ⟨b,2,none⟩=some (V O s.b)
 c3:w.cell? ⟨b,3,none⟩=some (V O s.c)
 c4:w.cell? ⟨b,4,none⟩=some (V O s.o)
 c5:w.cell? ⟨b,5,none⟩=some (V O s.v)
 c6:w.cell? ⟨b,6,none⟩=some (Y s.p s.l.length s.n)
 fz:∀j,w.frozen? ⟨b,j,none⟩=false
 lt:b<w.heap.size
theorem Box.below {w w':World} {b:Nat} {s:Stp} (h:Box w b s) (k:Below w.heap.size w w'):Box w' b s :=
 ⟨(k.cell (p:=⟨b,0,none⟩) h.lt).trans h.c0,(k.cell (p:=⟨b,1,none⟩) h.lt).trans h.c1,(k.cell (p:=⟨b,2,none⟩) h.lt).trans h.c2,(k.cell (p:=⟨b,3,none⟩) h.lt).trans h.c3,(k.cell (p:=⟨b,4,none⟩) h.lt).trans h.c4,(k.cell (p:=⟨b,5,none⟩) h.lt).trans h.c5,(k.cell (p:=⟨b,6,none⟩) h.lt).trans h.c6,fun j=>(k.frozen (p:=⟨b,j,none⟩) h.lt).trans (h.fz j),nL h.lt k.size⟩
theorem dZ {w:World} {B j j':Nat} {u x:Value} (hx:w.cell? ⟨B,j',none⟩=some x):(w.setCell ⟨B,j,none⟩ u).cell? ⟨B,j',none⟩=some (if j'=j then u else x):=by
 by_cases h:j'=j
 ·subst h;rw[if_pos rfl];exact World.cell?_setCell_same _ _ _ hx
 ·rw[if_neg h,World.cell?_setCell_other _ _ _ _ (by intro e;injection e with e1 e2;exact h e2.symm)];exact hx
theorem Box.set {w:World} {b:Nat} {s t:Stp} (h:Box w b s) (j:Nat) (u:Value)
  (h0:some (if 0=j then u else V O s.k)=some (V O t.k)) (h1:some (if 1=j then u else V O s.a)=some (V O t.a)) (h2:some (if 2=j then u else V O s.b)=some (V O t.b)) (h3:some (if 3=j then u else V O s.c)=some (V O t.c)) (h4:some (if 4=j then u else V O s.o)=some (V O t.o)) (h5:some (if 5=j then u else V O s.v)=some (V O t.v)) (h6:some (if 6=j then u else Y s.p s.l.length s.n)=some (Y t.p t.l.length t.n)):Box (w.setCell ⟨b,j,none⟩ u) b t :=
 ⟨(dZ h.c0).trans h0,(dZ h.c1).trans h1,(dZ h.c2).trans h2,(dZ h.c3).trans h3,(dZ h.c4).trans h4,(dZ h.c5).trans h5,(dZ h.c6).trans h6,fun i=>by simp only[World.frozen?_setCell];exact h.fz i,by simpa[World.setCell] using h.lt⟩
structure Kept (b:Nat) (w w':World):Prop where
 os:w'.os=w.os
 tape:w'.tape=w.tape
 output:w'.output=w.output
 size:w.heap.size≤w'.heap.size
 block:∀k,k<w.heap.size→k≠b→w'.heap[k]? = w.heap[k]?
theorem Kept.of {b:Nat} {w w':World} (h:Below w.heap.size w w'):Kept b w w':=⟨h.os,h.tape,h.output,h.size,fun k hk _=>h.block k hk⟩
theorem Kept.set {b:Nat} {w w':World} (h:Kept b w w') (j:Nat) (u:Value):Kept b w (w'.setCell ⟨b,j,none⟩ u) :=
 ⟨h.os,h.tape,h.output,by simpa[World.setCell] using h.size,fun k hk hn=>(Below.heap_setCell w' ⟨b,j,none⟩ u k hn).trans (h.block k hk hn)⟩
theorem Kept.trans {b:Nat} {w w' w'':World} (h:Kept b w w') (k:Kept b w' w''):Kept b w w'' :=
 ⟨k.os.trans h.os,k.tape.trans h.tape,k.output.trans h.output,nT h.size k.size,fun i hi hn=>(k.block i (nL hi h.size) hn).trans (h.block i hi hn)⟩
theorem Kept.below {b B:Nat} {w w':World} (h:Kept b w w') (hB:B≤b) (hs:B≤w.heap.size):Below B w w' :=
 ⟨h.os,h.tape,h.output,h.size,fun k hk=>h.block k (by omega) (by omega)⟩
structure Good (lo:Nat) (w:World) (s:Stp):Prop where
 row:ay w s.p s.l
 len:s.l.length≤maxLen
 nil:s.p=none→s.n=0
 far:∀a,s.p=some a→lo≤a.block∧a.block<w.heap.size
theorem nX {b:Nat} {w w':World} {A:Option Addr} {l:List Int} (h:ay w A l) (k:Kept b w w') (hf:∀a,A=some a→a.block≠b):ay w' A l:=by
 rcases h with h|⟨c,off,rfl,hc,hcs⟩
 ·exact oL h
 ·have hn:c≠b:=hf _ rfl
  exact oR ⟨c,off,rfl,nL hc k.size,fun j hj i hi=>(World.cell?_of_block (w:=w) (k.block c hc hn)).trans (hcs j hj i hi)⟩
theorem Good.kept {b lo:Nat} {w w':World} {s:Stp} (h:Good lo w s) (hlo:b<lo) (k:Kept b w w'):Good lo w' s:=⟨nX h.row k (fun a ha=>by have:=h.far a ha;omega),h.len,h.nil,fun a ha=>⟨(h.far a ha).1,nL (h.far a ha).2 k.size⟩⟩
theorem Good.as {b:Nat} {w:World} {s t:Stp} (h:Good b w s) (hl:t.l=s.l) (hp:t.p=s.p) (hn:t.n=s.n):Good b w t:=⟨by rw[hl,hp];exact h.row,by rw[hl];exact h.len,by rw[hp,hn];exact h.nil,by rw[hp];exact h.far⟩

theorem nW (s:Stp) (x:List UInt8) (b:Nat) (w:World) (hB:Box w b s):Calls I 47 #[Z (some ⟨b,0,none⟩),V .u8 79,S ⟨x.toArray⟩] w fun e w'=>e= J (H (cW x != 0))∧w'=w.setCell ⟨b,4,none⟩ (V O (cW x)):=by
 have ho:=ve x w
 have hoH:Hid _:=ho
 have hc:=hB.c4
 have hz:=hB.fz 4
 clear ho hB
 obtain ⟨n,hn⟩:∃n,cW x=n:=⟨_,rfl⟩
 rw[hn] at hoH ⊢
 clear hn
 go_enter Tryz.func47,Tryz.ntmps47
 go_wp2_with fail
 refine cM (show Calls _ _ _ _ _ from hoH.out) ?_
 rintro e w1 ⟨rfl,rfl⟩
 go_wp2
 go_ret
 exact ⟨rfl,rfl⟩

theorem lA (s:Stp) (x:List UInt8) (b:Nat) (w:World) (hB:Box w b s) (hr:Reads w) (hx:x.length≤100000):Calls I 47 #[Z (some ⟨b,0,none⟩),V .u8 76,S ⟨x.toArray⟩] w fun e w'=>e= J (H (iz x).isSome)∧∃v w1,dY w1 w.heap.size v ((iz x).getD [])∧Below w.heap.size w w1∧w'=w1.setCell ⟨b,6,none⟩ v:=by
 have ho:=m8 x w hr hx
 have hoH:Hid _:=ho
 have hBH:Hid (Box w b s):=hB
 clear ho hB hr
 go_enter Tryz.func47,Tryz.ntmps47
 go_wp2_with fail
 refine cM (show Calls _ _ _ _ _ from hoH.out) ?_
 rintro e w1 ⟨⟨v,rfl,hv⟩,hb⟩
 have hc:=(hBH.out.below hb).c6
 have hz:=(hBH.out.below hb).fz 6
 have hvH:Hid (dY w1 w.heap.size v ((iz x).getD [])∧Below w.heap.size w w1):=⟨hv,hb⟩
 obtain ⟨A,cap,hvA,-,-,-⟩:=ag.row bU hv
 subst hvA
 clear hv hb hoH hBH
 go_wp2
 go_ret
 exact ⟨rfl,_,w1,hvH.out.1,hvH.out.2,rfl⟩

theorem el (x:List UInt8) (b:Nat) (p:Int) (f:Nat) (w:World) (hr:Reads w) (hf:wO p=f) (h1:(p==79)=false) (h2:(p==76)=false) (u:Value) (hc:w.cell? ⟨b,f,none⟩=some u) (hz:w.frozen? ⟨b,f,none⟩=false):Calls I 47 #[Z (some ⟨b,0,none⟩),V .u8 p,S ⟨x.toArray⟩] w fun e w'=>e= J (H (dc x).isSome)∧∃w1,Below w.heap.size w w1∧w'=w1.setCell ⟨b,f,none⟩ (V O ((dc x).getD 0)):=by
 have hfl:=eN b p w
 rw[hf] at hfl
 have hflH:Hid _:=hfl
 have hnm:=gn x w hr
 have hnmH:Hid _:=hnm
 clear hfl hnm hf hr
 go_enter Tryz.func47,Tryz.ntmps47
 go_wp2_with fail
 refine cM (show Calls _ _ _ _ _ from hflH.out) ?_
 rintro e w1 ⟨rfl,rfl⟩
 clear hflH
 go_wp2_with fail
 refine cM (show Calls _ _ _ _ _ from hnmH.out) ?_
 rintro e w2 ⟨rfl,hb⟩
 have hlt:=World.block_lt_of_cell? w1 _ hc
 have hc2:w2.cell? ⟨b,f,none⟩=some u:=(hb.cell (p:=⟨b,f,none⟩) hlt).trans hc
 have hz2:w2.frozen? ⟨b,f,none⟩=false:=(hb.frozen (p:=⟨b,f,none⟩) hlt).trans hz
 have hbH:Hid _:=hb
 clear hb hnmH hc hz hlt
 go_wp2
 go_ret
 exact ⟨rfl,w2,hbH.out,rfl⟩
theorem m9 (s:Stp) (p:UInt8) (hp:p∈([65,66,67,79,86,76]:List UInt8)) (x:List UInt8) (b:Nat) (w:World) (hB:Box w b s) {lo:Nat} (hlo:b<lo) (hlw:lo≤w.heap.size) (hG:Good lo w s) (hr:Reads w) (hx:x.length≤100000) :
  Calls I 47 #[Z (some ⟨b,0,none⟩),V .u8 (p.toNat:Int),S ⟨x.toArray⟩] w fun e w'=>e= J (H (cT s p x).isSome)∧Kept b w w'∧∀t,cT s p x=some t→∃t',clr t'=clr t∧Box w' b t'∧Good lo w' t':=by
 simp only[List.mem_cons,List.not_mem_nil,or_false] at hp
 rcases hp with rfl|rfl|rfl|rfl|rfl|rfl
 ·refine cM (el x b 65 1 w hr rfl rfl rfl _ hB.c1 (hB.fz 1)) ?_
  rintro e w' ⟨rfl,w1,hb,rfl⟩
  have hpt:cT s 65 x=match dc x with
   | none=>none
   | some n=>some { s with a:=n }:=by unfold cT;rw[if_neg (by decide),if_neg (by decide)];rfl
  rw[hpt]
  have hk:Kept b w (w1.setCell ⟨b,1,none⟩ (V O ((dc x).getD 0))):=(Kept.of hb).set 1 _
  cases hq:dc x with
  | none=>exact ⟨rfl,by rw[hq] at hk;exact hk,fun t ht=>by cases ht⟩
  | some n =>
   rw[hq] at hk
   refine ⟨rfl,hk,fun t ht=> ?_⟩
   obtain rfl:=sI ht
   exact ⟨_,rfl,(hB.below hb).set 1 _ rfl rfl rfl rfl rfl rfl rfl,(hG.kept hlo hk).as rfl rfl rfl⟩
 ·refine cM (el x b 66 2 w hr rfl rfl rfl _ hB.c2 (hB.fz 2)) ?_
  rintro e w' ⟨rfl,w1,hb,rfl⟩
  have hpt:cT s 66 x=match dc x with
   | none=>none
   | some n=>some { s with b:=n }:=by unfold cT;rw[if_neg (by decide),if_neg (by decide)];rfl
  rw[hpt]
  have hk:Kept b w (w1.setCell ⟨b,2,none⟩ (V O ((dc x).getD 0))):=(Kept.of hb).set 2 _
  cases hq:dc x with
  | none=>exact ⟨rfl,by rw[hq] at hk;exact hk,fun t ht=>by cases ht⟩
  | some n =>
   rw[hq] at hk
   refine ⟨rfl,hk,fun t ht=> ?_⟩
   obtain rfl:=sI ht
   exact ⟨_,rfl,(hB.below hb).set 2 _ rfl rfl rfl rfl rfl rfl rfl,(hG.kept hlo hk).as rfl rfl rfl⟩
 ·refine cM (el x b 67 3 w hr rfl rfl rfl _ hB.c3 (hB.fz 3)) ?_
  rintro e w' ⟨rfl,w1,hb,rfl⟩
  have hpt:cT s 67 x=match dc x with
   | none=>none
   | some n=>some { s with c:=n }:=by unfold cT;rw[if_neg (by decide),if_neg (by decide)];rfl
  rw[hpt]
  have hk:Kept b w (w1.setCell ⟨b,3,none⟩ (V O ((dc x).getD 0))):=(Kept.of hb).set 3 _
  cases hq:dc x with
  | none=>exact ⟨rfl,by rw[hq] at hk;exact hk,fun t ht=>by cases ht⟩
  | some n =>
   rw[hq] at hk
   refine ⟨rfl,hk,fun t ht=> ?_⟩
   obtain rfl:=sI ht
   exact ⟨_,rfl,(hB.below hb).set 3 _ rfl rfl rfl rfl rfl rfl rfl,(hG.kept hlo hk).as rfl rfl rfl⟩
 ·refine cM (nW s x b w hB) ?_
  rintro e w' ⟨rfl,rfl⟩
  have hk:Kept b w (w.setCell ⟨b,4,none⟩ (V O (cW x))):=(Kept.of (bR _ _)).set 4 _
  have hpt:cT s 79 x=if cW x=0 then none else some { s with o:=cW x }:=by unfold cT;rw[if_pos rfl]
  rw[hpt]
  by_cases h0:cW x=0
  ·rw[if_pos h0]
   exact ⟨by rw[h0];rfl,hk,fun t ht=>by cases ht⟩
  ·rw[if_neg h0]
   refine ⟨by rw[show (cW x != 0)=true by simpa using h0];rfl,hk,fun t ht=> ?_⟩
   obtain rfl:=sI ht
   exact ⟨_,rfl,hB.set 4 _ rfl rfl rfl rfl rfl rfl rfl,(hG.kept hlo hk).as rfl rfl rfl⟩
 ·refine cM (el x b 86 5 w hr rfl rfl rfl _ hB.c5 (hB.fz 5)) ?_
  rintro e w' ⟨rfl,w1,hb,rfl⟩
  have hpt:cT s 86 x=match dc x with
   | none=>none
   | some n=>some { s with v:=n }:=by unfold cT;rw[if_neg (by decide),if_neg (by decide)];rfl
  rw[hpt]
  have hk:Kept b w (w1.setCell ⟨b,5,none⟩ (V O ((dc x).getD 0))):=(Kept.of hb).set 5 _
  cases hq:dc x with
  | none=>exact ⟨rfl,by rw[hq] at hk;exact hk,fun t ht=>by cases ht⟩
  | some n =>
   rw[hq] at hk
   refine ⟨rfl,hk,fun t ht=> ?_⟩
   obtain rfl:=sI ht
   exact ⟨_,rfl,(hB.below hb).set 5 _ rfl rfl rfl rfl rfl rfl rfl,(hG.kept hlo hk).as rfl rfl rfl⟩
 ·refine cM (lA s x b w hB hr hx) ?_
  rintro e w' ⟨rfl,v,w1,hv,hb,rfl⟩
  have hk:Kept b w (w1.setCell ⟨b,6,none⟩ v):=(Kept.of hb).set 6 _
  have hpt:cT s 76 x=match iz x with
   | none=>none
   | some l=>some { s with l:=l }:=by unfold cT;rw[if_neg (by decide),if_pos rfl];rfl
  rw[hpt]
  cases hq:iz x with
  | none=>exact ⟨rfl,hk,fun t ht=>by cases ht⟩
  | some l =>
   refine ⟨rfl,hk,fun t ht=> ?_⟩
   obtain rfl:=sI ht
   rw[hq] at hv
   obtain ⟨A,cap,rfl,hnil,hrow,hfar⟩:=ag.row bU hv
   have hf:∀a,A=some a→a.block≠b:=fun a ha=>by have:=(hfar a ha).1;have:=hB.lt;omega
   refine ⟨{ s with l:=l,p:=A,n:=cap },rfl,(hB.below hb).set 6 _ rfl rfl rfl rfl rfl rfl rfl,⟨?_,?_,hnil,fun a ha=>⟨nT hlw (hfar a ha).1,by have:=(hfar a ha).2;simpa[World.setCell] using this⟩⟩⟩
   ·exact nX hrow ((Kept.of (bR _ _)).set 6 _) hf
   ·have h1:=congrArg List.length (mT hq)
    have h2:=ig 44 x
    rw[List.length_map] at h1
    show l.length≤maxLen
    unfold maxLen
    omega
end Go.Proofs.YtfedpiamlpflhaaGreatDoor
