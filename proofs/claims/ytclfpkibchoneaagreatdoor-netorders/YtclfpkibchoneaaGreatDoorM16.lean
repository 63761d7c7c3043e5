/-
  The library's strings.TrimPrefix, Cut, Split and strconv.Atoi: where their functions and types stand in this program.
  query.parseNumber: the number that a word tells.
  query.opOf, query.kindOf: the op of a sign, the kind of a word.
  strings.Split and strings.Cut at one byte.
  query.parseList: the numbers that a word tells.
  query.parsePart: one part is put into a step.
-/
import Derived.Shelf.LaysC
import Derived.Shelf.Strings.Prefix
import Derived.Shelf.Strings.Shaped
import Derived.Shelf.Strings.SplitShaped
import Derived.Shelf.Strconv.Atoi
import Derived.Test.YtclfpkibchoneaaGreatDoorM15
import Derived.Shelf.Strconv.AtoiErr
import Derived.Lib.AtoiBound
set_option maxRecDepth 100000
set_option maxHeartbeats 8000000
open Go.Ending renaming returned → J
open Go.IntKind renaming i64 → O
open Go.Proofs.Tryz renaming prog → I
open Go.Value renaming int → V, string → S, pointer → Z, bool → H, slice → Y, tuple → X
namespace Go.Proofs
open Go.Shelf
def Tryz.lays101_ren:Go.Shelf.Ren:=⟨fun|101=>153|208=>182|206=>207|n=>n,fun|9=>9|4=>4|3=>3|n=>n,fun|n=>n⟩
theorem Tryz.lays101:Go.Proofs.Lays.n101 I Tryz.lays101_ren:={
 mixed:=by kernel_rfl
 f101:=Tryz.func153.trans (congrArg some (by kernel_rfl))
 f206:=Tryz.func207.trans (congrArg some (by kernel_rfl))
 f208:=Tryz.func182.trans (congrArg some (by kernel_rfl))
 t3:=Tryz.underlying3
 a3:=Tryz.isAgg3
 z3:=Tryz.sizeOf3
 v3:=Tryz.zeroValue3
 t4:=Tryz.underlying4
 a4:=Tryz.isAgg4
 z4:=Tryz.sizeOf4
 v4:=Tryz.zeroValue4
 t9:=Tryz.underlying9
 a9:=Tryz.isAgg9
 z9:=Tryz.sizeOf9
 v9:=Tryz.zeroValue9 }
def Tryz.lays145_ren:Go.Shelf.Ren:=⟨fun|145=>60|220=>80|219=>119|217=>145|225=>146|224=>147|267=>148|266=>177|314=>178|n=>n,fun|9=>9|4=>4|59=>123|3=>3|5=>5|46=>141|146=>244|51=>175|n=>n,fun|1=>0|n=>n⟩
theorem Tryz.lays145:Go.Proofs.LaysM.n145 I Tryz.lays145_ren:={
 mixed:=by kernel_rfl
 f145:=Tryz.func60.trans (congrArg some (by kernel_rfl))
 f217:=Tryz.func145.trans (congrArg some (by kernel_rfl))
 f219:=Tryz.func119.trans (congrArg some (by kernel_rfl))
 f220:=Tryz.func80.trans (congrArg some (by kernel_rfl))
 f224:=Tryz.func147.trans (congrArg some (by kernel_rfl))
 f225:=Tryz.func146.trans (congrArg some (by kernel_rfl))
 f266:=Tryz.func177.trans (congrArg some (by kernel_rfl))
 f267:=Tryz.func148.trans (congrArg some (by kernel_rfl))
 f314:=Tryz.func178.trans (congrArg some (by kernel_rfl))
 t3:=Tryz.underlying3
 a3:=Tryz.isAgg3
 z3:=Tryz.sizeOf3
 v3:=Tryz.zeroValue3
 t4:=Tryz.underlying4
 a4:=Tryz.isAgg4
 z4:=Tryz.sizeOf4
 v4:=Tryz.zeroValue4
 t5:=Tryz.underlying5
 a5:=Tryz.isAgg5
 z5:=Tryz.sizeOf5
 v5:=Tryz.zeroValue5
 t9:=Tryz.underlying9
 a9:=Tryz.isAgg9
 z9:=Tryz.sizeOf9
 v9:=Tryz.zeroValue9
 t46:=Tryz.underlying141
 a46:=Tryz.isAgg141
 z46:=Tryz.sizeOf141
 v46:=Tryz.zeroValue141
 t51:=Tryz.underlying175
 a51:=Tryz.isAgg175
 z51:=Tryz.sizeOf175
 v51:=Tryz.zeroValue175
 t59:=Tryz.underlying123
 a59:=Tryz.isAgg123
 z59:=Tryz.sizeOf123
 v59:=Tryz.zeroValue123
 t146:=Tryz.underlying244
 a146:=Tryz.isAgg244
 z146:=Tryz.sizeOf244
 v146:=Tryz.zeroValue244
 g1:=by kernel_rfl
 i3:=by kernel_rfl
 i4:=by kernel_rfl
 i5:=by kernel_rfl
 i9:=by kernel_rfl
 i46:=by kernel_rfl
 i51:=by kernel_rfl
 i59:=by kernel_rfl
 i146:=by kernel_rfl
 m1:=by kernel_rfl
 s1_3:=fun w h=>Go.Proofs.cell_of_shapedOpen_int (zero:= #[V O 0]) (t:=3) h (of_decide_eq_true (by kernel_rfl)) (by kernel_rfl) rfl (by kernel_rfl) (by kernel_rfl) Tryz.underlying3 }
def Tryz.lays146_ren:Go.Shelf.Ren:=⟨fun|146=>81|221=>120|268=>149|138=>150|143=>151|195=>179|197=>180|218=>181|219=>119|260=>206|217=>145|225=>146|224=>147|267=>148|266=>177|314=>178|n=>n,fun|9=>9|31=>149|3=>3|4=>4|0=>0|105=>246|21=>21|5=>5|46=>141|119=>276|139=>279|138=>278|146=>244|51=>175|n=>n,fun|1=>0|3=>1|4=>2|n=>n⟩
theorem Tryz.lays146:Go.Proofs.LaysM.n146 I Tryz.lays146_ren:={
 mixed:=by kernel_rfl
 f138:=Tryz.func150.trans (congrArg some (by kernel_rfl))
 f143:=Tryz.func151.trans (congrArg some (by kernel_rfl))
 f146:=Tryz.func81.trans (congrArg some (by kernel_rfl))
 f195:=Tryz.func179.trans (congrArg some (by kernel_rfl))
 f197:=Tryz.func180.trans (congrArg some (by kernel_rfl))
 f217:=Tryz.func145.trans (congrArg some (by kernel_rfl))
 f218:=Tryz.func181.trans (congrArg some (by kernel_rfl))
 f219:=Tryz.func119.trans (congrArg some (by kernel_rfl))
 f221:=Tryz.func120.trans (congrArg some (by kernel_rfl))
 f224:=Tryz.func147.trans (congrArg some (by kernel_rfl))
 f225:=Tryz.func146.trans (congrArg some (by kernel_rfl))
 f260:=Tryz.func206.trans (congrArg some (by kernel_rfl))
 f266:=Tryz.func177.trans (congrArg some (by kernel_rfl))
 f267:=Tryz.func148.trans (congrArg some (by kernel_rfl))
 f268:=Tryz.func149.trans (congrArg some (by kernel_rfl))
 f314:=Tryz.func178.trans (congrArg some (by kernel_rfl))
 t0:=Tryz.underlying0
 a0:=Tryz.isAgg0
 z0:=Tryz.sizeOf0
 v0:=Tryz.zeroValue0
 t3:=Tryz.underlying3
 a3:=Tryz.isAgg3
 z3:=Tryz.sizeOf3
 v3:=Tryz.zeroValue3
 t4:=Tryz.underlying4
 a4:=Tryz.isAgg4
 z4:=Tryz.sizeOf4
 v4:=Tryz.zeroValue4
 t5:=Tryz.underlying5
 a5:=Tryz.isAgg5
 z5:=Tryz.sizeOf5
 v5:=Tryz.zeroValue5
 t9:=Tryz.underlying9
 a9:=Tryz.isAgg9
 z9:=Tryz.sizeOf9
 v9:=Tryz.zeroValue9
 t21:=Tryz.underlying21
 a21:=Tryz.isAgg21
 z21:=Tryz.sizeOf21
 v21:=Tryz.zeroValue21
 t31:=Tryz.underlying149
 a31:=Tryz.isAgg149
 z31:=Tryz.sizeOf149
 v31:=Tryz.zeroValue149
 t46:=Tryz.underlying141
 a46:=Tryz.isAgg141
 z46:=Tryz.sizeOf141
 v46:=Tryz.zeroValue141
 t51:=Tryz.underlying175
 a51:=Tryz.isAgg175
 z51:=Tryz.sizeOf175
 v51:=Tryz.zeroValue175
 t105:=Tryz.underlying246
 a105:=Tryz.isAgg246
 z105:=Tryz.sizeOf246
 v105:=Tryz.zeroValue246
 t119:=Tryz.underlying276
 a119:=Tryz.isAgg276
 z119:=Tryz.sizeOf276
 t138:=Tryz.underlying278
 a138:=Tryz.isAgg278
 z138:=Tryz.sizeOf278
 v138:=Tryz.zeroValue278
 t139:=Tryz.underlying279
 a139:=Tryz.isAgg279
 z139:=Tryz.sizeOf279
 v139:=Tryz.zeroValue279
 t146:=Tryz.underlying244
 a146:=Tryz.isAgg244
 z146:=Tryz.sizeOf244
 v146:=Tryz.zeroValue244
 g1:=by kernel_rfl
 g3:=by kernel_rfl
 g4:=by kernel_rfl
 i0:=by kernel_rfl
 i3:=by kernel_rfl
 i4:=by kernel_rfl
 i5:=by kernel_rfl
 i9:=by kernel_rfl
 i21:=by kernel_rfl
 i31:=by kernel_rfl
 i46:=by kernel_rfl
 i51:=by kernel_rfl
 i105:=by kernel_rfl
 i138:=by kernel_rfl
 i139:=by kernel_rfl
 i146:=by kernel_rfl
 m1:=by kernel_rfl
 s1_3:=fun w h=>Go.Proofs.cell_of_shapedOpen_int (zero:= #[V O 0]) (t:=3) h (of_decide_eq_true (by kernel_rfl)) (by kernel_rfl) rfl (by kernel_rfl) (by kernel_rfl) Tryz.underlying3
 m3:=by kernel_rfl
 m4:=by kernel_rfl }
def Tryz.lays172_ren:Go.Shelf.Ren:=⟨fun|172=>154|244=>183|245=>184|247=>208|279=>209|280=>210|281=>211|282=>212|287=>224|316=>225|171=>155|205=>226|321=>247|322=>248|243=>185|246=>213|283=>227|284=>228|285=>229|286=>230|129=>104|317=>249|318=>250|319=>251|320=>252|337=>259|338=>260|n=>n,fun|9=>9|3=>3|75=>221|76=>222|4=>4|5=>5|167=>261|37=>262|0=>0|85=>263|2=>2|168=>265|53=>177|175=>280|46=>141|210=>284|127=>309|145=>312|143=>310|21=>21|171=>286|173=>288|212=>314|51=>175|20=>20|213=>315|232=>321|233=>322|80=>323|n=>n,fun|15=>3|16=>4|17=>5|18=>6|19=>7|n=>n⟩
theorem Tryz.lays172:Go.Proofs.LaysC.n172 I Tryz.lays172_ren:={
 mixed:=by kernel_rfl
 f129:=Tryz.func104.trans (congrArg some (by kernel_rfl))
 f171:=Tryz.func155.trans (congrArg some (by kernel_rfl))
 f172:=Tryz.func154.trans (congrArg some (by kernel_rfl))
 f205:=Tryz.func226.trans (congrArg some (by kernel_rfl))
 f243:=Tryz.func185.trans (congrArg some (by kernel_rfl))
 f244:=Tryz.func183.trans (congrArg some (by kernel_rfl))
 f245:=Tryz.func184.trans (congrArg some (by kernel_rfl))
 f246:=Tryz.func213.trans (congrArg some (by kernel_rfl))
 f247:=Tryz.func208.trans (congrArg some (by kernel_rfl))
 f279:=Tryz.func209.trans (congrArg some (by kernel_rfl))
 f280:=Tryz.func210.trans (congrArg some (by kernel_rfl))
 f281:=Tryz.func211.trans (congrArg some (by kernel_rfl))
 f282:=Tryz.func212.trans (congrArg some (by kernel_rfl))
 f283:=Tryz.func227.trans (congrArg some (by kernel_rfl))
 f284:=Tryz.func228.trans (congrArg some (by kernel_rfl))
 f285:=Tryz.func229.trans (congrArg some (by kernel_rfl))
 f286:=Tryz.func230.trans (congrArg some (by kernel_rfl))
 f287:=Tryz.func224.trans (congrArg some (by kernel_rfl))
 f316:=Tryz.func225.trans (congrArg some (by kernel_rfl))
 f317:=Tryz.func249.trans (congrArg some (by kernel_rfl))
 f318:=Tryz.func250.trans (congrArg some (by kernel_rfl))
 f319:=Tryz.func251.trans (congrArg some (by kernel_rfl))
 f320:=Tryz.func252.trans (congrArg some (by kernel_rfl))
 f321:=Tryz.func247.trans (congrArg some (by kernel_rfl))
 f322:=Tryz.func248.trans (congrArg some (by kernel_rfl))
 f337:=Tryz.func259.trans (congrArg some (by kernel_rfl))
 f338:=Tryz.func260.trans (congrArg some (by kernel_rfl))
 t0:=Tryz.underlying0
 a0:=Tryz.isAgg0
 z0:=Tryz.sizeOf0
 v0:=Tryz.zeroValue0
 t2:=Tryz.underlying2
 a2:=Tryz.isAgg2
 z2:=Tryz.sizeOf2
 v2:=Tryz.zeroValue2
 t3:=Tryz.underlying3
 a3:=Tryz.isAgg3
 z3:=Tryz.sizeOf3
 v3:=Tryz.zeroValue3
 t4:=Tryz.underlying4
 a4:=Tryz.isAgg4
 z4:=Tryz.sizeOf4
 v4:=Tryz.zeroValue4
 t5:=Tryz.underlying5
 a5:=Tryz.isAgg5
 z5:=Tryz.sizeOf5
 v5:=Tryz.zeroValue5
 t9:=Tryz.underlying9
 a9:=Tryz.isAgg9
 z9:=Tryz.sizeOf9
 v9:=Tryz.zeroValue9
 t20:=Tryz.underlying20
 a20:=Tryz.isAgg20
 z20:=Tryz.sizeOf20
 v20:=Tryz.zeroValue20
 t21:=Tryz.underlying21
 a21:=Tryz.isAgg21
 z21:=Tryz.sizeOf21
 v21:=Tryz.zeroValue21
 t37:=Tryz.underlying262
 a37:=Tryz.isAgg262
 z37:=Tryz.sizeOf262
 v37:=Tryz.zeroValue262
 t46:=Tryz.underlying141
 a46:=Tryz.isAgg141
 z46:=Tryz.sizeOf141
 v46:=Tryz.zeroValue141
 t51:=Tryz.underlying175
 a51:=Tryz.isAgg175
 z51:=Tryz.sizeOf175
 v51:=Tryz.zeroValue175
 t53:=Tryz.underlying177
 a53:=Tryz.isAgg177
 z53:=Tryz.sizeOf177
 v53:=Tryz.zeroValue177
 t75:=Tryz.underlying221
 a75:=Tryz.isAgg221
 z75:=Tryz.sizeOf221
 v75:=Tryz.zeroValue221
 t76:=Tryz.underlying222
 a76:=Tryz.isAgg222
 z76:=Tryz.sizeOf222
 v76:=Tryz.zeroValue222
 t85:=Tryz.underlying263
 a85:=Tryz.isAgg263
 z85:=Tryz.sizeOf263
 v85:=Tryz.zeroValue263
 t127:=Tryz.underlying309
 a127:=Tryz.isAgg309
 z127:=Tryz.sizeOf309
 v127:=Tryz.zeroValue309
 t143:=Tryz.underlying310
 a143:=Tryz.isAgg310
 z143:=Tryz.sizeOf310
 v143:=Tryz.zeroValue310
 t145:=Tryz.underlying312
 a145:=Tryz.isAgg312
 z145:=Tryz.sizeOf312
 v145:=Tryz.zeroValue312
 t167:=Tryz.underlying261
 a167:=Tryz.isAgg261
 z167:=Tryz.sizeOf261
 v167:=Tryz.zeroValue261
 t168:=Tryz.underlying265
 a168:=Tryz.isAgg265
 z168:=Tryz.sizeOf265
 v168:=Tryz.zeroValue265
 t171:=Tryz.underlying286
 a171:=Tryz.isAgg286
 z171:=Tryz.sizeOf286
 v171:=Tryz.zeroValue286
 t173:=Tryz.underlying288
 a173:=Tryz.isAgg288
 z173:=Tryz.sizeOf288
 v173:=Tryz.zeroValue288
 t175:=Tryz.underlying280
 a175:=Tryz.isAgg280
 z175:=Tryz.sizeOf280
 v175:=Tryz.zeroValue280
 t210:=Tryz.underlying284
 a210:=Tryz.isAgg284
 z210:=Tryz.sizeOf284
 v210:=Tryz.zeroValue284
 t212:=Tryz.underlying314
 a212:=Tryz.isAgg314
 z212:=Tryz.sizeOf314
 v212:=Tryz.zeroValue314
 t213:=Tryz.underlying315
 a213:=Tryz.isAgg315
 z213:=Tryz.sizeOf315
 t232:=Tryz.underlying321
 a232:=Tryz.isAgg321
 z232:=Tryz.sizeOf321
 v232:=Tryz.zeroValue321
 t233:=Tryz.underlying322
 a233:=Tryz.isAgg322
 z233:=Tryz.sizeOf322
 v233:=Tryz.zeroValue322
 g15:=by kernel_rfl
 g16:=by kernel_rfl
 g17:=by kernel_rfl
 g18:=by kernel_rfl
 g19:=by kernel_rfl
 t80:=Tryz.underlying323
 a80:=Tryz.isAgg323
 z80:=Tryz.sizeOf323
 v80:=Tryz.zeroValue323
 i0:=by kernel_rfl
 i2:=by kernel_rfl
 i3:=by kernel_rfl
 i4:=by kernel_rfl
 i5:=by kernel_rfl
 i9:=by kernel_rfl
 i20:=by kernel_rfl
 i21:=by kernel_rfl
 i37:=by kernel_rfl
 i46:=by kernel_rfl
 i51:=by kernel_rfl
 i53:=by kernel_rfl
 i75:=by kernel_rfl
 i76:=by kernel_rfl
 i80:=by kernel_rfl
 i85:=by kernel_rfl
 i127:=by kernel_rfl
 i143:=by kernel_rfl
 i145:=by kernel_rfl
 i167:=by kernel_rfl
 i168:=by kernel_rfl
 i171:=by kernel_rfl
 i173:=by kernel_rfl
 i175:=by kernel_rfl
 i210:=by kernel_rfl
 i212:=by kernel_rfl
 i232:=by kernel_rfl
 i233:=by kernel_rfl
 m15:=by kernel_rfl
 m16:=by kernel_rfl
 m17:=by kernel_rfl
 m18:=by kernel_rfl
 m19:=by kernel_rfl
 c0:=by kernel_rfl
 c2:=by kernel_rfl
 c3:=by kernel_rfl
 c4:=by kernel_rfl
 c5:=by kernel_rfl
 c9:=by kernel_rfl
 c20:=by kernel_rfl
 c21:=by kernel_rfl
 c37:=by kernel_rfl
 c46:=by kernel_rfl
 c51:=by kernel_rfl
 c53:=by kernel_rfl
 c75:=by kernel_rfl
 c76:=by kernel_rfl
 c80:=by kernel_rfl
 c85:=by kernel_rfl
 c127:=by kernel_rfl
 c143:=by kernel_rfl
 c145:=by kernel_rfl
 c167:=by kernel_rfl
 c168:=by kernel_rfl
 c171:=by kernel_rfl
 c173:=by kernel_rfl
 c175:=by kernel_rfl
 c210:=by kernel_rfl
 c212:=by kernel_rfl
 c213:=by kernel_rfl
 c232:=by kernel_rfl
 c233:=by kernel_rfl }
end Go.Proofs

namespace Go.Proofs.YtclfpkibchoneaaGreatDoor
open Go.RowKit Go.Sort

structure Reads (w:World):Prop where
 len:∃m,w.cell? ⟨Tryz.lays145_ren.g 1,0,none⟩=some (V O m)
 syn:∃ev,w.cell? ⟨Tryz.lays172_ren.g 15,0,none⟩=some ev∧(ev= .nilIface∨∃te pe,ev= .iface te pe)
 tens:oY w
theorem Reads.below {w w':World} (h:Reads w) (k:Below w.heap.size w w'):Reads w':=by
 obtain ⟨m,hm⟩:=h.len
 obtain ⟨ev,he,hv⟩:=h.syn
 exact ⟨⟨m,(k.cell (World.block_lt_of_cell? w _ hm)).trans hm⟩,⟨ev,(k.cell (World.block_lt_of_cell? w _ he)).trans he,hv⟩,h.tens.below k⟩
theorem Reads.gr {w w':World} (h:Reads w) (k:Gr w w'):Reads w':=h.below k.below
theorem xN (x y:List UInt8) (w:World):Calls I 153 #[S ⟨x.toArray⟩,S ⟨y.toArray⟩] w fun e w'=>e= J (S ⟨(Lib.trimPrefix x y).toArray⟩)∧w'=w:=by
 have hc:=Any.strings_TrimPrefix Tryz.lays101 ⟨x.toArray⟩ ⟨y.toArray⟩ w
 change Calls I 153 _ _ _ at hc
 exact hc
theorem yc {x:List UInt8} {n:Int} (hl:x.length≤18) (h:Lib.atoi x=some n) (w:World):Calls I 154 #[S ⟨x.toArray⟩] w fun e w'=>e= J (X #[V O n,.nilIface])∧Below w.heap.size w w':=by
 have hc:=Any.strconv_Atoi Tryz.lays172.toM.1 ⟨x.toArray⟩ n hl h w
 change Calls I 154 _ _ _ at hc
 refine hc.mono ?_
 rintro e w' ⟨rfl,t,rfl⟩
 exact ⟨rfl,Go.Joins.below_bytesWorld _ _ _ _ (nR _)⟩
theorem ol {n:Int} (h0: -9223372036854775808≤n) (h1:n≤9223372036854775807) {w:World} (ht:oY w):Calls I 155 #[V O n] w fun e w'=>e= J (S ⟨(Lib.itoa n).toArray⟩)∧Gr w w':=by
 have hc:=Any.strconv_Itoa Tryz.lays171 n h0 h1 w ht
 change Calls I 155 _ _ _ at hc
 exact hc
theorem ya {x:List UInt8} (hl:x.length≤18) (h:Lib.atoi x=none) (w:World) (hr:Reads w):Calls I 154 #[S ⟨x.toArray⟩] w fun e w'=>(∃N,e= J (X #[V O 0,.iface (Tryz.lays172_ren.t 168) (Z (some ⟨N,0,none⟩))]))∧Below w.heap.size w w':=by
 obtain ⟨ev,he,hv⟩:=hr.syn
 have hc:=Any.strconv_Atoi_err Tryz.lays172 ⟨x.toArray⟩ hl h ev w he hv
 change Calls I 154 _ _ _ at hc
 refine hc.mono ?_
 rintro e w' ⟨N,rfl,_,_,hb⟩
 exact ⟨⟨N,rfl⟩,hb⟩
theorem gP (x:List UInt8) (w:World) (hr:Reads w):Calls I 123 #[S ⟨x.toArray⟩] w fun e w'=>e= J (X #[V O ((dA x).getD 0),H (dA x).isSome])∧Below w.heap.size w w':=by
 have htr:=xN x [45] w
 have htH:Hid _:=htr
 clear htr
 obtain ⟨T,hT⟩:∃T,Lib.trimPrefix x [45]=T:=⟨_,rfl⟩
 have hTl:T.length≤x.length:=by
  rw[←hT]
  unfold Lib.trimPrefix
  split
  ·simp
  ·exact nR _
 by_cases h10:10<T.length
 ·have hn:dA x=none:=by unfold dA;rw[hT,if_pos h10]
  rw[hn]
  have hc:decide ((10:Int)<(T.length:Int))=true:=decide_eq_true (by omega)
  rw[hT] at htH
  go_enter Tryz.func123,Tryz.ntmps123
  go_wp2_with fail
  refine cM (show Calls _ _ _ _ _ from htH.out) ?_
  rintro e w1 ⟨rfl,rfl⟩
  go_wp2
  go_ret2
  exact ⟨rfl,bR _ _⟩
 have hc:decide ((10:Int)<(T.length:Int))=false:=decide_eq_false (by omega)
 have hx:x.length≤18:=by
  have:x.length≤T.length+1:=by
   rw[←hT]
   unfold Lib.trimPrefix
   split<;>simp<;>omega
  omega
 cases ha:Lib.atoi x with
 | none =>
  have hn:dA x=none:=by unfold dA;rw[hT,if_neg h10,ha]
  rw[hn]
  rw[hT] at htH
  have hat:=ya hx ha w hr
  have haH:Hid _:=hat
  clear hat
  go_enter Tryz.func123,Tryz.ntmps123
  go_wp2_with fail
  refine cM (show Calls _ _ _ _ _ from htH.out) ?_
  rintro e w1 ⟨rfl,rfl⟩
  go_wp2_with fail
  refine cM (show Calls _ _ _ _ _ from haH.out) ?_
  rintro e w2 ⟨⟨N,rfl⟩,hb⟩
  go_wp2
  go_ret2
  exact ⟨rfl,hb⟩
 | some n =>
  have hnb: -9223372036854775808≤n∧n≤9223372036854775807:=by have:=Lib.atoi_bound ha hx;omega
  rw[hT] at htH
  have hat:=yc hx ha w
  have haH:Hid _:=hat
  clear hat
  by_cases hi:Lib.itoa n=x
  ·have hn:dA x=some n:=by unfold dA;rw[hT,if_neg h10,ha];simp[hi]
   rw[hn]
   go_enter Tryz.func123,Tryz.ntmps123
   go_wp2_with fail
   refine cM (show Calls _ _ _ _ _ from htH.out) ?_
   rintro e w1 ⟨rfl,rfl⟩
   go_wp2_with fail
   refine cM (show Calls _ _ _ _ _ from haH.out) ?_
   rintro e w2 ⟨rfl,hb⟩
   have hit:=ol hnb.1 hnb.2 (hr.below hb).tens
   rw[hi] at hit
   have hiH:Hid _:=hit
   clear hit
   go_wp2_with fail
   refine cM (show Calls _ _ _ _ _ from hiH.out) ?_
   rintro e w3 ⟨rfl,hg⟩
   go_wp2
   go_ret2
   exact ⟨rfl,hb.trans (hg.below.mono hb.size)⟩
  ·have hn:dA x=none:=by unfold dA;rw[hT,if_neg h10,ha];simp[hi]
   rw[hn]
   have hne:(Lib.itoa n==x)=false:=by simpa using hi
   go_enter Tryz.func123,Tryz.ntmps123
   go_wp2_with fail
   refine cM (show Calls _ _ _ _ _ from htH.out) ?_
   rintro e w1 ⟨rfl,rfl⟩
   go_wp2_with fail
   refine cM (show Calls _ _ _ _ _ from haH.out) ?_
   rintro e w2 ⟨rfl,hb⟩
   have hit:=ol hnb.1 hnb.2 (hr.below hb).tens
   have hiH:Hid _:=hit
   clear hit
   go_wp2_with fail
   refine cM (show Calls _ _ _ _ _ from hiH.out) ?_
   rintro e w3 ⟨rfl,hg⟩
   go_wp2
   go_ret2
   exact ⟨rfl,hb.trans (hg.below.mono hb.size)⟩


theorem qQ (x:List UInt8):0≤dr x∧dr x≤3:=by
 unfold dr
 repeat' split
 all_goals decide
theorem xh (x:List UInt8) (w:World):Calls I 121 #[S ⟨x.toArray⟩] w fun e w'=>e= J (V O (dr x))∧w'=w:=by
 go_enter Tryz.func121,Tryz.ntmps121
 go_wp2
 go_loopw [3] (fun i wr=>∃j:Nat,j≤3∧i= V O ((j:Int)+1)∧Hid (∀m:Nat,m<j→jY ((m:Int)+1)≠x)∧wr=w) (fun i _=>4-(intOf i).toNat)
 case atStart=>exact ⟨0,nZ _,rfl,fun m h=>by omega,rfl⟩
 case round =>
  obtain ⟨j,hj,rfl,hall,rfl⟩:=hrel
  by_cases hlt:j<3
  ·have hle:decide ((j:Int)+1≤3)=true:=decide_eq_true (by omega)
   have hsg:=sx ((j:Int)+1) wr
   have hsgH:Hid _:=hsg
   clear hsg
   by_cases hq:jY ((j:Int)+1)=x
   ·have hfin:Hid (dr x=(j:Int)+1):=by
     show _=_
     rw[←hq]
     exact sy (by omega)
    rw[hq] at hsgH
    clear hq
    go_wp2_with (go_at_call 152;(refine cM (show Calls _ _ _ _ _ from hsgH.out) ?_);rintro e w' ⟨rfl,rfl⟩)
    go_ret
    exact ⟨by rw[hfin.out];rfl,rfl⟩
   ·have hb:(jY ((j:Int)+1)==x)=false:=by simpa using hq
    have hqH:Hid (jY ((j:Int)+1)≠x):=hq
    clear hq
    go_wp2_with (go_at_call 152;(refine cM (show Calls _ _ _ _ _ from hsgH.out) ?_);rintro e w' ⟨rfl,rfl⟩)
    go_roundw
    case rel =>
     refine ⟨j+1,by omega,by go_num,?_,by trivial⟩
     intro m hm
     by_cases e:m=j
     ·subst e;exact hqH.out
     ·exact hall m (by omega)
    case measure=>simp[intOf];omega
  ·have hle:decide ((j:Int)+1≤3)=false:=decide_eq_false (by omega)
   have hfin:Hid (dr x=0):=by
    show _=_
    by_cases h0:dr x=0
    ·exact h0
    ·have hr:=qQ x
     have ht:=sz h0
     exact absurd (by rw[show (((dr x).toNat-1:Nat):Int)+1=dr x by omega];exact ht) (hall ((dr x).toNat-1) (by omega))
   go_wp2
   go_ret
   exact ⟨by rw[hfin.out];rfl,rfl⟩

theorem rW (x:List UInt8) (w:World):Calls I 82 #[S ⟨x.toArray⟩] w fun e w'=>e= J (V O (dE x))∧w'=w:=by
 go_enter Tryz.func82,Tryz.ntmps82
 go_wp2
 go_loopw [3] (fun i wr=>∃j:Nat,j≤9∧i= V O ((j:Int)+1)∧Hid (∀m:Nat,m<j→ew ((m:Int)+1)≠x)∧wr=w) (fun i _=>10-(intOf i).toNat)
 case atStart=>exact ⟨0,nZ _,rfl,fun m h=>by omega,rfl⟩
 case round =>
  obtain ⟨j,hj,rfl,hall,rfl⟩:=hrel
  by_cases hlt:j<9
  ·have hle:decide ((j:Int)+1≤9)=true:=decide_eq_true (by omega)
   have hsg:=jg ((j:Int)+1) wr
   obtain ⟨P,hP⟩:∃P,bx ((j:Int)+1)=P:=⟨_,rfl⟩
   rw[hP] at hsg
   have hsgH:Hid _:=hsg
   clear hsg hP
   by_cases hq:ew ((j:Int)+1)=x
   ·have hfin:Hid (dE x=(j:Int)+1):=by
     show _=_
     rw[←hq]
     exact rX (by omega)
    rw[hq] at hsgH
    clear hq
    go_wp2_with (go_at_call 83;(refine cM (show Calls _ _ _ _ _ from hsgH.out) ?_);rintro e w' ⟨rfl,rfl⟩)
    go_ret
    exact ⟨by rw[hfin.out];rfl,rfl⟩
   ·have hb:(ew ((j:Int)+1)==x)=false:=by simpa using hq
    have hqH:Hid (ew ((j:Int)+1)≠x):=hq
    clear hq
    go_wp2_with (go_at_call 83;(refine cM (show Calls _ _ _ _ _ from hsgH.out) ?_);rintro e w' ⟨rfl,rfl⟩)
    go_roundw
    case rel =>
     refine ⟨j+1,by omega,by go_num,?_,by trivial⟩
     intro m hm
     by_cases e:m=j
     ·subst e;exact hqH.out
     ·exact hall m (by omega)
    case measure=>simp[intOf];omega
  ·have hle:decide ((j:Int)+1≤9)=false:=decide_eq_false (by omega)
   have hfin:Hid (dE x=0):=by
    show _=_
    by_cases h0:dE x=0
    ·exact h0
    ·have ht:=rY h0
     exact absurd (by rw[show (((dE x).toNat-1:Nat):Int)+1=dE x by omega];exact ht.1) (hall ((dE x).toNat-1) (by omega))
   go_wp2
   go_ret
   exact ⟨by rw[hfin.out];rfl,rfl⟩

theorem AK (c b:UInt8) (l:List UInt8):[c].isPrefixOf (b::l)=(c==b):=by simp[List.isPrefixOf]
theorem pl (c:UInt8):∀x:List UInt8,(c ∉ x∧Lib.index x [c]= -1)∨(∃a r,x=a++c::r∧c ∉ a∧Lib.index x [c]=(a.length:Int))
 | []=>oL ⟨by simp,rfl⟩
 | b::l=>by
  rw[Lib.index,AK]
  by_cases h:c=b
  ·subst h
   exact oR ⟨[],l,rfl,by simp,by simp⟩
  ·have hb:¬(c==b)=true:=by simpa using h
   rw[if_neg hb]
   rcases pl c l with ⟨h1,h2⟩|⟨a,r,h1,h2,h3⟩
   ·refine oL ⟨by simp[h,h1],by rw[h2];rfl⟩
   ·refine oR ⟨b::a,r,by rw[h1];rfl,by simp[h,h2],?_⟩
    have hn:¬(Lib.index l [c] == -1)=true:=by rw[h3];simp
    rw[if_neg hn,h3]
    simp
theorem tw (c:UInt8):∀(n:Nat) (x:List UInt8),x.length≤n→Lib.split x [c]=bq c x
 | n,x,hn=>by
  rcases pl c x with ⟨h1,h2⟩|⟨a,r,h1,h2,h3⟩
  ·unfold Lib.split
   rw[Lib.count_miss h2,Lib.splitK,js x h1]
  ·cases n with
   | zero=>rw[h1] at hn;simp at hn
   | succ n =>
    have hr:r.length≤n:=by rw[h1] at hn;simp at hn;omega
    have ih:=tw c n r hr
    have hd:x.drop (a.length+[c].length)=r:=by rw[h1];simp
    have ht:x.take a.length=a:=by rw[h1];simp
    unfold Lib.split at ih ⊢
    rw[Lib.count_hit (by simp) h3,hd,Nat.add_comm,Lib.splitK]
    have hm:¬(Lib.index x [c] == -1)=true:=by rw[h3];simp
    rw[if_neg hm,h3,show ((a.length:Int)).toNat+0=a.length by simp,show ((a.length:Int)).toNat+[c].length=a.length+[c].length by simp,hd,ht,ih,h1,jr a r h2]
theorem qT (c:UInt8) (x:List UInt8):Lib.splitB ⟨#[c]⟩ 0 (Lib.countB ⟨x.toArray⟩ ⟨#[c]⟩) ⟨x.toArray⟩=(bq c x).map fun y=>(⟨y.toArray⟩:ByteArray):=by
 have h:=Lib.splitB_data ⟨#[c]⟩ 0 (Lib.countB ⟨x.toArray⟩ ⟨#[c]⟩) ⟨x.toArray⟩
 have h2:Lib.splitK [c] 0 (Lib.count x [c]) x=bq c x:=tw c x.length x (nR _)
 have h3:(Lib.splitB ⟨#[c]⟩ 0 (Lib.countB ⟨x.toArray⟩ ⟨#[c]⟩) ⟨x.toArray⟩).map (·.data.toList)=bq c x:=h.trans h2
 rw[←h3,List.map_map]
 have:((fun y:List UInt8=>(⟨y.toArray⟩:ByteArray)) ∘ fun b:ByteArray=>b.data.toList)=id:=by
  funext b
  rfl
 rw[this,List.map_id]
theorem iP (c:UInt8):∀x,(bq c x).length≤x.length+1
 | []=>by simp[bq]
 | b::r=>by
  have ih:=iP c r
  rw[bq]
  split
  ·simp;omega
  ·split
   ·simp
   ·next e=>rw[e] at ih;simp at ih ⊢;omega
theorem yi (c:UInt8) (x:List UInt8):Lib.countB ⟨x.toArray⟩ ⟨#[c]⟩+1=(bq c x).length:=by
 have h:=Lib.splitB_all ⟨#[c]⟩ (nR 1) 0 _ (⟨x.toArray⟩:ByteArray) rfl
 rw[qT,List.length_map] at h
 exact h.symm
theorem xt {W:World} (xs:List (List UInt8)) (T:TypeId):tG (W.alloc (.cells ((xs.map fun y=>(⟨y.toArray⟩:ByteArray)).map Value.string).toArray T)) (some ⟨W.heap.size,0,none⟩) xs:=by
 refine oR ⟨W.heap.size,0,rfl,by simp,fun j hj i hi=> ?_⟩
 obtain rfl:i=0:=by omega
 simp[yr,List.getElem?_eq_getElem hj]
theorem oP (x:List UInt8) (c:UInt8) (w:World) (hr:Reads w) (hx:x.length<4294967281):Calls I 81 #[S ⟨x.toArray⟩,S ⟨#[c]⟩] w fun e w'=>e= J (Y (some ⟨w.heap.size,0,none⟩) (bq c x).length (bq c x).length)∧tG w' (some ⟨w.heap.size,0,none⟩) (bq c x)∧Below w.heap.size w w':=by
 obtain ⟨m,hm⟩:=hr.len
 have hc:=Any.strings_Split Tryz.lays146.1 Tryz.lays146.i9 ⟨x.toArray⟩ ⟨#[c]⟩ m w hx hm (nR 1)
 change Calls I 81 _ _ _ at hc
 rw[qT] at hc
 refine hc.mono ?_
 rintro e w' ⟨rfl,rfl⟩
 have:=yi c x
 refine ⟨?_,xt _ _,Below.alloc (bR _ _) (nR _) _⟩
 rw[←this]
theorem yC (w:World) (n:Nat):Gr w (w.drewN n):=Gr.of ⟨rfl,rfl,rfl,nR _,fun _ _=>rfl⟩ (by simp[World.drewN])
theorem yj (x:List UInt8) (c:UInt8) (w:World) (hr:Reads w) (hx:x.length<4294967281):Calls I 60 #[S ⟨x.toArray⟩,S ⟨#[c]⟩] w fun e w'=>(∃a r b,e= J (X #[S ⟨a.toArray⟩,S ⟨r.toArray⟩,H b])∧((b=true∧x=a++c::r∧c ∉ a)∨(b=false∧c ∉ x∧a=x∧r=[])))∧Gr w w':=by
 obtain ⟨m,hm⟩:=hr.len
 have hc:=Any.strings_Cut Tryz.lays145.1 ⟨x.toArray⟩ ⟨#[c]⟩ m w hx hm
 change Calls I 60 _ _ _ at hc
 refine hc.mono ?_
 rintro e w' ⟨rfl,n,rfl⟩
 refine ⟨⟨_,_,_,rfl,?_⟩,yC _ _⟩
 show ((Lib.cut x [c]).2.2=true∧x=(Lib.cut x [c]).1++c::(Lib.cut x [c]).2.1∧c ∉ (Lib.cut x [c]).1)∨((Lib.cut x [c]).2.2=false∧c ∉ x∧(Lib.cut x [c]).1=x∧(Lib.cut x [c]).2.1=[])
 unfold Lib.cut
 rcases pl c x with ⟨h1,h2⟩|⟨a,r,h1,h2,h3⟩
 ·rw[if_neg (by omega)]
  exact oR ⟨rfl,h1,rfl,rfl⟩
 ·have hd:x.drop (a.length+[c].length)=r:=by rw[h1];simp
  have ht:x.take a.length=a:=by rw[h1];simp
  rw[if_pos (by omega),h3]
  simp only[Int.toNat_natCast,hd,ht]
  exact oL ⟨trivial,h1,h2⟩

theorem mz:∀ {xs:List (List UInt8)} {M:List Int} {y:List UInt8} {n:Int},ek xs=some M→dA y=some n→ek (xs++[y])=some (M++[n])
 | [],M,y,n,h,k=>by
  obtain rfl:=sI h
  simp[ek,k]
 | x::r,M,y,n,h,k=>by
  rw[ek] at h
  cases e:dA x with
  | none=>rw[e] at h;simp at h
  | some a =>
   cases e2:ek r with
   | none=>rw[e,e2] at h;simp at h
   | some m =>
    rw[e,e2] at h
    obtain rfl:=sI h
    rw[List.cons_append,ek,e,mz e2 k]
    rfl
theorem my:∀ {xs:List (List UInt8)} {y:List UInt8},y∈xs→dA y=none→ek xs=none
 | [],y,h,_=>by simp at h
 | x::r,y,h,k=>by
  rw[ek]
  rcases List.mem_cons.1 h with rfl|h
  ·rw[k]
  ·rw[my h k]
   cases dA x<;>rfl
theorem nx (x:List UInt8) (w:World) (hr:Reads w) (hx:x.length≤100000):Calls I 122 #[S ⟨x.toArray⟩] w fun e w'=>(∃v,e= J (X #[v,H (iZ x).isSome])∧eF w' w.heap.size v ((iZ x).getD []))∧Below w.heap.size w w':=by
 have hsp:=oP x 44 w hr (by omega)
 have hln:=iP 44 x
 unfold iZ
 obtain ⟨ls,hls⟩:∃ls,bq 44 x=ls:=⟨_,rfl⟩
 rw[hls] at hsp hln ⊢
 have hspH:Hid _:=hsp
 clear hsp hls
 go_enter Tryz.func122,Tryz.ntmps122
 go_wp2_with fail
 refine cM (show Calls _ _ _ _ _ from hspH.out) ?_
 rintro e w1 ⟨rfl,hrow,hb⟩
 have hH:Hid (tG w1 (some ⟨w.heap.size,0,none⟩) ls∧Below w.heap.size w w1∧Reads w1):=⟨hrow,hb,hr.below hb⟩
 clear hspH hrow hb hr
 go_wp2
 go_loopw [4,12] (fun v i wr=>∃j:Nat,j≤ls.length∧i= V O j∧Hid (∃M,ek (ls.take j)=some M∧M.length=j∧eF wr w1.heap.size v M∧Below w1.heap.size w1 wr)) (fun _ i _=>ls.length-(intOf i).toNat)
 case atStart=>exact ⟨0,nZ _,rfl,[],rfl,rfl,ai.nil _ _ _ _ _,bR _ _⟩
 case round =>
  obtain ⟨j,hj,rfl,hov⟩:=hrel
  obtain ⟨M,hM,hMl,hown,hbl⟩:=hov.out
  clear hov
  by_cases hlt:j<ls.length
  ·have hltz:(j:Int)<(ls.length:Int):=by omega
   obtain ⟨b,off,hA,_,hcs⟩:=(hH.out.1.below hbl).at hlt
   obtain ⟨y,hy⟩:∃y,ls[j]=y:=⟨_,rfl⟩
   have e0:=hcs j hlt 0 (by omega)
   rw[hy] at e0
   simp only[Option.some.injEq,Addr.mk.injEq,and_true] at hA
   obtain ⟨rfl,rfl⟩:=hA
   have e1:wr.cell? ⟨w.heap.size,j,none⟩=some (S ⟨y.toArray⟩):=by simpa[yr] using e0
   have hpn:=gP y wr (hH.out.2.2.below hbl)
   clear hcs e0
   cases hq:dA y with
   | none =>
    rw[hq] at hpn
    have hpnH:Hid _:=hpn
    have hfin:Hid (ek ls=none∧Below w.heap.size w wr):=⟨my (by rw[←hy];exact gM hlt) hq,hH.out.2.1.trans (hbl.mono hH.out.2.1.size)⟩
    clear hpn hM hown hbl hq hy
    go_wp2_with fail
    refine cM (show Calls _ _ _ _ _ from hpnH.out) ?_
    rintro e w2 ⟨rfl,hb2⟩
    have hfin2:Hid (ek ls=none∧Below w.heap.size w w2):=⟨hfin.out.1,hfin.out.2.trans (hb2.mono hfin.out.2.size)⟩
    clear hpnH hfin hb2
    go_wp2
    go_ret2
    refine ⟨⟨Y none 0 0,?_,?_⟩,hfin2.out.2⟩
    ·rw[hfin2.out.1];rfl
    ·rw[hfin2.out.1];exact ai.nil _ _ _ _ _
   | some n =>
    rw[hq] at hpn
    have hpnH:Hid _:=hpn
    have hst:Hid (ek (ls.take (j+1))=some (M++[n])∧(M++[n]).length=j+1):=⟨by rw[List.take_succ_eq_append_getElem hlt,hy];exact mz hM hq,by simp[hMl]⟩
    have hoH:Hid (eF wr w1.heap.size u4 M∧Below w1.heap.size w1 wr):=⟨hown,hbl⟩
    clear hpn hM hown hbl hq hy
    go_wp2_with fail
    refine cM (show Calls _ _ _ _ _ from hpnH.out) ?_
    rintro e w2 ⟨rfl,hb2⟩
    clear hpnH
    have hg2:Gr w2 (w2.alloc (.cells #[V O n] 3)):=(gR _).alloc _
    have hoX:Hid (eF (w2.alloc (.cells #[V O n] 3)) w1.heap.size u4 M∧ar (w2.alloc (.cells #[V O n] 3)) (some ⟨w2.heap.size,0,none⟩) [n]∧M.length+1≤maxLen∧(M.length+1)*8≤140737488355328∧Below w1.heap.size w1 (w2.alloc (.cells #[V O n] 3))):=⟨(hoH.out.1.below hb2).gr hg2,iO rfl n 3,by unfold maxLen;omega,by omega,(hoH.out.2.trans (hb2.mono hoH.out.2.size)).trans (hg2.below.mono (hoH.out.2.trans (hb2.mono hoH.out.2.size)).size)⟩
    clear hg2 hb2 hoH
    go_wp2_with (at_builtin;refine bk _ rfl _ _ rfl w1.heap.size u4 M [n] (some ⟨w2.heap.size,0,none⟩) 1 rfl rfl hoX.out.1 hoX.out.2.1 (fun h=>by cases h) hoX.out.2.2.1 hoX.out.2.2.2.1 hoX.out.2.2.2.2.size ?_;intro v7 w7 hown7 hg7)
    have hfin7:Hid (eF w7 w1.heap.size v7 (M++[n])∧Below w1.heap.size w1 w7):=⟨hown7,hoX.out.2.2.2.2.trans (ai.grown_below hoX.out.1 hg7 hoX.out.2.2.2.2.size)⟩
    clear hown7 hg7 hoX
    go_roundw
    case rel=>exact ⟨j+1,by omega,by go_num,_,hst.out.1,hst.out.2,hfin7.out.1,hfin7.out.2⟩
    case measure=>simp[intOf];omega
  ·have hltz:¬(j:Int)<(ls.length:Int):=by omega
   rw[List.take_of_length_le (by omega)] at hM
   have hfin:Hid (ek ls=some M∧eF wr w.heap.size u4 M∧Below w.heap.size w wr):=⟨hM,hown.mono hH.out.2.1.size,hH.out.2.1.trans (hbl.mono hH.out.2.1.size)⟩
   clear hM hown hbl
   go_wp2
   go_ret2
   refine ⟨⟨u4,?_,?_⟩,hfin.out.2.2⟩
   ·rw[hfin.out.1];rfl
   ·rw[hfin.out.1];exact hfin.out.2.1

structure Box (w:World) (b:Nat) (s:Stp):Prop where
 c0:w.cell? ⟨b,0,none⟩=some (V O s.k)
 c1:w.cell? ⟨b,1,none⟩=some (V O s.a)
 c2:w.cell? ⟨b,2,none⟩=some (V O s.b)
 c3:w.cell? ⟨b,3,none⟩=some (V O s.c)
 c4:w.cell? ⟨b,4,none⟩=some (V O s.o)
 c5:w.cell? ⟨b,5,none⟩=some (V O s.v)
 c6:w.cell? ⟨b,6,none⟩=some (Y s.p s.l.length s.n)
 fz:∀j,w.frozen? ⟨b,j,none⟩=false
 lt:b<w.heap.size
theorem Box.below {w w':World} {b:Nat} {s:Stp} (h:Box w b s) (k:Below w.heap.size w w'):Box w' b s :=
 ⟨(k.cell (p:=⟨b,0,none⟩) h.lt).trans h.c0,(k.cell (p:=⟨b,1,none⟩) h.lt).trans h.c1,(k.cell (p:=⟨b,2,none⟩) h.lt).trans h.c2,(k.cell (p:=⟨b,3,none⟩) h.lt).trans h.c3,(k.cell (p:=⟨b,4,none⟩) h.lt).trans h.c4,(k.cell (p:=⟨b,5,none⟩) h.lt).trans h.c5,(k.cell (p:=⟨b,6,none⟩) h.lt).trans h.c6,fun j=>(k.frozen (p:=⟨b,j,none⟩) h.lt).trans (h.fz j),nL h.lt k.size⟩
theorem eG {w:World} {B j j':Nat} {u x:Value} (hx:w.cell? ⟨B,j',none⟩=some x):(w.setCell ⟨B,j,none⟩ u).cell? ⟨B,j',none⟩=some (if j'=j then u else x):=by
 by_cases h:j'=j
 ·subst h;rw[if_pos rfl];exact World.cell?_setCell_same _ _ _ hx
 ·rw[if_neg h,World.cell?_setCell_other _ _ _ _ (by intro e;injection e with e1 e2;exact h e2.symm)];exact hx
theorem Box.set {w:World} {b:Nat} {s t:Stp} (h:Box w b s) (j:Nat) (u:Value)
  (h0:some (if 0=j then u else V O s.k)=some (V O t.k)) (h1:some (if 1=j then u else V O s.a)=some (V O t.a)) (h2:some (if 2=j then u else V O s.b)=some (V O t.b)) (h3:some (if 3=j then u else V O s.c)=some (V O t.c)) (h4:some (if 4=j then u else V O s.o)=some (V O t.o)) (h5:some (if 5=j then u else V O s.v)=some (V O t.v)) (h6:some (if 6=j then u else Y s.p s.l.length s.n)=some (Y t.p t.l.length t.n)):Box (w.setCell ⟨b,j,none⟩ u) b t :=
 ⟨(eG h.c0).trans h0,(eG h.c1).trans h1,(eG h.c2).trans h2,(eG h.c3).trans h3,(eG h.c4).trans h4,(eG h.c5).trans h5,(eG h.c6).trans h6,fun i=>by simp only[World.frozen?_setCell];exact h.fz i,by simpa[World.setCell] using h.lt⟩
structure Kept (b:Nat) (w w':World):Prop where
 os:w'.os=w.os
 tape:w'.tape=w.tape
 output:w'.output=w.output
 size:w.heap.size≤w'.heap.size
 block:∀k,k<w.heap.size→k≠b→w'.heap[k]? = w.heap[k]?
theorem Kept.of {b:Nat} {w w':World} (h:Below w.heap.size w w'):Kept b w w':=⟨h.os,h.tape,h.output,h.size,fun k hk _=>h.block k hk⟩
theorem Kept.set {b:Nat} {w w':World} (h:Kept b w w') (j:Nat) (u:Value):Kept b w (w'.setCell ⟨b,j,none⟩ u) :=
 ⟨h.os,h.tape,h.output,by simpa[World.setCell] using h.size,fun k hk hn=>(Below.heap_setCell w' ⟨b,j,none⟩ u k hn).trans (h.block k hk hn)⟩
theorem Kept.trans {b:Nat} {w w' w'':World} (h:Kept b w w') (k:Kept b w' w''):Kept b w w'' :=
 ⟨k.os.trans h.os,k.tape.trans h.tape,k.output.trans h.output,nT h.size k.size,fun i hi hn=>(k.block i (nL hi h.size) hn).trans (h.block i hi hn)⟩
theorem Kept.below {b B:Nat} {w w':World} (h:Kept b w w') (hB:B≤b) (hs:B≤w.heap.size):Below B w w' :=
 ⟨h.os,h.tape,h.output,h.size,fun k hk=>h.block k (by omega) (by omega)⟩
structure Good (lo:Nat) (w:World) (s:Stp):Prop where
 row:ar w s.p s.l
 len:s.l.length≤maxLen
 nil:s.p=none→s.n=0
 far:∀a,s.p=some a→lo≤a.block∧a.block<w.heap.size
theorem pw {b:Nat} {w w':World} {A:Option Addr} {l:List Int} (h:ar w A l) (k:Kept b w w') (hf:∀a,A=some a→a.block≠b):ar w' A l:=by
 rcases h with h|⟨c,off,rfl,hc,hcs⟩
 ·exact oL h
 ·have hn:c≠b:=hf _ rfl
  exact oR ⟨c,off,rfl,nL hc k.size,fun j hj i hi=>(World.cell?_of_block (w:=w) (k.block c hc hn)).trans (hcs j hj i hi)⟩
theorem Good.kept {b lo:Nat} {w w':World} {s:Stp} (h:Good lo w s) (hlo:b<lo) (k:Kept b w w'):Good lo w' s:=⟨pw h.row k (fun a ha=>by have:=h.far a ha;omega),h.len,h.nil,fun a ha=>⟨(h.far a ha).1,nL (h.far a ha).2 k.size⟩⟩
theorem Good.as {b:Nat} {w:World} {s t:Stp} (h:Good b w s) (hl:t.l=s.l) (hp:t.p=s.p) (hn:t.n=s.n):Good b w t:=⟨by rw[hl,hp];exact h.row,by rw[hl];exact h.len,by rw[hp,hn];exact h.nil,by rw[hp];exact h.far⟩

theorem pv (s:Stp) (x:List UInt8) (b:Nat) (w:World) (hB:Box w b s):Calls I 84 #[Z (some ⟨b,0,none⟩),V .u8 79,S ⟨x.toArray⟩] w fun e w'=>e= J (H (dr x != 0))∧w'=w.setCell ⟨b,4,none⟩ (V O (dr x)):=by
 have ho:=xh x w
 have hoH:Hid _:=ho
 have hc:=hB.c4
 have hz:=hB.fz 4
 clear ho hB
 obtain ⟨n,hn⟩:∃n,dr x=n:=⟨_,rfl⟩
 rw[hn] at hoH ⊢
 clear hn
 go_enter Tryz.func84,Tryz.ntmps84
 go_wp2_with fail
 refine cM (show Calls _ _ _ _ _ from hoH.out) ?_
 rintro e w1 ⟨rfl,rfl⟩
 go_wp2
 go_ret
 exact ⟨rfl,rfl⟩

theorem mG (s:Stp) (x:List UInt8) (b:Nat) (w:World) (hB:Box w b s) (hr:Reads w) (hx:x.length≤100000):Calls I 84 #[Z (some ⟨b,0,none⟩),V .u8 76,S ⟨x.toArray⟩] w fun e w'=>e= J (H (iZ x).isSome)∧∃v w1,eF w1 w.heap.size v ((iZ x).getD [])∧Below w.heap.size w w1∧w'=w1.setCell ⟨b,6,none⟩ v:=by
 have ho:=nx x w hr hx
 have hoH:Hid _:=ho
 have hBH:Hid (Box w b s):=hB
 clear ho hB hr
 go_enter Tryz.func84,Tryz.ntmps84
 go_wp2_with fail
 refine cM (show Calls _ _ _ _ _ from hoH.out) ?_
 rintro e w1 ⟨⟨v,rfl,hv⟩,hb⟩
 have hc:=(hBH.out.below hb).c6
 have hz:=(hBH.out.below hb).fz 6
 have hvH:Hid (eF w1 w.heap.size v ((iZ x).getD [])∧Below w.heap.size w w1):=⟨hv,hb⟩
 obtain ⟨A,cap,hvA,-,-,-⟩:=ai.row bX hv
 subst hvA
 clear hv hb hoH hBH
 go_wp2
 go_ret
 exact ⟨rfl,_,w1,hvH.out.1,hvH.out.2,rfl⟩

theorem eO (x:List UInt8) (b:Nat) (p:Int) (f:Nat) (w:World) (hr:Reads w) (hf:yy p=f) (h1:(p==79)=false) (h2:(p==76)=false) (u:Value) (hc:w.cell? ⟨b,f,none⟩=some u) (hz:w.frozen? ⟨b,f,none⟩=false):Calls I 84 #[Z (some ⟨b,0,none⟩),V .u8 p,S ⟨x.toArray⟩] w fun e w'=>e= J (H (dA x).isSome)∧∃w1,Below w.heap.size w w1∧w'=w1.setCell ⟨b,f,none⟩ (V O ((dA x).getD 0)):=by
 have hfl:=ff b p w
 rw[hf] at hfl
 have hflH:Hid _:=hfl
 have hnm:=gP x w hr
 have hnmH:Hid _:=hnm
 clear hfl hnm hf hr
 go_enter Tryz.func84,Tryz.ntmps84
 go_wp2_with fail
 refine cM (show Calls _ _ _ _ _ from hflH.out) ?_
 rintro e w1 ⟨rfl,rfl⟩
 clear hflH
 go_wp2_with fail
 refine cM (show Calls _ _ _ _ _ from hnmH.out) ?_
 rintro e w2 ⟨rfl,hb⟩
 have hlt:=World.block_lt_of_cell? w1 _ hc
 have hc2:w2.cell? ⟨b,f,none⟩=some u:=(hb.cell (p:=⟨b,f,none⟩) hlt).trans hc
 have hz2:w2.frozen? ⟨b,f,none⟩=false:=(hb.frozen (p:=⟨b,f,none⟩) hlt).trans hz
 have hbH:Hid _:=hb
 clear hb hnmH hc hz hlt
 go_wp2
 go_ret
 exact ⟨rfl,w2,hbH.out,rfl⟩
theorem ny (s:Stp) (p:UInt8) (hp:p∈([65,66,67,79,86,76]:List UInt8)) (x:List UInt8) (b:Nat) (w:World) (hB:Box w b s) {lo:Nat} (hlo:b<lo) (hlw:lo≤w.heap.size) (hG:Good lo w s) (hr:Reads w) (hx:x.length≤100000) :
  Calls I 84 #[Z (some ⟨b,0,none⟩),V .u8 (p.toNat:Int),S ⟨x.toArray⟩] w fun e w'=>e= J (H (dm s p x).isSome)∧Kept b w w'∧∀t,dm s p x=some t→∃t',clr t'=clr t∧Box w' b t'∧Good lo w' t':=by
 simp only[List.mem_cons,List.not_mem_nil,or_false] at hp
 rcases hp with rfl|rfl|rfl|rfl|rfl|rfl
 ·refine cM (eO x b 65 1 w hr rfl rfl rfl _ hB.c1 (hB.fz 1)) ?_
  rintro e w' ⟨rfl,w1,hb,rfl⟩
  have hpt:dm s 65 x=match dA x with
   | none=>none
   | some n=>some { s with a:=n }:=by unfold dm;rw[if_neg (by decide),if_neg (by decide)];rfl
  rw[hpt]
  have hk:Kept b w (w1.setCell ⟨b,1,none⟩ (V O ((dA x).getD 0))):=(Kept.of hb).set 1 _
  cases hq:dA x with
  | none=>exact ⟨rfl,by rw[hq] at hk;exact hk,fun t ht=>by cases ht⟩
  | some n =>
   rw[hq] at hk
   refine ⟨rfl,hk,fun t ht=> ?_⟩
   obtain rfl:=sI ht
   exact ⟨_,rfl,(hB.below hb).set 1 _ rfl rfl rfl rfl rfl rfl rfl,(hG.kept hlo hk).as rfl rfl rfl⟩
 ·refine cM (eO x b 66 2 w hr rfl rfl rfl _ hB.c2 (hB.fz 2)) ?_
  rintro e w' ⟨rfl,w1,hb,rfl⟩
  have hpt:dm s 66 x=match dA x with
   | none=>none
   | some n=>some { s with b:=n }:=by unfold dm;rw[if_neg (by decide),if_neg (by decide)];rfl
  rw[hpt]
  have hk:Kept b w (w1.setCell ⟨b,2,none⟩ (V O ((dA x).getD 0))):=(Kept.of hb).set 2 _
  cases hq:dA x with
  | none=>exact ⟨rfl,by rw[hq] at hk;exact hk,fun t ht=>by cases ht⟩
  | some n =>
   rw[hq] at hk
   refine ⟨rfl,hk,fun t ht=> ?_⟩
   obtain rfl:=sI ht
   exact ⟨_,rfl,(hB.below hb).set 2 _ rfl rfl rfl rfl rfl rfl rfl,(hG.kept hlo hk).as rfl rfl rfl⟩
 ·refine cM (eO x b 67 3 w hr rfl rfl rfl _ hB.c3 (hB.fz 3)) ?_
  rintro e w' ⟨rfl,w1,hb,rfl⟩
  have hpt:dm s 67 x=match dA x with
   | none=>none
   | some n=>some { s with c:=n }:=by unfold dm;rw[if_neg (by decide),if_neg (by decide)];rfl
  rw[hpt]
  have hk:Kept b w (w1.setCell ⟨b,3,none⟩ (V O ((dA x).getD 0))):=(Kept.of hb).set 3 _
  cases hq:dA x with
  | none=>exact ⟨rfl,by rw[hq] at hk;exact hk,fun t ht=>by cases ht⟩
  | some n =>
   rw[hq] at hk
   refine ⟨rfl,hk,fun t ht=> ?_⟩
   obtain rfl:=sI ht
   exact ⟨_,rfl,(hB.below hb).set 3 _ rfl rfl rfl rfl rfl rfl rfl,(hG.kept hlo hk).as rfl rfl rfl⟩
 ·refine cM (pv s x b w hB) ?_
  rintro e w' ⟨rfl,rfl⟩
  have hk:Kept b w (w.setCell ⟨b,4,none⟩ (V O (dr x))):=(Kept.of (bR _ _)).set 4 _
  have hpt:dm s 79 x=if dr x=0 then none else some { s with o:=dr x }:=by unfold dm;rw[if_pos rfl]
  rw[hpt]
  by_cases h0:dr x=0
  ·rw[if_pos h0]
   exact ⟨by rw[h0];rfl,hk,fun t ht=>by cases ht⟩
  ·rw[if_neg h0]
   refine ⟨by rw[show (dr x != 0)=true by simpa using h0];rfl,hk,fun t ht=> ?_⟩
   obtain rfl:=sI ht
   exact ⟨_,rfl,hB.set 4 _ rfl rfl rfl rfl rfl rfl rfl,(hG.kept hlo hk).as rfl rfl rfl⟩
 ·refine cM (eO x b 86 5 w hr rfl rfl rfl _ hB.c5 (hB.fz 5)) ?_
  rintro e w' ⟨rfl,w1,hb,rfl⟩
  have hpt:dm s 86 x=match dA x with
   | none=>none
   | some n=>some { s with v:=n }:=by unfold dm;rw[if_neg (by decide),if_neg (by decide)];rfl
  rw[hpt]
  have hk:Kept b w (w1.setCell ⟨b,5,none⟩ (V O ((dA x).getD 0))):=(Kept.of hb).set 5 _
  cases hq:dA x with
  | none=>exact ⟨rfl,by rw[hq] at hk;exact hk,fun t ht=>by cases ht⟩
  | some n =>
   rw[hq] at hk
   refine ⟨rfl,hk,fun t ht=> ?_⟩
   obtain rfl:=sI ht
   exact ⟨_,rfl,(hB.below hb).set 5 _ rfl rfl rfl rfl rfl rfl rfl,(hG.kept hlo hk).as rfl rfl rfl⟩
 ·refine cM (mG s x b w hB hr hx) ?_
  rintro e w' ⟨rfl,v,w1,hv,hb,rfl⟩
  have hk:Kept b w (w1.setCell ⟨b,6,none⟩ v):=(Kept.of hb).set 6 _
  have hpt:dm s 76 x=match iZ x with
   | none=>none
   | some l=>some { s with l:=l }:=by unfold dm;rw[if_neg (by decide),if_pos rfl];rfl
  rw[hpt]
  cases hq:iZ x with
  | none=>exact ⟨rfl,hk,fun t ht=>by cases ht⟩
  | some l =>
   refine ⟨rfl,hk,fun t ht=> ?_⟩
   obtain rfl:=sI ht
   rw[hq] at hv
   obtain ⟨A,cap,rfl,hnil,hrow,hfar⟩:=ai.row bX hv
   have hf:∀a,A=some a→a.block≠b:=fun a ha=>by have:=(hfar a ha).1;have:=hB.lt;omega
   refine ⟨{ s with l:=l,p:=A,n:=cap },rfl,(hB.below hb).set 6 _ rfl rfl rfl rfl rfl rfl rfl,⟨?_,?_,hnil,fun a ha=>⟨nT hlw (hfar a ha).1,by have:=(hfar a ha).2;simpa[World.setCell] using this⟩⟩⟩
   ·exact pw hrow ((Kept.of (bR _ _)).set 6 _) hf
   ·have h1:=congrArg List.length (oA hq)
    have h2:=iP 44 x
    rw[List.length_map] at h1
    show l.length≤maxLen
    unfold maxLen
    omega
end Go.Proofs.YtclfpkibchoneaaGreatDoor
