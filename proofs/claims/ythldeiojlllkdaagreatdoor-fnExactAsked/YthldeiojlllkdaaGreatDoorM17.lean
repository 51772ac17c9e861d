/- Contracts of Go's library at this program, laid by the kit's own tool. -/
import Derived.Test.YthldeiojlllkdaaGreatDoorM1
import Derived.Shelf.Strings.Builder1
import Derived.Shelf.Strings.Builder2
import Derived.Shelf.Strings.OnBuilder
import Derived.Shelf.Utf8.RuneCount
import Derived.Shelf.Strconv.Itoa0
import Derived.Shelf.Strconv.Itoa1
import Derived.Shelf.LaysM
import Derived.Shelf.Strconv.Itoa2
import Derived.Shelf.Strconv.Itoa3
import Derived.Shelf.Strconv.Itoa4
import Derived.Shelf.Strconv.Clone
import Derived.Shelf.Strings.Search1
import Derived.Shelf.Strings.Search2
import Derived.Shelf.Strings.Search3
import Derived.Shelf.Strings.Cut
import Derived.Shelf.Strings.Count
import Derived.Shelf.Strings.Shaped
import Derived.Shelf.Strings.Split
import Derived.Shelf.Strings.SplitShaped
import Derived.Shelf.Unicode.Decode
import Derived.Shelf.Strings.RuneCount
import Derived.Shelf.Strings.Explode
import Derived.Shelf.Unicode.DecodeSlow
import Derived.Shelf.Unicode.DecodeAny
import Derived.Test.YthldeiojlllkdaaGreatDoorProg
import Derived.Test.YthldeiojlllkdaaGreatDoorM7
import Derived.Lib.AppendIntMem
import Derived.Test.YthldeiojlllkdaaGreatDoorM6
import Derived.Test.YthldeiojlllkdaaGreatDoorM16
import Derived.Deep.RegionHeld3
set_option maxRecDepth 20000
set_option maxHeartbeats 2000000
namespace Go.Proofs.YthldeiojlllkdaaGreatDoor
open Go.ChangeShapes Go.WideShapes Go.ChangeAt Go.RowKit
end Go.Proofs.YthldeiojlllkdaaGreatDoor
namespace Go.Proofs
open Go.Shelf
def Tryz.lays156_ren:Go.Shelf.Ren:=⟨fun|156=>116|165=>152|166=>153|169=>154|240=>192|241=>193|276=>228|277=>229|n=>n,fun|31=>115|9=>9|3=>3|4=>4|0=>0|20=>20|72=>175|76=>177|70=>173|37=>120|75=>135|127=>172|164=>224|5=>5|80=>179|n=>n,fun|n=>n⟩
theorem Tryz.lays156:Go.Proofs.Lays.n156 Tryz.prog Tryz.lays156_ren:={
 mixed:=by kernel_rfl
 f156:=Tryz.func116.trans (congrArg some (by kernel_rfl))
 f165:=Tryz.func152.trans (congrArg some (by kernel_rfl))
 f166:=Tryz.func153.trans (congrArg some (by kernel_rfl))
 f169:=Tryz.func154.trans (congrArg some (by kernel_rfl))
 f240:=Tryz.func192.trans (congrArg some (by kernel_rfl))
 f241:=Tryz.func193.trans (congrArg some (by kernel_rfl))
 f276:=Tryz.func228.trans (congrArg some (by kernel_rfl))
 f277:=Tryz.func229.trans (congrArg some (by kernel_rfl))
 t0:=Tryz.underlying0
 a0:=Tryz.isAgg0
 z0:=Tryz.sizeOf0
 v0:=Tryz.zeroValue0
 t3:=Tryz.underlying3
 a3:=Tryz.isAgg3
 z3:=Tryz.sizeOf3
 v3:=Tryz.zeroValue3
 t4:=Tryz.underlying4
 a4:=Tryz.isAgg4
 z4:=Tryz.sizeOf4
 v4:=Tryz.zeroValue4
 t9:=Tryz.underlying9
 a9:=Tryz.isAgg9
 z9:=Tryz.sizeOf9
 v9:=Tryz.zeroValue9
 t20:=Tryz.underlying20
 a20:=Tryz.isAgg20
 z20:=Tryz.sizeOf20
 v20:=Tryz.zeroValue20
 t31:=Tryz.underlying115
 a31:=Tryz.isAgg115
 z31:=Tryz.sizeOf115
 v31:=Tryz.zeroValue115
 t37:=Tryz.underlying120
 a37:=Tryz.isAgg120
 z37:=Tryz.sizeOf120
 v37:=Tryz.zeroValue120
 t70:=Tryz.underlying173
 a70:=Tryz.isAgg173
 z70:=Tryz.sizeOf173
 v70:=Tryz.zeroValue173
 t72:=Tryz.underlying175
 a72:=Tryz.isAgg175
 z72:=Tryz.sizeOf175
 v72:=Tryz.zeroValue175
 t75:=Tryz.underlying135
 a75:=Tryz.isAgg135
 z75:=Tryz.sizeOf135
 v75:=Tryz.zeroValue135
 t76:=Tryz.underlying177
 a76:=Tryz.isAgg177
 z76:=Tryz.sizeOf177
 v76:=Tryz.zeroValue177
 t127:=Tryz.underlying172
 a127:=Tryz.isAgg172
 z127:=Tryz.sizeOf172
 v127:=Tryz.zeroValue172
 t164:=Tryz.underlying224
 a164:=Tryz.isAgg224
 z164:=Tryz.sizeOf224
 v164:=Tryz.zeroValue224}
theorem Tryz.Builder_Extra_156:Builder.Extra Tryz.prog Tryz.lays156_ren:={
 sizeBuilder:=by kernel_rfl
 liesBuilder:=by kernel_rfl
 t5:=Tryz.underlying5
 a5:=Tryz.isAgg5
 z5:=Tryz.sizeOf5
 v5:=Tryz.zeroValue5
 infoByte:=by kernel_rfl
 cellsByte:=by kernel_rfl
 sizeByte:=by kernel_rfl
 neB5:=by decide}
open Go.RowKit in
theorem Tryz.strings_Join (bk o c:Nat) (xs:List ByteArray) (sep:ByteArray) (w:World) (hcells:∀(j:Nat) x,xs[j]?=some x->w.cell? ⟨bk,o+j,none⟩=some (.string x)) (hbk:bk<w.heap.size) (hN:xs.length<=140737488355328) (hcap:xs.length<=c) (hlen:(Lib.join (xs.map (·.data.toList)) sep.data.toList).length<=140737488355328):
  Calls Tryz.prog 116 #[.slice (some ⟨bk,o,none⟩) xs.length c,.string sep] w fun e w'=>e=.returned (.string ⟨(Lib.join (xs.map (·.data.toList)) sep.data.toList).toArray⟩)/\bB w w':=Any.strings_Join Tryz.lays156 Tryz.Builder_Extra_156 bk o c xs sep w hcells hbk hN hcap hlen
def Tryz.laysM171_ren:Go.Shelf.Ren:=⟨fun|171=>243|243=>257|246=>151|283=>188|284=>189|285=>190|286=>191|129=>224|317=>223|318=>225|319=>226|320=>227|337=>249|338=>250|n=>n,fun|3=>3|9=>9|2=>2|4=>4|171=>210|0=>0|53=>211|37=>120|5=>5|173=>214|212=>243|51=>244|20=>20|213=>245|46=>129|232=>302|233=>303|n=>n,fun|17=>5|18=>7|19=>8|n=>n⟩
theorem Tryz.laysM171:Go.Proofs.LaysM.n171 Tryz.prog Tryz.laysM171_ren:={
 mixed:=by kernel_rfl
 f129:=Tryz.func224.trans (congrArg some (by kernel_rfl))
 f171:=Tryz.func243.trans (congrArg some (by kernel_rfl))
 f243:=Tryz.func257.trans (congrArg some (by kernel_rfl))
 f246:=Tryz.func151.trans (congrArg some (by kernel_rfl))
 f283:=Tryz.func188.trans (congrArg some (by kernel_rfl))
 f284:=Tryz.func189.trans (congrArg some (by kernel_rfl))
 f285:=Tryz.func190.trans (congrArg some (by kernel_rfl))
 f286:=Tryz.func191.trans (congrArg some (by kernel_rfl))
 f317:=Tryz.func223.trans (congrArg some (by kernel_rfl))
 f318:=Tryz.func225.trans (congrArg some (by kernel_rfl))
 f319:=Tryz.func226.trans (congrArg some (by kernel_rfl))
 f320:=Tryz.func227.trans (congrArg some (by kernel_rfl))
 f337:=Tryz.func249.trans (congrArg some (by kernel_rfl))
 f338:=Tryz.func250.trans (congrArg some (by kernel_rfl))
 t0:=Tryz.underlying0
 a0:=Tryz.isAgg0
 z0:=Tryz.sizeOf0
 v0:=Tryz.zeroValue0
 t2:=Tryz.underlying2
 a2:=Tryz.isAgg2
 z2:=Tryz.sizeOf2
 v2:=Tryz.zeroValue2
 t3:=Tryz.underlying3
 a3:=Tryz.isAgg3
 z3:=Tryz.sizeOf3
 v3:=Tryz.zeroValue3
 t4:=Tryz.underlying4
 a4:=Tryz.isAgg4
 z4:=Tryz.sizeOf4
 v4:=Tryz.zeroValue4
 t5:=Tryz.underlying5
 a5:=Tryz.isAgg5
 z5:=Tryz.sizeOf5
 v5:=Tryz.zeroValue5
 t9:=Tryz.underlying9
 a9:=Tryz.isAgg9
 z9:=Tryz.sizeOf9
 v9:=Tryz.zeroValue9
 t20:=Tryz.underlying20
 a20:=Tryz.isAgg20
 z20:=Tryz.sizeOf20
 v20:=Tryz.zeroValue20
 t37:=Tryz.underlying120
 a37:=Tryz.isAgg120
 z37:=Tryz.sizeOf120
 v37:=Tryz.zeroValue120
 t46:=Tryz.underlying129
 a46:=Tryz.isAgg129
 z46:=Tryz.sizeOf129
 v46:=Tryz.zeroValue129
 t51:=Tryz.underlying244
 a51:=Tryz.isAgg244
 z51:=Tryz.sizeOf244
 v51:=Tryz.zeroValue244
 t53:=Tryz.underlying211
 a53:=Tryz.isAgg211
 z53:=Tryz.sizeOf211
 v53:=Tryz.zeroValue211
 t171:=Tryz.underlying210
 a171:=Tryz.isAgg210
 z171:=Tryz.sizeOf210
 v171:=Tryz.zeroValue210
 t173:=Tryz.underlying214
 a173:=Tryz.isAgg214
 z173:=Tryz.sizeOf214
 v173:=Tryz.zeroValue214
 t212:=Tryz.underlying243
 a212:=Tryz.isAgg243
 z212:=Tryz.sizeOf243
 v212:=Tryz.zeroValue243
 t213:=Tryz.underlying245
 a213:=Tryz.isAgg245
 z213:=Tryz.sizeOf245
 t232:=Tryz.underlying302
 a232:=Tryz.isAgg302
 z232:=Tryz.sizeOf302
 v232:=Tryz.zeroValue302
 t233:=Tryz.underlying303
 a233:=Tryz.isAgg303
 z233:=Tryz.sizeOf303
 v233:=Tryz.zeroValue303
 g17:=by kernel_rfl
 g18:=by kernel_rfl
 g19:=by kernel_rfl
 i0:=by kernel_rfl
 i2:=by kernel_rfl
 i3:=by kernel_rfl
 i4:=by kernel_rfl
 i5:=by kernel_rfl
 i9:=by kernel_rfl
 i20:=by kernel_rfl
 i37:=by kernel_rfl
 i46:=by kernel_rfl
 i51:=by kernel_rfl
 i53:=by kernel_rfl
 i171:=by kernel_rfl
 i173:=by kernel_rfl
 i212:=by kernel_rfl
 i232:=by kernel_rfl
 i233:=by kernel_rfl
 m17:=by kernel_rfl
 m18:=by kernel_rfl
 m19:=by kernel_rfl}
open Go.RowKit Go.Sort Go.Lib in
theorem Tryz.strconv_Itoa (n:Int) (h0: -9223372036854775808<=n) (h1:n<=9223372036854775807) (w:World) (htab:Lib.TabIs Tryz.prog w "internal/strconv.uint64pow10" .u64 Lib.pow10Tab):
  Calls Tryz.prog 243 #[.int .i64 n] w fun e w'=>e=.returned (.string ⟨(Lib.itoa n).toArray⟩)/\∃k os,w'=grow (w.drewN k) os:=Any.strconv_Itoa Tryz.laysM171 n h0 h1 w htab
def Tryz.laysM173_ren:Go.Shelf.Ren:=⟨fun|173=>115|246=>151|283=>188|284=>189|285=>190|286=>191|129=>224|317=>223|318=>225|319=>226|320=>227|337=>249|338=>250|n=>n,fun|2=>2|3=>3|9=>9|4=>4|171=>210|0=>0|53=>211|37=>120|5=>5|173=>214|212=>243|51=>244|20=>20|213=>245|46=>129|232=>302|233=>303|n=>n,fun|17=>5|18=>7|19=>8|n=>n⟩
theorem Tryz.laysM173:Go.Proofs.LaysM.n173 Tryz.prog Tryz.laysM173_ren:={
 mixed:=by kernel_rfl
 f129:=Tryz.func224.trans (congrArg some (by kernel_rfl))
 f173:=Tryz.func115.trans (congrArg some (by kernel_rfl))
 f246:=Tryz.func151.trans (congrArg some (by kernel_rfl))
 f283:=Tryz.func188.trans (congrArg some (by kernel_rfl))
 f284:=Tryz.func189.trans (congrArg some (by kernel_rfl))
 f285:=Tryz.func190.trans (congrArg some (by kernel_rfl))
 f286:=Tryz.func191.trans (congrArg some (by kernel_rfl))
 f317:=Tryz.func223.trans (congrArg some (by kernel_rfl))
 f318:=Tryz.func225.trans (congrArg some (by kernel_rfl))
 f319:=Tryz.func226.trans (congrArg some (by kernel_rfl))
 f320:=Tryz.func227.trans (congrArg some (by kernel_rfl))
 f337:=Tryz.func249.trans (congrArg some (by kernel_rfl))
 f338:=Tryz.func250.trans (congrArg some (by kernel_rfl))
 t0:=Tryz.underlying0
 a0:=Tryz.isAgg0
 z0:=Tryz.sizeOf0
 v0:=Tryz.zeroValue0
 t2:=Tryz.underlying2
 a2:=Tryz.isAgg2
 z2:=Tryz.sizeOf2
 v2:=Tryz.zeroValue2
 t3:=Tryz.underlying3
 a3:=Tryz.isAgg3
 z3:=Tryz.sizeOf3
 v3:=Tryz.zeroValue3
 t4:=Tryz.underlying4
 a4:=Tryz.isAgg4
 z4:=Tryz.sizeOf4
 v4:=Tryz.zeroValue4
 t5:=Tryz.underlying5
 a5:=Tryz.isAgg5
 z5:=Tryz.sizeOf5
 v5:=Tryz.zeroValue5
 t9:=Tryz.underlying9
 a9:=Tryz.isAgg9
 z9:=Tryz.sizeOf9
 v9:=Tryz.zeroValue9
 t20:=Tryz.underlying20
 a20:=Tryz.isAgg20
 z20:=Tryz.sizeOf20
 v20:=Tryz.zeroValue20
 t37:=Tryz.underlying120
 a37:=Tryz.isAgg120
 z37:=Tryz.sizeOf120
 v37:=Tryz.zeroValue120
 t46:=Tryz.underlying129
 a46:=Tryz.isAgg129
 z46:=Tryz.sizeOf129
 v46:=Tryz.zeroValue129
 t51:=Tryz.underlying244
 a51:=Tryz.isAgg244
 z51:=Tryz.sizeOf244
 v51:=Tryz.zeroValue244
 t53:=Tryz.underlying211
 a53:=Tryz.isAgg211
 z53:=Tryz.sizeOf211
 v53:=Tryz.zeroValue211
 t171:=Tryz.underlying210
 a171:=Tryz.isAgg210
 z171:=Tryz.sizeOf210
 v171:=Tryz.zeroValue210
 t173:=Tryz.underlying214
 a173:=Tryz.isAgg214
 z173:=Tryz.sizeOf214
 v173:=Tryz.zeroValue214
 t212:=Tryz.underlying243
 a212:=Tryz.isAgg243
 z212:=Tryz.sizeOf243
 v212:=Tryz.zeroValue243
 t213:=Tryz.underlying245
 a213:=Tryz.isAgg245
 z213:=Tryz.sizeOf245
 t232:=Tryz.underlying302
 a232:=Tryz.isAgg302
 z232:=Tryz.sizeOf302
 v232:=Tryz.zeroValue302
 t233:=Tryz.underlying303
 a233:=Tryz.isAgg303
 z233:=Tryz.sizeOf303
 v233:=Tryz.zeroValue303
 g17:=by kernel_rfl
 g18:=by kernel_rfl
 g19:=by kernel_rfl
 i0:=by kernel_rfl
 i2:=by kernel_rfl
 i3:=by kernel_rfl
 i4:=by kernel_rfl
 i5:=by kernel_rfl
 i9:=by kernel_rfl
 i20:=by kernel_rfl
 i37:=by kernel_rfl
 i46:=by kernel_rfl
 i51:=by kernel_rfl
 i53:=by kernel_rfl
 i171:=by kernel_rfl
 i173:=by kernel_rfl
 i212:=by kernel_rfl
 i232:=by kernel_rfl
 i233:=by kernel_rfl
 m17:=by kernel_rfl
 m18:=by kernel_rfl
 m19:=by kernel_rfl}
open Go.RowKit Go.Sort Go.Lib in
theorem Tryz.strconv_FormatInt_10 (n:Int) (h0: -9223372036854775808<=n) (h1:n<=9223372036854775807) (w:World) (htab:Lib.TabIs Tryz.prog w "internal/strconv.uint64pow10" .u64 Lib.pow10Tab):
  Calls Tryz.prog 115 #[.int .i64 n,.int .i64 10] w fun e w'=>e=.returned (.string ⟨(Lib.itoa n).toArray⟩)/\∃k os,w'=grow (w.drewN k) os:=Any.strconv_FormatInt_10 Tryz.laysM173 n h0 h1 w htab
def Tryz.laysM316_ren:Go.Shelf.Ren:=⟨fun|316=>113|n=>n,fun|9=>9|3=>3|4=>4|37=>120|0=>0|127=>172|5=>5|n=>n,fun|n=>n⟩
theorem Tryz.laysM316:Go.Proofs.LaysM.n316 Tryz.prog Tryz.laysM316_ren:={
 mixed:=by kernel_rfl
 f316:=Tryz.func113.trans (congrArg some (by kernel_rfl))
 t0:=Tryz.underlying0
 a0:=Tryz.isAgg0
 z0:=Tryz.sizeOf0
 v0:=Tryz.zeroValue0
 t3:=Tryz.underlying3
 a3:=Tryz.isAgg3
 z3:=Tryz.sizeOf3
 v3:=Tryz.zeroValue3
 t4:=Tryz.underlying4
 a4:=Tryz.isAgg4
 z4:=Tryz.sizeOf4
 v4:=Tryz.zeroValue4
 t9:=Tryz.underlying9
 a9:=Tryz.isAgg9
 z9:=Tryz.sizeOf9
 v9:=Tryz.zeroValue9
 t37:=Tryz.underlying120
 a37:=Tryz.isAgg120
 z37:=Tryz.sizeOf120
 v37:=Tryz.zeroValue120
 t127:=Tryz.underlying172
 a127:=Tryz.isAgg172
 z127:=Tryz.sizeOf172
 v127:=Tryz.zeroValue172
 t5:=Tryz.underlying5
 a5:=Tryz.isAgg5
 z5:=Tryz.sizeOf5
 v5:=Tryz.zeroValue5
 i0:=by kernel_rfl
 i3:=by kernel_rfl
 i4:=by kernel_rfl
 i5:=by kernel_rfl
 i9:=by kernel_rfl
 i37:=by kernel_rfl
 i127:=by kernel_rfl}
open Go.RowKit in
theorem Tryz.stringslite_Clone (s:ByteArray) (w:World) (hlim:s.size<=281474976710656):
  Calls Tryz.prog 113 #[.string s] w fun e w'=>e=.returned (.string s)/\bB w w':=Any.stringslite_Clone Tryz.laysM316 s w hlim
def Tryz.lays219_ren:Go.Shelf.Ren:=⟨fun|219=>245|217=>258|225=>259|224=>260|267=>261|266=>268|314=>269|n=>n,fun|9=>9|3=>3|4=>4|5=>5|46=>129|146=>314|51=>244|n=>n,fun|1=>6|n=>n⟩
theorem Tryz.lays219:Go.Proofs.Lays.n219 Tryz.prog Tryz.lays219_ren:={
 mixed:=by kernel_rfl
 f217:=Tryz.func258.trans (congrArg some (by kernel_rfl))
 f219:=Tryz.func245.trans (congrArg some (by kernel_rfl))
 f224:=Tryz.func260.trans (congrArg some (by kernel_rfl))
 f225:=Tryz.func259.trans (congrArg some (by kernel_rfl))
 f266:=Tryz.func268.trans (congrArg some (by kernel_rfl))
 f267:=Tryz.func261.trans (congrArg some (by kernel_rfl))
 f314:=Tryz.func269.trans (congrArg some (by kernel_rfl))
 t3:=Tryz.underlying3
 a3:=Tryz.isAgg3
 z3:=Tryz.sizeOf3
 v3:=Tryz.zeroValue3
 t4:=Tryz.underlying4
 a4:=Tryz.isAgg4
 z4:=Tryz.sizeOf4
 v4:=Tryz.zeroValue4
 t5:=Tryz.underlying5
 a5:=Tryz.isAgg5
 z5:=Tryz.sizeOf5
 v5:=Tryz.zeroValue5
 t9:=Tryz.underlying9
 a9:=Tryz.isAgg9
 z9:=Tryz.sizeOf9
 v9:=Tryz.zeroValue9
 t46:=Tryz.underlying129
 a46:=Tryz.isAgg129
 z46:=Tryz.sizeOf129
 v46:=Tryz.zeroValue129
 t51:=Tryz.underlying244
 a51:=Tryz.isAgg244
 z51:=Tryz.sizeOf244
 v51:=Tryz.zeroValue244
 t146:=Tryz.underlying314
 a146:=Tryz.isAgg314
 z146:=Tryz.sizeOf314
 v146:=Tryz.zeroValue314
 g1:=by kernel_rfl}
open Go.RowKit Go.Lib in
theorem Tryz.stringslite_Index_one (s:ByteArray) (c:UInt8) (w:World):
  Calls Tryz.prog 245 #[.string s,.string ⟨#[c]⟩] w fun e w'=>e=.returned (.int .i64 (Lib.indexByte s.data.toList c))/\w'=w:=Any.stringslite_Index_one Tryz.lays219 s c w
def Tryz.lays144_ren:Go.Shelf.Ren:=⟨fun|144=>242|143=>248|219=>245|217=>258|225=>259|224=>260|267=>261|266=>268|314=>269|n=>n,fun|9=>9|4=>4|3=>3|5=>5|46=>129|146=>314|51=>244|n=>n,fun|1=>6|n=>n⟩
theorem Tryz.lays144:Go.Proofs.Lays.n144 Tryz.prog Tryz.lays144_ren:={
 mixed:=by kernel_rfl
 f143:=Tryz.func248.trans (congrArg some (by kernel_rfl))
 f144:=Tryz.func242.trans (congrArg some (by kernel_rfl))
 f217:=Tryz.func258.trans (congrArg some (by kernel_rfl))
 f219:=Tryz.func245.trans (congrArg some (by kernel_rfl))
 f224:=Tryz.func260.trans (congrArg some (by kernel_rfl))
 f225:=Tryz.func259.trans (congrArg some (by kernel_rfl))
 f266:=Tryz.func268.trans (congrArg some (by kernel_rfl))
 f267:=Tryz.func261.trans (congrArg some (by kernel_rfl))
 f314:=Tryz.func269.trans (congrArg some (by kernel_rfl))
 t3:=Tryz.underlying3
 a3:=Tryz.isAgg3
 z3:=Tryz.sizeOf3
 v3:=Tryz.zeroValue3
 t4:=Tryz.underlying4
 a4:=Tryz.isAgg4
 z4:=Tryz.sizeOf4
 v4:=Tryz.zeroValue4
 t5:=Tryz.underlying5
 a5:=Tryz.isAgg5
 z5:=Tryz.sizeOf5
 v5:=Tryz.zeroValue5
 t9:=Tryz.underlying9
 a9:=Tryz.isAgg9
 z9:=Tryz.sizeOf9
 v9:=Tryz.zeroValue9
 t46:=Tryz.underlying129
 a46:=Tryz.isAgg129
 z46:=Tryz.sizeOf129
 v46:=Tryz.zeroValue129
 t51:=Tryz.underlying244
 a51:=Tryz.isAgg244
 z51:=Tryz.sizeOf244
 v51:=Tryz.zeroValue244
 t146:=Tryz.underlying314
 a146:=Tryz.isAgg314
 z146:=Tryz.sizeOf314
 v146:=Tryz.zeroValue314
 g1:=by kernel_rfl}
open Go.RowKit Go.Lib in
theorem Tryz.strings_Contains_one (s:ByteArray) (c:UInt8) (w:World):
  Calls Tryz.prog 242 #[.string s,.string ⟨#[c]⟩] w fun e w'=>e=.returned (.bool (decide (0<=Lib.indexByte s.data.toList c)))/\w'=w:=Any.strings_Contains_one Tryz.lays144 s c w
end Go.Proofs
namespace Go.Proofs.YthldeiojlllkdaaGreatDoor
open Go.ChangeShapes Go.WideShapes Go.ChangeAt Go.RowKit
abbrev Tab (w:World):Prop:=Lib.TabIs Tryz.prog w "internal/strconv.uint64pow10" .u64 Lib.pow10Tab
theorem Tab.below {w w':World} (h:Tab w) (b:bB w w'):Tab w':=Lib.tabBelow_of_tabIs h w' b
theorem jZ (w:World) (k:Nat) (os:Array Obj):bB w (Sort.grow (w.drewN k) os):=
 ⟨rfl,rfl,rfl,by simp[Sort.grow],fun j hj=>by
  show(w.heap++os)[j]?=w.heap[j]?;rw[Array.getElem?_append_left hj]⟩
theorem j7 (n:Nat):Lib.decDigits n=dec n:=by
 induction n using Nat.strongRecOn with
 |ind n ih=>
  rw[Lib.decDigits,dec];by_cases h:n<10
  ·simp[h,digit,Nat.mod_eq_of_lt h]
  ·simp only[h,dite_false,if_false]
   rw[ih (n/10) (by omega)];rfl
theorem sS (n:Nat):Lib.itoa (n:Int)=dec n:=by
 unfold Lib.itoa;rw[if_neg (by omega),j7];rfl
theorem lI (c:UInt8) (l:Bs):Lib.indexByte l c=if posB c l=l.length then-1 else(posB c l:Int):=by
 induction l with
 |nil=>simp[Lib.indexByte,posB]
 |cons b l ih=>
  rw[Lib.indexByte,lH,ih];by_cases h:b=c
  ·simp[h]
  ·have h1:(b==c)=false:=by simpa using h
   rw[h1,if_neg h];by_cases h2:posB c l=l.length
   ·simp[h2]
   ·have h3:((posB c l:Int)== -1)=false:=by simp
    simp[h2,h3]
theorem sT (c:UInt8) (l:Bs):decide (0<=Lib.indexByte l c)= !(l.all (fun b=>b !=c)):=by
 rw[lI];by_cases h:posB c l=l.length
 ·rw[if_pos h,(sP c l).1 h];rfl
 ·have h2:l.all (fun b=>b !=c)=false:=by
   cases e:l.all (fun b=>b !=c)with
   |true=>exact absurd ((sP c l).2 e) h
   |false=>rfl
  rw[if_neg h,h2];simp
theorem tC (l:Bs) (w:World) (hl:l.length<=1048576) (ht:Tab w):
  Calls Tryz.prog 218 #[S l] w fun e w'=>e=.returned (S (dR l))/\bB w w':=by
 have hsz:(⟨l.toArray⟩:ByteArray).size=l.length:=rfl;by_cases h300:(300:Int)<(l.length:Int)
 ·have HF:Hid (dR l=[]):=by
   have:¬l.length<=300:=by omega
   simp[Hid,dR,bP,this]
  unfold S;go_enter Tryz.func218,Tryz.ntmps218;go_wp2_with fail
  go_ret;rw[HF.out];exact⟨rfl,Below.refl _ _⟩
 ·have c0:Calls Tryz.prog 242 #[.string ⟨l.toArray⟩,.string ⟨#[10]⟩] w fun e w'=>e=.returned (.bool (!(l.all (fun b=>b !=10))))/\w'=w:=by
   have:=Tryz.strings_Contains_one ⟨l.toArray⟩ 10 w
   rwa[show(⟨l.toArray⟩:ByteArray).data.toList=l from rfl,sT]at this
  by_cases hp:l.all (fun b=>b !=10)=true
  ·rw[hp]at c0
   have HF:Hid (dR l=dec l.length++[32]++dec (chk l).toNat++[32]++l++[10]):=by
    have:l.length<=300:=by omega
    simp[Hid,dR,bP,hp,this,aF]
   have hb:=kD l;have c1:=fun wx (h:Tab wx)=>Tryz.strconv_Itoa (l.length:Nat) (by omega) (by omega) wx h
   have c2:=fun wx=>vK l wx hl
   have c3:=fun wx (h:Tab wx)=>Tryz.strconv_FormatInt_10 (chk l) (by omega) (by omega) wx h
   have e3:Lib.itoa (chk l)=dec (chk l).toNat:=by have h:=sS (chk l).toNat;rwa[sY]at h
   simp only[sS]at c1;simp only[e3]at c3;have d1:=eI 13 l.length (by omega);have d2:=eI 5 (chk l).toNat (by omega);obtain⟨x,hx⟩:=eX (chk l)
   obtain⟨p,hpp⟩:=eX (dec l.length)
   obtain⟨q,hq⟩:=eX (dec (chk l).toNat)
   simp only[<-hpp]at c1 d1 HF;simp only[<-hq]at c3 d2 HF;simp only[<-hx]at c2 c3;have HT:Hid (Tab w):=ht;clear hpp hq hx e3 hb hp ht;unfold S at c2⊢;go_enter Tryz.func218,Tryz.ntmps218;go_wp2_with fail
   refine mo c0 ?_;clear c0;go_wp2_with fail
   refine(c1 w HT.out).mono ?_;rintro e w1 ⟨rfl,k1,o1,hw1⟩;have HB:Hid (bB w w1):=by rw[hw1];exact jZ w k1 o1
   clear hw1 c1;go_wp2_with fail
   refine mo (c2 w1) ?_;clear c2;go_wp2_with fail
   refine(c3 w1 (HT.out.below HB.out)).mono ?_;rintro e w2 ⟨rfl,k2,o2,hw2⟩;have HC:Hid (bB w w2):=HB.out.trans (by rw[hw2];exact(jZ w1 k2 o2).mono HB.out.size);clear hw2 c3 HB;go_wp2_with fail
   go_ret;refine⟨congrArg (fun x=>Ending.returned (Value.string x)) ?_,HC.out⟩;rw[HF.out,app,app,app,app,app]
  ·have hp':l.all (fun b=>b !=10)=false:=by simpa using hp
   rw[hp']at c0;have HF:Hid (dR l=[]):=by simp[Hid,dR,bP,hp']
   clear hp hp' ht;unfold S;go_enter Tryz.func218,Tryz.ntmps218;go_wp2_with fail
   refine mo c0 ?_;clear c0;go_wp2_with fail
   go_ret;rw[HF.out];exact⟨rfl,Below.refl _ _⟩
def pB (c:UInt8) (l:Bs):Bool:=decide (posB c l<l.length)
theorem hX {c:UInt8} {l:Bs} (h:posB c l=l.length):behind c l=[]/\cg c l=l/\pB c l=false:=by
 simp[behind,cg,pB,h]
theorem oe (c:UInt8) (a r:Bs) (h:∀b∈a,b≠c):posB c (a++c::r)=a.length:=by
 induction a with
 |nil=>simp[posB]
 |cons b a ih=>
  rw[List.cons_append,lH,if_neg (h b (by simp)),ih (fun x hx=>h x (by simp[hx]))];rfl
theorem oh (c:UInt8) (a r:Bs) (h:∀b∈a,b≠c):behind c (a++c::r)=r:=by
 unfold behind;rw[oe c a r h,<-List.drop_drop,List.drop_left];rfl
theorem AN (c:UInt8) (l:Bs) (w:World) (hl:l.length<=1048576):
  Calls Tryz.prog 219 #[S l,.string ⟨#[c]⟩] w fun e w'=>e=.returned (.tuple #[S (cg c l),S (behind c l),.bool (pB c l)])/\∃n,w'=w.drewN n:=by
 have hsz:(⟨l.toArray⟩:ByteArray).size=l.length:=rfl;have hs1:(⟨#[c]⟩:ByteArray).size=1:=rfl;have hle:=nz c l;have c0:=Tryz.stringslite_Index_one ⟨l.toArray⟩ c w;rw[show(⟨l.toArray⟩:ByteArray).data.toList=l from rfl,lI]at c0;by_cases h:posB c l=l.length
 ·obtain⟨h1,h2,h3⟩:=hX h
  rw[if_pos h]at c0;rw[h1,h2,h3];unfold S;clear h1 h2 h3;go_enter Tryz.func219,Tryz.ntmps219;go_wp2_with fail
  refine mo c0 ?_;clear c0;go_wp2_with fail
  go_ret3
  exact⟨rfl,0,rfl⟩
 ·rw[if_neg h]at c0
  have h3:pB c l=true:=by simp[pB];omega
  have hex1:=cA l 0 (posB c l);have hex2:=cA l (posB c l+1) l.length;have e1:cS l 0 (posB c l)=cg c l:=by simp[cS,cg]
  have e2:cS l (posB c l+1) l.length=behind c l:=by simp[cS,behind]
  rw[e1]at hex1;rw[e2]at hex2;rw[h3];obtain⟨p,hp⟩:=eX (posB c l)
  obtain⟨x,hx⟩:=eX (cg c l)
  obtain⟨y,hy⟩:=eX (behind c l)
  rw[<-hx]at hex1⊢;rw[<-hy]at hex2⊢;rw[<-hp]at c0 hex1 hex2 h hle;have hlt:(p:Int)+1<=(l.length:Int):=by omega
  clear hp hx hy e1 e2 h3;unfold S;go_enter Tryz.func219,Tryz.ntmps219;go_wp2_with fail
  refine mo c0 ?_;clear c0;go_wp2_with fail
  go_quiet (fail)
  go_wp2_with fail
  go_ret3
  exact⟨rfl,nq,rfl⟩
theorem lc (c:UInt8) (l:Bs) (w:World) (hl:l.length<=1048576):
  Calls Tryz.prog 182 #[S l,.string ⟨#[c]⟩] w fun e w'=>e=.returned (.tuple #[S (cg c l),S (behind c l),.bool (pB c l)])/\∃n,w'=w.drewN n:=by
 have c0:=AN c l w hl;go_enter Tryz.func182,Tryz.ntmps182;go_wp2_with fail
 refine c0.mono ?_;rintro e w1 ⟨rfl,hw⟩;clear c0;go_wp2_with fail
 go_ret3
 exact⟨rfl,hw⟩
def fU (s:Bs):Bs:=behind 32 (behind 32 (cg 10 s))
theorem vM {c:UInt8} {l:Bs}:(cg c l).length=posB c l:=by
 have:=nz c l;simp[cg];omega
theorem ol (c:UInt8) (l:Bs):(behind c l).length<=l.length:=by simp[behind]
theorem rQ {t:Bs} (h:bP t=true) (r:Bs):fU (aF t++r)=t:=by
 have h1:cg 10 (aF t++r)=fB t:=by
  have hb:∀b∈fB t,b≠10:=by
   intro b hb;have:=nA h;rw[List.all_eq_true]at this;simpa using this b hb
  unfold cg;rw[fc,List.append_assoc,List.singleton_append,oe 10 _ _ hb,List.take_left]
 unfold fU;rw[h1];unfold fB;rw[oh 32 _ _ (fun b hb=>(iY _ b hb).2),oh 32 _ _ (fun b hb=>(iY _ b hb).2)]
theorem vN {s:Bs} (h:posB 10 s=s.length):av s=([],0):=by
 have:gc s=s.length:=h;simp[av,this]
theorem vO {s:Bs} (h:posB 10 s<s.length) (e:dR (fU s)=s.take (posB 10 s+1)):av s=(fU s,posB 10 s+1):=by
 have hp:bP (fU s)=true:=by
  by_cases hp:bP (fU s)=true
  ·exact hp
  ·have hn:dR (fU s)=[]:=by simp[dR,hp]
   rw[hn]at e;have:=congrArg List.length e;simp at this;omega
 rw[my hp]at e;have hs:s=aF (fU s)++s.drop (posB 10 s+1):=by rw[e,List.take_append_drop]
 have hl:=congrArg List.length e;rw[List.length_take,Nat.min_eq_left (by omega)]at hl;have:=nO hp (s.drop (posB 10 s+1));rw[<-hs,hl]at this;exact this
theorem vP {s:Bs} (e:dR (fU s)≠s.take (posB 10 s+1)):av s=([],0):=by
 by_cases h0:(av s).2=0
 ·exact mw s h0
 ·obtain⟨hp,hf,hn⟩:=gh s h0
  exfalso;have hs:s=aF (av s).1++s.drop (av s).2:=by rw[hf,List.take_append_drop]
  have ht:fU s=(av s).1:=by
   have:=rQ hp (s.drop (av s).2)
   rwa[<-hs]at this
  apply e;rw[ht,my hp,hf]
  congr 1
  have hb:∀b∈fB (av s).1,b≠10:=by
   intro b hb;have:=nA hp;rw[List.all_eq_true]at this;simpa using this b hb
  have:posB 10 s=(fB (av s).1).length:=by
   have:=oe 10 _ (s.drop (av s).2) hb;rw[<-this]
   congr 1
   rw[hs];conv=>rhs;rw[<-hs]
   rw[fc];simp
  rw[this,hn,gB]
theorem vQ (s:Bs) (w:World) (hl:s.length<=1048576) (ht:Tab w):
  Calls Tryz.prog 181 #[S s] w fun e w'=>e=.returned (.tuple #[S (av s).1,.int .i64 (av s).2])/\bB w w':=by
 have hsz:(⟨s.toArray⟩:ByteArray).size=s.length:=rfl;have hle:=nz 10 s;have hbl:(cg 10 s).length=posB 10 s:=vM;have c1:=fun wx=>lc 10 s wx hl
 have c2:=fun wx=>lc 32 (cg 10 s) wx (by omega)
 have hb2:=ol 32 (cg 10 s);have c3:=fun wx=>lc 32 (behind 32 (cg 10 s)) wx (by omega)
 have hb3:=ol 32 (behind 32 (cg 10 s));have HT:Hid (Tab w):=ht;clear ht;by_cases h:posB 10 s=s.length
 ·have HE:Hid (av s=([],0)):=vN h
  have hh:pB 10 s=false:=(hX h).2.2;simp only[hh]at c1;unfold S at c1⊢;clear hh c2 c3;go_enter Tryz.func181,Tryz.ntmps181;go_wp2_with fail
  refine(c1 w).mono ?_;rintro e w1 ⟨rfl,n1,hw1⟩;have HB:Hid (bB w w1):=by rw[hw1];exact below_drewN (Below.refl _ _) _
  clear c1 hw1;go_wp2_with fail
  go_ret2
  rw[HE.out];exact⟨rfl,HB.out⟩
 ·have hh:pB 10 s=true:=by simp[pB];omega
  simp only[hh]at c1;have c4:=fun wx (hx:Tab wx)=>tC (fU s) wx (by unfold fU;omega) hx
  have e4:behind 32 (behind 32 (cg 10 s))=fU s:=rfl;simp only[e4]at c3;have hex:=cA s 0 (posB 10 s+1);have e5:cS s 0 (posB 10 s+1)=s.take (posB 10 s+1):=by simp[cS]
  rw[e5]at hex;have H1:Hid (dR (fU s)=s.take (posB 10 s+1)->av s=(fU s,posB 10 s+1)):=fun e=>vO (by omega) e
  have H2:Hid (dR (fU s)≠s.take (posB 10 s+1)->av s=([],0)):=fun e=>vP e
  obtain⟨p,hp⟩:=eX (posB 10 s)
  obtain⟨t,hte⟩:=eX (fU s)
  obtain⟨f,hf⟩:=eX (dR t)
  obtain⟨z,hz⟩:=eX (s.take (posB 10 s+1))
  obtain⟨ln,hln⟩:=eX (cg 10 s)
  rw[<-hz]at hex H1 H2;simp only[<-hln]at c1 c2 hbl c3;simp only[<-hte]at c3 c4 H1 H2;simp only[<-hf]at c4 H1 H2;rw[<-hp]at hex H1 hbl hle h;have hzl:(⟨ln.toArray⟩:ByteArray).size=p:=hbl;have hlt:(p:Int)+1<=(s.length:Int):=by omega
  have hj0:(0:Int)<=(p:Int)+1:=by omega
  have hwr:IntKind.i64.wrap ((p:Int)+1)=(p:Int)+1:=by rw[IntKind.wrap_i64];omega
  unfold S at c1 c2 c3 c4⊢;clear hh e4 e5 hp hte hf hz hln hb2 hb3 hbl;go_enter Tryz.func181,Tryz.ntmps181;go_wp2_with fail
  refine(c1 w).mono ?_;rintro e w1 ⟨rfl,n1,hw1⟩;have HB:Hid (bB w w1):=by rw[hw1];exact below_drewN (Below.refl _ _) _
  clear c1 hw1;go_wp2_with fail
  refine(c2 w1).mono ?_;rintro e w2 ⟨rfl,n2,hw2⟩;replace HB:Hid (bB w w2):=by rw[hw2];exact below_drewN HB.out _
  clear c2 hw2;go_wp2_with fail
  refine(c3 w2).mono ?_;rintro e w3 ⟨rfl,n3,hw3⟩;replace HB:Hid (bB w w3):=by rw[hw3];exact below_drewN HB.out _
  clear c3 hw3;have c5:=c4 (w3.drew) (HT.out.below (below_drewN HB.out 1));have HB1:Hid (bB w w3.drew):=below_drewN HB.out 1;clear c4;by_cases hf:f=z
  ·have HE:=H1.out hf
   subst hf;clear H1 H2;go_wp2_with fail
   go_region_held3 (fun w'=>True) (trivial)
    ((go_at_call 218;refine c5.mono ?_;rintro e w4 ⟨rfl,b4⟩))
   have HB3:Hid (bB w w4):=HB1.out.trans (b4.mono HB1.out.size);go_wp2_with fail
   go_ret2
   rw[HE];exact⟨rfl,HB3.out⟩
  ·have HE:=H2.out hf
   have hbeq:(f==z)=false:=by simpa using hf
   clear H1 H2;go_wp2_with fail
   go_region_held3 (fun w'=>True) (trivial)
    ((go_at_call 218;refine c5.mono ?_;rintro e w4 ⟨rfl,b4⟩))
   have HB3:Hid (bB w w4):=HB1.out.trans (b4.mono HB1.out.size);go_wp2_with fail
   go_ret2
   rw[HE];exact⟨rfl,HB3.out⟩
end Go.Proofs.YthldeiojlllkdaaGreatDoor
