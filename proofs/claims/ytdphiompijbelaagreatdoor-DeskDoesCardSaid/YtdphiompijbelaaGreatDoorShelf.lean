/- Contracts of Go's library in this program's numbers, as the kit's lay-plain.mjs writes them; what is not leaned on is left out. -/
import Derived.Shelf.Strings.Builder1
import Derived.Shelf.Strings.Trim
import Derived.Shelf.Small.Utf8
import Derived.Shelf.Small.Strs
import Derived.Shelf.Strings.BuilderF
import Derived.Shelf.Strings.BuilderK
import Derived.Shelf.Strconv.Atoi
import Derived.Shelf.Strconv.Itoa0
import Derived.Shelf.Strconv.Itoa1
import Derived.Shelf.LaysM
import Derived.Shelf.Strconv.Itoa2
import Derived.Shelf.Strconv.Itoa3
import Derived.Shelf.Strconv.AtoiErrFast
import Derived.Shelf.Strconv.ParseIntEmpty
import Derived.Shelf.Strconv.AtoiFail
import Derived.Shelf.Strconv.Clone
import Derived.Shelf.Strconv.SyntaxError
import Derived.Shelf.LaysC
import Derived.Shelf.Strconv.ToError
import Derived.Shelf.Strconv.Lower
import Derived.Shelf.Strconv.ParseUint10
import Derived.Shelf.Strconv.ParseUint10Empty
import Derived.Shelf.Strconv.ParseUint10Any
import Derived.Shelf.Strconv.ParseInt10
import Derived.Shelf.Strconv.AtoiLong
import Derived.Shelf.Strconv.AtoiInnerAll
import Derived.Shelf.Strconv.RangeError
import Derived.Shelf.Strconv.ToErrorRange
import Derived.Shelf.Strconv.AtoiAll
import Derived.Shelf.Strconv.ErrVarAll
import Derived.Shelf.Strings.Search1
import Derived.Shelf.Strings.Search2
import Derived.Shelf.Strings.Search3
import Derived.Shelf.Strings.Cut
import Derived.Shelf.Strings.Shaped
import Derived.Shelf.Strings.Runes
import Derived.Shelf.Strings.AsciiSet
import Derived.Shelf.Unicode.DecodeSlow
import Derived.Shelf.Strings.BuilderCap
import Derived.Test.YtdphiompijbelaaGreatDoorProg
namespace Go.Proofs
open Tryz
open Go.Shelf
def Tryz.lays161_ren:Go.Shelf.Ren:=⟨fun|161=>37|231=>61|227=>62|233=>63|235=>64|228=>103|197=>104|151=>105|260=>128|152=>129|137=>164|119=>165|224=>101|225=>100|217=>99|266=>126|n=>n,fun|9=>9|4=>4|3=>3|5=>5|117=>141|116=>140|0=>0|124=>144|105=>189|21=>21|119=>273|46=>39|139=>276|138=>275|n=>n,fun|3=>1|4=>2|n=>n⟩
theorem Tryz.lays161:Go.Proofs.Lays.n161 Tryz.prog Tryz.lays161_ren:={
 mixed:=by kernel_rfl
 f119:=func165.trans (congrArg some (by kernel_rfl))
 f137:=func164.trans (congrArg some (by kernel_rfl))
 f151:=func105.trans (congrArg some (by kernel_rfl))
 f152:=func129.trans (congrArg some (by kernel_rfl))
 f161:=func37.trans (congrArg some (by kernel_rfl))
 f197:=func104.trans (congrArg some (by kernel_rfl))
 f217:=func99.trans (congrArg some (by kernel_rfl))
 f224:=func101.trans (congrArg some (by kernel_rfl))
 f225:=func100.trans (congrArg some (by kernel_rfl))
 f227:=func62.trans (congrArg some (by kernel_rfl))
 f228:=func103.trans (congrArg some (by kernel_rfl))
 f231:=func61.trans (congrArg some (by kernel_rfl))
 f233:=func63.trans (congrArg some (by kernel_rfl))
 f235:=func64.trans (congrArg some (by kernel_rfl))
 f260:=func128.trans (congrArg some (by kernel_rfl))
 f266:=func126.trans (congrArg some (by kernel_rfl))
 t0:=underlying0
 a0:=isAgg0
 z0:=sizeOf0
 v0:=zeroValue0
 t3:=underlying3
 a3:=isAgg3
 z3:=sizeOf3
 v3:=zeroValue3
 t4:=underlying4
 a4:=isAgg4
 z4:=sizeOf4
 v4:=zeroValue4
 t5:=underlying5
 a5:=isAgg5
 z5:=sizeOf5
 v5:=zeroValue5
 t9:=underlying9
 a9:=isAgg9
 z9:=sizeOf9
 v9:=zeroValue9
 t21:=underlying21
 a21:=isAgg21
 z21:=sizeOf21
 v21:=zeroValue21
 t46:=underlying39
 a46:=isAgg39
 z46:=sizeOf39
 v46:=zeroValue39
 t105:=underlying189
 a105:=isAgg189
 z105:=sizeOf189
 v105:=zeroValue189
 t116:=underlying140
 a116:=isAgg140
 z116:=sizeOf140
 t117:=underlying141
 a117:=isAgg141
 z117:=sizeOf141
 v117:=zeroValue141
 t119:=underlying273
 a119:=isAgg273
 z119:=sizeOf273
 t124:=underlying144
 a124:=isAgg144
 z124:=sizeOf144
 v124:=zeroValue144
 t138:=underlying275
 a138:=isAgg275
 z138:=sizeOf275
 v138:=zeroValue275
 t139:=underlying276
 a139:=isAgg276
 z139:=sizeOf276
 v139:=zeroValue276
 g3:=by kernel_rfl
 g4:=by kernel_rfl}
open Go.RowKit in
theorem Tryz.strings_TrimLeft_one (s:ByteArray) (c:UInt8) (hc:c.toNat<128) (w:World):
    Calls Tryz.prog 37 #[.string s,.string ⟨#[c]⟩] w fun e w'=>e= .returned (.string ⟨(Lib.trimLeftB s.data.toList c).toArray⟩)/\w'=w:=Any.strings_TrimLeft_one Tryz.lays161 s c hc w
def Tryz.laysM171_ren:Go.Shelf.Ren:=⟨fun|171=>49|243=>79|246=>122|283=>160|284=>161|285=>162|286=>163|129=>200|317=>199|318=>201|319=>202|320=>203|337=>238|338=>239|n=>n,fun|3=>3|9=>9|2=>2|4=>4|171=>268|0=>0|53=>93|37=>46|5=>5|173=>271|212=>309|51=>223|20=>20|213=>310|46=>39|232=>352|233=>353|n=>n,fun|17=>5|18=>6|19=>7|n=>n⟩
theorem Tryz.laysM171:Go.Proofs.LaysM.n171 Tryz.prog Tryz.laysM171_ren:={
 mixed:=by kernel_rfl
 f129:=func200.trans (congrArg some (by kernel_rfl))
 f171:=func49.trans (congrArg some (by kernel_rfl))
 f243:=func79.trans (congrArg some (by kernel_rfl))
 f246:=func122.trans (congrArg some (by kernel_rfl))
 f283:=func160.trans (congrArg some (by kernel_rfl))
 f284:=func161.trans (congrArg some (by kernel_rfl))
 f285:=func162.trans (congrArg some (by kernel_rfl))
 f286:=func163.trans (congrArg some (by kernel_rfl))
 f317:=func199.trans (congrArg some (by kernel_rfl))
 f318:=func201.trans (congrArg some (by kernel_rfl))
 f319:=func202.trans (congrArg some (by kernel_rfl))
 f320:=func203.trans (congrArg some (by kernel_rfl))
 f337:=func238.trans (congrArg some (by kernel_rfl))
 f338:=func239.trans (congrArg some (by kernel_rfl))
 t0:=underlying0
 a0:=isAgg0
 z0:=sizeOf0
 v0:=zeroValue0
 t2:=underlying2
 a2:=isAgg2
 z2:=sizeOf2
 v2:=zeroValue2
 t3:=underlying3
 a3:=isAgg3
 z3:=sizeOf3
 v3:=zeroValue3
 t4:=underlying4
 a4:=isAgg4
 z4:=sizeOf4
 v4:=zeroValue4
 t5:=underlying5
 a5:=isAgg5
 z5:=sizeOf5
 v5:=zeroValue5
 t9:=underlying9
 a9:=isAgg9
 z9:=sizeOf9
 v9:=zeroValue9
 t20:=underlying20
 a20:=isAgg20
 z20:=sizeOf20
 v20:=zeroValue20
 t37:=underlying46
 a37:=isAgg46
 z37:=sizeOf46
 v37:=zeroValue46
 t46:=underlying39
 a46:=isAgg39
 z46:=sizeOf39
 v46:=zeroValue39
 t51:=underlying223
 a51:=isAgg223
 z51:=sizeOf223
 v51:=zeroValue223
 t53:=underlying93
 a53:=isAgg93
 z53:=sizeOf93
 v53:=zeroValue93
 t171:=underlying268
 a171:=isAgg268
 z171:=sizeOf268
 v171:=zeroValue268
 t173:=underlying271
 a173:=isAgg271
 z173:=sizeOf271
 v173:=zeroValue271
 t212:=underlying309
 a212:=isAgg309
 z212:=sizeOf309
 v212:=zeroValue309
 t213:=underlying310
 a213:=isAgg310
 z213:=sizeOf310
 t232:=underlying352
 a232:=isAgg352
 z232:=sizeOf352
 v232:=zeroValue352
 t233:=underlying353
 a233:=isAgg353
 z233:=sizeOf353
 v233:=zeroValue353
 g17:=by kernel_rfl
 g18:=by kernel_rfl
 g19:=by kernel_rfl
 i0:=by kernel_rfl
 i2:=by kernel_rfl
 i3:=by kernel_rfl
 i4:=by kernel_rfl
 i5:=by kernel_rfl
 i9:=by kernel_rfl
 i20:=by kernel_rfl
 i37:=by kernel_rfl
 i46:=by kernel_rfl
 i51:=by kernel_rfl
 i53:=by kernel_rfl
 i171:=by kernel_rfl
 i173:=by kernel_rfl
 i212:=by kernel_rfl
 i232:=by kernel_rfl
 i233:=by kernel_rfl
 m17:=by kernel_rfl
 m18:=by kernel_rfl
 m19:=by kernel_rfl}
open Go.RowKit Go.Sort Go.Lib in
theorem Tryz.strconv_Itoa (n : Int) (h0 : -9223372036854775808 ≤ n) (h1 : n ≤ 9223372036854775807) (w : World) (htab : Lib.TabIs Tryz.prog w "internal/strconv.uint64pow10" .u64 Lib.pow10Tab) :
    Calls Tryz.prog 49 #[.int .i64 n] w fun e w'=>e= .returned (.string ⟨(Lib.itoa n).toArray⟩)/\∃k os,w'=grow (w.drewN k) os:=Any.strconv_Itoa Tryz.laysM171 n h0 h1 w htab
def Tryz.laysC172_ren:Go.Shelf.Ren:=⟨fun|172=>66|244=>106|245=>107|247=>130|279=>131|280=>132|281=>133|282=>134|287=>166|316=>167|171=>49|205=>168|321=>204|322=>205|243=>79|246=>122|283=>160|284=>161|285=>162|286=>163|129=>200|317=>199|318=>201|319=>202|320=>203|337=>238|338=>239|n=>n,fun|9=>9|3=>3|75=>118|76=>119|4=>4|5=>5|167=>227|37=>46|0=>0|85=>228|2=>2|168=>230|53=>93|175=>278|46=>39|210=>282|127=>63|145=>316|143=>314|21=>21|171=>268|173=>271|212=>309|51=>223|20=>20|213=>310|232=>352|233=>353|80=>54|n=>n,fun|15=>3|16=>4|17=>5|18=>6|19=>7|n=>n⟩
theorem Tryz.laysC172:Go.Proofs.LaysC.n172 Tryz.prog Tryz.laysC172_ren:={
 mixed:=by kernel_rfl
 f129:=func200.trans (congrArg some (by kernel_rfl))
 f171:=func49.trans (congrArg some (by kernel_rfl))
 f172:=func66.trans (congrArg some (by kernel_rfl))
 f205:=func168.trans (congrArg some (by kernel_rfl))
 f243:=func79.trans (congrArg some (by kernel_rfl))
 f244:=func106.trans (congrArg some (by kernel_rfl))
 f245:=func107.trans (congrArg some (by kernel_rfl))
 f246:=func122.trans (congrArg some (by kernel_rfl))
 f247:=func130.trans (congrArg some (by kernel_rfl))
 f279:=func131.trans (congrArg some (by kernel_rfl))
 f280:=func132.trans (congrArg some (by kernel_rfl))
 f281:=func133.trans (congrArg some (by kernel_rfl))
 f282:=func134.trans (congrArg some (by kernel_rfl))
 f283:=func160.trans (congrArg some (by kernel_rfl))
 f284:=func161.trans (congrArg some (by kernel_rfl))
 f285:=func162.trans (congrArg some (by kernel_rfl))
 f286:=func163.trans (congrArg some (by kernel_rfl))
 f287:=func166.trans (congrArg some (by kernel_rfl))
 f316:=func167.trans (congrArg some (by kernel_rfl))
 f317:=func199.trans (congrArg some (by kernel_rfl))
 f318:=func201.trans (congrArg some (by kernel_rfl))
 f319:=func202.trans (congrArg some (by kernel_rfl))
 f320:=func203.trans (congrArg some (by kernel_rfl))
 f321:=func204.trans (congrArg some (by kernel_rfl))
 f322:=func205.trans (congrArg some (by kernel_rfl))
 f337:=func238.trans (congrArg some (by kernel_rfl))
 f338:=func239.trans (congrArg some (by kernel_rfl))
 t0:=underlying0
 a0:=isAgg0
 z0:=sizeOf0
 v0:=zeroValue0
 t2:=underlying2
 a2:=isAgg2
 z2:=sizeOf2
 v2:=zeroValue2
 t3:=underlying3
 a3:=isAgg3
 z3:=sizeOf3
 v3:=zeroValue3
 t4:=underlying4
 a4:=isAgg4
 z4:=sizeOf4
 v4:=zeroValue4
 t5:=underlying5
 a5:=isAgg5
 z5:=sizeOf5
 v5:=zeroValue5
 t9:=underlying9
 a9:=isAgg9
 z9:=sizeOf9
 v9:=zeroValue9
 t20:=underlying20
 a20:=isAgg20
 z20:=sizeOf20
 v20:=zeroValue20
 t21:=underlying21
 a21:=isAgg21
 z21:=sizeOf21
 v21:=zeroValue21
 t37:=underlying46
 a37:=isAgg46
 z37:=sizeOf46
 v37:=zeroValue46
 t46:=underlying39
 a46:=isAgg39
 z46:=sizeOf39
 v46:=zeroValue39
 t51:=underlying223
 a51:=isAgg223
 z51:=sizeOf223
 v51:=zeroValue223
 t53:=underlying93
 a53:=isAgg93
 z53:=sizeOf93
 v53:=zeroValue93
 t75:=underlying118
 a75:=isAgg118
 z75:=sizeOf118
 v75:=zeroValue118
 t76:=underlying119
 a76:=isAgg119
 z76:=sizeOf119
 v76:=zeroValue119
 t85:=underlying228
 a85:=isAgg228
 z85:=sizeOf228
 v85:=zeroValue228
 t127:=underlying63
 a127:=isAgg63
 z127:=sizeOf63
 v127:=zeroValue63
 t143:=underlying314
 a143:=isAgg314
 z143:=sizeOf314
 v143:=zeroValue314
 t145:=underlying316
 a145:=isAgg316
 z145:=sizeOf316
 v145:=zeroValue316
 t167:=underlying227
 a167:=isAgg227
 z167:=sizeOf227
 v167:=zeroValue227
 t168:=underlying230
 a168:=isAgg230
 z168:=sizeOf230
 v168:=zeroValue230
 t171:=underlying268
 a171:=isAgg268
 z171:=sizeOf268
 v171:=zeroValue268
 t173:=underlying271
 a173:=isAgg271
 z173:=sizeOf271
 v173:=zeroValue271
 t175:=underlying278
 a175:=isAgg278
 z175:=sizeOf278
 v175:=zeroValue278
 t210:=underlying282
 a210:=isAgg282
 z210:=sizeOf282
 v210:=zeroValue282
 t212:=underlying309
 a212:=isAgg309
 z212:=sizeOf309
 v212:=zeroValue309
 t213:=underlying310
 a213:=isAgg310
 z213:=sizeOf310
 t232:=underlying352
 a232:=isAgg352
 z232:=sizeOf352
 v232:=zeroValue352
 t233:=underlying353
 a233:=isAgg353
 z233:=sizeOf353
 v233:=zeroValue353
 g15:=by kernel_rfl
 g16:=by kernel_rfl
 g17:=by kernel_rfl
 g18:=by kernel_rfl
 g19:=by kernel_rfl
 t80:=underlying54
 a80:=isAgg54
 z80:=sizeOf54
 v80:=zeroValue54
 i0:=by kernel_rfl
 i2:=by kernel_rfl
 i3:=by kernel_rfl
 i4:=by kernel_rfl
 i5:=by kernel_rfl
 i9:=by kernel_rfl
 i20:=by kernel_rfl
 i21:=by kernel_rfl
 i37:=by kernel_rfl
 i46:=by kernel_rfl
 i51:=by kernel_rfl
 i53:=by kernel_rfl
 i75:=by kernel_rfl
 i76:=by kernel_rfl
 i80:=by kernel_rfl
 i85:=by kernel_rfl
 i127:=by kernel_rfl
 i143:=by kernel_rfl
 i145:=by kernel_rfl
 i167:=by kernel_rfl
 i168:=by kernel_rfl
 i171:=by kernel_rfl
 i173:=by kernel_rfl
 i175:=by kernel_rfl
 i210:=by kernel_rfl
 i212:=by kernel_rfl
 i232:=by kernel_rfl
 i233:=by kernel_rfl
 m15:=by kernel_rfl
 m16:=by kernel_rfl
 m17:=by kernel_rfl
 m18:=by kernel_rfl
 m19:=by kernel_rfl
 c0:=by kernel_rfl
 c2:=by kernel_rfl
 c3:=by kernel_rfl
 c4:=by kernel_rfl
 c5:=by kernel_rfl
 c9:=by kernel_rfl
 c20:=by kernel_rfl
 c21:=by kernel_rfl
 c37:=by kernel_rfl
 c46:=by kernel_rfl
 c51:=by kernel_rfl
 c53:=by kernel_rfl
 c75:=by kernel_rfl
 c76:=by kernel_rfl
 c80:=by kernel_rfl
 c85:=by kernel_rfl
 c127:=by kernel_rfl
 c143:=by kernel_rfl
 c145:=by kernel_rfl
 c167:=by kernel_rfl
 c168:=by kernel_rfl
 c171:=by kernel_rfl
 c173:=by kernel_rfl
 c175:=by kernel_rfl
 c210:=by kernel_rfl
 c212:=by kernel_rfl
 c213:=by kernel_rfl
 c232:=by kernel_rfl
 c233:=by kernel_rfl}
open Go.RowKit in
theorem Tryz.strconv_Atoi_ok (s:ByteArray) (hmax:s.size<=9223372036854775806) (v:Int) (h:Lib.atoiAll s.data.toList= .ok v) (w:World):
    Calls Tryz.prog 66 #[.string s] w fun e w'=>e= .returned (.tuple #[.int .i64 v,.nilIface])/\(w'=w\/∃t,w'=Lib.bytesWorld w 5 t):=Any.strconv_Atoi_ok Tryz.laysC172 s hmax v h w
open Go.RowKit in
theorem Tryz.strconv_Atoi_syntax_var (s : ByteArray) (hlim : s.size ≤ 281474976710656) (h : Lib.atoiAll s.data.toList = .«syntax») (tp : TypeId) (p : Value) (w : World) (hvar : w.var? Tryz.prog "strconv.ErrSyntax" = some #[.iface tp p]) :
    Calls Tryz.prog 66 #[.string s] w fun e w'=>∃N,e= .returned (.tuple #[.int .i64 0,.iface 230 (.pointer (some ⟨N,0,none⟩))])/\w.heap.size<=N/\w'.heap[N]?=some (.cells #[.string ⟨#[65,116,111,105]⟩,.string s,.iface tp p] 282 (0,0))/\Below w.heap.size w w':=Any.strconv_Atoi_syntax_var Tryz.laysC172 s hlim h tp p w hvar
open Go.RowKit in
theorem Tryz.strconv_Atoi_range_var (s : ByteArray) (hlim : s.size ≤ 281474976710656) (h : Lib.atoiAll s.data.toList = .range) (tp : TypeId) (p : Value) (w : World) (hvar : w.var? Tryz.prog "strconv.ErrRange" = some #[.iface tp p]) :
    Calls Tryz.prog 66 #[.string s] w fun e w'=>∃N,e= .returned (.tuple #[.int .i64 (Lib.atoiSat s.data.toList),.iface 230 (.pointer (some ⟨N,0,none⟩))])/\w.heap.size<=N/\w'.heap[N]?=some (.cells #[.string ⟨#[65,116,111,105]⟩,.string s,.iface tp p] 282 (0,0))/\Below w.heap.size w w':=Any.strconv_Atoi_range_var Tryz.laysC172 s hlim h tp p w hvar
def Tryz.lays219_ren:Go.Shelf.Ren:=⟨fun|219=>60|217=>99|225=>100|224=>101|267=>102|266=>126|314=>127|n=>n,fun|9=>9|3=>3|4=>4|5=>5|46=>39|146=>224|51=>223|n=>n,fun|1=>0|n=>n⟩
theorem Tryz.lays219:Go.Proofs.Lays.n219 Tryz.prog Tryz.lays219_ren:={
 mixed:=by kernel_rfl
 f217:=func99.trans (congrArg some (by kernel_rfl))
 f219:=func60.trans (congrArg some (by kernel_rfl))
 f224:=func101.trans (congrArg some (by kernel_rfl))
 f225:=func100.trans (congrArg some (by kernel_rfl))
 f266:=func126.trans (congrArg some (by kernel_rfl))
 f267:=func102.trans (congrArg some (by kernel_rfl))
 f314:=func127.trans (congrArg some (by kernel_rfl))
 t3:=underlying3
 a3:=isAgg3
 z3:=sizeOf3
 v3:=zeroValue3
 t4:=underlying4
 a4:=isAgg4
 z4:=sizeOf4
 v4:=zeroValue4
 t5:=underlying5
 a5:=isAgg5
 z5:=sizeOf5
 v5:=zeroValue5
 t9:=underlying9
 a9:=isAgg9
 z9:=sizeOf9
 v9:=zeroValue9
 t46:=underlying39
 a46:=isAgg39
 z46:=sizeOf39
 v46:=zeroValue39
 t51:=underlying223
 a51:=isAgg223
 z51:=sizeOf223
 v51:=zeroValue223
 t146:=underlying224
 a146:=isAgg224
 z146:=sizeOf224
 v146:=zeroValue224
 g1:=by kernel_rfl}
open Go.RowKit Go.Lib in
theorem Tryz.stringslite_Index_one (s:ByteArray) (c:UInt8) (w:World):
    Calls Tryz.prog 60 #[.string s,.string ⟨#[c]⟩] w fun e w'=>e= .returned (.int .i64 (Lib.indexByte s.data.toList c))/\w'=w:=Any.stringslite_Index_one Tryz.lays219 s c w
def Tryz.lays144_ren:Go.Shelf.Ren:=⟨fun|144=>16|143=>36|219=>60|217=>99|225=>100|224=>101|267=>102|266=>126|314=>127|n=>n,fun|9=>9|4=>4|3=>3|5=>5|46=>39|146=>224|51=>223|n=>n,fun|1=>0|n=>n⟩
theorem Tryz.lays144:Go.Proofs.Lays.n144 Tryz.prog Tryz.lays144_ren:={
 mixed:=by kernel_rfl
 f143:=func36.trans (congrArg some (by kernel_rfl))
 f144:=func16.trans (congrArg some (by kernel_rfl))
 f217:=func99.trans (congrArg some (by kernel_rfl))
 f219:=func60.trans (congrArg some (by kernel_rfl))
 f224:=func101.trans (congrArg some (by kernel_rfl))
 f225:=func100.trans (congrArg some (by kernel_rfl))
 f266:=func126.trans (congrArg some (by kernel_rfl))
 f267:=func102.trans (congrArg some (by kernel_rfl))
 f314:=func127.trans (congrArg some (by kernel_rfl))
 t3:=underlying3
 a3:=isAgg3
 z3:=sizeOf3
 v3:=zeroValue3
 t4:=underlying4
 a4:=isAgg4
 z4:=sizeOf4
 v4:=zeroValue4
 t5:=underlying5
 a5:=isAgg5
 z5:=sizeOf5
 v5:=zeroValue5
 t9:=underlying9
 a9:=isAgg9
 z9:=sizeOf9
 v9:=zeroValue9
 t46:=underlying39
 a46:=isAgg39
 z46:=sizeOf39
 v46:=zeroValue39
 t51:=underlying223
 a51:=isAgg223
 z51:=sizeOf223
 v51:=zeroValue223
 t146:=underlying224
 a146:=isAgg224
 z146:=sizeOf224
 v146:=zeroValue224
 g1:=by kernel_rfl}
open Go.RowKit Go.Lib in
theorem Tryz.strings_Contains_one (s:ByteArray) (c:UInt8) (w:World):
    Calls Tryz.prog 16 #[.string s,.string ⟨#[c]⟩] w fun e w'=>e= .returned (.bool (decide (0<=Lib.indexByte s.data.toList c)))/\w'=w:=Any.strings_Contains_one Tryz.lays144 s c w
end Go.Proofs
