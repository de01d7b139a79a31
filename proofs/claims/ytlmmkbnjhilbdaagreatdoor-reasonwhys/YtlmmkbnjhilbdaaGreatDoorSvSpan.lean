/- Spans of numbers: what is in them; rising ones with a gap between are told by what is in them; not, both. -/
import Derived.Test.YtlmmkbnjhilbdaaGreatDoorAb
import Derived.Shelf.Strconv.Itoa4
import Derived.Shelf.Strconv.ParseIntPublic10
import Derived.Shelf.Strings.Count
import Derived.Shelf.Strings.Cut
import Derived.Shelf.Strings.SlTrimAscii
import Derived.WalkSpells
import Derived.WalkLawsBesides
import Derived.Deep.DeepCutAuto
import Derived.Deep.Light
import Derived.Lib.QuietBelow
import Derived.BigQuiet
import Derived.Stop.Asserts
import Derived.RowKitTokens
open Go.Proofs.YtlmmkbnjhilbdaaGreatDoor
set_option maxHeartbeats 4000000
set_option maxRecDepth 100000
namespace Go.Proofs
open Go.Shelf
def Tryz.lays161_ren:Go.Shelf.Ren:=⟨fun|161=>131|231=>166|227=>167|233=>168|235=>169|228=>205|197=>206|151=>207|260=>225|152=>226|137=>235|119=>236|224=>164|225=>163|217=>162|266=>203|n=>n,fun|9=>9|4=>4|3=>3|5=>5|117=>272|116=>271|0=>0|124=>275|105=>309|21=>21|119=>339|46=>73|139=>342|138=>341|n=>n,fun|3=>6|4=>7|n=>n⟩
theorem Tryz.lays161:Go.Proofs.Lays.n161 Tryz.prog Tryz.lays161_ren:={
 mixed:=by kernel_rfl
 f119:=zK Tryz.func236 (by kernel_rfl)
 f137:=zK Tryz.func235 (by kernel_rfl)
 f151:=zK Tryz.func207 (by kernel_rfl)
 f152:=zK Tryz.func226 (by kernel_rfl)
 f161:=zK Tryz.func131 (by kernel_rfl)
 f197:=zK Tryz.func206 (by kernel_rfl)
 f217:=zK Tryz.func162 (by kernel_rfl)
 f224:=zK Tryz.func164 (by kernel_rfl)
 f225:=zK Tryz.func163 (by kernel_rfl)
 f227:=zK Tryz.func167 (by kernel_rfl)
 f228:=zK Tryz.func205 (by kernel_rfl)
 f231:=zK Tryz.func166 (by kernel_rfl)
 f233:=zK Tryz.func168 (by kernel_rfl)
 f235:=zK Tryz.func169 (by kernel_rfl)
 f260:=zK Tryz.func225 (by kernel_rfl)
 f266:=zK Tryz.func203 (by kernel_rfl)
 t0:=Tryz.underlying0
 a0:=Tryz.isAgg0
 z0:=Tryz.sizeOf0
 v0:=Tryz.zeroValue0
 t3:=Tryz.underlying3
 a3:=Tryz.isAgg3
 z3:=Tryz.sizeOf3
 v3:=Tryz.zeroValue3
 t4:=Tryz.underlying4
 a4:=Tryz.isAgg4
 z4:=Tryz.sizeOf4
 v4:=Tryz.zeroValue4
 t5:=Tryz.underlying5
 a5:=Tryz.isAgg5
 z5:=Tryz.sizeOf5
 v5:=Tryz.zeroValue5
 t9:=Tryz.underlying9
 a9:=Tryz.isAgg9
 z9:=Tryz.sizeOf9
 v9:=Tryz.zeroValue9
 t21:=Tryz.underlying21
 a21:=Tryz.isAgg21
 z21:=Tryz.sizeOf21
 v21:=Tryz.zeroValue21
 t46:=Tryz.underlying73
 a46:=Tryz.isAgg73
 z46:=Tryz.sizeOf73
 v46:=Tryz.zeroValue73
 t105:=Tryz.underlying309
 a105:=Tryz.isAgg309
 z105:=Tryz.sizeOf309
 v105:=Tryz.zeroValue309
 t116:=Tryz.underlying271
 a116:=Tryz.isAgg271
 z116:=Tryz.sizeOf271
 t117:=Tryz.underlying272
 a117:=Tryz.isAgg272
 z117:=Tryz.sizeOf272
 v117:=Tryz.zeroValue272
 t119:=Tryz.underlying339
 a119:=Tryz.isAgg339
 z119:=Tryz.sizeOf339
 t124:=Tryz.underlying275
 a124:=Tryz.isAgg275
 z124:=Tryz.sizeOf275
 v124:=Tryz.zeroValue275
 t138:=Tryz.underlying341
 a138:=Tryz.isAgg341
 z138:=Tryz.sizeOf341
 v138:=Tryz.zeroValue341
 t139:=Tryz.underlying342
 a139:=Tryz.isAgg342
 z139:=Tryz.sizeOf342
 v139:=Tryz.zeroValue342
 g3:=by kernel_rfl
 g4:=by kernel_rfl }
def Tryz.lays106_ren:Go.Shelf.Ren:=⟨fun|106=>93|213=>139|265=>187|n=>n,fun|9=>9|3=>3|n=>n,fun|n=>n⟩
theorem Tryz.lays106:Go.Proofs.Lays.n106 Tryz.prog Tryz.lays106_ren:={
 mixed:=by kernel_rfl
 f106:=zK Tryz.func93 (by kernel_rfl)
 f213:=zK Tryz.func139 (by kernel_rfl)
 f265:=zK Tryz.func187 (by kernel_rfl)
 t3:=Tryz.underlying3
 a3:=Tryz.isAgg3
 z3:=Tryz.sizeOf3
 v3:=Tryz.zeroValue3
 t9:=Tryz.underlying9
 a9:=Tryz.isAgg9
 z9:=Tryz.sizeOf9
 v9:=Tryz.zeroValue9 }
open Go.RowKit in
theorem Tryz.strings_Compare(a b:ByteArray)(w:World) :
  zC 93 #[.string a,.string b] w fun e w'=>e=.returned (.int .i64 (Lib.compareBytes a.data.toList b.data.toList))/\w'=w:=Any.strings_Compare Tryz.lays106 a b w
def Tryz.laysM173_ren:Go.Shelf.Ren:=⟨fun|173=>157|246=>133|283=>172|284=>173|285=>174|286=>175|129=>185|317=>208|318=>209|319=>210|320=>211|337=>227|338=>228|n=>n,fun|2=>2|3=>3|9=>9|4=>4|171=>277|0=>0|53=>200|37=>280|5=>5|173=>281|212=>312|51=>291|20=>20|213=>313|46=>73|232=>344|233=>345|n=>n,fun|17=>3|18=>8|19=>9|n=>n⟩
theorem Tryz.laysM173:Go.Proofs.LaysM.n173 Tryz.prog Tryz.laysM173_ren:={
 mixed:=by kernel_rfl
 f129:=zK Tryz.func185 (by kernel_rfl)
 f173:=zK Tryz.func157 (by kernel_rfl)
 f246:=zK Tryz.func133 (by kernel_rfl)
 f283:=zK Tryz.func172 (by kernel_rfl)
 f284:=zK Tryz.func173 (by kernel_rfl)
 f285:=zK Tryz.func174 (by kernel_rfl)
 f286:=zK Tryz.func175 (by kernel_rfl)
 f317:=zK Tryz.func208 (by kernel_rfl)
 f318:=zK Tryz.func209 (by kernel_rfl)
 f319:=zK Tryz.func210 (by kernel_rfl)
 f320:=zK Tryz.func211 (by kernel_rfl)
 f337:=zK Tryz.func227 (by kernel_rfl)
 f338:=zK Tryz.func228 (by kernel_rfl)
 t0:=Tryz.underlying0
 a0:=Tryz.isAgg0
 z0:=Tryz.sizeOf0
 v0:=Tryz.zeroValue0
 t2:=Tryz.underlying2
 a2:=Tryz.isAgg2
 z2:=Tryz.sizeOf2
 v2:=Tryz.zeroValue2
 t3:=Tryz.underlying3
 a3:=Tryz.isAgg3
 z3:=Tryz.sizeOf3
 v3:=Tryz.zeroValue3
 t4:=Tryz.underlying4
 a4:=Tryz.isAgg4
 z4:=Tryz.sizeOf4
 v4:=Tryz.zeroValue4
 t5:=Tryz.underlying5
 a5:=Tryz.isAgg5
 z5:=Tryz.sizeOf5
 v5:=Tryz.zeroValue5
 t9:=Tryz.underlying9
 a9:=Tryz.isAgg9
 z9:=Tryz.sizeOf9
 v9:=Tryz.zeroValue9
 t20:=Tryz.underlying20
 a20:=Tryz.isAgg20
 z20:=Tryz.sizeOf20
 v20:=Tryz.zeroValue20
 t37:=Tryz.underlying280
 a37:=Tryz.isAgg280
 z37:=Tryz.sizeOf280
 v37:=Tryz.zeroValue280
 t46:=Tryz.underlying73
 a46:=Tryz.isAgg73
 z46:=Tryz.sizeOf73
 v46:=Tryz.zeroValue73
 t51:=Tryz.underlying291
 a51:=Tryz.isAgg291
 z51:=Tryz.sizeOf291
 v51:=Tryz.zeroValue291
 t53:=Tryz.underlying200
 a53:=Tryz.isAgg200
 z53:=Tryz.sizeOf200
 v53:=Tryz.zeroValue200
 t171:=Tryz.underlying277
 a171:=Tryz.isAgg277
 z171:=Tryz.sizeOf277
 v171:=Tryz.zeroValue277
 t173:=Tryz.underlying281
 a173:=Tryz.isAgg281
 z173:=Tryz.sizeOf281
 v173:=Tryz.zeroValue281
 t212:=Tryz.underlying312
 a212:=Tryz.isAgg312
 z212:=Tryz.sizeOf312
 v212:=Tryz.zeroValue312
 t213:=Tryz.underlying313
 a213:=Tryz.isAgg313
 z213:=Tryz.sizeOf313
 t232:=Tryz.underlying344
 a232:=Tryz.isAgg344
 z232:=Tryz.sizeOf344
 v232:=Tryz.zeroValue344
 t233:=Tryz.underlying345
 a233:=Tryz.isAgg345
 z233:=Tryz.sizeOf345
 v233:=Tryz.zeroValue345
 g17:=by kernel_rfl
 g18:=by kernel_rfl
 g19:=by kernel_rfl
 i0:=by kernel_rfl
 i2:=by kernel_rfl
 i3:=by kernel_rfl
 i4:=by kernel_rfl
 i5:=by kernel_rfl
 i9:=by kernel_rfl
 i20:=by kernel_rfl
 i37:=by kernel_rfl
 i46:=by kernel_rfl
 i51:=by kernel_rfl
 i53:=by kernel_rfl
 i171:=by kernel_rfl
 i173:=by kernel_rfl
 i212:=by kernel_rfl
 i232:=by kernel_rfl
 i233:=by kernel_rfl
 m17:=by kernel_rfl
 m18:=by kernel_rfl
 m19:=by kernel_rfl }
open Go.RowKit Go.Sort Go.Lib in
theorem Tryz.strconv_FormatInt_10(n:Int)(h0:-9223372036854775808<=n)(h1:n<=9223372036854775807)(w:World)(htab:Lib.TabIs Tryz.prog w "internal/strconv.uint64pow10" .u64 Lib.pow10Tab) :
  zC 157 #[.int .i64 n,.int .i64 10] w fun e w'=>e=.returned (.string ⟨(Lib.itoa n).toArray⟩)/\∃k os,w'=grow (w.drewN k) os:=Any.strconv_FormatInt_10 Tryz.laysM173 n h0 h1 w htab
def Tryz.laysC174_ren:Go.Shelf.Ren:=⟨fun|174=>156|247=>198|245=>199|287=>220|279=>221|280=>222|281=>223|282=>224|321=>231|322=>232|316=>233|171=>46|205=>234|243=>87|246=>133|283=>172|284=>173|285=>174|286=>175|129=>185|317=>208|318=>209|319=>210|320=>211|337=>227|338=>228|n=>n,fun|9=>9|3=>3|2=>2|75=>36|85=>259|4=>4|167=>325|5=>5|53=>200|175=>326|46=>73|168=>328|37=>280|0=>0|210=>337|21=>21|127=>346|145=>349|143=>347|171=>277|173=>281|212=>312|51=>291|20=>20|213=>313|232=>344|233=>345|80=>78|n=>n,fun|15=>4|16=>5|17=>3|18=>8|19=>9|n=>n⟩
theorem Tryz.laysC174:Go.Proofs.LaysC.n174 Tryz.prog Tryz.laysC174_ren:={
 mixed:=by kernel_rfl
 f129:=zK Tryz.func185 (by kernel_rfl)
 f171:=zK Tryz.func46 (by kernel_rfl)
 f174:=zK Tryz.func156 (by kernel_rfl)
 f205:=zK Tryz.func234 (by kernel_rfl)
 f243:=zK Tryz.func87 (by kernel_rfl)
 f245:=zK Tryz.func199 (by kernel_rfl)
 f246:=zK Tryz.func133 (by kernel_rfl)
 f247:=zK Tryz.func198 (by kernel_rfl)
 f279:=zK Tryz.func221 (by kernel_rfl)
 f280:=zK Tryz.func222 (by kernel_rfl)
 f281:=zK Tryz.func223 (by kernel_rfl)
 f282:=zK Tryz.func224 (by kernel_rfl)
 f283:=zK Tryz.func172 (by kernel_rfl)
 f284:=zK Tryz.func173 (by kernel_rfl)
 f285:=zK Tryz.func174 (by kernel_rfl)
 f286:=zK Tryz.func175 (by kernel_rfl)
 f287:=zK Tryz.func220 (by kernel_rfl)
 f316:=zK Tryz.func233 (by kernel_rfl)
 f317:=zK Tryz.func208 (by kernel_rfl)
 f318:=zK Tryz.func209 (by kernel_rfl)
 f319:=zK Tryz.func210 (by kernel_rfl)
 f320:=zK Tryz.func211 (by kernel_rfl)
 f321:=zK Tryz.func231 (by kernel_rfl)
 f322:=zK Tryz.func232 (by kernel_rfl)
 f337:=zK Tryz.func227 (by kernel_rfl)
 f338:=zK Tryz.func228 (by kernel_rfl)
 t0:=Tryz.underlying0
 a0:=Tryz.isAgg0
 z0:=Tryz.sizeOf0
 v0:=Tryz.zeroValue0
 t2:=Tryz.underlying2
 a2:=Tryz.isAgg2
 z2:=Tryz.sizeOf2
 v2:=Tryz.zeroValue2
 t3:=Tryz.underlying3
 a3:=Tryz.isAgg3
 z3:=Tryz.sizeOf3
 v3:=Tryz.zeroValue3
 t4:=Tryz.underlying4
 a4:=Tryz.isAgg4
 z4:=Tryz.sizeOf4
 v4:=Tryz.zeroValue4
 t5:=Tryz.underlying5
 a5:=Tryz.isAgg5
 z5:=Tryz.sizeOf5
 v5:=Tryz.zeroValue5
 t9:=Tryz.underlying9
 a9:=Tryz.isAgg9
 z9:=Tryz.sizeOf9
 v9:=Tryz.zeroValue9
 t20:=Tryz.underlying20
 a20:=Tryz.isAgg20
 z20:=Tryz.sizeOf20
 v20:=Tryz.zeroValue20
 t21:=Tryz.underlying21
 a21:=Tryz.isAgg21
 z21:=Tryz.sizeOf21
 v21:=Tryz.zeroValue21
 t37:=Tryz.underlying280
 a37:=Tryz.isAgg280
 z37:=Tryz.sizeOf280
 v37:=Tryz.zeroValue280
 t46:=Tryz.underlying73
 a46:=Tryz.isAgg73
 z46:=Tryz.sizeOf73
 v46:=Tryz.zeroValue73
 t51:=Tryz.underlying291
 a51:=Tryz.isAgg291
 z51:=Tryz.sizeOf291
 v51:=Tryz.zeroValue291
 t53:=Tryz.underlying200
 a53:=Tryz.isAgg200
 z53:=Tryz.sizeOf200
 v53:=Tryz.zeroValue200
 t75:=Tryz.underlying36
 a75:=Tryz.isAgg36
 z75:=Tryz.sizeOf36
 v75:=Tryz.zeroValue36
 t85:=Tryz.underlying259
 a85:=Tryz.isAgg259
 z85:=Tryz.sizeOf259
 v85:=Tryz.zeroValue259
 t127:=Tryz.underlying346
 a127:=Tryz.isAgg346
 z127:=Tryz.sizeOf346
 v127:=Tryz.zeroValue346
 t143:=Tryz.underlying347
 a143:=Tryz.isAgg347
 z143:=Tryz.sizeOf347
 v143:=Tryz.zeroValue347
 t145:=Tryz.underlying349
 a145:=Tryz.isAgg349
 z145:=Tryz.sizeOf349
 v145:=Tryz.zeroValue349
 t167:=Tryz.underlying325
 a167:=Tryz.isAgg325
 z167:=Tryz.sizeOf325
 v167:=Tryz.zeroValue325
 t168:=Tryz.underlying328
 a168:=Tryz.isAgg328
 z168:=Tryz.sizeOf328
 v168:=Tryz.zeroValue328
 t171:=Tryz.underlying277
 a171:=Tryz.isAgg277
 z171:=Tryz.sizeOf277
 v171:=Tryz.zeroValue277
 t173:=Tryz.underlying281
 a173:=Tryz.isAgg281
 z173:=Tryz.sizeOf281
 v173:=Tryz.zeroValue281
 t175:=Tryz.underlying326
 a175:=Tryz.isAgg326
 z175:=Tryz.sizeOf326
 v175:=Tryz.zeroValue326
 t210:=Tryz.underlying337
 a210:=Tryz.isAgg337
 z210:=Tryz.sizeOf337
 v210:=Tryz.zeroValue337
 t212:=Tryz.underlying312
 a212:=Tryz.isAgg312
 z212:=Tryz.sizeOf312
 v212:=Tryz.zeroValue312
 t213:=Tryz.underlying313
 a213:=Tryz.isAgg313
 z213:=Tryz.sizeOf313
 t232:=Tryz.underlying344
 a232:=Tryz.isAgg344
 z232:=Tryz.sizeOf344
 v232:=Tryz.zeroValue344
 t233:=Tryz.underlying345
 a233:=Tryz.isAgg345
 z233:=Tryz.sizeOf345
 v233:=Tryz.zeroValue345
 g15:=by kernel_rfl
 g16:=by kernel_rfl
 g17:=by kernel_rfl
 g18:=by kernel_rfl
 g19:=by kernel_rfl
 t80:=Tryz.underlying78
 a80:=Tryz.isAgg78
 z80:=Tryz.sizeOf78
 v80:=Tryz.zeroValue78
 i0:=by kernel_rfl
 i2:=by kernel_rfl
 i3:=by kernel_rfl
 i4:=by kernel_rfl
 i5:=by kernel_rfl
 i9:=by kernel_rfl
 i20:=by kernel_rfl
 i21:=by kernel_rfl
 i37:=by kernel_rfl
 i46:=by kernel_rfl
 i51:=by kernel_rfl
 i53:=by kernel_rfl
 i75:=by kernel_rfl
 i80:=by kernel_rfl
 i85:=by kernel_rfl
 i127:=by kernel_rfl
 i143:=by kernel_rfl
 i145:=by kernel_rfl
 i167:=by kernel_rfl
 i168:=by kernel_rfl
 i171:=by kernel_rfl
 i173:=by kernel_rfl
 i175:=by kernel_rfl
 i210:=by kernel_rfl
 i212:=by kernel_rfl
 i232:=by kernel_rfl
 i233:=by kernel_rfl
 m15:=by kernel_rfl
 m16:=by kernel_rfl
 m17:=by kernel_rfl
 m18:=by kernel_rfl
 m19:=by kernel_rfl
 c0:=by kernel_rfl
 c2:=by kernel_rfl
 c3:=by kernel_rfl
 c4:=by kernel_rfl
 c5:=by kernel_rfl
 c9:=by kernel_rfl
 c20:=by kernel_rfl
 c21:=by kernel_rfl
 c37:=by kernel_rfl
 c46:=by kernel_rfl
 c51:=by kernel_rfl
 c53:=by kernel_rfl
 c75:=by kernel_rfl
 c80:=by kernel_rfl
 c85:=by kernel_rfl
 c127:=by kernel_rfl
 c143:=by kernel_rfl
 c145:=by kernel_rfl
 c167:=by kernel_rfl
 c168:=by kernel_rfl
 c171:=by kernel_rfl
 c173:=by kernel_rfl
 c175:=by kernel_rfl
 c210:=by kernel_rfl
 c212:=by kernel_rfl
 c213:=by kernel_rfl
 c232:=by kernel_rfl
 c233:=by kernel_rfl }
open Go.RowKit in
theorem Tryz.strconv_ParseInt_10_at64_ok(s:ByteArray)(hmax:s.size<=9223372036854775806)(v:Int)(h:Lib.parseIntB 64 s.data.toList=.ok v)(w:World) :
  zC 156 #[.string s,.int .i64 10,.int .i64 64] w fun e w'=>e=.returned (.tuple #[.int .i64 v,.nilIface])/\(w'=w\/∃t,w'=Lib.bytesWorld w 5 t):=Any.strconv_ParseInt_10_at64_ok Tryz.laysC174 s hmax v h w
open Go.RowKit in
theorem Tryz.strconv_ParseInt_10_at64_syntax(s:ByteArray)(hlim:s.size<=281474976710656)(h:Lib.parseIntB 64 s.data.toList=.«syntax»)(ev:Value)(w:World)(hv:w.cell? ⟨4,0,none⟩=some ev)(hev:ev=.nilIface\/∃te pe,ev=.iface te pe) :
  zC 156 #[.string s,.int .i64 10,.int .i64 64] w fun e w'=>∃N,e=.returned (.tuple #[.int .i64 (0),.iface 328 (.pointer (some ⟨N,0,none⟩))])/\w.heap.size<=N/\w'.heap[N]?=some (.cells #[.string ⟨#[80,97,114,115,101,73,110,116]⟩,.string s,ev] 337 (0,0))/\zB w w':=Any.strconv_ParseInt_10_at64_syntax Tryz.laysC174 s hlim h ev w hv hev
open Go.RowKit in
theorem Tryz.strconv_ParseInt_10_at64_range(s:ByteArray)(hlim:s.size<=281474976710656)(h:Lib.parseIntB 64 s.data.toList=.range)(ev:Value)(w:World)(hv:w.cell? ⟨5,0,none⟩=some ev)(hev:ev=.nilIface\/∃te pe,ev=.iface te pe) :
  zC 156 #[.string s,.int .i64 10,.int .i64 64] w fun e w'=>∃N,e=.returned (.tuple #[.int .i64 (Lib.intSat 64 s.data.toList),.iface 328 (.pointer (some ⟨N,0,none⟩))])/\w.heap.size<=N/\w'.heap[N]?=some (.cells #[.string ⟨#[80,97,114,115,101,73,110,116]⟩,.string s,ev] 337 (0,0))/\zB w w':=Any.strconv_ParseInt_10_at64_range Tryz.laysC174 s hlim h ev w hv hev
def Tryz.lays143_ren:Go.Shelf.Ren:=⟨fun|143=>82|219=>129|217=>162|225=>163|224=>164|267=>165|266=>203|314=>204|n=>n,fun|9=>9|3=>3|4=>4|5=>5|46=>73|146=>306|51=>291|n=>n,fun|1=>2|n=>n⟩
theorem Tryz.lays143:Go.Proofs.Lays.n143 Tryz.prog Tryz.lays143_ren:={
 mixed:=by kernel_rfl
 f143:=zK Tryz.func82 (by kernel_rfl)
 f217:=zK Tryz.func162 (by kernel_rfl)
 f219:=zK Tryz.func129 (by kernel_rfl)
 f224:=zK Tryz.func164 (by kernel_rfl)
 f225:=zK Tryz.func163 (by kernel_rfl)
 f266:=zK Tryz.func203 (by kernel_rfl)
 f267:=zK Tryz.func165 (by kernel_rfl)
 f314:=zK Tryz.func204 (by kernel_rfl)
 t3:=Tryz.underlying3
 a3:=Tryz.isAgg3
 z3:=Tryz.sizeOf3
 v3:=Tryz.zeroValue3
 t4:=Tryz.underlying4
 a4:=Tryz.isAgg4
 z4:=Tryz.sizeOf4
 v4:=Tryz.zeroValue4
 t5:=Tryz.underlying5
 a5:=Tryz.isAgg5
 z5:=Tryz.sizeOf5
 v5:=Tryz.zeroValue5
 t9:=Tryz.underlying9
 a9:=Tryz.isAgg9
 z9:=Tryz.sizeOf9
 v9:=Tryz.zeroValue9
 t46:=Tryz.underlying73
 a46:=Tryz.isAgg73
 z46:=Tryz.sizeOf73
 v46:=Tryz.zeroValue73
 t51:=Tryz.underlying291
 a51:=Tryz.isAgg291
 z51:=Tryz.sizeOf291
 v51:=Tryz.zeroValue291
 t146:=Tryz.underlying306
 a146:=Tryz.isAgg306
 z146:=Tryz.sizeOf306
 v146:=Tryz.zeroValue306
 g1:=by kernel_rfl }
open Go.RowKit Go.Lib in
theorem Tryz.strings_Index(s sub:ByteArray)(m:Int)(w:World)(hs:s.size<4294967281)(hm:w.cell? ⟨2,0,none⟩=some (.int .i64 m)) :
  zC 82 #[.string s,.string sub] w fun e w'=>e=.returned (.int .i64 (Lib.index s.data.toList sub.data.toList))/\w'=w:=Any.strings_Index Tryz.lays143 s sub m w hs hm
def Tryz.lays145_ren:Go.Shelf.Ren:=⟨fun|145=>73|220=>111|219=>129|217=>162|225=>163|224=>164|267=>165|266=>203|314=>204|n=>n,fun|9=>9|4=>4|59=>156|3=>3|5=>5|46=>73|146=>306|51=>291|n=>n,fun|1=>2|n=>n⟩
theorem Tryz.lays145:Go.Proofs.Lays.n145 Tryz.prog Tryz.lays145_ren:={
 mixed:=by kernel_rfl
 f145:=zK Tryz.func73 (by kernel_rfl)
 f217:=zK Tryz.func162 (by kernel_rfl)
 f219:=zK Tryz.func129 (by kernel_rfl)
 f220:=zK Tryz.func111 (by kernel_rfl)
 f224:=zK Tryz.func164 (by kernel_rfl)
 f225:=zK Tryz.func163 (by kernel_rfl)
 f266:=zK Tryz.func203 (by kernel_rfl)
 f267:=zK Tryz.func165 (by kernel_rfl)
 f314:=zK Tryz.func204 (by kernel_rfl)
 t3:=Tryz.underlying3
 a3:=Tryz.isAgg3
 z3:=Tryz.sizeOf3
 v3:=Tryz.zeroValue3
 t4:=Tryz.underlying4
 a4:=Tryz.isAgg4
 z4:=Tryz.sizeOf4
 v4:=Tryz.zeroValue4
 t5:=Tryz.underlying5
 a5:=Tryz.isAgg5
 z5:=Tryz.sizeOf5
 v5:=Tryz.zeroValue5
 t9:=Tryz.underlying9
 a9:=Tryz.isAgg9
 z9:=Tryz.sizeOf9
 v9:=Tryz.zeroValue9
 t46:=Tryz.underlying73
 a46:=Tryz.isAgg73
 z46:=Tryz.sizeOf73
 v46:=Tryz.zeroValue73
 t51:=Tryz.underlying291
 a51:=Tryz.isAgg291
 z51:=Tryz.sizeOf291
 v51:=Tryz.zeroValue291
 t59:=Tryz.underlying156
 a59:=Tryz.isAgg156
 z59:=Tryz.sizeOf156
 v59:=Tryz.zeroValue156
 t146:=Tryz.underlying306
 a146:=Tryz.isAgg306
 z146:=Tryz.sizeOf306
 v146:=Tryz.zeroValue306
 g1:=by kernel_rfl }
open Go.RowKit Go.Lib in
theorem Tryz.strings_Cut(s sep:ByteArray)(m:Int)(w:World)(hs:s.size<4294967281)(hm:w.cell? ⟨2,0,none⟩=some (.int .i64 m)) :
  zC 73 #[.string s,.string sep] w fun e w'=>e=.returned (.tuple #[.string ⟨(Lib.cut s.data.toList sep.data.toList).1.toArray⟩,.string ⟨(Lib.cut s.data.toList sep.data.toList).2.1.toArray⟩,.bool (Lib.cut s.data.toList sep.data.toList).2.2])/\∃n,w'=w.drewN n:=Any.strings_Cut Tryz.lays145 s sep m w hs hm
def Tryz.lays138_ren:Go.Shelf.Ren:=⟨fun|138=>112|195=>154|218=>155|143=>82|219=>129|217=>162|225=>163|224=>164|267=>165|266=>203|314=>204|n=>n,fun|9=>9|3=>3|4=>4|5=>5|0=>0|46=>73|146=>306|51=>291|n=>n,fun|1=>2|n=>n⟩
theorem Tryz.lays138:Go.Proofs.Lays.n138 Tryz.prog Tryz.lays138_ren:={
 mixed:=by kernel_rfl
 f138:=zK Tryz.func112 (by kernel_rfl)
 f143:=zK Tryz.func82 (by kernel_rfl)
 f195:=zK Tryz.func154 (by kernel_rfl)
 f217:=zK Tryz.func162 (by kernel_rfl)
 f218:=zK Tryz.func155 (by kernel_rfl)
 f219:=zK Tryz.func129 (by kernel_rfl)
 f224:=zK Tryz.func164 (by kernel_rfl)
 f225:=zK Tryz.func163 (by kernel_rfl)
 f266:=zK Tryz.func203 (by kernel_rfl)
 f267:=zK Tryz.func165 (by kernel_rfl)
 f314:=zK Tryz.func204 (by kernel_rfl)
 t0:=Tryz.underlying0
 a0:=Tryz.isAgg0
 z0:=Tryz.sizeOf0
 v0:=Tryz.zeroValue0
 t3:=Tryz.underlying3
 a3:=Tryz.isAgg3
 z3:=Tryz.sizeOf3
 v3:=Tryz.zeroValue3
 t4:=Tryz.underlying4
 a4:=Tryz.isAgg4
 z4:=Tryz.sizeOf4
 v4:=Tryz.zeroValue4
 t5:=Tryz.underlying5
 a5:=Tryz.isAgg5
 z5:=Tryz.sizeOf5
 v5:=Tryz.zeroValue5
 t9:=Tryz.underlying9
 a9:=Tryz.isAgg9
 z9:=Tryz.sizeOf9
 v9:=Tryz.zeroValue9
 t46:=Tryz.underlying73
 a46:=Tryz.isAgg73
 z46:=Tryz.sizeOf73
 v46:=Tryz.zeroValue73
 t51:=Tryz.underlying291
 a51:=Tryz.isAgg291
 z51:=Tryz.sizeOf291
 v51:=Tryz.zeroValue291
 t146:=Tryz.underlying306
 a146:=Tryz.isAgg306
 z146:=Tryz.sizeOf306
 v146:=Tryz.zeroValue306
 g1:=by kernel_rfl }
open Go.RowKit Go.Lib in
theorem Tryz.strings_Count_one(s:ByteArray)(c:UInt8)(w:World) :
  zC 112 #[.string s,.string ⟨#[c]⟩] w fun e w'=>e=.returned (.int .i64 (Lib.countByte s.data.toList c))/\w'=w:=Any.strings_Count_one Tryz.lays138 s c w
end Go.Proofs
namespace Go.Proofs.YtlmmkbnjhilbdaaGreatDoor
theorem Qk(w:World)(v:Value)(t:TypeId):(w.alloc (.cells #[v] t)).cell? ⟨w.heap.size,0,none⟩=some v:=by simp
theorem Xa(w:World)(v:Value)(t:TypeId):(w.alloc (.cells #[v] t)).frozen? ⟨w.heap.size,0,none⟩=false:=by simp
end Go.Proofs.YtlmmkbnjhilbdaaGreatDoor
namespace Go.Proofs.YtlmmkbnjhilbdaaGreatDoor
open Go.RowKit Go.Extern.Stop Go.Stop Go.Extern
namespace Errs
theorem zge(t:Addr)(w:World):(ReflectliteValue.unpack (.iface 89 (.pointer (some t)))).run Tryz.prog w
  = .ok (.agg #[.pointer (some ⟨10,89,none⟩),.pointer (some ⟨w.heap.size,0,none⟩),.int .u64 150]) (w.alloc (.cells #[.pointer (some t)] 89)):=by kernel_rfl
theorem zd6(a:Addr)(w:World):(ReflectliteValue.methodAny (ReflectliteValue.valueError "reflectlite.Value.Type" 0) (fun t _ _ _=>ReflectliteType.toType t) #[.agg #[.pointer (some ⟨10,89,none⟩),.pointer (some a),.int .u64 150]]).run Tryz.prog w
  = .ok (.iface 202 (.agg #[.pointer (some ⟨10,89,none⟩)])) w:=by kernel_rfl
theorem zct(w:World):((ReflectliteType.abiMethod fun t=>(fun a:Nat=>Value.int IntKind.u8 (a:Int)) <$> Rtype.kind t) #[.pointer (some ⟨10,89,none⟩)]).run Tryz.prog w=.ok (.int .u8 22) w:=by kernel_rfl
theorem zdc(w:World):((ReflectliteType.abiMethod fun t=>(fun a:Nat=>Value.int IntKind.u8 (a:Int)) <$> Rtype.kind t) #[.pointer (some ⟨10,55,none⟩)]).run Tryz.prog w=.ok (.int .u8 2) w:=by kernel_rfl
theorem zbQ(z:Sem Value)(f:TypeId->Addr->Nat->Nat->Sem Value)(v:Value)(t:TypeId)(a:Addr)(fl:Nat)(w:World)(h:(ReflectliteValue.parts v).run Tryz.prog w=.ok (some (t,a,fl)) w) :
  (ReflectliteValue.method z f #[v]).run Tryz.prog w=(f t a fl (fl%32)).run Tryz.prog w:=by
 obtain⟨F,hF,hG⟩:∃F:Option (TypeId × Addr × Nat)->Sem Value,ReflectliteValue.method z f #[v]=(ReflectliteValue.parts v >>= F)/\∀t a fl,F (some (t,a,fl))=f t a fl (fl%32):=⟨_,rfl,fun _ _ _=>rfl⟩;rw[hF];simp only[Sem.run_bind,h,Result.andThen];rw[hG]
theorem zez(a:Addr)(w:World):(ReflectliteValue.parts (.agg #[.pointer (some ⟨10,89,none⟩),.pointer (some a),.int .u64 150])).run Tryz.prog w=.ok (some (89,a,150)) w:=by kernel_rfl
theorem zdb(a p:Addr)(W:World)(ha:W.cell? a=some (.pointer (some p))) :
  (ReflectliteValue.method (ReflectliteValue.valueError "reflectlite.Value.IsNil" 0) ReflectliteValue.isNil #[.agg #[.pointer (some ⟨10,89,none⟩),.pointer (some a),.int .u64 150]]).run Tryz.prog W=.ok (.bool false) W:=by
 rw[zbQ _ _ _ _ _ _ _ (zez a W)];simp[ReflectliteValue.isNil,loadVar,isAgg,underlying,Tryz.underlying89,ha,Result.andThen]
theorem zdf(w:World):(ReflectliteType.method ReflectliteType.elem #[.agg #[.pointer (some ⟨10,89,none⟩)]]).run Tryz.prog w=.ok (.iface 202 (.agg #[.pointer (some ⟨10,55,none⟩)])) w:=by kernel_rfl
theorem zb5(w:World):(ReflectliteType.relation "Implements" ReflectliteType.implements_ #[.agg #[.pointer (some ⟨10,55,none⟩)],.iface 202 (.agg #[.pointer (some ⟨10,36,none⟩)])]).run Tryz.prog w=.ok (.bool true) w:=by kernel_rfl
theorem zeJ(v:Value)(w:World):(ReflectliteType.typeOf #[.iface 55 v]).run Tryz.prog w=.ok (.iface 202 (.agg #[.pointer (some ⟨10,55,none⟩)])) w:=by kernel_rfl
theorem zfd(w:World):(ReflectliteType.relation "AssignableTo" ReflectliteType.assignableTo #[.agg #[.pointer (some ⟨10,55,none⟩)],.iface 202 (.agg #[.pointer (some ⟨10,55,none⟩)])]).run Tryz.prog w=.ok (.bool true) w:=by kernel_rfl
theorem zew(n:Int)(w:World):(ReflectliteValue.unpack (.iface 55 (.int .i64 n))).run Tryz.prog w
  = .ok (.agg #[.pointer (some ⟨10,55,none⟩),.pointer (some ⟨w.heap.size,0,none⟩),.int .u64 130]) (w.alloc (.cells #[.int .i64 n] 55)):=by kernel_rfl
theorem zgN(w:World):(Rtype.elem? 89).run Tryz.prog w=.ok (some 55) w:=by kernel_rfl
theorem mkE(p:Addr)(w:World):(ReflectliteValue.mk 55 p ReflectliteValue.flagAddr).run Tryz.prog w=.ok (.agg #[.pointer (some ⟨10,55,none⟩),.pointer (some p),.int .u64 386]) w:=by kernel_rfl
theorem zcZ(a p:Addr)(W:World)(ha:W.cell? a=some (.pointer (some p))) :
  (ReflectliteValue.method (ReflectliteValue.valueError "reflectlite.Value.Elem" 0) ReflectliteValue.elem #[.agg #[.pointer (some ⟨10,89,none⟩),.pointer (some a),.int .u64 150]]).run Tryz.prog W
   = .ok (.agg #[.pointer (some ⟨10,55,none⟩),.pointer (some p),.int .u64 386]) W:=by
 rw[zbQ _ _ _ _ _ _ _ (zez a W)];simp[ReflectliteValue.elem,loadVar,isAgg,underlying,Tryz.underlying89,ha,Result.andThen,zgN,mkE]
theorem zka(a:Addr)(w:World):(ReflectliteValue.parts (.agg #[.pointer (some ⟨10,55,none⟩),.pointer (some a),.int .u64 386])).run Tryz.prog w=.ok (some (55,a,386)) w:=by kernel_rfl
theorem zhL(a:Addr)(w:World):(ReflectliteValue.parts (.agg #[.pointer (some ⟨10,55,none⟩),.pointer (some a),.int .u64 130])).run Tryz.prog w=.ok (some (55,a,130)) w:=by kernel_rfl
theorem zkw(w:World):(Rtype.directlyAssignable 55 55).run Tryz.prog w=.ok true w:=by kernel_rfl
theorem zpn(v x:Value):∃F:Option (TypeId × Addr × Nat)->Option (TypeId × Addr × Nat)->Sem Value,ReflectliteValue.set #[v,x]=(ReflectliteValue.parts v >>= fun p=>ReflectliteValue.parts x >>= fun q=>F p q) /\
  ∀a b,∃G:Value->Sem Value,F (some (55,a,386)) (some (55,b,130))=(loadVar 55 b >>= fun val=>Rtype.directlyAssignable 55 55 >>= fun d=>if d=true then (storeVar 55 a val >>= fun _=>pure (.tuple #[])) else G val):=⟨_,rfl,fun _ _=>⟨_,rfl⟩⟩
theorem zcm(ta b:Addr)(n:Int)(old:Value)(W:World)(hb:W.cell? b=some (.int .i64 n))(ht:W.cell? ta=some old)(hf:W.frozen? ta=false) :
  (ReflectliteValue.set #[.agg #[.pointer (some ⟨10,55,none⟩),.pointer (some ta),.int .u64 386],.agg #[.pointer (some ⟨10,55,none⟩),.pointer (some b),.int .u64 130]]).run Tryz.prog W
   = .ok (.tuple #[]) (W.setCell ta (.int .i64 n)):=by
 obtain⟨F,hF,hG⟩:=zpn (.agg #[.pointer (some ⟨10,55,none⟩),.pointer (some ta),.int .u64 386]) (.agg #[.pointer (some ⟨10,55,none⟩),.pointer (some b),.int .u64 130]);obtain⟨G,hG⟩:=hG ta b;rw[hF];simp only[Sem.run_bind,zka,zhL,Result.andThen];rw[hG];simp[loadVar,isAgg,underlying,Tryz.underlying55,hb,Result.andThen,zkw,storeVar,Value.cells,storeCells,Addr.add];rw[run_store Tryz.prog W ta _ _ (by rfl)];simp[ht,hf]
end Errs
end Go.Proofs.YtlmmkbnjhilbdaaGreatDoor
namespace Go.Proofs.YtlmmkbnjhilbdaaGreatDoor
open Go.RowKit Go.Extern.Stop Go.Stop Go.Extern
namespace Errs
theorem zex(h:Value)(w:World):(Go.method 477 202 (.agg #[h]) "Kind").run Tryz.prog w=.ok (251,h) w:=by kernel_rfl
theorem zgf(h:Value)(w:World):(Go.method 477 202 (.agg #[h]) "Elem").run Tryz.prog w=.ok (266,.agg #[h]) w:=by kernel_rfl
theorem zey(h:Value)(w:World):(Go.method 477 202 (.agg #[h]) "Implements").run Tryz.prog w=.ok (267,.agg #[h]) w:=by kernel_rfl
theorem zdB(h:Value)(w:World):(Go.method 477 202 (.agg #[h]) "AssignableTo").run Tryz.prog w=.ok (264,.agg #[h]) w:=by kernel_rfl
theorem as_hit(n:Int)(t:Addr)(old:Value)(w:World)(hg:w.cell? ⟨0,0,none⟩=some (.iface 202 (.agg #[.pointer (some ⟨10,36,none⟩)])))(ht0:w.cell? t=some old)(hf0:w.frozen? t=false) :
  zC 30 #[.iface 55 (.int .i64 n),.iface 89 (.pointer (some t))] w fun ev w'=>ev=.returned (.bool true)/\w'=((((w.alloc (.cells #[.pointer (some t)] 89)).alloc (.cells #[.pointer (some ⟨10,89,none⟩),.pointer (some ⟨w.heap.size,0,none⟩),.int .u64 150] 146)).alloc (.cells #[.pointer (some ⟨10,89,none⟩),.pointer (some ⟨w.heap.size,0,none⟩),.int .u64 150] 146)).alloc (.cells #[.int .i64 n] 55)).setCell t (.int .i64 n):=by
 have h6:=@run_callFunc_extern Tryz.prog 68 _ (fun args=>ReflectliteValue.unpack (args.getD 0 (.tuple #[]))) Tryz.func68 (by kernel_rfl) (by kernel_rfl) (by kernel_rfl) (by kernel_rfl);have h7:=@run_callFunc_extern Tryz.prog 69 _ (ReflectliteValue.methodAny (ReflectliteValue.valueError "reflectlite.Value.Type" 0) (fun t _ _ _=>ReflectliteType.toType t)) Tryz.func69 (by kernel_rfl) (by kernel_rfl) (by kernel_rfl) (by kernel_rfl);have h8:=@run_callFunc_extern Tryz.prog 70 _ (ReflectliteValue.method (ReflectliteValue.valueError "reflectlite.Value.IsNil" 0) ReflectliteValue.isNil) Tryz.func70 (by kernel_rfl) (by kernel_rfl) (by kernel_rfl) (by kernel_rfl);have h27:=@run_callFunc_extern Tryz.prog 251 _ (ReflectliteType.abiMethod fun t=>do pure (.int .u8 (<-Rtype.kind t))) Tryz.func251 (by kernel_rfl) (by kernel_rfl) (by kernel_rfl) (by kernel_rfl);have h37:=@run_callFunc_extern Tryz.prog 266 _ (ReflectliteType.method ReflectliteType.elem) Tryz.func266 (by kernel_rfl) (by kernel_rfl) (by kernel_rfl) (by kernel_rfl);have h38:=@run_callFunc_extern Tryz.prog 267 _ (ReflectliteType.relation "Implements" ReflectliteType.implements_) Tryz.func267 (by kernel_rfl) (by kernel_rfl) (by kernel_rfl) (by kernel_rfl);have h10:=@run_callFunc_extern Tryz.prog 108 _ ReflectliteType.typeOf Tryz.func108 (by kernel_rfl) (by kernel_rfl) (by kernel_rfl) (by kernel_rfl);have h35:=@run_callFunc_extern Tryz.prog 264 _ (ReflectliteType.relation "AssignableTo" ReflectliteType.assignableTo) Tryz.func264 (by kernel_rfl) (by kernel_rfl) (by kernel_rfl) (by kernel_rfl);have h11:=@run_callFunc_extern Tryz.prog 109 _ (ReflectliteValue.method (ReflectliteValue.valueError "reflectlite.Value.Elem" 0) ReflectliteValue.elem) Tryz.func109 (by kernel_rfl) (by kernel_rfl) (by kernel_rfl) (by kernel_rfl);have h12:=@run_callFunc_extern Tryz.prog 110 _ ReflectliteValue.set Tryz.func110 (by kernel_rfl) (by kernel_rfl) (by kernel_rfl) (by kernel_rfl);have tO:=zeJ;have mA:=zdB;have a25:=zfd;have v25:=zew;have f6:=zge;have f7:=zd6;have mK:=zex;have mE:=zgf;have mI:=zey;have k27:=zct;have k25:=zdc;have e27:=zdf;have i25:=zb5;have n8:=zdb ⟨w.heap.size,0,none⟩ t ((w.alloc (.cells #[.pointer (some t)] 89)).alloc (.cells #[.pointer (some ⟨10,89,none⟩),.pointer (some ⟨w.heap.size,0,none⟩),.int .u64 150] 146)) (by simp);have hlt:0<w.heap.size:=by
  rcases Nat.lt_or_ge 0 w.heap.size with h|h
  ·exact h
  ·simp[World.cell?,Array.getElem?_eq_none h] at hg
 have hg2:((w.alloc (.cells #[.pointer (some t)] 89)).alloc (.cells #[.pointer (some ⟨10,89,none⟩),.pointer (some ⟨w.heap.size,0,none⟩),.int .u64 150] 146)).cell? ⟨0,0,none⟩=some (.iface 202 (.agg #[.pointer (some ⟨10,36,none⟩)])):=by
  rw[World.cell?_alloc_lt _ _ ⟨0,0,none⟩ (by simp only[World.size_alloc];omega),World.cell?_alloc_lt _ _ ⟨0,0,none⟩ hlt];exact hg
 have htl:t.block<w.heap.size:=by
  rcases Nat.lt_or_ge t.block w.heap.size with h|h
  ·exact h
  ·simp[World.cell?,Array.getElem?_eq_none h] at ht0
 have el:=zcZ ⟨w.heap.size,0,none⟩ t (((w.alloc (.cells #[.pointer (some t)] 89)).alloc (.cells #[.pointer (some ⟨10,89,none⟩),.pointer (some ⟨w.heap.size,0,none⟩),.int .u64 150] 146)).alloc (.cells #[.pointer (some ⟨10,89,none⟩),.pointer (some ⟨w.heap.size,0,none⟩),.int .u64 150] 146)) (by rw[World.cell?_alloc_lt _ _ ⟨w.heap.size,0,none⟩ (by simp;omega)];simp);have st:=zcm t ⟨w.heap.size+1+1+1,0,none⟩ n old ((((w.alloc (.cells #[.pointer (some t)] 89)).alloc (.cells #[.pointer (some ⟨10,89,none⟩),.pointer (some ⟨w.heap.size,0,none⟩),.int .u64 150] 146)).alloc (.cells #[.pointer (some ⟨10,89,none⟩),.pointer (some ⟨w.heap.size,0,none⟩),.int .u64 150] 146)).alloc (.cells #[.int .i64 n] 55))
  (by rw[World.cell?_alloc_at _ _ _ _ (by simp)];rfl)
  (by rw[World.cell?_alloc_lt _ _ t (by simp;omega),World.cell?_alloc_lt _ _ t (by simp;omega),World.cell?_alloc_lt _ _ t (by simp;omega),World.cell?_alloc_lt _ _ t htl];exact ht0)
  (by rw[World.frozen?_alloc_old _ _ t (by simp;omega),World.frozen?_alloc_old _ _ t (by simp;omega),World.frozen?_alloc_old _ _ t (by simp;omega),World.frozen?_alloc_old _ _ t (Nat.ne_of_lt htl)];exact hf0)
 go_enter Tryz.func30,Tryz.ntmps30;go_wp2;refine wp_loop_rounds 1 ?_;rw[rounds_succ];go_wp2;go_ret;exact⟨rfl,rfl⟩
end Errs
end Go.Proofs.YtlmmkbnjhilbdaaGreatDoor
namespace Go.Proofs.YtlmmkbnjhilbdaaGreatDoor
open Go.RowKit Go.Extern.Stop Go.Stop Go.Extern
def Zg(w:World):Prop:=w.cell? ⟨0,0,none⟩=some (.iface 202 (.agg #[.pointer (some ⟨10,36,none⟩)]))
theorem Zg.lt{w:World}(h:Zg w):0<w.heap.size:=by
 rcases Nat.lt_or_ge 0 w.heap.size with h1|h1
 ·exact h1
 ·unfold Zg at h;simp[World.cell?,Array.getElem?_eq_none h1] at h
theorem Zg.below{w w':World}(h:Zg w)(hb:zB w w'):Zg w':=(hb.cell (p:=⟨0,0,none⟩) h.lt).trans h
theorem zbj(n:Int)(w:World)(hg:Zg w) :
  zR 13 #[.iface 55 (.int .i64 n)] w (.int .i64 n):=by
 have H:=Errs.as_hit n ⟨w.heap.size,0,none⟩ (.int .i64 0) (w.alloc (.cells #[.int .i64 0] 55)) (hg.below (zF.alloc zN _)) (Qk _ _ _) (Xa _ _ _);go_enter Tryz.func13,Tryz.ntmps13;go_wp2_with fail;refine H.mono ?_;rintro e w' ⟨rfl,hw⟩;have hc:w'.cell? ⟨w.heap.size,0,none⟩=some (.int .i64 n):=by
  rw[hw];refine World.cell?_setCell_same' _ _ _ ?_;rw[World.cell?_alloc_lt _ _ ⟨w.heap.size,0,none⟩ (by simp;omega),World.cell?_alloc_lt _ _ ⟨w.heap.size,0,none⟩ (by simp;omega),World.cell?_alloc_lt _ _ ⟨w.heap.size,0,none⟩ (by simp;omega),World.cell?_alloc_lt _ _ ⟨w.heap.size,0,none⟩ (by simp),Qk];rfl
 have hb:zB w w':=by
  rw[hw];exact(((((zF.alloc zN _).alloc (by simp) _).alloc (by simp;omega) _).alloc (by simp;omega) _).alloc (by simp;omega) _).setCell zN _
 clear H hw;go_wp2;go_ret;exact⟨rfl,hb⟩
end Go.Proofs.YtlmmkbnjhilbdaaGreatDoor
namespace Go.Proofs.YtlmmkbnjhilbdaaGreatDoor.Sv
def ALL:Nat:=1000000000
abbrev zg:=Nat × Nat
def mem(l:List zg)(n:Nat):Prop:=∃s∈l,s.1<=n/\n<s.2
theorem x8(n:Nat):¬mem [] n:=fun⟨_,h,_⟩=>by cases h
theorem mem_cons{s:zg}{l:List zg}{n:Nat}:mem (s :: l) n↔(s.1<=n/\n<s.2)\/mem l n:=by
 unfold mem;constructor
 ·rintro⟨t,ht,h⟩;rcases List.mem_cons.1 ht with rfl|ht
  ·exact Or.inl h
  ·exact Or.inr ⟨t,ht,h⟩
 ·rintro (h|⟨t,ht,h⟩)
  ·exact⟨s,List.mem_cons_self,h⟩
  ·exact⟨t,List.mem_cons_of_mem _ ht,h⟩
def qX(lo:Nat):List zg->Prop
 |[]=>True
 |s :: r=>lo<=s.1/\s.1<s.2/\s.2<=ALL/\qX (s.2+1) r
theorem qX.mono{lo hi:Nat}{l:List zg}(h:qX hi l)(hh:lo<=hi):qX lo l:=by
 cases l with
 |nil=>trivial
 |cons s r=>exact⟨Nat.le_trans hh h.1,h.2⟩
theorem qX.ge{lo n:Nat}{l:List zg}(h:qX lo l)(hm:mem l n):lo<=n:=by
 induction l generalizing lo with
 |nil=>exact absurd hm (x8 n)
 |cons s r ih =>
  rcases mem_cons.1 hm with ⟨h1,_⟩|hm
  ·exact Nat.le_trans h.1 h1
  ·have:=ih h.2.2.2 hm;have:=h.1;have:=h.2.1;omega
theorem qX.lt{lo n:Nat}{l:List zg}(h:qX lo l)(hm:mem l n):n<ALL:=by
 induction l generalizing lo with
 |nil=>exact absurd hm (x8 n)
 |cons s r ih =>
  rcases mem_cons.1 hm with ⟨_,h1⟩|hm
  ·exact Nat.lt_of_lt_of_le h1 h.2.2.1
  ·exact ih h.2.2.2 hm
theorem zip{l m:List zg}:∀{lo lo':Nat},qX lo l->qX lo' m->(∀n,mem l n↔mem m n)->l=m:=by
 induction l generalizing m with
 |nil =>
  intro lo lo' _ hm h;cases m with
  |nil=>rfl
  |cons s r=>exact absurd ((h s.1).2 (mem_cons.2 (Or.inl ⟨Nat.le_refl _,hm.2.1⟩))) (x8 _)
 |cons s l ih =>
  intro lo lo' hl hm h;cases m with
  |nil=>exact absurd ((h s.1).1 (mem_cons.2 (Or.inl ⟨Nat.le_refl _,hl.2.1⟩))) (x8 _)
  |cons t m =>
   obtain⟨a,b⟩:=s;obtain⟨c,d⟩:=t;obtain⟨-,hab,hb,hl⟩:=hl;obtain⟨-,hcd,hd,hm⟩:=hm;simp only at hab hcd hb hd hl hm;have ha:c<=a:=by
    rcases mem_cons.1 ((h a).1 (mem_cons.2 (Or.inl ⟨Nat.le_refl _,hab⟩))) with ⟨x,_⟩|x
    ·exact x
    ·have:=hm.ge x;omega
   have hc:a<=c:=by
    rcases mem_cons.1 ((h c).2 (mem_cons.2 (Or.inl ⟨Nat.le_refl _,hcd⟩))) with ⟨x,_⟩|x
    ·exact x
    ·have:=hl.ge x;omega
   obtain rfl:a=c:=by omega
   have hbd:b=d:=by
    rcases Nat.lt_trichotomy b d with hlt|heq|hlt
    ·rcases mem_cons.1 ((h b).2 (mem_cons.2 (Or.inl ⟨Nat.le_of_lt hab,hlt⟩))) with ⟨_,x⟩|x
     ·simp only at x;omega
     ·have:=hl.ge x;omega
    ·exact heq
    ·rcases mem_cons.1 ((h d).1 (mem_cons.2 (Or.inl ⟨Nat.le_of_lt hcd,hlt⟩))) with ⟨_,x⟩|x
     ·simp only at x;omega
     ·have:=hm.ge x;omega
   subst hbd;have:l=m:=ih hl hm fun n=>by
    constructor
    ·intro hx;have hg:=hl.ge hx;rcases mem_cons.1 ((h n).1 (mem_cons.2 (Or.inr hx))) with ⟨_,x⟩|x
     ·simp only at x;omega
     ·exact x
    ·intro hx;have hg:=hm.ge hx;rcases mem_cons.1 ((h n).2 (mem_cons.2 (Or.inr hx))) with ⟨_,x⟩|x
     ·simp only at x;omega
     ·exact x
   rw[this]
def xj(e:Nat):List zg->List zg
 |[]=>if e<ALL then [(e,ALL)] else []
 |s :: r=>if e<s.1 then (e,s.1) :: xj s.2 r else xj s.2 r
theorem zjS:∀{l:List zg} {e:Nat},qX e l->qX e (xj e l):=by
 intro l
 induction l with
 |nil =>
  intro e _;unfold xj;split
  ·exact⟨Nat.le_refl _,by assumption,Nat.le_refl _,trivial⟩
  ·trivial
 |cons s r ih =>
  intro e h;obtain⟨h1,h2,h3,h4⟩:=h;have hr:=ih (h4.mono (Nat.le_succ _));unfold xj;split
  ·exact⟨Nat.le_refl _,by assumption,by simp only;omega,hr.mono (by simp only;omega)⟩
  ·exact hr.mono (by omega)
theorem znN:∀{l:List zg} {e n:Nat},qX e l->(mem (xj e l) n↔(e<=n/\n<ALL/\¬mem l n)):=by
 intro l
 induction l with
 |nil =>
  intro e n _;unfold xj;split
  ·rw[mem_cons];simp only[x8,or_false,not_false_eq_true,and_true]
  ·simp only[x8,not_false_eq_true,and_true,false_iff];omega
 |cons s r ih =>
  intro e n h;obtain⟨h1,h2,h3,h4⟩:=h;have hr:=ih (n:=n) (h4.mono (Nat.le_succ s.2));have hg:mem r n->s.2+1<=n:=h4.ge;unfold xj;rw[mem_cons (s:=s)];split
  ·rw[mem_cons,hr];simp only
   by_cases hm:mem r n
   ·have:=hg hm;simp[hm];omega
   ·simp only[hm,not_false_eq_true,and_true,or_false];omega
  ·rw[hr]
   by_cases hm:mem r n
   ·simp[hm]
   ·simp only[hm,not_false_eq_true,and_true,or_false];omega
def yy:List zg->List zg->List zg
 |[],_=>[]
 |_ :: _,[]=>[]
 |s :: r,t :: q =>(if max s.1 t.1<min s.2 t.2 then [(max s.1 t.1,min s.2 t.2)] else [])++(if s.2<t.2 then yy r (t :: q) else yy (s :: r) q)
termination_by l m=>l.length+m.length
theorem zkM(l:List zg):yy l []=[]:=by cases l<;>simp[yy]
theorem zb6{lo:Nat}{c:Prop}[Decidable c]{s:zg}{r:List zg}(h1:c->lo<=s.1/\s.1<s.2/\s.2<=ALL/\qX (s.2+1) r)(h2:¬c->qX lo r):qX lo ((if c then [s] else [])++r):=by
 by_cases h:c
 ·rw[if_pos h];exact h1 h
 ·rw[if_neg h];exact h2 h
theorem zkR{n:Nat}{c:Prop}[Decidable c]{s:zg}{r:List zg}:mem ((if c then [s] else [])++r) n↔(c/\s.1<=n/\n<s.2)\/mem r n:=by
 by_cases h:c
 ·rw[if_pos h];simp only[List.cons_append,List.nil_append,h,true_and];exact mem_cons
 ·rw[if_neg h];simp[h]
theorem zjg:∀(k:Nat) {l m:List zg} {lo lo':Nat},l.length+m.length<=k->qX lo l->qX lo' m->qX (max lo lo') (yy l m):=by
 intro k
 induction k with
 |zero =>intro l m lo lo' hk _ _;obtain rfl:l=[]:=List.length_eq_zero_iff.1 (by omega);simp only[yy];trivial
 |succ k ih =>
  intro l m lo lo' hk hl hm;cases l with
  |nil=>simp only[yy];trivial
  |cons s r =>
   cases m with
   |nil=>simp only[yy];trivial
   |cons t q =>
    rw[yy];simp only[List.length_cons] at hk;have hl':=hl;have hm':=hm;obtain⟨h1,h2,h3,h4⟩:=hl;obtain⟨g1,g2,g3,g4⟩:=hm
    by_cases hlt:s.2<t.2
    ·rw[if_pos hlt];have:=ih (l:=r) (m:=t :: q) (lo:=s.2+1) (lo':=t.1) (by simp only[List.length_cons];omega) h4 ⟨Nat.le_refl _,g2,g3,g4⟩;refine zb6 (fun hc=>⟨by simp only;omega,hc,by simp only;omega,this.mono (by simp only;omega)⟩) (fun hc=>this.mono (by omega))
    ·rw[if_neg hlt];have:=ih (l:=s :: r) (m:=q) (lo:=s.1) (lo':=t.2+1) (by simp only[List.length_cons];omega) ⟨Nat.le_refl _,h2,h3,h4⟩ g4;refine zb6 (fun hc=>⟨by simp only;omega,hc,by simp only;omega,this.mono (by simp only;omega)⟩) (fun hc=>this.mono (by omega))
theorem zhX:∀(k:Nat) {l m:List zg} {lo lo' n:Nat},l.length+m.length<=k->qX lo l->qX lo' m->(mem (yy l m) n↔mem l n/\mem m n):=by
 intro k
 induction k with
 |zero =>intro l m lo lo' n hk _ _;obtain rfl:l=[]:=List.length_eq_zero_iff.1 (by omega);simp only[yy,x8,false_and]
 |succ k ih =>
  intro l m lo lo' n hk hl hm;cases l with
  |nil=>simp only[yy,x8,false_and]
  |cons s r =>
   cases m with
   |nil=>simp only[yy,x8,and_false]
   |cons t q =>
    rw[yy,zkR];simp only[List.length_cons] at hk;obtain⟨h1,h2,h3,h4⟩:=hl;obtain⟨g1,g2,g3,g4⟩:=hm;have hr:mem r n->s.2+1<=n:=h4.ge;have hq:mem q n->t.2+1<=n:=g4.ge
    by_cases hlt:s.2<t.2
    ·rw[if_pos hlt,ih (l:=r) (m:=t :: q) (lo:=s.2+1) (lo':=t.1) (by simp only[List.length_cons];omega) h4 ⟨Nat.le_refl _,g2,g3,g4⟩,mem_cons,mem_cons]
     by_cases a:mem r n<;>by_cases b:mem q n<;>simp only[a,b,or_true,or_false,and_true,true_and,false_and]<;>(try have:=hr a)<;>(try have:=hq b)<;>omega
    ·rw[if_neg hlt,ih (l:=s :: r) (m:=q) (lo:=s.1) (lo':=t.2+1) (by simp only[List.length_cons];omega) ⟨Nat.le_refl _,h2,h3,h4⟩ g4,mem_cons,mem_cons]
     by_cases a:mem r n<;>by_cases b:mem q n<;>simp only[a,b,or_true,or_false,and_true,and_false,true_and]<;>(try have:=hr a)<;>(try have:=hq b)<;>omega
abbrev Rg(l:List zg):Prop:=qX 0 l
def nt(l:List zg):List zg:=xj 0 l
def nd(l m:List zg):List zg:=yy l m
def orr(l m:List zg):List zg:=nt (nd (nt l) (nt m))
def zq(a b:Nat):List zg:=if a<b then [(a,b)] else []
def zt:List zg:=[(0,ALL)]
theorem Ya:Rg zt:=⟨Nat.le_refl _,by decide,Nat.le_refl _,trivial⟩
theorem YP:Rg []:=trivial
theorem Kl{a b:Nat}(h:b<=ALL):Rg (zq a b):=by
 unfold zq;split
 ·exact⟨Nat.zero_le _,by assumption,h,trivial⟩
 ·trivial
theorem xY{l:List zg}(h:Rg l):Rg (nt l):=zjS h
theorem Qi{l m:List zg}(h:Rg l)(h':Rg m):Rg (nd l m):=(zjg _ zN h h').mono (Nat.zero_le _)
theorem J3{l m:List zg}(h:Rg l)(h':Rg m):Rg (orr l m):=xY (Qi (xY h) (xY h'))
theorem zgt{n:Nat}:mem zt n↔n<ALL:=by unfold zt;rw[mem_cons];simp[x8]
theorem zdu{a b n:Nat}:mem (zq a b) n↔a<=n/\n<b:=by
 unfold zq;split
 ·rw[mem_cons];simp[x8]
 ·simp only[x8,false_iff];omega
theorem zaU{l:List zg}{n:Nat}(h:Rg l):mem (nt l) n↔n<ALL/\¬mem l n:=by
 unfold nt;rw[znN h];simp
theorem zee{l m:List zg}{n:Nat}(h:Rg l)(h':Rg m):mem (nd l m) n↔mem l n/\mem m n:=zhX _ zN h h'
theorem zpc{l m:List zg}{n:Nat}(h:Rg l)(h':Rg m):mem (orr l m) n↔mem l n\/mem m n:=by
 unfold orr;rw[zaU (Qi (xY h) (xY h')),zee (xY h) (xY h'),zaU h,zaU h'];have h1:mem l n->n<ALL:=h.lt;have h2:mem m n->n<ALL:=h'.lt
 by_cases a:mem l n<;>by_cases b:mem m n<;>by_cases c:n<ALL<;>simp_all
theorem zg8{l m:List zg}(h:Rg l)(h':Rg m)(e:∀n,mem l n↔mem m n):l=m:=zip h h' e
end Go.Proofs.YtlmmkbnjhilbdaaGreatDoor.Sv
