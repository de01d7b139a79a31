/- pieces: a function that is ranged over. -/
import Derived.Shelf.LaysM
import Derived.Shelf.LaysC
import Derived.Shelf.Strconv.Itoa3
import Derived.Shelf.Strconv.Itoa4
import Derived.Shelf.Strconv.ParseIntPublic10
import Derived.Shelf.Strings.Search3
import Derived.Shelf.Strings.Count
import Derived.Shelf.Strings.Cut
import Derived.Shelf.Small.Strs
import Derived.Shelf.Strings.SlTrimAscii
import Derived.Test.YtlahnpmoeefapaaGreatDoorProg
import Derived.RangeFuncNested
import Derived.RangeFuncBound
import Derived.RangeFuncCalls
import Derived.RangeFuncLeaves
import Derived.Shelf.Abstract
import Derived.Shelf.RegionOpen
import Derived.WalkKit
import Derived.OwnWalkIn
import Derived.TacticsInMore
import Derived.LoopNIn
import Derived.LoopIn
import Derived.Lib.Hide
set_option maxHeartbeats 4000000
set_option maxRecDepth 100000
namespace Go.Proofs
open Go.Shelf
def Tryz.lays161_ren:Go.Shelf.Ren:=⟨fun | 161=>237 | 231=>286 | 227=>287 | 233=>288 | 235=>289 | 228=>327 | 197=>295 | 151=>328 | 260=>330 | 152=>343 | 137=>174 | 119=>346 | 224=>292 | 225=>291 | 217=>234 | 266=>283 | n=>n,fun | 9=>9 | 4=>4 | 3=>3 | 5=>5 | 117=>395 | 116=>394 | 0=>0 | 124=>398 | 105=>401 | 21=>21 | 119=>452 | 46=>48 | 139=>455 | 138=>454 | n=>n,fun | 3=>10 | 4=>11 | n=>n⟩
theorem Tryz.lays161:Go.Proofs.Lays.n161 Tryz.prog Tryz.lays161_ren:={
 mixed:=by kernel_rfl
 f119:=Tryz.func346.trans (congrArg some (by kernel_rfl))
 f137:=Tryz.func174.trans (congrArg some (by kernel_rfl))
 f151:=Tryz.func328.trans (congrArg some (by kernel_rfl))
 f152:=Tryz.func343.trans (congrArg some (by kernel_rfl))
 f161:=Tryz.func237.trans (congrArg some (by kernel_rfl))
 f197:=Tryz.func295.trans (congrArg some (by kernel_rfl))
 f217:=Tryz.func234.trans (congrArg some (by kernel_rfl))
 f224:=Tryz.func292.trans (congrArg some (by kernel_rfl))
 f225:=Tryz.func291.trans (congrArg some (by kernel_rfl))
 f227:=Tryz.func287.trans (congrArg some (by kernel_rfl))
 f228:=Tryz.func327.trans (congrArg some (by kernel_rfl))
 f231:=Tryz.func286.trans (congrArg some (by kernel_rfl))
 f233:=Tryz.func288.trans (congrArg some (by kernel_rfl))
 f235:=Tryz.func289.trans (congrArg some (by kernel_rfl))
 f260:=Tryz.func330.trans (congrArg some (by kernel_rfl))
 f266:=Tryz.func283.trans (congrArg some (by kernel_rfl))
 t0:=Tryz.underlying0
 a0:=Tryz.isAgg0
 z0:=Tryz.sizeOf0
 v0:=Tryz.zeroValue0
 t3:=Tryz.underlying3
 a3:=Tryz.isAgg3
 z3:=Tryz.sizeOf3
 v3:=Tryz.zeroValue3
 t4:=Tryz.underlying4
 a4:=Tryz.isAgg4
 z4:=Tryz.sizeOf4
 v4:=Tryz.zeroValue4
 t5:=Tryz.underlying5
 a5:=Tryz.isAgg5
 z5:=Tryz.sizeOf5
 v5:=Tryz.zeroValue5
 t9:=Tryz.underlying9
 a9:=Tryz.isAgg9
 z9:=Tryz.sizeOf9
 v9:=Tryz.zeroValue9
 t21:=Tryz.underlying21
 a21:=Tryz.isAgg21
 z21:=Tryz.sizeOf21
 v21:=Tryz.zeroValue21
 t46:=Tryz.underlying48
 a46:=Tryz.isAgg48
 z46:=Tryz.sizeOf48
 v46:=Tryz.zeroValue48
 t105:=Tryz.underlying401
 a105:=Tryz.isAgg401
 z105:=Tryz.sizeOf401
 v105:=Tryz.zeroValue401
 t116:=Tryz.underlying394
 a116:=Tryz.isAgg394
 z116:=Tryz.sizeOf394
 t117:=Tryz.underlying395
 a117:=Tryz.isAgg395
 z117:=Tryz.sizeOf395
 v117:=Tryz.zeroValue395
 t119:=Tryz.underlying452
 a119:=Tryz.isAgg452
 z119:=Tryz.sizeOf452
 t124:=Tryz.underlying398
 a124:=Tryz.isAgg398
 z124:=Tryz.sizeOf398
 v124:=Tryz.zeroValue398
 t138:=Tryz.underlying454
 a138:=Tryz.isAgg454
 z138:=Tryz.sizeOf454
 v138:=Tryz.zeroValue454
 t139:=Tryz.underlying455
 a139:=Tryz.isAgg455
 z139:=Tryz.sizeOf455
 v139:=Tryz.zeroValue455
 g3:=by kernel_rfl
 g4:=by kernel_rfl }
def Tryz.lays106_ren:Go.Shelf.Ren:=⟨fun | 106=>233 | 213=>282 | 265=>321 | n=>n,fun | 9=>9 | 3=>3 | n=>n,fun | n=>n⟩
theorem Tryz.lays106:Go.Proofs.Lays.n106 Tryz.prog Tryz.lays106_ren:={
 mixed:=by kernel_rfl
 f106:=Tryz.func233.trans (congrArg some (by kernel_rfl))
 f213:=Tryz.func282.trans (congrArg some (by kernel_rfl))
 f265:=Tryz.func321.trans (congrArg some (by kernel_rfl))
 t3:=Tryz.underlying3
 a3:=Tryz.isAgg3
 z3:=Tryz.sizeOf3
 v3:=Tryz.zeroValue3
 t9:=Tryz.underlying9
 a9:=Tryz.isAgg9
 z9:=Tryz.sizeOf9
 v9:=Tryz.zeroValue9 }
open Go.RowKit in
theorem Tryz.strings_Compare (a b:ByteArray) (w:World) :
  Calls Tryz.prog 233 #[.string a,.string b] w fun e w'=>e=.returned (.int .i64 (Lib.compareBytes a.data.toList b.data.toList))/\w'=w:=Any.strings_Compare Tryz.lays106 a b w
def Tryz.laysM173_ren:Go.Shelf.Ren:=⟨fun | 173=>236 | 246=>211 | 283=>207 | 284=>208 | 285=>209 | 286=>210 | 129=>267 | 317=>266 | 318=>268 | 319=>269 | 320=>270 | 337=>307 | 338=>308 | n=>n,fun | 2=>2 | 3=>3 | 9=>9 | 4=>4 | 171=>320 | 0=>0 | 53=>150 | 37=>148 | 5=>5 | 173=>323 | 212=>380 | 51=>381 | 20=>20 | 213=>382 | 46=>48 | 232=>438 | 233=>439 | n=>n,fun | 17=>4 | 18=>6 | 19=>7 | n=>n⟩
theorem Tryz.laysM173:Go.Proofs.LaysM.n173 Tryz.prog Tryz.laysM173_ren:={
 mixed:=by kernel_rfl
 f129:=Tryz.func267.trans (congrArg some (by kernel_rfl))
 f173:=Tryz.func236.trans (congrArg some (by kernel_rfl))
 f246:=Tryz.func211.trans (congrArg some (by kernel_rfl))
 f283:=Tryz.func207.trans (congrArg some (by kernel_rfl))
 f284:=Tryz.func208.trans (congrArg some (by kernel_rfl))
 f285:=Tryz.func209.trans (congrArg some (by kernel_rfl))
 f286:=Tryz.func210.trans (congrArg some (by kernel_rfl))
 f317:=Tryz.func266.trans (congrArg some (by kernel_rfl))
 f318:=Tryz.func268.trans (congrArg some (by kernel_rfl))
 f319:=Tryz.func269.trans (congrArg some (by kernel_rfl))
 f320:=Tryz.func270.trans (congrArg some (by kernel_rfl))
 f337:=Tryz.func307.trans (congrArg some (by kernel_rfl))
 f338:=Tryz.func308.trans (congrArg some (by kernel_rfl))
 t0:=Tryz.underlying0
 a0:=Tryz.isAgg0
 z0:=Tryz.sizeOf0
 v0:=Tryz.zeroValue0
 t2:=Tryz.underlying2
 a2:=Tryz.isAgg2
 z2:=Tryz.sizeOf2
 v2:=Tryz.zeroValue2
 t3:=Tryz.underlying3
 a3:=Tryz.isAgg3
 z3:=Tryz.sizeOf3
 v3:=Tryz.zeroValue3
 t4:=Tryz.underlying4
 a4:=Tryz.isAgg4
 z4:=Tryz.sizeOf4
 v4:=Tryz.zeroValue4
 t5:=Tryz.underlying5
 a5:=Tryz.isAgg5
 z5:=Tryz.sizeOf5
 v5:=Tryz.zeroValue5
 t9:=Tryz.underlying9
 a9:=Tryz.isAgg9
 z9:=Tryz.sizeOf9
 v9:=Tryz.zeroValue9
 t20:=Tryz.underlying20
 a20:=Tryz.isAgg20
 z20:=Tryz.sizeOf20
 v20:=Tryz.zeroValue20
 t37:=Tryz.underlying148
 a37:=Tryz.isAgg148
 z37:=Tryz.sizeOf148
 v37:=Tryz.zeroValue148
 t46:=Tryz.underlying48
 a46:=Tryz.isAgg48
 z46:=Tryz.sizeOf48
 v46:=Tryz.zeroValue48
 t51:=Tryz.underlying381
 a51:=Tryz.isAgg381
 z51:=Tryz.sizeOf381
 v51:=Tryz.zeroValue381
 t53:=Tryz.underlying150
 a53:=Tryz.isAgg150
 z53:=Tryz.sizeOf150
 v53:=Tryz.zeroValue150
 t171:=Tryz.underlying320
 a171:=Tryz.isAgg320
 z171:=Tryz.sizeOf320
 v171:=Tryz.zeroValue320
 t173:=Tryz.underlying323
 a173:=Tryz.isAgg323
 z173:=Tryz.sizeOf323
 v173:=Tryz.zeroValue323
 t212:=Tryz.underlying380
 a212:=Tryz.isAgg380
 z212:=Tryz.sizeOf380
 v212:=Tryz.zeroValue380
 t213:=Tryz.underlying382
 a213:=Tryz.isAgg382
 z213:=Tryz.sizeOf382
 t232:=Tryz.underlying438
 a232:=Tryz.isAgg438
 z232:=Tryz.sizeOf438
 v232:=Tryz.zeroValue438
 t233:=Tryz.underlying439
 a233:=Tryz.isAgg439
 z233:=Tryz.sizeOf439
 v233:=Tryz.zeroValue439
 g17:=by kernel_rfl
 g18:=by kernel_rfl
 g19:=by kernel_rfl
 i0:=by kernel_rfl
 i2:=by kernel_rfl
 i3:=by kernel_rfl
 i4:=by kernel_rfl
 i5:=by kernel_rfl
 i9:=by kernel_rfl
 i20:=by kernel_rfl
 i37:=by kernel_rfl
 i46:=by kernel_rfl
 i51:=by kernel_rfl
 i53:=by kernel_rfl
 i171:=by kernel_rfl
 i173:=by kernel_rfl
 i212:=by kernel_rfl
 i232:=by kernel_rfl
 i233:=by kernel_rfl
 m17:=by kernel_rfl
 m18:=by kernel_rfl
 m19:=by kernel_rfl }
open Go.RowKit Go.Sort Go.Lib in
theorem Tryz.strconv_FormatInt_10 (n:Int) (h0:-9223372036854775808<=n) (h1:n<=9223372036854775807) (w:World) (htab:Lib.TabIs Tryz.prog w "internal/strconv.uint64pow10" .u64 Lib.pow10Tab) :
  Calls Tryz.prog 236 #[.int .i64 n,.int .i64 10] w fun e w'=>e=.returned (.string ⟨(Lib.itoa n).toArray⟩)/\∃ k os,w'=grow (w.drewN k) os:=Any.strconv_FormatInt_10 Tryz.laysM173 n h0 h1 w htab
def Tryz.laysC174_ren:Go.Shelf.Ren:=⟨fun | 174=>235 | 247=>284 | 245=>285 | 287=>322 | 279=>323 | 280=>324 | 281=>325 | 282=>326 | 321=>339 | 322=>340 | 316=>341 | 171=>71 | 205=>342 | 243=>148 | 246=>211 | 283=>207 | 284=>208 | 285=>209 | 286=>210 | 129=>267 | 317=>266 | 318=>268 | 319=>269 | 320=>270 | 337=>307 | 338=>308 | n=>n,fun | 9=>9 | 3=>3 | 2=>2 | 75=>31 | 85=>355 | 4=>4 | 167=>423 | 5=>5 | 53=>150 | 175=>424 | 46=>48 | 168=>426 | 37=>148 | 0=>0 | 210=>449 | 21=>21 | 127=>305 | 145=>460 | 143=>458 | 171=>320 | 173=>323 | 212=>380 | 51=>381 | 20=>20 | 213=>382 | 232=>438 | 233=>439 | 80=>45 | n=>n,fun | 15=>8 | 16=>9 | 17=>4 | 18=>6 | 19=>7 | n=>n⟩
theorem Tryz.laysC174:Go.Proofs.LaysC.n174 Tryz.prog Tryz.laysC174_ren:={
 mixed:=by kernel_rfl
 f129:=Tryz.func267.trans (congrArg some (by kernel_rfl))
 f171:=Tryz.func71.trans (congrArg some (by kernel_rfl))
 f174:=Tryz.func235.trans (congrArg some (by kernel_rfl))
 f205:=Tryz.func342.trans (congrArg some (by kernel_rfl))
 f243:=Tryz.func148.trans (congrArg some (by kernel_rfl))
 f245:=Tryz.func285.trans (congrArg some (by kernel_rfl))
 f246:=Tryz.func211.trans (congrArg some (by kernel_rfl))
 f247:=Tryz.func284.trans (congrArg some (by kernel_rfl))
 f279:=Tryz.func323.trans (congrArg some (by kernel_rfl))
 f280:=Tryz.func324.trans (congrArg some (by kernel_rfl))
 f281:=Tryz.func325.trans (congrArg some (by kernel_rfl))
 f282:=Tryz.func326.trans (congrArg some (by kernel_rfl))
 f283:=Tryz.func207.trans (congrArg some (by kernel_rfl))
 f284:=Tryz.func208.trans (congrArg some (by kernel_rfl))
 f285:=Tryz.func209.trans (congrArg some (by kernel_rfl))
 f286:=Tryz.func210.trans (congrArg some (by kernel_rfl))
 f287:=Tryz.func322.trans (congrArg some (by kernel_rfl))
 f316:=Tryz.func341.trans (congrArg some (by kernel_rfl))
 f317:=Tryz.func266.trans (congrArg some (by kernel_rfl))
 f318:=Tryz.func268.trans (congrArg some (by kernel_rfl))
 f319:=Tryz.func269.trans (congrArg some (by kernel_rfl))
 f320:=Tryz.func270.trans (congrArg some (by kernel_rfl))
 f321:=Tryz.func339.trans (congrArg some (by kernel_rfl))
 f322:=Tryz.func340.trans (congrArg some (by kernel_rfl))
 f337:=Tryz.func307.trans (congrArg some (by kernel_rfl))
 f338:=Tryz.func308.trans (congrArg some (by kernel_rfl))
 t0:=Tryz.underlying0
 a0:=Tryz.isAgg0
 z0:=Tryz.sizeOf0
 v0:=Tryz.zeroValue0
 t2:=Tryz.underlying2
 a2:=Tryz.isAgg2
 z2:=Tryz.sizeOf2
 v2:=Tryz.zeroValue2
 t3:=Tryz.underlying3
 a3:=Tryz.isAgg3
 z3:=Tryz.sizeOf3
 v3:=Tryz.zeroValue3
 t4:=Tryz.underlying4
 a4:=Tryz.isAgg4
 z4:=Tryz.sizeOf4
 v4:=Tryz.zeroValue4
 t5:=Tryz.underlying5
 a5:=Tryz.isAgg5
 z5:=Tryz.sizeOf5
 v5:=Tryz.zeroValue5
 t9:=Tryz.underlying9
 a9:=Tryz.isAgg9
 z9:=Tryz.sizeOf9
 v9:=Tryz.zeroValue9
 t20:=Tryz.underlying20
 a20:=Tryz.isAgg20
 z20:=Tryz.sizeOf20
 v20:=Tryz.zeroValue20
 t21:=Tryz.underlying21
 a21:=Tryz.isAgg21
 z21:=Tryz.sizeOf21
 v21:=Tryz.zeroValue21
 t37:=Tryz.underlying148
 a37:=Tryz.isAgg148
 z37:=Tryz.sizeOf148
 v37:=Tryz.zeroValue148
 t46:=Tryz.underlying48
 a46:=Tryz.isAgg48
 z46:=Tryz.sizeOf48
 v46:=Tryz.zeroValue48
 t51:=Tryz.underlying381
 a51:=Tryz.isAgg381
 z51:=Tryz.sizeOf381
 v51:=Tryz.zeroValue381
 t53:=Tryz.underlying150
 a53:=Tryz.isAgg150
 z53:=Tryz.sizeOf150
 v53:=Tryz.zeroValue150
 t75:=Tryz.underlying31
 a75:=Tryz.isAgg31
 z75:=Tryz.sizeOf31
 v75:=Tryz.zeroValue31
 t85:=Tryz.underlying355
 a85:=Tryz.isAgg355
 z85:=Tryz.sizeOf355
 v85:=Tryz.zeroValue355
 t127:=Tryz.underlying305
 a127:=Tryz.isAgg305
 z127:=Tryz.sizeOf305
 v127:=Tryz.zeroValue305
 t143:=Tryz.underlying458
 a143:=Tryz.isAgg458
 z143:=Tryz.sizeOf458
 v143:=Tryz.zeroValue458
 t145:=Tryz.underlying460
 a145:=Tryz.isAgg460
 z145:=Tryz.sizeOf460
 v145:=Tryz.zeroValue460
 t167:=Tryz.underlying423
 a167:=Tryz.isAgg423
 z167:=Tryz.sizeOf423
 v167:=Tryz.zeroValue423
 t168:=Tryz.underlying426
 a168:=Tryz.isAgg426
 z168:=Tryz.sizeOf426
 v168:=Tryz.zeroValue426
 t171:=Tryz.underlying320
 a171:=Tryz.isAgg320
 z171:=Tryz.sizeOf320
 v171:=Tryz.zeroValue320
 t173:=Tryz.underlying323
 a173:=Tryz.isAgg323
 z173:=Tryz.sizeOf323
 v173:=Tryz.zeroValue323
 t175:=Tryz.underlying424
 a175:=Tryz.isAgg424
 z175:=Tryz.sizeOf424
 v175:=Tryz.zeroValue424
 t210:=Tryz.underlying449
 a210:=Tryz.isAgg449
 z210:=Tryz.sizeOf449
 v210:=Tryz.zeroValue449
 t212:=Tryz.underlying380
 a212:=Tryz.isAgg380
 z212:=Tryz.sizeOf380
 v212:=Tryz.zeroValue380
 t213:=Tryz.underlying382
 a213:=Tryz.isAgg382
 z213:=Tryz.sizeOf382
 t232:=Tryz.underlying438
 a232:=Tryz.isAgg438
 z232:=Tryz.sizeOf438
 v232:=Tryz.zeroValue438
 t233:=Tryz.underlying439
 a233:=Tryz.isAgg439
 z233:=Tryz.sizeOf439
 v233:=Tryz.zeroValue439
 g15:=by kernel_rfl
 g16:=by kernel_rfl
 g17:=by kernel_rfl
 g18:=by kernel_rfl
 g19:=by kernel_rfl
 t80:=Tryz.underlying45
 a80:=Tryz.isAgg45
 z80:=Tryz.sizeOf45
 v80:=Tryz.zeroValue45
 i0:=by kernel_rfl
 i2:=by kernel_rfl
 i3:=by kernel_rfl
 i4:=by kernel_rfl
 i5:=by kernel_rfl
 i9:=by kernel_rfl
 i20:=by kernel_rfl
 i21:=by kernel_rfl
 i37:=by kernel_rfl
 i46:=by kernel_rfl
 i51:=by kernel_rfl
 i53:=by kernel_rfl
 i75:=by kernel_rfl
 i80:=by kernel_rfl
 i85:=by kernel_rfl
 i127:=by kernel_rfl
 i143:=by kernel_rfl
 i145:=by kernel_rfl
 i167:=by kernel_rfl
 i168:=by kernel_rfl
 i171:=by kernel_rfl
 i173:=by kernel_rfl
 i175:=by kernel_rfl
 i210:=by kernel_rfl
 i212:=by kernel_rfl
 i232:=by kernel_rfl
 i233:=by kernel_rfl
 m15:=by kernel_rfl
 m16:=by kernel_rfl
 m17:=by kernel_rfl
 m18:=by kernel_rfl
 m19:=by kernel_rfl
 c0:=by kernel_rfl
 c2:=by kernel_rfl
 c3:=by kernel_rfl
 c4:=by kernel_rfl
 c5:=by kernel_rfl
 c9:=by kernel_rfl
 c20:=by kernel_rfl
 c21:=by kernel_rfl
 c37:=by kernel_rfl
 c46:=by kernel_rfl
 c51:=by kernel_rfl
 c53:=by kernel_rfl
 c75:=by kernel_rfl
 c80:=by kernel_rfl
 c85:=by kernel_rfl
 c127:=by kernel_rfl
 c143:=by kernel_rfl
 c145:=by kernel_rfl
 c167:=by kernel_rfl
 c168:=by kernel_rfl
 c171:=by kernel_rfl
 c173:=by kernel_rfl
 c175:=by kernel_rfl
 c210:=by kernel_rfl
 c212:=by kernel_rfl
 c213:=by kernel_rfl
 c232:=by kernel_rfl
 c233:=by kernel_rfl }
open Go.RowKit in
theorem Tryz.strconv_ParseInt_10_at64_ok (s:ByteArray) (hmax:s.size<=9223372036854775806) (v:Int) (h:Lib.parseIntB 64 s.data.toList=.ok v) (w:World) :
  Calls Tryz.prog 235 #[.string s,.int .i64 10,.int .i64 64] w fun e w'=>e=.returned (.tuple #[.int .i64 v,.nilIface])/\(w'=w\/∃ t,w'=Lib.bytesWorld w 5 t):=Any.strconv_ParseInt_10_at64_ok Tryz.laysC174 s hmax v h w
open Go.RowKit in
theorem Tryz.strconv_ParseInt_10_at64_syntax (s:ByteArray) (hlim:s.size<=281474976710656) (h:Lib.parseIntB 64 s.data.toList=.«syntax») (ev:Value) (w:World) (hv:w.cell? ⟨8,0,none⟩=some ev) (hev:ev=.nilIface\/∃ te pe,ev=.iface te pe) :
  Calls Tryz.prog 235 #[.string s,.int .i64 10,.int .i64 64] w fun e w'=>∃ N,e=.returned (.tuple #[.int .i64 (0),.iface 426 (.pointer (some ⟨N,0,none⟩))])/\w.heap.size<=N/\w'.heap[N]?=some (.cells #[.string ⟨#[80,97,114,115,101,73,110,116]⟩,.string s,ev] 449 (0,0))/\Below w.heap.size w w':=Any.strconv_ParseInt_10_at64_syntax Tryz.laysC174 s hlim h ev w hv hev
open Go.RowKit in
theorem Tryz.strconv_ParseInt_10_at64_range (s:ByteArray) (hlim:s.size<=281474976710656) (h:Lib.parseIntB 64 s.data.toList=.range) (ev:Value) (w:World) (hv:w.cell? ⟨9,0,none⟩=some ev) (hev:ev=.nilIface\/∃ te pe,ev=.iface te pe) :
  Calls Tryz.prog 235 #[.string s,.int .i64 10,.int .i64 64] w fun e w'=>∃ N,e=.returned (.tuple #[.int .i64 (Lib.intSat 64 s.data.toList),.iface 426 (.pointer (some ⟨N,0,none⟩))])/\w.heap.size<=N/\w'.heap[N]?=some (.cells #[.string ⟨#[80,97,114,115,101,73,110,116]⟩,.string s,ev] 449 (0,0))/\Below w.heap.size w w':=Any.strconv_ParseInt_10_at64_range Tryz.laysC174 s hlim h ev w hv hev
def Tryz.lays143_ren:Go.Shelf.Ren:=⟨fun | 143=>223 | 219=>243 | 217=>234 | 225=>291 | 224=>292 | 267=>293 | 266=>283 | 314=>329 | n=>n,fun | 9=>9 | 3=>3 | 4=>4 | 5=>5 | 46=>48 | 146=>431 | 51=>381 | n=>n,fun | 1=>5 | n=>n⟩
theorem Tryz.lays143:Go.Proofs.Lays.n143 Tryz.prog Tryz.lays143_ren:={
 mixed:=by kernel_rfl
 f143:=Tryz.func223.trans (congrArg some (by kernel_rfl))
 f217:=Tryz.func234.trans (congrArg some (by kernel_rfl))
 f219:=Tryz.func243.trans (congrArg some (by kernel_rfl))
 f224:=Tryz.func292.trans (congrArg some (by kernel_rfl))
 f225:=Tryz.func291.trans (congrArg some (by kernel_rfl))
 f266:=Tryz.func283.trans (congrArg some (by kernel_rfl))
 f267:=Tryz.func293.trans (congrArg some (by kernel_rfl))
 f314:=Tryz.func329.trans (congrArg some (by kernel_rfl))
 t3:=Tryz.underlying3
 a3:=Tryz.isAgg3
 z3:=Tryz.sizeOf3
 v3:=Tryz.zeroValue3
 t4:=Tryz.underlying4
 a4:=Tryz.isAgg4
 z4:=Tryz.sizeOf4
 v4:=Tryz.zeroValue4
 t5:=Tryz.underlying5
 a5:=Tryz.isAgg5
 z5:=Tryz.sizeOf5
 v5:=Tryz.zeroValue5
 t9:=Tryz.underlying9
 a9:=Tryz.isAgg9
 z9:=Tryz.sizeOf9
 v9:=Tryz.zeroValue9
 t46:=Tryz.underlying48
 a46:=Tryz.isAgg48
 z46:=Tryz.sizeOf48
 v46:=Tryz.zeroValue48
 t51:=Tryz.underlying381
 a51:=Tryz.isAgg381
 z51:=Tryz.sizeOf381
 v51:=Tryz.zeroValue381
 t146:=Tryz.underlying431
 a146:=Tryz.isAgg431
 z146:=Tryz.sizeOf431
 v146:=Tryz.zeroValue431
 g1:=by kernel_rfl }
open Go.RowKit Go.Lib in
theorem Tryz.strings_Index (s sub:ByteArray) (m:Int) (w:World) (hs:s.size<4294967281) (hm:w.cell? ⟨5,0,none⟩=some (.int .i64 m)) :
  Calls Tryz.prog 223 #[.string s,.string sub] w fun e w'=>e=.returned (.int .i64 (Lib.index s.data.toList sub.data.toList))/\w'=w:=Any.strings_Index Tryz.lays143 s sub m w hs hm
def Tryz.lays145_ren:Go.Shelf.Ren:=⟨fun | 145=>107 | 220=>180 | 219=>243 | 217=>234 | 225=>291 | 224=>292 | 267=>293 | 266=>283 | 314=>329 | n=>n,fun | 9=>9 | 4=>4 | 59=>199 | 3=>3 | 5=>5 | 46=>48 | 146=>431 | 51=>381 | n=>n,fun | 1=>5 | n=>n⟩
theorem Tryz.lays145:Go.Proofs.Lays.n145 Tryz.prog Tryz.lays145_ren:={
 mixed:=by kernel_rfl
 f145:=Tryz.func107.trans (congrArg some (by kernel_rfl))
 f217:=Tryz.func234.trans (congrArg some (by kernel_rfl))
 f219:=Tryz.func243.trans (congrArg some (by kernel_rfl))
 f220:=Tryz.func180.trans (congrArg some (by kernel_rfl))
 f224:=Tryz.func292.trans (congrArg some (by kernel_rfl))
 f225:=Tryz.func291.trans (congrArg some (by kernel_rfl))
 f266:=Tryz.func283.trans (congrArg some (by kernel_rfl))
 f267:=Tryz.func293.trans (congrArg some (by kernel_rfl))
 f314:=Tryz.func329.trans (congrArg some (by kernel_rfl))
 t3:=Tryz.underlying3
 a3:=Tryz.isAgg3
 z3:=Tryz.sizeOf3
 v3:=Tryz.zeroValue3
 t4:=Tryz.underlying4
 a4:=Tryz.isAgg4
 z4:=Tryz.sizeOf4
 v4:=Tryz.zeroValue4
 t5:=Tryz.underlying5
 a5:=Tryz.isAgg5
 z5:=Tryz.sizeOf5
 v5:=Tryz.zeroValue5
 t9:=Tryz.underlying9
 a9:=Tryz.isAgg9
 z9:=Tryz.sizeOf9
 v9:=Tryz.zeroValue9
 t46:=Tryz.underlying48
 a46:=Tryz.isAgg48
 z46:=Tryz.sizeOf48
 v46:=Tryz.zeroValue48
 t51:=Tryz.underlying381
 a51:=Tryz.isAgg381
 z51:=Tryz.sizeOf381
 v51:=Tryz.zeroValue381
 t59:=Tryz.underlying199
 a59:=Tryz.isAgg199
 z59:=Tryz.sizeOf199
 v59:=Tryz.zeroValue199
 t146:=Tryz.underlying431
 a146:=Tryz.isAgg431
 z146:=Tryz.sizeOf431
 v146:=Tryz.zeroValue431
 g1:=by kernel_rfl }
open Go.RowKit Go.Lib in
theorem Tryz.strings_Cut (s sep:ByteArray) (m:Int) (w:World) (hs:s.size<4294967281) (hm:w.cell? ⟨5,0,none⟩=some (.int .i64 m)) :
  Calls Tryz.prog 107 #[.string s,.string sep] w fun e w'=>e=.returned (.tuple #[.string ⟨(Lib.cut s.data.toList sep.data.toList).1.toArray⟩,.string ⟨(Lib.cut s.data.toList sep.data.toList).2.1.toArray⟩,.bool (Lib.cut s.data.toList sep.data.toList).2.2])/\∃ n,w'=w.drewN n:=Any.strings_Cut Tryz.lays145 s sep m w hs hm
def Tryz.lays138_ren:Go.Shelf.Ren:=⟨fun | 138=>181 | 195=>244 | 218=>245 | 143=>223 | 219=>243 | 217=>234 | 225=>291 | 224=>292 | 267=>293 | 266=>283 | 314=>329 | n=>n,fun | 9=>9 | 3=>3 | 4=>4 | 5=>5 | 0=>0 | 46=>48 | 146=>431 | 51=>381 | n=>n,fun | 1=>5 | n=>n⟩
theorem Tryz.lays138:Go.Proofs.Lays.n138 Tryz.prog Tryz.lays138_ren:={
 mixed:=by kernel_rfl
 f138:=Tryz.func181.trans (congrArg some (by kernel_rfl))
 f143:=Tryz.func223.trans (congrArg some (by kernel_rfl))
 f195:=Tryz.func244.trans (congrArg some (by kernel_rfl))
 f217:=Tryz.func234.trans (congrArg some (by kernel_rfl))
 f218:=Tryz.func245.trans (congrArg some (by kernel_rfl))
 f219:=Tryz.func243.trans (congrArg some (by kernel_rfl))
 f224:=Tryz.func292.trans (congrArg some (by kernel_rfl))
 f225:=Tryz.func291.trans (congrArg some (by kernel_rfl))
 f266:=Tryz.func283.trans (congrArg some (by kernel_rfl))
 f267:=Tryz.func293.trans (congrArg some (by kernel_rfl))
 f314:=Tryz.func329.trans (congrArg some (by kernel_rfl))
 t0:=Tryz.underlying0
 a0:=Tryz.isAgg0
 z0:=Tryz.sizeOf0
 v0:=Tryz.zeroValue0
 t3:=Tryz.underlying3
 a3:=Tryz.isAgg3
 z3:=Tryz.sizeOf3
 v3:=Tryz.zeroValue3
 t4:=Tryz.underlying4
 a4:=Tryz.isAgg4
 z4:=Tryz.sizeOf4
 v4:=Tryz.zeroValue4
 t5:=Tryz.underlying5
 a5:=Tryz.isAgg5
 z5:=Tryz.sizeOf5
 v5:=Tryz.zeroValue5
 t9:=Tryz.underlying9
 a9:=Tryz.isAgg9
 z9:=Tryz.sizeOf9
 v9:=Tryz.zeroValue9
 t46:=Tryz.underlying48
 a46:=Tryz.isAgg48
 z46:=Tryz.sizeOf48
 v46:=Tryz.zeroValue48
 t51:=Tryz.underlying381
 a51:=Tryz.isAgg381
 z51:=Tryz.sizeOf381
 v51:=Tryz.zeroValue381
 t146:=Tryz.underlying431
 a146:=Tryz.isAgg431
 z146:=Tryz.sizeOf431
 v146:=Tryz.zeroValue431
 g1:=by kernel_rfl }
open Go.RowKit Go.Lib in
theorem Tryz.strings_Count_one (s:ByteArray) (c:UInt8) (w:World) :
  Calls Tryz.prog 181 #[.string s,.string ⟨#[c]⟩] w fun e w'=>e=.returned (.int .i64 (Lib.countByte s.data.toList c))/\w'=w:=Any.strings_Count_one Tryz.lays138 s c w
end Go.Proofs
namespace Go.Proofs.YtlahnpmoeefapaaGreatDoor
open Go.RowKit Go.Shelf
attribute [local go_sem] Oper.semAt_some
theorem pieces_in (s m:ByteArray) (w:World) :
  CallsIn Fence.wide 3 Tryz.prog 168 #[.string s,.string m] w fun e w'=>e=.returned (.func (.func 222) #[] #[.pointer (some ⟨w.heap.size,0,none⟩),.pointer (some ⟨w.heap.size + 1,0,none⟩)])/\w'=(w.alloc (.cells #[.string s] 9)).alloc (.cells #[.string m] 9):=by
 refine callsIn_of_wp Tryz.func168 rfl trivial ?_ rfl
 simp only [Tryz.ntmps168,List.size_toArray,List.length_cons,List.length_nil,Nat.reduceAdd,Nat.reduceSub,Array.replicate_succ,Array.replicate_zero,List.push_toArray,List.append_toArray,List.nil_append,List.cons_append]
 gi_wp2
 go_ret
 exact ⟨rfl,rfl⟩
def cutB (s m:ByteArray):Nat->Nat->List (Nat × ByteArray)
 | 0,k=>[(k,s.extract k s.size)]
 | f + 1,k=>if Lib.index (s.extract k s.size).data.toList m.data.toList<0 then [(k,s.extract k s.size)] else (k,s.extract k (k + (Lib.index (s.extract k s.size).data.toList m.data.toList).toNat)) :: cutB s m f (k + (Lib.index (s.extract k s.size).data.toList m.data.toList).toNat + m.size)
theorem index_room:∀ (l sub:List UInt8),0<=Lib.index l sub->(Lib.index l sub).toNat + sub.length<=l.length:=by
 intro l
 induction l with
 | nil =>
  intro sub h
  unfold Lib.index at h ⊢
  cases sub with
  | nil=>simp
  | cons c t=>simp at h
 | cons b l ih =>
  intro sub h
  unfold Lib.index at h ⊢
  by_cases hp:sub.isPrefixOf (b :: l)=true
  ·rw [if_pos hp]
   have:=(List.isPrefixOf_iff_prefix.1 hp).length_le
   simpa using this
  ·rw [if_neg hp] at h ⊢
   by_cases he:Lib.index l sub=-1
   ·rw [if_pos (by simp [he])] at h;omega
   ·rw [if_neg (by simpa using he)] at h ⊢
    have:=ih sub (by omega)
    simp only [List.length_cons];omega
theorem cutB_pos (s m:ByteArray) (f k:Nat):0<(cutB s m f k).length:=by
 cases f with
 | zero=>simp [cutB]
 | succ f=>rw [cutB];split <;> simp
theorem cutB_end {s m:ByteArray} {k:Nat} (h:Lib.index (s.extract k s.size).data.toList m.data.toList<0):∀ f,cutB s m f k=[(k,s.extract k s.size)]
 | 0=>rfl
 | f + 1=>by rw [cutB,if_pos h]
theorem cutB_step {s m:ByteArray} {k f j:Nat} (h:Lib.index (s.extract k s.size).data.toList m.data.toList=(j:Int)):cutB s m (f + 1) k=(k,s.extract k (k + j)) :: cutB s m f (k + j + m.size):=by
 rw [cutB,if_neg (by omega),h];rfl
abbrev Pc:={ x:Nat × ByteArray // x.1<=100000/\x.2.size<=100000 }
abbrev raws (l:List Pc):List (Nat × ByteArray):=l.map Subtype.val
def Kp2 (bt bm:Nat) (W W':World):Prop:=W'.cell? ⟨bt,0,none⟩=W.cell? ⟨bt,0,none⟩/\W'.cell? ⟨bm,0,none⟩=W.cell? ⟨bm,0,none⟩/\W'.cell? ⟨5,0,none⟩=W.cell? ⟨5,0,none⟩
theorem pieces1_in (l bt bm:Nat) (s m:ByteArray) (hs:s.size<=100000) (hm:0<m.size) (J Jx:List Pc->World->Prop)
  (hJd:∀ pre W,J pre W->J pre W.drew)
  (hY:∀ pre x W,J pre W->pre.length<(cutB s m s.size 0).length->YieldAt Fence.wide (3 - 1) Tryz.prog l #[.int .i64 (x.1.1:Int),.string x.1.2] W fun e W' =>
   (e=.returned (.bool true)/\J (pre++[x]) W'/\Kp2 bt bm W W')\/(e=.returned (.bool false)/\Jx (pre++[x]) W'))
  (W:World) (h0:W.cell? ⟨bt,0,none⟩=some (.string s)) (h1:W.cell? ⟨bm,0,none⟩=some (.string m)) (n:Int) (hn0:W.cell? ⟨5,0,none⟩=some (.int .i64 n)) (hJ:J [] W) :
  CallsIn Fence.wide 3 Tryz.prog 222 #[.func (.yield l) #[] #[],.pointer (some ⟨bt,0,none⟩),.pointer (some ⟨bm,0,none⟩)] W fun e W'=>(∃ v,e=.returned v)/\((∃ ys,raws ys=cutB s m s.size 0/\J ys W')\/(∃ pre,raws pre <+: cutB s m s.size 0/\Jx pre W')):=by
 have HY:=Lib.hid hY
 have HJD:=Lib.hid hJd
 clear hY hJd
 refine callsIn_of_wp Tryz.func222 rfl trivial ?_ rfl
 simp only [Tryz.ntmps222,List.size_toArray,List.length_cons,List.length_nil,Nat.reduceAdd,Nat.reduceSub,Array.replicate_succ,Array.replicate_zero,List.push_toArray,List.append_toArray,List.nil_append,List.cons_append]
 gi_wp2
 gi_loopw [4] (fun p wr=>∃ (pre:List Pc) (k f:Nat),p=.int .i64 (k:Int)/\k<=s.size/\s.size<=k + f/\pre.length + f<=s.size/\raws pre++cutB s m f k=cutB s m s.size 0/\wr.cell? ⟨bt,0,none⟩=some (.string s)/\wr.cell? ⟨bm,0,none⟩=some (.string m)/\wr.cell? ⟨5,0,none⟩=some (.int .i64 n)/\J pre wr)
  (fun p _=>s.size + 1 - (intOf p).toNat)
 case atStart=>exact ⟨[],0,s.size,rfl,Nat.zero_le _,by omega,by simp,rfl,h0,h1,hn0,hJ⟩
 case round =>
  obtain ⟨pre,k,f,rfl,hk,hf,hpl,hcut,c0,c1,hn,hJs⟩:=hrel
  have HJ:=Lib.hid hJs
  have HC:=Lib.hid hcut
  clear hJs hcut
  have HN:=Lib.hid hn
  clear hn
  have hmx:Tryz.prog.follows .mixedOrders=true:=by kernel_rfl
  obtain ⟨q,hq⟩:∃ q:Int,Lib.index (s.extract k s.size).data.toList m.data.toList=q:=⟨_,rfl⟩
  have hx:(s.extract k s.size).size=s.size - k:=by rw [ByteArray.size_extract];omega
  have HI:Hid (∀ W',W'.cell? ⟨5,0,none⟩=some (.int .i64 n)->CallsIn Fence.wide 2 Tryz.prog 223 #[.string (s.extract k s.size),.string m] W' fun e w'=>e=.returned (.int .i64 q)/\w'=W'):=fun W' h=>callsIn_wide.2 (hq ▸ Tryz.strings_Index (s.extract k s.size) m n W' (by rw [ByteArray.size_extract];omega) h)
  have hn2:wr.drew.cell? ⟨5,0,none⟩=some (.int .i64 n):=HN.out
  have HN2:=Lib.hid hn2
  have HQ:=Lib.hid hq
  have hlen:pre.length<(cutB s m s.size 0).length:=by rw [<- HC.out,List.length_append,List.length_map];have:=cutB_pos s m f k;omega
  have HX:=Lib.hid hx
  clear hn2 hq hx
  have hd:1<=3 - 1:=by omega
  by_cases hneg:q<0
  ·obtain ⟨fn,tmps,assign,body,hy,hR⟩:=HY.out pre ⟨(k,s.extract k s.size),by simp only;omega,by simp only;rw [HX.out];omega⟩ wr.drew (HJD.out _ _ HJ.out) hlen
   dsimp only at hy
   gi_wp2
   gi_region_with_o (refine ⟨trivial,?_⟩;gi_at_call 223;refine (HI.out _ HN2.out).mono ?_;rintro e w' ⟨rfl,rfl⟩)
   all_goals gi_wp2
   all_goals
    refine hR.mono ?_
    rintro e W3 (⟨rfl,hJ3,hk3⟩ | ⟨rfl,hJx3⟩)
    ·gi_wp2
     refine bodyPost_ret (results_none rfl _ _ _) rfl ?_
     have hc:=HC.out
     rw [cutB_end (by rw [HQ.out];exact hneg)] at hc
     exact ⟨⟨_,rfl⟩,.inl ⟨_,by rw [raws,List.map_append];exact hc,hJ3⟩⟩
    ·gi_wp2
     refine bodyPost_ret (results_none rfl _ _ _) rfl ?_
     have hc:=HC.out
     rw [cutB_end (by rw [HQ.out];exact hneg)] at hc
     exact ⟨⟨_,rfl⟩,.inr ⟨_,⟨[],by rw [List.append_nil,raws,List.map_append];exact hc⟩,hJx3⟩⟩
  ·obtain ⟨j,rfl⟩:∃ j:Nat,q=(j:Int):=⟨q.toNat,by omega⟩
   have hroom:=index_room (s.extract k s.size).data.toList m.data.toList (by rw [HQ.out];omega)
   rw [HQ.out] at hroom
   have hx:=HX.out
   have hxl:(s.extract k s.size).data.toList.length=s.size - k:=by rw [<- hx];simp
   have hml:m.data.toList.length=m.size:=by simp
   rw [hxl,hml] at hroom
   simp only [Int.toNat_natCast] at hroom
   obtain ⟨f',rfl⟩:∃ f',f=f' + 1:=⟨f - 1,by omega⟩
   have hcut:=HC.out
   rw [cutB_step HQ.out,List.append_cons] at hcut
   have HC2:=Lib.hid hcut
   have hk1:k<=100000:=by omega
   have hx2:(s.extract k (k + j)).size<=100000:=by rw [ByteArray.size_extract];omega
   clear hx hxl hml hcut HC
   obtain ⟨fn,tmps,assign,body,hy,hR⟩:=HY.out pre ⟨(k,s.extract k (k + j)),hk1,hx2⟩ wr.drew (HJD.out _ _ HJ.out) hlen
   dsimp only at hy
   have i0:(0:Int)<=(k:Int):=by omega
   have i1:(k:Int)<=(k:Int) + (j:Int):=by omega
   have i2:(k:Int) + (j:Int)<=(s.size:Int):=by omega
   have hsl:=fun W'=>run_slice_string (P:=Tryz.prog) W' 9 s .i64 .i64 (k:Int) ((k:Int) + (j:Int)) Tryz.underlying9 i0 i1 i2
   have e1:((k:Int) + (j:Int)).toNat=k + j:=by omega
   simp only [e1,Int.toNat_natCast] at hsl
   clear e1
   gi_wp2
   gi_region_with_o (refine ⟨trivial,?_⟩;gi_at_call 223;refine (HI.out _ HN2.out).mono ?_;rintro e w' ⟨rfl,rfl⟩)
   all_goals gi_wp2
   all_goals
    refine hR.mono ?_
    rintro e W3 (⟨rfl,hJ3,hk3⟩ | ⟨rfl,hJx3⟩)
    ·have d0:W3.cell? ⟨bt,0,none⟩=some (.string s):=hk3.1.trans c0
     have d1:W3.cell? ⟨bm,0,none⟩=some (.string m):=hk3.2.1.trans c1
     have d2:Hid (W3.cell? ⟨5,0,none⟩=some (.int .i64 n)):=hk3.2.2.trans HN.out
     have HJ3:=Lib.hid hJ3
     clear hJ3 hk3
     gi_wp2
     go_roundw
     case rel=>exact ⟨pre++[⟨(k,s.extract k (k + j)),hk1,hx2⟩],k + j + m.size,f',by go_num,by omega,by omega,by simp;omega,by rw [raws,List.map_append];exact HC2.out,d0,d1,d2.out,HJ3.out⟩
     case measure=>simp [intOf];omega
    ·gi_wp2
     refine bodyPost_ret (results_none rfl _ _ _) rfl ?_
     exact ⟨⟨_,rfl⟩,.inr ⟨_,⟨_,by rw [raws,List.map_append];exact HC2.out⟩,hJx3⟩⟩
theorem grown_drew (W:World):W.grownBy W.drew none:=⟨rfl,rfl,rfl,Nat.le_refl _,fun _ _ _=>rfl⟩
abbrev encP (x:Pc):Array Value:=#[.int .i64 (x.1.1:Int),.string x.1.2]
theorem pieces_stops (bt bm:Nat) (s m:ByteArray) (hs:s.size<=100000) (hm:0<m.size) (w:World) (hbt:bt<w.heap.size) (hbm:bm<w.heap.size) (h1:5<w.heap.size) (c0:w.cell? ⟨bt,0,none⟩=some (.string s)) (c1:w.cell? ⟨bm,0,none⟩=some (.string m)) (n:Int) (c2:w.cell? ⟨5,0,none⟩=some (.int .i64 n)) :
  SeqStopsK Fence.wide 3 Tryz.prog 222 #[.pointer (some ⟨bt,0,none⟩),.pointer (some ⟨bm,0,none⟩)] encP (Kp2 bt bm) (fun ys=>raws ys=cutB s m s.size 0) (fun pre=>raws pre <+: cutB s m s.size 0) (cutB s m s.size 0).length w:=fun l J Jx W hW hJ _ hY h0 =>
 pieces1_in l bt bm s m hs hm J Jx (fun pre W h=>hJ pre W _ none h (grown_drew W) (fun r e=>by cases e)) hY W ((hW.cell (p:=⟨bt,0,none⟩) hbt).trans c0) ((hW.cell (p:=⟨bm,0,none⟩) hbm).trans c1) n ((hW.cell (p:=⟨5,0,none⟩) h1).trans c2) h0
theorem kp2_t {bt bm:Nat} {A B C:World} (h:Kp2 bt bm A B) (k:Kp2 bt bm B C):Kp2 bt bm A C:=⟨k.1.trans h.1,k.2.1.trans h.2.1,k.2.2.trans h.2.2⟩
theorem cell_put {W:World} {l b i:Nat} {o':Obj} (h:b ≠ l):(W.putObj l o').cell? ⟨b,i,none⟩=W.cell? ⟨b,i,none⟩:=by
 unfold World.cell?;rw [World.putObj_heap_other h]
theorem kp2_b {bt bm:Nat} {w:World} (hbt:bt<w.heap.size) (hbm:bm<w.heap.size) (h1:5<w.heap.size) (W:World) (l:Nat) (o o':Obj) (hl:w.heap.size<=l) (_:W.heap[l]?=some o) (_:o.isCells=false) (_:o.isWalk=false):Kp2 bt bm W (W.putObj l o') :=
 ⟨cell_put (by omega),cell_put (by omega),cell_put (by omega)⟩
theorem kp2_below {bt bm B:Nat} {W W':World} (h:Below B W W') (h1:bt<B) (h2:bm<B) (h3:5<B):Kp2 bt bm W W':=⟨h.cell (p:=⟨bt,0,none⟩) h1,h.cell (p:=⟨bm,0,none⟩) h2,h.cell (p:=⟨5,0,none⟩) h3⟩
end Go.Proofs.YtlahnpmoeefapaaGreatDoor
