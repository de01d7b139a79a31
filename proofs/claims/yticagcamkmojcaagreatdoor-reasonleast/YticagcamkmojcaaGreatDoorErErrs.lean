/- errors.As at an api.Errno. -/
import Derived.Shelf.LaysM
import Derived.Shelf.LaysC
import Derived.Shelf.Strconv.Itoa3
import Derived.Shelf.Strconv.Itoa4
import Derived.Shelf.Strconv.ParseIntPublic10
import Derived.Shelf.Strings.Search3
import Derived.Shelf.Strings.Count
import Derived.Shelf.Strings.Cut
import Derived.Shelf.Small.Strs
import Derived.Shelf.Strings.SlTrimAscii
import Derived.Test.YticagcamkmojcaaGreatDoorProg
import Derived.WalkKit
import Derived.WalkSpells
import Derived.WalkLawsBesides
import Derived.Deep.Cut
import Derived.Deep.DeepCutAuto
import Derived.Deep.RegionWith
import Derived.Deep.LoopGhost
import Derived.Deep.DeepFit
import Derived.Deep.DeepMust
import Derived.Deep.Light
import Derived.Lib.QuietBelow
import Derived.Lib.MinMax
import Derived.BigQuiet
import Derived.LaidEql
import Derived.Stop.Asserts
import Derived.RowKitTokens
namespace Go.Proofs
open Go.Shelf
def Tryz.lays161_ren : Go.Shelf.Ren := ⟨fun | 161 => 180 | 231 => 251 | 227 => 252 | 233 => 253 | 235 => 254 | 228 => 315 | 197 => 258 | 151 => 316 | 260 => 319 | 152 => 363 | 137 => 283 | 119 => 388 | 224 => 361 | 225 => 360 | 217 => 346 | 266 => 385 | n => n, fun | 9 => 9 | 4 => 4 | 3 => 3 | 5 => 5 | 117 => 379 | 116 => 378 | 0 => 0 | 124 => 382 | 105 => 385 | 21 => 21 | 119 => 468 | 46 => 48 | 139 => 471 | 138 => 470 | n => n, fun | 3 => 6 | 4 => 7 | n => n⟩
theorem Tryz.lays161 : Go.Proofs.Lays.n161 Tryz.prog Tryz.lays161_ren := {
 mixed := by kernel_rfl
 f119 := Tryz.func388.trans (congrArg some (by kernel_rfl))
 f137 := Tryz.func283.trans (congrArg some (by kernel_rfl))
 f151 := Tryz.func316.trans (congrArg some (by kernel_rfl))
 f152 := Tryz.func363.trans (congrArg some (by kernel_rfl))
 f161 := Tryz.func180.trans (congrArg some (by kernel_rfl))
 f197 := Tryz.func258.trans (congrArg some (by kernel_rfl))
 f217 := Tryz.func346.trans (congrArg some (by kernel_rfl))
 f224 := Tryz.func361.trans (congrArg some (by kernel_rfl))
 f225 := Tryz.func360.trans (congrArg some (by kernel_rfl))
 f227 := Tryz.func252.trans (congrArg some (by kernel_rfl))
 f228 := Tryz.func315.trans (congrArg some (by kernel_rfl))
 f231 := Tryz.func251.trans (congrArg some (by kernel_rfl))
 f233 := Tryz.func253.trans (congrArg some (by kernel_rfl))
 f235 := Tryz.func254.trans (congrArg some (by kernel_rfl))
 f260 := Tryz.func319.trans (congrArg some (by kernel_rfl))
 f266 := Tryz.func385.trans (congrArg some (by kernel_rfl))
 t0 := Tryz.underlying0
 a0 := Tryz.isAgg0
 z0 := Tryz.sizeOf0
 v0 := Tryz.zeroValue0
 t3 := Tryz.underlying3
 a3 := Tryz.isAgg3
 z3 := Tryz.sizeOf3
 v3 := Tryz.zeroValue3
 t4 := Tryz.underlying4
 a4 := Tryz.isAgg4
 z4 := Tryz.sizeOf4
 v4 := Tryz.zeroValue4
 t5 := Tryz.underlying5
 a5 := Tryz.isAgg5
 z5 := Tryz.sizeOf5
 v5 := Tryz.zeroValue5
 t9 := Tryz.underlying9
 a9 := Tryz.isAgg9
 z9 := Tryz.sizeOf9
 v9 := Tryz.zeroValue9
 t21 := Tryz.underlying21
 a21 := Tryz.isAgg21
 z21 := Tryz.sizeOf21
 v21 := Tryz.zeroValue21
 t46 := Tryz.underlying48
 a46 := Tryz.isAgg48
 z46 := Tryz.sizeOf48
 v46 := Tryz.zeroValue48
 t105 := Tryz.underlying385
 a105 := Tryz.isAgg385
 z105 := Tryz.sizeOf385
 v105 := Tryz.zeroValue385
 t116 := Tryz.underlying378
 a116 := Tryz.isAgg378
 z116 := Tryz.sizeOf378
 t117 := Tryz.underlying379
 a117 := Tryz.isAgg379
 z117 := Tryz.sizeOf379
 v117 := Tryz.zeroValue379
 t119 := Tryz.underlying468
 a119 := Tryz.isAgg468
 z119 := Tryz.sizeOf468
 t124 := Tryz.underlying382
 a124 := Tryz.isAgg382
 z124 := Tryz.sizeOf382
 v124 := Tryz.zeroValue382
 t138 := Tryz.underlying470
 a138 := Tryz.isAgg470
 z138 := Tryz.sizeOf470
 v138 := Tryz.zeroValue470
 t139 := Tryz.underlying471
 a139 := Tryz.isAgg471
 z139 := Tryz.sizeOf471
 v139 := Tryz.zeroValue471
 g3 := by kernel_rfl
 g4 := by kernel_rfl }
def Tryz.lays106_ren : Go.Shelf.Ren := ⟨fun | 106 => 269 | 213 => 326 | 265 => 377 | n => n, fun | 9 => 9 | 3 => 3 | n => n, fun | n => n⟩
theorem Tryz.lays106 : Go.Proofs.Lays.n106 Tryz.prog Tryz.lays106_ren := {
 mixed := by kernel_rfl
 f106 := Tryz.func269.trans (congrArg some (by kernel_rfl))
 f213 := Tryz.func326.trans (congrArg some (by kernel_rfl))
 f265 := Tryz.func377.trans (congrArg some (by kernel_rfl))
 t3 := Tryz.underlying3
 a3 := Tryz.isAgg3
 z3 := Tryz.sizeOf3
 v3 := Tryz.zeroValue3
 t9 := Tryz.underlying9
 a9 := Tryz.isAgg9
 z9 := Tryz.sizeOf9
 v9 := Tryz.zeroValue9 }
open Go.RowKit in
theorem Tryz.strings_Compare (a b : ByteArray) (w : World) :
  Calls Tryz.prog 269 #[.string a, .string b] w fun e w' => e = .returned (.int .i64 (Lib.compareBytes a.data.toList b.data.toList)) /\ w' = w := Any.strings_Compare Tryz.lays106 a b w
def Tryz.laysM173_ren : Go.Shelf.Ren := ⟨fun | 173 => 318 | 246 => 235 | 283 => 231 | 284 => 232 | 285 => 233 | 286 => 234 | 129 => 304 | 317 => 303 | 318 => 305 | 319 => 306 | 320 => 307 | 337 => 358 | 338 => 359 | n => n, fun | 2 => 2 | 3 => 3 | 9 => 9 | 4 => 4 | 171 => 344 | 0 => 0 | 53 => 151 | 37 => 149 | 5 => 5 | 173 => 346 | 212 => 427 | 51 => 321 | 20 => 20 | 213 => 428 | 46 => 48 | 232 => 489 | 233 => 490 | n => n, fun | 17 => 4 | 18 => 8 | 19 => 9 | n => n⟩
theorem Tryz.laysM173 : Go.Proofs.LaysM.n173 Tryz.prog Tryz.laysM173_ren := {
 mixed := by kernel_rfl
 f129 := Tryz.func304.trans (congrArg some (by kernel_rfl))
 f173 := Tryz.func318.trans (congrArg some (by kernel_rfl))
 f246 := Tryz.func235.trans (congrArg some (by kernel_rfl))
 f283 := Tryz.func231.trans (congrArg some (by kernel_rfl))
 f284 := Tryz.func232.trans (congrArg some (by kernel_rfl))
 f285 := Tryz.func233.trans (congrArg some (by kernel_rfl))
 f286 := Tryz.func234.trans (congrArg some (by kernel_rfl))
 f317 := Tryz.func303.trans (congrArg some (by kernel_rfl))
 f318 := Tryz.func305.trans (congrArg some (by kernel_rfl))
 f319 := Tryz.func306.trans (congrArg some (by kernel_rfl))
 f320 := Tryz.func307.trans (congrArg some (by kernel_rfl))
 f337 := Tryz.func358.trans (congrArg some (by kernel_rfl))
 f338 := Tryz.func359.trans (congrArg some (by kernel_rfl))
 t0 := Tryz.underlying0
 a0 := Tryz.isAgg0
 z0 := Tryz.sizeOf0
 v0 := Tryz.zeroValue0
 t2 := Tryz.underlying2
 a2 := Tryz.isAgg2
 z2 := Tryz.sizeOf2
 v2 := Tryz.zeroValue2
 t3 := Tryz.underlying3
 a3 := Tryz.isAgg3
 z3 := Tryz.sizeOf3
 v3 := Tryz.zeroValue3
 t4 := Tryz.underlying4
 a4 := Tryz.isAgg4
 z4 := Tryz.sizeOf4
 v4 := Tryz.zeroValue4
 t5 := Tryz.underlying5
 a5 := Tryz.isAgg5
 z5 := Tryz.sizeOf5
 v5 := Tryz.zeroValue5
 t9 := Tryz.underlying9
 a9 := Tryz.isAgg9
 z9 := Tryz.sizeOf9
 v9 := Tryz.zeroValue9
 t20 := Tryz.underlying20
 a20 := Tryz.isAgg20
 z20 := Tryz.sizeOf20
 v20 := Tryz.zeroValue20
 t37 := Tryz.underlying149
 a37 := Tryz.isAgg149
 z37 := Tryz.sizeOf149
 v37 := Tryz.zeroValue149
 t46 := Tryz.underlying48
 a46 := Tryz.isAgg48
 z46 := Tryz.sizeOf48
 v46 := Tryz.zeroValue48
 t51 := Tryz.underlying321
 a51 := Tryz.isAgg321
 z51 := Tryz.sizeOf321
 v51 := Tryz.zeroValue321
 t53 := Tryz.underlying151
 a53 := Tryz.isAgg151
 z53 := Tryz.sizeOf151
 v53 := Tryz.zeroValue151
 t171 := Tryz.underlying344
 a171 := Tryz.isAgg344
 z171 := Tryz.sizeOf344
 v171 := Tryz.zeroValue344
 t173 := Tryz.underlying346
 a173 := Tryz.isAgg346
 z173 := Tryz.sizeOf346
 v173 := Tryz.zeroValue346
 t212 := Tryz.underlying427
 a212 := Tryz.isAgg427
 z212 := Tryz.sizeOf427
 v212 := Tryz.zeroValue427
 t213 := Tryz.underlying428
 a213 := Tryz.isAgg428
 z213 := Tryz.sizeOf428
 t232 := Tryz.underlying489
 a232 := Tryz.isAgg489
 z232 := Tryz.sizeOf489
 v232 := Tryz.zeroValue489
 t233 := Tryz.underlying490
 a233 := Tryz.isAgg490
 z233 := Tryz.sizeOf490
 v233 := Tryz.zeroValue490
 g17 := by kernel_rfl
 g18 := by kernel_rfl
 g19 := by kernel_rfl
 i0 := by kernel_rfl
 i2 := by kernel_rfl
 i3 := by kernel_rfl
 i4 := by kernel_rfl
 i5 := by kernel_rfl
 i9 := by kernel_rfl
 i20 := by kernel_rfl
 i37 := by kernel_rfl
 i46 := by kernel_rfl
 i51 := by kernel_rfl
 i53 := by kernel_rfl
 i171 := by kernel_rfl
 i173 := by kernel_rfl
 i212 := by kernel_rfl
 i232 := by kernel_rfl
 i233 := by kernel_rfl
 m17 := by kernel_rfl
 m18 := by kernel_rfl
 m19 := by kernel_rfl }
open Go.RowKit Go.Sort Go.Lib in
theorem Tryz.strconv_FormatInt_10 (n : Int) (h0 : -9223372036854775808 <= n) (h1 : n <= 9223372036854775807) (w : World) (htab : Lib.TabIs Tryz.prog w "internal/strconv.uint64pow10" .u64 Lib.pow10Tab) :
  Calls Tryz.prog 318 #[.int .i64 n, .int .i64 10] w fun e w' => e = .returned (.string ⟨(Lib.itoa n).toArray⟩) /\ ∃ k os, w' = grow (w.drewN k) os := Any.strconv_FormatInt_10 Tryz.laysM173 n h0 h1 w htab
def Tryz.laysC174_ren : Go.Shelf.Ren := ⟨fun | 174 => 317 | 247 => 364 | 245 => 365 | 287 => 389 | 279 => 390 | 280 => 391 | 281 => 392 | 282 => 393 | 321 => 400 | 322 => 401 | 316 => 402 | 171 => 75 | 205 => 403 | 243 => 159 | 246 => 235 | 283 => 231 | 284 => 232 | 285 => 233 | 286 => 234 | 129 => 304 | 317 => 303 | 318 => 305 | 319 => 306 | 320 => 307 | 337 => 358 | 338 => 359 | n => n, fun | 9 => 9 | 3 => 3 | 2 => 2 | 75 => 31 | 85 => 435 | 4 => 4 | 167 => 494 | 5 => 5 | 53 => 151 | 175 => 495 | 46 => 48 | 168 => 497 | 37 => 149 | 0 => 0 | 210 => 507 | 21 => 21 | 127 => 349 | 145 => 512 | 143 => 510 | 171 => 344 | 173 => 346 | 212 => 427 | 51 => 321 | 20 => 20 | 213 => 428 | 232 => 489 | 233 => 490 | 80 => 45 | n => n, fun | 15 => 10 | 16 => 11 | 17 => 4 | 18 => 8 | 19 => 9 | n => n⟩
theorem Tryz.laysC174 : Go.Proofs.LaysC.n174 Tryz.prog Tryz.laysC174_ren := {
 mixed := by kernel_rfl
 f129 := Tryz.func304.trans (congrArg some (by kernel_rfl))
 f171 := Tryz.func75.trans (congrArg some (by kernel_rfl))
 f174 := Tryz.func317.trans (congrArg some (by kernel_rfl))
 f205 := Tryz.func403.trans (congrArg some (by kernel_rfl))
 f243 := Tryz.func159.trans (congrArg some (by kernel_rfl))
 f245 := Tryz.func365.trans (congrArg some (by kernel_rfl))
 f246 := Tryz.func235.trans (congrArg some (by kernel_rfl))
 f247 := Tryz.func364.trans (congrArg some (by kernel_rfl))
 f279 := Tryz.func390.trans (congrArg some (by kernel_rfl))
 f280 := Tryz.func391.trans (congrArg some (by kernel_rfl))
 f281 := Tryz.func392.trans (congrArg some (by kernel_rfl))
 f282 := Tryz.func393.trans (congrArg some (by kernel_rfl))
 f283 := Tryz.func231.trans (congrArg some (by kernel_rfl))
 f284 := Tryz.func232.trans (congrArg some (by kernel_rfl))
 f285 := Tryz.func233.trans (congrArg some (by kernel_rfl))
 f286 := Tryz.func234.trans (congrArg some (by kernel_rfl))
 f287 := Tryz.func389.trans (congrArg some (by kernel_rfl))
 f316 := Tryz.func402.trans (congrArg some (by kernel_rfl))
 f317 := Tryz.func303.trans (congrArg some (by kernel_rfl))
 f318 := Tryz.func305.trans (congrArg some (by kernel_rfl))
 f319 := Tryz.func306.trans (congrArg some (by kernel_rfl))
 f320 := Tryz.func307.trans (congrArg some (by kernel_rfl))
 f321 := Tryz.func400.trans (congrArg some (by kernel_rfl))
 f322 := Tryz.func401.trans (congrArg some (by kernel_rfl))
 f337 := Tryz.func358.trans (congrArg some (by kernel_rfl))
 f338 := Tryz.func359.trans (congrArg some (by kernel_rfl))
 t0 := Tryz.underlying0
 a0 := Tryz.isAgg0
 z0 := Tryz.sizeOf0
 v0 := Tryz.zeroValue0
 t2 := Tryz.underlying2
 a2 := Tryz.isAgg2
 z2 := Tryz.sizeOf2
 v2 := Tryz.zeroValue2
 t3 := Tryz.underlying3
 a3 := Tryz.isAgg3
 z3 := Tryz.sizeOf3
 v3 := Tryz.zeroValue3
 t4 := Tryz.underlying4
 a4 := Tryz.isAgg4
 z4 := Tryz.sizeOf4
 v4 := Tryz.zeroValue4
 t5 := Tryz.underlying5
 a5 := Tryz.isAgg5
 z5 := Tryz.sizeOf5
 v5 := Tryz.zeroValue5
 t9 := Tryz.underlying9
 a9 := Tryz.isAgg9
 z9 := Tryz.sizeOf9
 v9 := Tryz.zeroValue9
 t20 := Tryz.underlying20
 a20 := Tryz.isAgg20
 z20 := Tryz.sizeOf20
 v20 := Tryz.zeroValue20
 t21 := Tryz.underlying21
 a21 := Tryz.isAgg21
 z21 := Tryz.sizeOf21
 v21 := Tryz.zeroValue21
 t37 := Tryz.underlying149
 a37 := Tryz.isAgg149
 z37 := Tryz.sizeOf149
 v37 := Tryz.zeroValue149
 t46 := Tryz.underlying48
 a46 := Tryz.isAgg48
 z46 := Tryz.sizeOf48
 v46 := Tryz.zeroValue48
 t51 := Tryz.underlying321
 a51 := Tryz.isAgg321
 z51 := Tryz.sizeOf321
 v51 := Tryz.zeroValue321
 t53 := Tryz.underlying151
 a53 := Tryz.isAgg151
 z53 := Tryz.sizeOf151
 v53 := Tryz.zeroValue151
 t75 := Tryz.underlying31
 a75 := Tryz.isAgg31
 z75 := Tryz.sizeOf31
 v75 := Tryz.zeroValue31
 t85 := Tryz.underlying435
 a85 := Tryz.isAgg435
 z85 := Tryz.sizeOf435
 v85 := Tryz.zeroValue435
 t127 := Tryz.underlying349
 a127 := Tryz.isAgg349
 z127 := Tryz.sizeOf349
 v127 := Tryz.zeroValue349
 t143 := Tryz.underlying510
 a143 := Tryz.isAgg510
 z143 := Tryz.sizeOf510
 v143 := Tryz.zeroValue510
 t145 := Tryz.underlying512
 a145 := Tryz.isAgg512
 z145 := Tryz.sizeOf512
 v145 := Tryz.zeroValue512
 t167 := Tryz.underlying494
 a167 := Tryz.isAgg494
 z167 := Tryz.sizeOf494
 v167 := Tryz.zeroValue494
 t168 := Tryz.underlying497
 a168 := Tryz.isAgg497
 z168 := Tryz.sizeOf497
 v168 := Tryz.zeroValue497
 t171 := Tryz.underlying344
 a171 := Tryz.isAgg344
 z171 := Tryz.sizeOf344
 v171 := Tryz.zeroValue344
 t173 := Tryz.underlying346
 a173 := Tryz.isAgg346
 z173 := Tryz.sizeOf346
 v173 := Tryz.zeroValue346
 t175 := Tryz.underlying495
 a175 := Tryz.isAgg495
 z175 := Tryz.sizeOf495
 v175 := Tryz.zeroValue495
 t210 := Tryz.underlying507
 a210 := Tryz.isAgg507
 z210 := Tryz.sizeOf507
 v210 := Tryz.zeroValue507
 t212 := Tryz.underlying427
 a212 := Tryz.isAgg427
 z212 := Tryz.sizeOf427
 v212 := Tryz.zeroValue427
 t213 := Tryz.underlying428
 a213 := Tryz.isAgg428
 z213 := Tryz.sizeOf428
 t232 := Tryz.underlying489
 a232 := Tryz.isAgg489
 z232 := Tryz.sizeOf489
 v232 := Tryz.zeroValue489
 t233 := Tryz.underlying490
 a233 := Tryz.isAgg490
 z233 := Tryz.sizeOf490
 v233 := Tryz.zeroValue490
 g15 := by kernel_rfl
 g16 := by kernel_rfl
 g17 := by kernel_rfl
 g18 := by kernel_rfl
 g19 := by kernel_rfl
 t80 := Tryz.underlying45
 a80 := Tryz.isAgg45
 z80 := Tryz.sizeOf45
 v80 := Tryz.zeroValue45
 i0 := by kernel_rfl
 i2 := by kernel_rfl
 i3 := by kernel_rfl
 i4 := by kernel_rfl
 i5 := by kernel_rfl
 i9 := by kernel_rfl
 i20 := by kernel_rfl
 i21 := by kernel_rfl
 i37 := by kernel_rfl
 i46 := by kernel_rfl
 i51 := by kernel_rfl
 i53 := by kernel_rfl
 i75 := by kernel_rfl
 i80 := by kernel_rfl
 i85 := by kernel_rfl
 i127 := by kernel_rfl
 i143 := by kernel_rfl
 i145 := by kernel_rfl
 i167 := by kernel_rfl
 i168 := by kernel_rfl
 i171 := by kernel_rfl
 i173 := by kernel_rfl
 i175 := by kernel_rfl
 i210 := by kernel_rfl
 i212 := by kernel_rfl
 i232 := by kernel_rfl
 i233 := by kernel_rfl
 m15 := by kernel_rfl
 m16 := by kernel_rfl
 m17 := by kernel_rfl
 m18 := by kernel_rfl
 m19 := by kernel_rfl
 c0 := by kernel_rfl
 c2 := by kernel_rfl
 c3 := by kernel_rfl
 c4 := by kernel_rfl
 c5 := by kernel_rfl
 c9 := by kernel_rfl
 c20 := by kernel_rfl
 c21 := by kernel_rfl
 c37 := by kernel_rfl
 c46 := by kernel_rfl
 c51 := by kernel_rfl
 c53 := by kernel_rfl
 c75 := by kernel_rfl
 c80 := by kernel_rfl
 c85 := by kernel_rfl
 c127 := by kernel_rfl
 c143 := by kernel_rfl
 c145 := by kernel_rfl
 c167 := by kernel_rfl
 c168 := by kernel_rfl
 c171 := by kernel_rfl
 c173 := by kernel_rfl
 c175 := by kernel_rfl
 c210 := by kernel_rfl
 c212 := by kernel_rfl
 c213 := by kernel_rfl
 c232 := by kernel_rfl
 c233 := by kernel_rfl }
open Go.RowKit in
theorem Tryz.strconv_ParseInt_10_at64_ok (s : ByteArray) (hmax : s.size <= 9223372036854775806) (v : Int) (h : Lib.parseIntB 64 s.data.toList = .ok v) (w : World) :
  Calls Tryz.prog 317 #[.string s, .int .i64 10, .int .i64 64] w fun e w' => e = .returned (.tuple #[.int .i64 v, .nilIface]) /\ (w' = w \/ ∃ t, w' = Lib.bytesWorld w 5 t) := Any.strconv_ParseInt_10_at64_ok Tryz.laysC174 s hmax v h w
open Go.RowKit in
theorem Tryz.strconv_ParseInt_10_at64_syntax (s : ByteArray) (hlim : s.size <= 281474976710656) (h : Lib.parseIntB 64 s.data.toList = .«syntax») (ev : Value) (w : World) (hv : w.cell? ⟨10, 0, none⟩ = some ev) (hev : ev = .nilIface \/ ∃ te pe, ev = .iface te pe) :
  Calls Tryz.prog 317 #[.string s, .int .i64 10, .int .i64 64] w fun e w' => ∃ N, e = .returned (.tuple #[.int .i64 (0), .iface 497 (.pointer (some ⟨N, 0, none⟩))]) /\ w.heap.size <= N /\ w'.heap[N]? = some (.cells #[.string ⟨#[80, 97, 114, 115, 101, 73, 110, 116]⟩, .string s, ev] 507 (0, 0)) /\ Below w.heap.size w w' := Any.strconv_ParseInt_10_at64_syntax Tryz.laysC174 s hlim h ev w hv hev
open Go.RowKit in
theorem Tryz.strconv_ParseInt_10_at64_range (s : ByteArray) (hlim : s.size <= 281474976710656) (h : Lib.parseIntB 64 s.data.toList = .range) (ev : Value) (w : World) (hv : w.cell? ⟨11, 0, none⟩ = some ev) (hev : ev = .nilIface \/ ∃ te pe, ev = .iface te pe) :
  Calls Tryz.prog 317 #[.string s, .int .i64 10, .int .i64 64] w fun e w' => ∃ N, e = .returned (.tuple #[.int .i64 (Lib.intSat 64 s.data.toList), .iface 497 (.pointer (some ⟨N, 0, none⟩))]) /\ w.heap.size <= N /\ w'.heap[N]? = some (.cells #[.string ⟨#[80, 97, 114, 115, 101, 73, 110, 116]⟩, .string s, ev] 507 (0, 0)) /\ Below w.heap.size w w' := Any.strconv_ParseInt_10_at64_range Tryz.laysC174 s hlim h ev w hv hev
def Tryz.lays143_ren : Go.Shelf.Ren := ⟨fun | 143 => 250 | 219 => 314 | 217 => 346 | 225 => 360 | 224 => 361 | 267 => 362 | 266 => 385 | 314 => 387 | n => n, fun | 9 => 9 | 3 => 3 | 4 => 4 | 5 => 5 | 46 => 48 | 146 => 491 | 51 => 321 | n => n, fun | 1 => 5 | n => n⟩
theorem Tryz.lays143 : Go.Proofs.Lays.n143 Tryz.prog Tryz.lays143_ren := {
 mixed := by kernel_rfl
 f143 := Tryz.func250.trans (congrArg some (by kernel_rfl))
 f217 := Tryz.func346.trans (congrArg some (by kernel_rfl))
 f219 := Tryz.func314.trans (congrArg some (by kernel_rfl))
 f224 := Tryz.func361.trans (congrArg some (by kernel_rfl))
 f225 := Tryz.func360.trans (congrArg some (by kernel_rfl))
 f266 := Tryz.func385.trans (congrArg some (by kernel_rfl))
 f267 := Tryz.func362.trans (congrArg some (by kernel_rfl))
 f314 := Tryz.func387.trans (congrArg some (by kernel_rfl))
 t3 := Tryz.underlying3
 a3 := Tryz.isAgg3
 z3 := Tryz.sizeOf3
 v3 := Tryz.zeroValue3
 t4 := Tryz.underlying4
 a4 := Tryz.isAgg4
 z4 := Tryz.sizeOf4
 v4 := Tryz.zeroValue4
 t5 := Tryz.underlying5
 a5 := Tryz.isAgg5
 z5 := Tryz.sizeOf5
 v5 := Tryz.zeroValue5
 t9 := Tryz.underlying9
 a9 := Tryz.isAgg9
 z9 := Tryz.sizeOf9
 v9 := Tryz.zeroValue9
 t46 := Tryz.underlying48
 a46 := Tryz.isAgg48
 z46 := Tryz.sizeOf48
 v46 := Tryz.zeroValue48
 t51 := Tryz.underlying321
 a51 := Tryz.isAgg321
 z51 := Tryz.sizeOf321
 v51 := Tryz.zeroValue321
 t146 := Tryz.underlying491
 a146 := Tryz.isAgg491
 z146 := Tryz.sizeOf491
 v146 := Tryz.zeroValue491
 g1 := by kernel_rfl }
open Go.RowKit Go.Lib in
theorem Tryz.strings_Index (s sub : ByteArray) (m : Int) (w : World) (hs : s.size < 4294967281) (hm : w.cell? ⟨5, 0, none⟩ = some (.int .i64 m)) :
  Calls Tryz.prog 250 #[.string s, .string sub] w fun e w' => e = .returned (.int .i64 (Lib.index s.data.toList sub.data.toList)) /\ w' = w := Any.strings_Index Tryz.lays143 s sub m w hs hm
def Tryz.lays145_ren : Go.Shelf.Ren := ⟨fun | 145 => 214 | 220 => 286 | 219 => 314 | 217 => 346 | 225 => 360 | 224 => 361 | 267 => 362 | 266 => 385 | 314 => 387 | n => n, fun | 9 => 9 | 4 => 4 | 59 => 330 | 3 => 3 | 5 => 5 | 46 => 48 | 146 => 491 | 51 => 321 | n => n, fun | 1 => 5 | n => n⟩
theorem Tryz.lays145 : Go.Proofs.Lays.n145 Tryz.prog Tryz.lays145_ren := {
 mixed := by kernel_rfl
 f145 := Tryz.func214.trans (congrArg some (by kernel_rfl))
 f217 := Tryz.func346.trans (congrArg some (by kernel_rfl))
 f219 := Tryz.func314.trans (congrArg some (by kernel_rfl))
 f220 := Tryz.func286.trans (congrArg some (by kernel_rfl))
 f224 := Tryz.func361.trans (congrArg some (by kernel_rfl))
 f225 := Tryz.func360.trans (congrArg some (by kernel_rfl))
 f266 := Tryz.func385.trans (congrArg some (by kernel_rfl))
 f267 := Tryz.func362.trans (congrArg some (by kernel_rfl))
 f314 := Tryz.func387.trans (congrArg some (by kernel_rfl))
 t3 := Tryz.underlying3
 a3 := Tryz.isAgg3
 z3 := Tryz.sizeOf3
 v3 := Tryz.zeroValue3
 t4 := Tryz.underlying4
 a4 := Tryz.isAgg4
 z4 := Tryz.sizeOf4
 v4 := Tryz.zeroValue4
 t5 := Tryz.underlying5
 a5 := Tryz.isAgg5
 z5 := Tryz.sizeOf5
 v5 := Tryz.zeroValue5
 t9 := Tryz.underlying9
 a9 := Tryz.isAgg9
 z9 := Tryz.sizeOf9
 v9 := Tryz.zeroValue9
 t46 := Tryz.underlying48
 a46 := Tryz.isAgg48
 z46 := Tryz.sizeOf48
 v46 := Tryz.zeroValue48
 t51 := Tryz.underlying321
 a51 := Tryz.isAgg321
 z51 := Tryz.sizeOf321
 v51 := Tryz.zeroValue321
 t59 := Tryz.underlying330
 a59 := Tryz.isAgg330
 z59 := Tryz.sizeOf330
 v59 := Tryz.zeroValue330
 t146 := Tryz.underlying491
 a146 := Tryz.isAgg491
 z146 := Tryz.sizeOf491
 v146 := Tryz.zeroValue491
 g1 := by kernel_rfl }
open Go.RowKit Go.Lib in
theorem Tryz.strings_Cut (s sep : ByteArray) (m : Int) (w : World) (hs : s.size < 4294967281) (hm : w.cell? ⟨5, 0, none⟩ = some (.int .i64 m)) :
  Calls Tryz.prog 214 #[.string s, .string sep] w fun e w' => e = .returned (.tuple #[.string ⟨(Lib.cut s.data.toList sep.data.toList).1.toArray⟩, .string ⟨(Lib.cut s.data.toList sep.data.toList).2.1.toArray⟩, .bool (Lib.cut s.data.toList sep.data.toList).2.2]) /\ ∃ n, w' = w.drewN n := Any.strings_Cut Tryz.lays145 s sep m w hs hm
def Tryz.lays138_ren : Go.Shelf.Ren := ⟨fun | 138 => 249 | 195 => 312 | 218 => 313 | 143 => 250 | 219 => 314 | 217 => 346 | 225 => 360 | 224 => 361 | 267 => 362 | 266 => 385 | 314 => 387 | n => n, fun | 9 => 9 | 3 => 3 | 4 => 4 | 5 => 5 | 0 => 0 | 46 => 48 | 146 => 491 | 51 => 321 | n => n, fun | 1 => 5 | n => n⟩
theorem Tryz.lays138 : Go.Proofs.Lays.n138 Tryz.prog Tryz.lays138_ren := {
 mixed := by kernel_rfl
 f138 := Tryz.func249.trans (congrArg some (by kernel_rfl))
 f143 := Tryz.func250.trans (congrArg some (by kernel_rfl))
 f195 := Tryz.func312.trans (congrArg some (by kernel_rfl))
 f217 := Tryz.func346.trans (congrArg some (by kernel_rfl))
 f218 := Tryz.func313.trans (congrArg some (by kernel_rfl))
 f219 := Tryz.func314.trans (congrArg some (by kernel_rfl))
 f224 := Tryz.func361.trans (congrArg some (by kernel_rfl))
 f225 := Tryz.func360.trans (congrArg some (by kernel_rfl))
 f266 := Tryz.func385.trans (congrArg some (by kernel_rfl))
 f267 := Tryz.func362.trans (congrArg some (by kernel_rfl))
 f314 := Tryz.func387.trans (congrArg some (by kernel_rfl))
 t0 := Tryz.underlying0
 a0 := Tryz.isAgg0
 z0 := Tryz.sizeOf0
 v0 := Tryz.zeroValue0
 t3 := Tryz.underlying3
 a3 := Tryz.isAgg3
 z3 := Tryz.sizeOf3
 v3 := Tryz.zeroValue3
 t4 := Tryz.underlying4
 a4 := Tryz.isAgg4
 z4 := Tryz.sizeOf4
 v4 := Tryz.zeroValue4
 t5 := Tryz.underlying5
 a5 := Tryz.isAgg5
 z5 := Tryz.sizeOf5
 v5 := Tryz.zeroValue5
 t9 := Tryz.underlying9
 a9 := Tryz.isAgg9
 z9 := Tryz.sizeOf9
 v9 := Tryz.zeroValue9
 t46 := Tryz.underlying48
 a46 := Tryz.isAgg48
 z46 := Tryz.sizeOf48
 v46 := Tryz.zeroValue48
 t51 := Tryz.underlying321
 a51 := Tryz.isAgg321
 z51 := Tryz.sizeOf321
 v51 := Tryz.zeroValue321
 t146 := Tryz.underlying491
 a146 := Tryz.isAgg491
 z146 := Tryz.sizeOf491
 v146 := Tryz.zeroValue491
 g1 := by kernel_rfl }
open Go.RowKit Go.Lib in
theorem Tryz.strings_Count_one (s : ByteArray) (c : UInt8) (w : World) :
  Calls Tryz.prog 249 #[.string s, .string ⟨#[c]⟩] w fun e w' => e = .returned (.int .i64 (Lib.countByte s.data.toList c)) /\ w' = w := Any.strings_Count_one Tryz.lays138 s c w
end Go.Proofs
namespace Go.Proofs.YticagcamkmojcaaGreatDoor
section
theorem cell1_0 (w : World) (v : Value) (t : TypeId) : (w.alloc (.cells #[v] t)).cell? ⟨w.heap.size, 0, none⟩ = some v := by simp
theorem frozen1_0 (w : World) (v : Value) (t : TypeId) : (w.alloc (.cells #[v] t)).frozen? ⟨w.heap.size, 0, none⟩ = false := by simp
end
section
open Go.RowKit Go.Extern.Stop Go.Stop Go.Extern
namespace Errs
theorem valueOfP (t : Addr) (w : World) : (ReflectliteValue.unpack (.iface 186 (.pointer (some t)))).run Tryz.prog w
  = .ok (.agg #[.pointer (some ⟨12, 186, none⟩), .pointer (some ⟨w.heap.size, 0, none⟩), .int .u64 150]) (w.alloc (.cells #[.pointer (some t)] 186)) := by kernel_rfl
theorem typeP (a : Addr) (w : World) : (ReflectliteValue.methodAny (ReflectliteValue.valueError "reflectlite.Value.Type" 0) (fun t _ _ _ => ReflectliteType.toType t) #[.agg #[.pointer (some ⟨12, 186, none⟩), .pointer (some a), .int .u64 150]]).run Tryz.prog w
  = .ok (.iface 359 (.agg #[.pointer (some ⟨12, 186, none⟩)])) w := by kernel_rfl
theorem kindP (w : World) : ((ReflectliteType.abiMethod fun t => (fun a : Nat => Value.int IntKind.u8 (a : Int)) <$> Rtype.kind t) #[.pointer (some ⟨12, 186, none⟩)]).run Tryz.prog w = .ok (.int .u8 22) w := by kernel_rfl
theorem kindE (w : World) : ((ReflectliteType.abiMethod fun t => (fun a : Nat => Value.int IntKind.u8 (a : Int)) <$> Rtype.kind t) #[.pointer (some ⟨12, 57, none⟩)]).run Tryz.prog w = .ok (.int .u8 2) w := by kernel_rfl
theorem method_run (z : Sem Value) (f : TypeId -> Addr -> Nat -> Nat -> Sem Value) (v : Value) (t : TypeId) (a : Addr) (fl : Nat) (w : World) (h : (ReflectliteValue.parts v).run Tryz.prog w = .ok (some (t, a, fl)) w) :
  (ReflectliteValue.method z f #[v]).run Tryz.prog w = (f t a fl (fl % 32)).run Tryz.prog w := by
 obtain ⟨F, hF, hG⟩ : ∃ F : Option (TypeId × Addr × Nat) -> Sem Value, ReflectliteValue.method z f #[v] = (ReflectliteValue.parts v >>= F) /\ ∀ t a fl, F (some (t, a, fl)) = f t a fl (fl % 32) := ⟨_, rfl, fun _ _ _ => rfl⟩
 rw [hF]
 simp only [Sem.run_bind, h, Result.andThen]
 rw [hG]
theorem partsP (a : Addr) (w : World) : (ReflectliteValue.parts (.agg #[.pointer (some ⟨12, 186, none⟩), .pointer (some a), .int .u64 150])).run Tryz.prog w = .ok (some (186, a, 150)) w := by kernel_rfl
theorem isNilP (a p : Addr) (W : World) (ha : W.cell? a = some (.pointer (some p))) :
  (ReflectliteValue.method (ReflectliteValue.valueError "reflectlite.Value.IsNil" 0) ReflectliteValue.isNil #[.agg #[.pointer (some ⟨12, 186, none⟩), .pointer (some a), .int .u64 150]]).run Tryz.prog W = .ok (.bool false) W := by
 rw [method_run _ _ _ _ _ _ _ (partsP a W)]
 simp [ReflectliteValue.isNil, loadVar, isAgg, underlying, Tryz.underlying186, ha, Result.andThen]
theorem elemP (w : World) : (ReflectliteType.method ReflectliteType.elem #[.agg #[.pointer (some ⟨12, 186, none⟩)]]).run Tryz.prog w = .ok (.iface 359 (.agg #[.pointer (some ⟨12, 57, none⟩)])) w := by kernel_rfl
theorem implementsE (w : World) : (ReflectliteType.relation "Implements" ReflectliteType.implements_ #[.agg #[.pointer (some ⟨12, 57, none⟩)], .iface 359 (.agg #[.pointer (some ⟨12, 31, none⟩)])]).run Tryz.prog w = .ok (.bool true) w := by kernel_rfl
theorem typeOfE (v : Value) (w : World) : (ReflectliteType.typeOf #[.iface 57 v]).run Tryz.prog w = .ok (.iface 359 (.agg #[.pointer (some ⟨12, 57, none⟩)])) w := by kernel_rfl
theorem assignableE (w : World) : (ReflectliteType.relation "AssignableTo" ReflectliteType.assignableTo #[.agg #[.pointer (some ⟨12, 57, none⟩)], .iface 359 (.agg #[.pointer (some ⟨12, 57, none⟩)])]).run Tryz.prog w = .ok (.bool true) w := by kernel_rfl
theorem valueOfE (n : Int) (w : World) : (ReflectliteValue.unpack (.iface 57 (.int .i64 n))).run Tryz.prog w
  = .ok (.agg #[.pointer (some ⟨12, 57, none⟩), .pointer (some ⟨w.heap.size, 0, none⟩), .int .u64 130]) (w.alloc (.cells #[.int .i64 n] 57)) := by kernel_rfl
theorem elemOfP (w : World) : (Rtype.elem? 186).run Tryz.prog w = .ok (some 57) w := by kernel_rfl
theorem mkE (p : Addr) (w : World) : (ReflectliteValue.mk 57 p ReflectliteValue.flagAddr).run Tryz.prog w = .ok (.agg #[.pointer (some ⟨12, 57, none⟩), .pointer (some p), .int .u64 386]) w := by kernel_rfl
theorem elemVP (a p : Addr) (W : World) (ha : W.cell? a = some (.pointer (some p))) :
  (ReflectliteValue.method (ReflectliteValue.valueError "reflectlite.Value.Elem" 0) ReflectliteValue.elem #[.agg #[.pointer (some ⟨12, 186, none⟩), .pointer (some a), .int .u64 150]]).run Tryz.prog W
   = .ok (.agg #[.pointer (some ⟨12, 57, none⟩), .pointer (some p), .int .u64 386]) W := by
 rw [method_run _ _ _ _ _ _ _ (partsP a W)]
 simp [ReflectliteValue.elem, loadVar, isAgg, underlying, Tryz.underlying186, ha, Result.andThen, elemOfP, mkE]
theorem partsEa (a : Addr) (w : World) : (ReflectliteValue.parts (.agg #[.pointer (some ⟨12, 57, none⟩), .pointer (some a), .int .u64 386])).run Tryz.prog w = .ok (some (57, a, 386)) w := by kernel_rfl
theorem partsE (a : Addr) (w : World) : (ReflectliteValue.parts (.agg #[.pointer (some ⟨12, 57, none⟩), .pointer (some a), .int .u64 130])).run Tryz.prog w = .ok (some (57, a, 130)) w := by kernel_rfl
theorem directE (w : World) : (Rtype.directlyAssignable 57 57).run Tryz.prog w = .ok true w := by kernel_rfl
theorem set_form (v x : Value) : ∃ F : Option (TypeId × Addr × Nat) -> Option (TypeId × Addr × Nat) -> Sem Value, ReflectliteValue.set #[v, x] = (ReflectliteValue.parts v >>= fun p => ReflectliteValue.parts x >>= fun q => F p q) /\
  ∀ a b, ∃ G : Value -> Sem Value, F (some (57, a, 386)) (some (57, b, 130)) = (loadVar 57 b >>= fun val => Rtype.directlyAssignable 57 57 >>= fun d => if d = true then (storeVar 57 a val >>= fun _ => pure (.tuple #[])) else G val) := ⟨_, rfl, fun _ _ => ⟨_, rfl⟩⟩
theorem setE (ta b : Addr) (n : Int) (old : Value) (W : World) (hb : W.cell? b = some (.int .i64 n)) (ht : W.cell? ta = some old) (hf : W.frozen? ta = false) :
  (ReflectliteValue.set #[.agg #[.pointer (some ⟨12, 57, none⟩), .pointer (some ta), .int .u64 386], .agg #[.pointer (some ⟨12, 57, none⟩), .pointer (some b), .int .u64 130]]).run Tryz.prog W
   = .ok (.tuple #[]) (W.setCell ta (.int .i64 n)) := by
 obtain ⟨F, hF, hG⟩ := set_form (.agg #[.pointer (some ⟨12, 57, none⟩), .pointer (some ta), .int .u64 386]) (.agg #[.pointer (some ⟨12, 57, none⟩), .pointer (some b), .int .u64 130])
 obtain ⟨G, hG⟩ := hG ta b
 rw [hF]
 simp only [Sem.run_bind, partsEa, partsE, Result.andThen]
 rw [hG]
 simp [loadVar, isAgg, underlying, Tryz.underlying57, hb, Result.andThen, directE, storeVar, Value.cells, storeCells, Addr.add]
 rw [run_store Tryz.prog W ta _ _ (by rfl)]
 simp [ht, hf]
end Errs
end
end Go.Proofs.YticagcamkmojcaaGreatDoor
