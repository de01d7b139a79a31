/- errors.As at an api.Errno: it is found, and set. -/
import Derived.Test.YtapobpgbcbplbaaGreatDoorFmOps
import Derived.Test.YtapobpgbcbplbaaGreatDoorRaSets
import Derived.Shelf.Strconv.Itoa4
import Derived.Shelf.Strconv.ParseIntPublic10
import Derived.Shelf.Strings.Count
import Derived.Shelf.Strings.Cut
import Derived.Shelf.Strings.SlTrimAscii
import Derived.Stop.Asserts
import Derived.RowKitTokens
open Go.Proofs.YtapobpgbcbplbaaGreatDoor
set_option maxHeartbeats 4000000
set_option maxRecDepth 100000
namespace Go.Proofs.YtapobpgbcbplbaaGreatDoor.Fm
section
variable {n:Nat} {so:Nat->Bool}
theorem zey(x k:Nat):Sub (xf x k) x:=fun i h=>by
 rw[Ye,Bool.and_eq_true] at h;exact h.1
theorem Ki{x:Nat}(hx:x<2^n)(i:Nat):(2^n-1-x).testBit i=(decide (i<n)&&!x.testBit i):=by
 rw[show 2^n-1-x=2^n-(x+1) by omega,Nat.testBit_two_pow_sub_succ hx]
theorem ZS{x y:Nat}(h:Sub y x)(hx:x<2^n):y<2^n:=Nat.lt_of_le_of_lt h.le hx
theorem zch(x:Nat):2^n-1-x<2^n:=by have:=Nat.two_pow_pos n;omega
theorem Ja{x i:Nat}(hx:x<2^n)(h:x.testBit i=true):i<n:=by
 by_cases e:i<n
 ·exact e
 ·rw[Nat.testBit_lt_two_pow (Nat.lt_of_lt_of_le hx (Nat.pow_le_pow_right (by omega) (by omega)))] at h;cases h
theorem XD{x y:Nat}(hx:x<2^n)(hy:y<2^n):Sub y (2^n-1-x)↔¬∃i,x.testBit i=true/\y.testBit i=true:=by
 constructor
 ·rintro h ⟨i,h1,h2⟩;have:=h i h2;rw[Ki hx,h1] at this;simp at this
 ·intro h i hi;rw[Ki hx];have h1:=Ja hy hi;cases hq:x.testBit i with
  |true=>exact absurd ⟨i,hq,hi⟩ h
  |false=>simp[h1]
theorem zkj{x:Nat}(hx:x<2^n):2^n-1-(2^n-1-x)=x:=by omega
theorem zgo(p:Nat->Bool)(x:Nat):x∈qg n p (2^n)↔x<2^n/\p x=true/\∀k,x.testBit k=true->p (xf x k)=false:=by
 unfold qg Zt;rw[List.mem_filter,List.mem_range];refine and_congr_right fun hx=>?_;rw[Bool.and_eq_true,Bool.not_eq_true',List.any_eq_false];refine and_congr_right fun _=>⟨fun h k hk=>?_,fun h k _=>?_⟩
 ·have:=h k (List.mem_range.2 (Ja hx hk));rw[hk,Bool.true_and] at this;simpa using this
 ·cases hk:x.testBit k with
  |false=>simp
  |true=>simp[h k hk]
theorem zbm{p:Nat->Bool}(hp:∀a b,Sub a b->b<2^n->p a=true->p b=true)(x:Nat):x∈qg n p (2^n)↔x<2^n/\p x=true/\∀z,p z=true->Sub z x->z=x:=by
 rw[zgo];refine and_congr_right fun hx=>and_congr_right fun hpx=>⟨fun h z hz hs=>?_,fun h k hk=>?_⟩
 ·apply Nat.eq_of_testBit_eq;intro k;cases hk:x.testBit k with
  |false=>exact hs.off hk
  |true =>
   cases hzk:z.testBit k with
   |true=>rfl
   |false =>
    have:Sub z (xf x k):=fun i hi=>by
     rw[Ye,hs i hi];have:k≠i:=fun e=>by subst e;rw[hzk] at hi;cases hi
     simp[this]
    have h2:=h k hk;rw[hp z _ this (ZS (zey x k) hx) hz] at h2;cases h2
 ·cases hq:p (xf x k) with
  |false=>rfl
  |true =>have:=h _ hq (zey x k);have hb:=Ye x k k;rw[this,hk] at hb;simp at hb
def coreS(n:Nat)(so:Nat->Bool):List Nat:=qg n (fun s=>!so s) (2^n)
def fixS(n:Nat)(so:Nat->Bool):List Nat:=qg n (fun s=>so (2^n-1-s)) (2^n)
theorem zja{a b:Nat}(h:Sub a b)(ha:a<2^n)(hb:b<2^n):Sub (2^n-1-b) (2^n-1-a):=fun i hi=>by
 rw[Ki hb,Bool.and_eq_true] at hi;rw[Ki ha,Bool.and_eq_true];refine⟨hi.1,?_⟩;cases e:a.testBit i with
 |false=>rfl
 |true=>rw[h i e] at hi;exact absurd hi.2 (by simp)
theorem core_iff(hm:∀a b,Sub a b->so b=true->so a=true)(x:Nat):x∈coreS n so↔x<2^n/\so x=false/\∀z,so z=false->Sub z x->z=x:=by
 unfold coreS;rw [zbm (fun a b hs _ h=>by
  rw[Bool.not_eq_true'] at h ⊢;cases e:so b with
  |false=>rfl
  | true=>rw [hm a b hs e] at h;cases h)]
 simp
theorem fix_iff(hm:∀a b,Sub a b->so b=true->so a=true)(x:Nat):x∈fixS n so↔x<2^n/\so (2^n-1-x)=true/\∀z,so (2^n-1-z)=true->Sub z x->z=x:=by
 unfold fixS;exact zbm (fun a b hs hb h=>hm _ _ (zja hs (ZS hs hb) hb) h) x
theorem XM(hm:∀a b,Sub a b->so b=true->so a=true){x:Nat}(hx:x<2^n):ZA (fun y=>y∈coreS n so) x↔so (2^n-1-x)=true:=by
 constructor
 ·intro h;cases e:so (2^n-1-x) with
  |true=>rfl
  |false =>obtain⟨z,z1,z2,z3⟩:=X9 (fun s=>so s=false) _ e;have zl:z<2^n:=ZS z3 (zch x);exact absurd (h z ((core_iff hm z).2 ⟨zl,z1,z2⟩)) ((XD hx zl).1 z3)
 ·intro h y hy;obtain⟨yl,y1,-⟩:=(core_iff hm y).1 hy;refine Classical.byContradiction fun hn=>?_;rw[hm y _ ((XD hx yl).2 hn) h] at y1;cases y1
theorem Kz(hm:∀a b,Sub a b->so b=true->so a=true){x:Nat}(hx:x<2^n):ZA (fun y=>y∈fixS n so) x↔so x=false:=by
 constructor
 ·intro h;cases e:so x with
  |false=>rfl
  |true =>obtain⟨z,z1,z2,z3⟩:=X9 (fun s=>so (2^n-1-s)=true) (2^n-1-x) (by rw[zkj hx];exact e);have zl:z<2^n:=ZS z3 (zch x);exact absurd (h z ((fix_iff hm z).2 ⟨zl,z1,z2⟩)) ((XD hx zl).1 z3)
 ·intro h y hy;obtain⟨yl,y1,-⟩:=(fix_iff hm y).1 hy;refine Classical.byContradiction fun hn=>?_;have h1:Sub x (2^n-1-y):=(XD yl hx).2 fun⟨i,a,b⟩=>hn ⟨i,b,a⟩;rw[hm x _ h1 y1] at h;cases h
theorem zdn{A:Nat->Prop}(hA:∀y,A y->y<2^n){x:Nat}(h:opP .hits A (fun _=>False) x):x<2^n:=by
 obtain⟨h1,h2⟩:=h;have hs:Sub (x%2^n) x:=fun i hi=>by
  rw[Nat.testBit_mod_two_pow,Bool.and_eq_true] at hi;exact hi.2
 have:=h2 (x % 2 ^ n) (fun y hy=>by
  obtain⟨i,a,b⟩:=h1 y hy;exact ⟨i,by rw [Nat.testBit_mod_two_pow,a];simp [Ja (hA y hy) b],b⟩) hs
 rw[<-this];exact Nat.mod_lt _ (Nat.two_pow_pos n)
theorem fix_hits(hm:∀a b,Sub a b->so b=true->so a=true)(x:Nat):x∈fixS n so↔opP .hits (fun y=>y∈coreS n so) (fun _=>False) x:=by
 have hA:∀y,y∈coreS n so->y<2^n:=fun y hy=>((core_iff hm y).1 hy).1;constructor
 ·intro h;obtain⟨hx,h1,h2⟩:=(fix_iff hm x).1 h;exact⟨(XM hm hx).2 h1,fun z hz hs=>h2 z ((XM hm (ZS hs hx)).1 hz) hs⟩
 ·intro h;have hx:=zdn hA h;obtain⟨h1,h2⟩:=h;refine(fix_iff hm x).2 ⟨hx,(XM hm hx).1 h1,fun z hz hs=>h2 z ((XM hm (ZS hs hx)).2 hz) hs⟩
theorem core_hits(hm:∀a b,Sub a b->so b=true->so a=true)(x:Nat):x∈coreS n so↔opP .hits (fun y=>y∈fixS n so) (fun _=>False) x:=by
 have hA:∀y,y∈fixS n so->y<2^n:=fun y hy=>((fix_iff hm y).1 hy).1;constructor
 ·intro h;obtain⟨hx,h1,h2⟩:=(core_iff hm x).1 h;exact⟨(Kz hm hx).2 h1,fun z hz hs=>h2 z ((Kz hm (ZS hs hx)).1 hz) hs⟩
 ·intro h;have hx:=zdn hA h;obtain⟨h1,h2⟩:=h;refine(core_iff hm x).2 ⟨hx,(Kz hm hx).1 h1,fun z hz hs=>h2 z ((Kz hm (ZS hs hx)).2 hz) hs⟩
theorem fix_some(hm:∀a b,Sub a b->so b=true->so a=true)(h0:so 0=true):0<(fixS n so).length:=by
 obtain⟨z,z1,z2,z3⟩:=X9 (fun s=>so (2^n-1-s)=true) (2^n-1) (by rw[Nat.sub_self];exact h0);exact List.length_pos_of_mem ((fix_iff hm z).2 ⟨ZS z3 (by have:=Nat.two_pow_pos n;omega),z1,z2⟩)
theorem least_asc(p:Nat->Bool)(k:Nat):(qg n p k).Pairwise (·<·):=List.Pairwise.filter _ List.pairwise_lt_range
end
end Go.Proofs.YtapobpgbcbplbaaGreatDoor.Fm
namespace Go.Proofs.YtapobpgbcbplbaaGreatDoor.Fm
def Xu(x:Nat):Nat:=391344628204390277124898290038379671300334142828386136906416172427582132179695892492349616965130099760371935909152125284780746111800736288799087765225591078460930055141186751449772919060141353740283601064842181075724926053257216/64^x%64
theorem zm1:∀x:Fin 128,Xu x.val<35:=by decide +kernel
theorem znB:∀x y:Fin 128,Xu x.val=Xu y.val->x.val&&&y.val=x.val\/x.val&&&y.val=y.val:=by decide +kernel
theorem zdC{x y:Nat}(h:x&&&y=x):Sub x y:=fun i hi=>by
 rw[<-h,Nat.testBit_and,Bool.and_eq_true] at hi;exact hi.2
theorem zdh:∀(N:Nat) (l:List Nat),l.Nodup->(∀x∈l,x<N)->l.length<=N
 |0,l,_,h=>by
  cases l with
  |nil=>exact Nat.le_refl _
  |cons x t=>exact absurd (h x (by simp)) (Nat.not_lt_zero _)
 |N+1,l,hn,h=>by
  have h1:=zdh N (l.erase N) (hn.erase N) (fun x hx=>by
   have h2:=h x (List.mem_of_mem_erase hx);have h3:x≠N:=fun e=>by subst e;exact(List.Nodup.not_mem_erase hn) hx
   omega)
  have h4:=List.length_erase (a:=N) (l:=l);split at h4<;>omega
theorem zbQ{l:List Nat}(hn:l.Nodup)(hl:∀x∈l,x<128)(ha:∀x∈l,∀y∈l,Sub x y->x=y):l.length<=35:=by
 have h1:=zdh 35 (l.map Xu) (by
  show List.Pairwise _ _;rw[List.pairwise_map];refine List.Pairwise.imp_of_mem (fun {x y} hx hy hne e=>?_) hn;rcases znB ⟨x,hl x hx⟩ ⟨y,hl y hy⟩ e with h|h
  ·exact hne (ha x hx y hy (zdC h))
  ·exact hne (ha y hy x hx (zdC (by rw[Nat.and_comm];exact h))).symm) (fun z hz=>by
  obtain⟨x,hx,rfl⟩:=List.mem_map.1 hz;exact zm1 ⟨x,hl x hx⟩)
 rwa [List.length_map] at h1
theorem core_len{n:Nat}{so:Nat->Bool}(h7:n<=7)(hm:∀a b,Sub a b->so b=true->so a=true):(coreS n so).length<=35 :=
 zbQ ((least_asc _ _).imp (fun h=>Nat.ne_of_lt h)) (fun x hx=>by
  have h1:=((core_iff hm x).1 hx).1;have h2:2^n<=2^7:=Nat.pow_le_pow_right (by omega) h7;omega) (fun x hx y hy hs=>((core_iff hm y).1 hy).2.2 x ((core_iff hm x).1 hx).2.1 hs)
theorem fix_len{n:Nat}{so:Nat->Bool}(h7:n<=7)(hm:∀a b,Sub a b->so b=true->so a=true):(fixS n so).length<=35 :=
 zbQ ((least_asc _ _).imp (fun h=>Nat.ne_of_lt h)) (fun x hx=>by
  have h1:=((fix_iff hm x).1 hx).1;have h2:2^n<=2^7:=Nat.pow_le_pow_right (by omega) h7;omega) (fun x hx y hy hs=>((fix_iff hm y).1 hy).2.2 x ((fix_iff hm x).1 hx).2.1 hs)
end Go.Proofs.YtapobpgbcbplbaaGreatDoor.Fm
namespace Go.Proofs
open Go.Shelf
def Tryz.lays161_ren:Go.Shelf.Ren:=⟨fun|161=>180|231=>210|227=>211|233=>212|235=>213|228=>229|197=>230|151=>231|260=>236|152=>237|137=>238|119=>239|224=>174|225=>173|217=>172|266=>199|n=>n,fun|9=>9|4=>4|3=>3|5=>5|117=>309|116=>308|0=>0|124=>312|105=>325|21=>21|119=>336|46=>68|139=>339|138=>338|n=>n,fun|3=>8|4=>9|n=>n⟩
theorem Tryz.lays161:Go.Proofs.Lays.n161 Tryz.prog Tryz.lays161_ren:={
 mixed:=by kernel_rfl
 f119:=zK Tryz.func239 (by kernel_rfl)
 f137:=zK Tryz.func238 (by kernel_rfl)
 f151:=zK Tryz.func231 (by kernel_rfl)
 f152:=zK Tryz.func237 (by kernel_rfl)
 f161:=zK Tryz.func180 (by kernel_rfl)
 f197:=zK Tryz.func230 (by kernel_rfl)
 f217:=zK Tryz.func172 (by kernel_rfl)
 f224:=zK Tryz.func174 (by kernel_rfl)
 f225:=zK Tryz.func173 (by kernel_rfl)
 f227:=zK Tryz.func211 (by kernel_rfl)
 f228:=zK Tryz.func229 (by kernel_rfl)
 f231:=zK Tryz.func210 (by kernel_rfl)
 f233:=zK Tryz.func212 (by kernel_rfl)
 f235:=zK Tryz.func213 (by kernel_rfl)
 f260:=zK Tryz.func236 (by kernel_rfl)
 f266:=zK Tryz.func199 (by kernel_rfl)
 t0:=Tryz.underlying0
 a0:=Tryz.isAgg0
 z0:=Tryz.sizeOf0
 v0:=Tryz.zeroValue0
 t3:=Tryz.underlying3
 a3:=Tryz.isAgg3
 z3:=Tryz.sizeOf3
 v3:=Tryz.zeroValue3
 t4:=Tryz.underlying4
 a4:=Tryz.isAgg4
 z4:=Tryz.sizeOf4
 v4:=Tryz.zeroValue4
 t5:=Tryz.underlying5
 a5:=Tryz.isAgg5
 z5:=Tryz.sizeOf5
 v5:=Tryz.zeroValue5
 t9:=Tryz.underlying9
 a9:=Tryz.isAgg9
 z9:=Tryz.sizeOf9
 v9:=Tryz.zeroValue9
 t21:=Tryz.underlying21
 a21:=Tryz.isAgg21
 z21:=Tryz.sizeOf21
 v21:=Tryz.zeroValue21
 t46:=Tryz.underlying68
 a46:=Tryz.isAgg68
 z46:=Tryz.sizeOf68
 v46:=Tryz.zeroValue68
 t105:=Tryz.underlying325
 a105:=Tryz.isAgg325
 z105:=Tryz.sizeOf325
 v105:=Tryz.zeroValue325
 t116:=Tryz.underlying308
 a116:=Tryz.isAgg308
 z116:=Tryz.sizeOf308
 t117:=Tryz.underlying309
 a117:=Tryz.isAgg309
 z117:=Tryz.sizeOf309
 v117:=Tryz.zeroValue309
 t119:=Tryz.underlying336
 a119:=Tryz.isAgg336
 z119:=Tryz.sizeOf336
 t124:=Tryz.underlying312
 a124:=Tryz.isAgg312
 z124:=Tryz.sizeOf312
 v124:=Tryz.zeroValue312
 t138:=Tryz.underlying338
 a138:=Tryz.isAgg338
 z138:=Tryz.sizeOf338
 v138:=Tryz.zeroValue338
 t139:=Tryz.underlying339
 a139:=Tryz.isAgg339
 z139:=Tryz.sizeOf339
 v139:=Tryz.zeroValue339
 g3:=by kernel_rfl
 g4:=by kernel_rfl }
def Tryz.lays106_ren:Go.Shelf.Ren:=⟨fun|106=>96|213=>156|265=>191|n=>n,fun|9=>9|3=>3|n=>n,fun|n=>n⟩
theorem Tryz.lays106:Go.Proofs.Lays.n106 Tryz.prog Tryz.lays106_ren:={
 mixed:=by kernel_rfl
 f106:=zK Tryz.func96 (by kernel_rfl)
 f213:=zK Tryz.func156 (by kernel_rfl)
 f265:=zK Tryz.func191 (by kernel_rfl)
 t3:=Tryz.underlying3
 a3:=Tryz.isAgg3
 z3:=Tryz.sizeOf3
 v3:=Tryz.zeroValue3
 t9:=Tryz.underlying9
 a9:=Tryz.isAgg9
 z9:=Tryz.sizeOf9
 v9:=Tryz.zeroValue9 }
open Go.RowKit in
theorem Tryz.strings_Compare(a b:ByteArray)(w:World) :
  zC 96 #[.string a,.string b] w fun e w'=>e=.returned (.int .i64 (Lib.compareBytes a.data.toList b.data.toList))/\w'=w:=Any.strings_Compare Tryz.lays106 a b w
def Tryz.laysM173_ren:Go.Shelf.Ren:=⟨fun|173=>144|246=>178|283=>206|284=>207|285=>208|286=>209|129=>137|317=>225|318=>226|319=>227|320=>228|337=>234|338=>235|n=>n,fun|2=>2|3=>3|9=>9|4=>4|171=>301|0=>0|53=>223|37=>303|5=>5|173=>304|212=>322|51=>236|20=>20|213=>323|46=>68|232=>334|233=>335|n=>n,fun|17=>5|18=>6|19=>7|n=>n⟩
theorem Tryz.laysM173:Go.Proofs.LaysM.n173 Tryz.prog Tryz.laysM173_ren:={
 mixed:=by kernel_rfl
 f129:=zK Tryz.func137 (by kernel_rfl)
 f173:=zK Tryz.func144 (by kernel_rfl)
 f246:=zK Tryz.func178 (by kernel_rfl)
 f283:=zK Tryz.func206 (by kernel_rfl)
 f284:=zK Tryz.func207 (by kernel_rfl)
 f285:=zK Tryz.func208 (by kernel_rfl)
 f286:=zK Tryz.func209 (by kernel_rfl)
 f317:=zK Tryz.func225 (by kernel_rfl)
 f318:=zK Tryz.func226 (by kernel_rfl)
 f319:=zK Tryz.func227 (by kernel_rfl)
 f320:=zK Tryz.func228 (by kernel_rfl)
 f337:=zK Tryz.func234 (by kernel_rfl)
 f338:=zK Tryz.func235 (by kernel_rfl)
 t0:=Tryz.underlying0
 a0:=Tryz.isAgg0
 z0:=Tryz.sizeOf0
 v0:=Tryz.zeroValue0
 t2:=Tryz.underlying2
 a2:=Tryz.isAgg2
 z2:=Tryz.sizeOf2
 v2:=Tryz.zeroValue2
 t3:=Tryz.underlying3
 a3:=Tryz.isAgg3
 z3:=Tryz.sizeOf3
 v3:=Tryz.zeroValue3
 t4:=Tryz.underlying4
 a4:=Tryz.isAgg4
 z4:=Tryz.sizeOf4
 v4:=Tryz.zeroValue4
 t5:=Tryz.underlying5
 a5:=Tryz.isAgg5
 z5:=Tryz.sizeOf5
 v5:=Tryz.zeroValue5
 t9:=Tryz.underlying9
 a9:=Tryz.isAgg9
 z9:=Tryz.sizeOf9
 v9:=Tryz.zeroValue9
 t20:=Tryz.underlying20
 a20:=Tryz.isAgg20
 z20:=Tryz.sizeOf20
 v20:=Tryz.zeroValue20
 t37:=Tryz.underlying303
 a37:=Tryz.isAgg303
 z37:=Tryz.sizeOf303
 v37:=Tryz.zeroValue303
 t46:=Tryz.underlying68
 a46:=Tryz.isAgg68
 z46:=Tryz.sizeOf68
 v46:=Tryz.zeroValue68
 t51:=Tryz.underlying236
 a51:=Tryz.isAgg236
 z51:=Tryz.sizeOf236
 v51:=Tryz.zeroValue236
 t53:=Tryz.underlying223
 a53:=Tryz.isAgg223
 z53:=Tryz.sizeOf223
 v53:=Tryz.zeroValue223
 t171:=Tryz.underlying301
 a171:=Tryz.isAgg301
 z171:=Tryz.sizeOf301
 v171:=Tryz.zeroValue301
 t173:=Tryz.underlying304
 a173:=Tryz.isAgg304
 z173:=Tryz.sizeOf304
 v173:=Tryz.zeroValue304
 t212:=Tryz.underlying322
 a212:=Tryz.isAgg322
 z212:=Tryz.sizeOf322
 v212:=Tryz.zeroValue322
 t213:=Tryz.underlying323
 a213:=Tryz.isAgg323
 z213:=Tryz.sizeOf323
 t232:=Tryz.underlying334
 a232:=Tryz.isAgg334
 z232:=Tryz.sizeOf334
 v232:=Tryz.zeroValue334
 t233:=Tryz.underlying335
 a233:=Tryz.isAgg335
 z233:=Tryz.sizeOf335
 v233:=Tryz.zeroValue335
 g17:=by kernel_rfl
 g18:=by kernel_rfl
 g19:=by kernel_rfl
 i0:=by kernel_rfl
 i2:=by kernel_rfl
 i3:=by kernel_rfl
 i4:=by kernel_rfl
 i5:=by kernel_rfl
 i9:=by kernel_rfl
 i20:=by kernel_rfl
 i37:=by kernel_rfl
 i46:=by kernel_rfl
 i51:=by kernel_rfl
 i53:=by kernel_rfl
 i171:=by kernel_rfl
 i173:=by kernel_rfl
 i212:=by kernel_rfl
 i232:=by kernel_rfl
 i233:=by kernel_rfl
 m17:=by kernel_rfl
 m18:=by kernel_rfl
 m19:=by kernel_rfl }
open Go.RowKit Go.Sort Go.Lib in
theorem Tryz.strconv_FormatInt_10(n:Int)(h0:-9223372036854775808<=n)(h1:n<=9223372036854775807)(w:World)(htab:Lib.TabIs Tryz.prog w "internal/strconv.uint64pow10" .u64 Lib.pow10Tab) :
  zC 144 #[.int .i64 n,.int .i64 10] w fun e w'=>e=.returned (.string ⟨(Lib.itoa n).toArray⟩)/\∃k os,w'=grow (w.drewN k) os:=Any.strconv_FormatInt_10 Tryz.laysM173 n h0 h1 w htab
def Tryz.laysC174_ren:Go.Shelf.Ren:=⟨fun|174=>143|247=>176|245=>177|287=>201|279=>202|280=>203|281=>204|282=>205|321=>220|322=>221|316=>222|171=>224|205=>223|243=>233|246=>178|283=>206|284=>207|285=>208|286=>209|129=>137|317=>225|318=>226|319=>227|320=>228|337=>234|338=>235|n=>n,fun|9=>9|3=>3|2=>2|75=>41|85=>239|4=>4|167=>294|5=>5|53=>223|175=>295|46=>68|168=>297|37=>303|0=>0|210=>319|21=>21|127=>329|145=>332|143=>330|171=>301|173=>304|212=>322|51=>236|20=>20|213=>323|232=>334|233=>335|80=>341|n=>n,fun|15=>3|16=>4|17=>5|18=>6|19=>7|n=>n⟩
theorem Tryz.laysC174:Go.Proofs.LaysC.n174 Tryz.prog Tryz.laysC174_ren:={
 mixed:=by kernel_rfl
 f129:=zK Tryz.func137 (by kernel_rfl)
 f171:=zK Tryz.func224 (by kernel_rfl)
 f174:=zK Tryz.func143 (by kernel_rfl)
 f205:=zK Tryz.func223 (by kernel_rfl)
 f243:=zK Tryz.func233 (by kernel_rfl)
 f245:=zK Tryz.func177 (by kernel_rfl)
 f246:=zK Tryz.func178 (by kernel_rfl)
 f247:=zK Tryz.func176 (by kernel_rfl)
 f279:=zK Tryz.func202 (by kernel_rfl)
 f280:=zK Tryz.func203 (by kernel_rfl)
 f281:=zK Tryz.func204 (by kernel_rfl)
 f282:=zK Tryz.func205 (by kernel_rfl)
 f283:=zK Tryz.func206 (by kernel_rfl)
 f284:=zK Tryz.func207 (by kernel_rfl)
 f285:=zK Tryz.func208 (by kernel_rfl)
 f286:=zK Tryz.func209 (by kernel_rfl)
 f287:=zK Tryz.func201 (by kernel_rfl)
 f316:=zK Tryz.func222 (by kernel_rfl)
 f317:=zK Tryz.func225 (by kernel_rfl)
 f318:=zK Tryz.func226 (by kernel_rfl)
 f319:=zK Tryz.func227 (by kernel_rfl)
 f320:=zK Tryz.func228 (by kernel_rfl)
 f321:=zK Tryz.func220 (by kernel_rfl)
 f322:=zK Tryz.func221 (by kernel_rfl)
 f337:=zK Tryz.func234 (by kernel_rfl)
 f338:=zK Tryz.func235 (by kernel_rfl)
 t0:=Tryz.underlying0
 a0:=Tryz.isAgg0
 z0:=Tryz.sizeOf0
 v0:=Tryz.zeroValue0
 t2:=Tryz.underlying2
 a2:=Tryz.isAgg2
 z2:=Tryz.sizeOf2
 v2:=Tryz.zeroValue2
 t3:=Tryz.underlying3
 a3:=Tryz.isAgg3
 z3:=Tryz.sizeOf3
 v3:=Tryz.zeroValue3
 t4:=Tryz.underlying4
 a4:=Tryz.isAgg4
 z4:=Tryz.sizeOf4
 v4:=Tryz.zeroValue4
 t5:=Tryz.underlying5
 a5:=Tryz.isAgg5
 z5:=Tryz.sizeOf5
 v5:=Tryz.zeroValue5
 t9:=Tryz.underlying9
 a9:=Tryz.isAgg9
 z9:=Tryz.sizeOf9
 v9:=Tryz.zeroValue9
 t20:=Tryz.underlying20
 a20:=Tryz.isAgg20
 z20:=Tryz.sizeOf20
 v20:=Tryz.zeroValue20
 t21:=Tryz.underlying21
 a21:=Tryz.isAgg21
 z21:=Tryz.sizeOf21
 v21:=Tryz.zeroValue21
 t37:=Tryz.underlying303
 a37:=Tryz.isAgg303
 z37:=Tryz.sizeOf303
 v37:=Tryz.zeroValue303
 t46:=Tryz.underlying68
 a46:=Tryz.isAgg68
 z46:=Tryz.sizeOf68
 v46:=Tryz.zeroValue68
 t51:=Tryz.underlying236
 a51:=Tryz.isAgg236
 z51:=Tryz.sizeOf236
 v51:=Tryz.zeroValue236
 t53:=Tryz.underlying223
 a53:=Tryz.isAgg223
 z53:=Tryz.sizeOf223
 v53:=Tryz.zeroValue223
 t75:=Tryz.underlying41
 a75:=Tryz.isAgg41
 z75:=Tryz.sizeOf41
 v75:=Tryz.zeroValue41
 t85:=Tryz.underlying239
 a85:=Tryz.isAgg239
 z85:=Tryz.sizeOf239
 v85:=Tryz.zeroValue239
 t127:=Tryz.underlying329
 a127:=Tryz.isAgg329
 z127:=Tryz.sizeOf329
 v127:=Tryz.zeroValue329
 t143:=Tryz.underlying330
 a143:=Tryz.isAgg330
 z143:=Tryz.sizeOf330
 v143:=Tryz.zeroValue330
 t145:=Tryz.underlying332
 a145:=Tryz.isAgg332
 z145:=Tryz.sizeOf332
 v145:=Tryz.zeroValue332
 t167:=Tryz.underlying294
 a167:=Tryz.isAgg294
 z167:=Tryz.sizeOf294
 v167:=Tryz.zeroValue294
 t168:=Tryz.underlying297
 a168:=Tryz.isAgg297
 z168:=Tryz.sizeOf297
 v168:=Tryz.zeroValue297
 t171:=Tryz.underlying301
 a171:=Tryz.isAgg301
 z171:=Tryz.sizeOf301
 v171:=Tryz.zeroValue301
 t173:=Tryz.underlying304
 a173:=Tryz.isAgg304
 z173:=Tryz.sizeOf304
 v173:=Tryz.zeroValue304
 t175:=Tryz.underlying295
 a175:=Tryz.isAgg295
 z175:=Tryz.sizeOf295
 v175:=Tryz.zeroValue295
 t210:=Tryz.underlying319
 a210:=Tryz.isAgg319
 z210:=Tryz.sizeOf319
 v210:=Tryz.zeroValue319
 t212:=Tryz.underlying322
 a212:=Tryz.isAgg322
 z212:=Tryz.sizeOf322
 v212:=Tryz.zeroValue322
 t213:=Tryz.underlying323
 a213:=Tryz.isAgg323
 z213:=Tryz.sizeOf323
 t232:=Tryz.underlying334
 a232:=Tryz.isAgg334
 z232:=Tryz.sizeOf334
 v232:=Tryz.zeroValue334
 t233:=Tryz.underlying335
 a233:=Tryz.isAgg335
 z233:=Tryz.sizeOf335
 v233:=Tryz.zeroValue335
 g15:=by kernel_rfl
 g16:=by kernel_rfl
 g17:=by kernel_rfl
 g18:=by kernel_rfl
 g19:=by kernel_rfl
 t80:=Tryz.underlying341
 a80:=Tryz.isAgg341
 z80:=Tryz.sizeOf341
 v80:=Tryz.zeroValue341
 i0:=by kernel_rfl
 i2:=by kernel_rfl
 i3:=by kernel_rfl
 i4:=by kernel_rfl
 i5:=by kernel_rfl
 i9:=by kernel_rfl
 i20:=by kernel_rfl
 i21:=by kernel_rfl
 i37:=by kernel_rfl
 i46:=by kernel_rfl
 i51:=by kernel_rfl
 i53:=by kernel_rfl
 i75:=by kernel_rfl
 i80:=by kernel_rfl
 i85:=by kernel_rfl
 i127:=by kernel_rfl
 i143:=by kernel_rfl
 i145:=by kernel_rfl
 i167:=by kernel_rfl
 i168:=by kernel_rfl
 i171:=by kernel_rfl
 i173:=by kernel_rfl
 i175:=by kernel_rfl
 i210:=by kernel_rfl
 i212:=by kernel_rfl
 i232:=by kernel_rfl
 i233:=by kernel_rfl
 m15:=by kernel_rfl
 m16:=by kernel_rfl
 m17:=by kernel_rfl
 m18:=by kernel_rfl
 m19:=by kernel_rfl
 c0:=by kernel_rfl
 c2:=by kernel_rfl
 c3:=by kernel_rfl
 c4:=by kernel_rfl
 c5:=by kernel_rfl
 c9:=by kernel_rfl
 c20:=by kernel_rfl
 c21:=by kernel_rfl
 c37:=by kernel_rfl
 c46:=by kernel_rfl
 c51:=by kernel_rfl
 c53:=by kernel_rfl
 c75:=by kernel_rfl
 c80:=by kernel_rfl
 c85:=by kernel_rfl
 c127:=by kernel_rfl
 c143:=by kernel_rfl
 c145:=by kernel_rfl
 c167:=by kernel_rfl
 c168:=by kernel_rfl
 c171:=by kernel_rfl
 c173:=by kernel_rfl
 c175:=by kernel_rfl
 c210:=by kernel_rfl
 c212:=by kernel_rfl
 c213:=by kernel_rfl
 c232:=by kernel_rfl
 c233:=by kernel_rfl }
open Go.RowKit in
theorem Tryz.strconv_ParseInt_10_at64_ok(s:ByteArray)(hmax:s.size<=9223372036854775806)(v:Int)(h:Lib.parseIntB 64 s.data.toList=.ok v)(w:World) :
  zC 143 #[.string s,.int .i64 10,.int .i64 64] w fun e w'=>e=.returned (.tuple #[.int .i64 v,.nilIface])/\(w'=w\/∃t,w'=Lib.bytesWorld w 5 t):=Any.strconv_ParseInt_10_at64_ok Tryz.laysC174 s hmax v h w
open Go.RowKit in
theorem Tryz.strconv_ParseInt_10_at64_syntax(s:ByteArray)(hlim:s.size<=281474976710656)(h:Lib.parseIntB 64 s.data.toList=.«syntax»)(ev:Value)(w:World)(hv:w.cell? ⟨3,0,none⟩=some ev)(hev:ev=.nilIface\/∃te pe,ev=.iface te pe) :
  zC 143 #[.string s,.int .i64 10,.int .i64 64] w fun e w'=>∃N,e=.returned (.tuple #[.int .i64 (0),.iface 297 (.pointer (some ⟨N,0,none⟩))])/\w.heap.size<=N/\w'.heap[N]?=some (.cells #[.string ⟨#[80,97,114,115,101,73,110,116]⟩,.string s,ev] 319 (0,0))/\zB w w':=Any.strconv_ParseInt_10_at64_syntax Tryz.laysC174 s hlim h ev w hv hev
open Go.RowKit in
theorem Tryz.strconv_ParseInt_10_at64_range(s:ByteArray)(hlim:s.size<=281474976710656)(h:Lib.parseIntB 64 s.data.toList=.range)(ev:Value)(w:World)(hv:w.cell? ⟨4,0,none⟩=some ev)(hev:ev=.nilIface\/∃te pe,ev=.iface te pe) :
  zC 143 #[.string s,.int .i64 10,.int .i64 64] w fun e w'=>∃N,e=.returned (.tuple #[.int .i64 (Lib.intSat 64 s.data.toList),.iface 297 (.pointer (some ⟨N,0,none⟩))])/\w.heap.size<=N/\w'.heap[N]?=some (.cells #[.string ⟨#[80,97,114,115,101,73,110,116]⟩,.string s,ev] 319 (0,0))/\zB w w':=Any.strconv_ParseInt_10_at64_range Tryz.laysC174 s hlim h ev w hv hev
def Tryz.lays143_ren:Go.Shelf.Ren:=⟨fun|143=>141|219=>138|217=>172|225=>173|224=>174|267=>175|266=>199|314=>200|n=>n,fun|9=>9|3=>3|4=>4|5=>5|46=>68|146=>292|51=>236|n=>n,fun|1=>2|n=>n⟩
theorem Tryz.lays143:Go.Proofs.Lays.n143 Tryz.prog Tryz.lays143_ren:={
 mixed:=by kernel_rfl
 f143:=zK Tryz.func141 (by kernel_rfl)
 f217:=zK Tryz.func172 (by kernel_rfl)
 f219:=zK Tryz.func138 (by kernel_rfl)
 f224:=zK Tryz.func174 (by kernel_rfl)
 f225:=zK Tryz.func173 (by kernel_rfl)
 f266:=zK Tryz.func199 (by kernel_rfl)
 f267:=zK Tryz.func175 (by kernel_rfl)
 f314:=zK Tryz.func200 (by kernel_rfl)
 t3:=Tryz.underlying3
 a3:=Tryz.isAgg3
 z3:=Tryz.sizeOf3
 v3:=Tryz.zeroValue3
 t4:=Tryz.underlying4
 a4:=Tryz.isAgg4
 z4:=Tryz.sizeOf4
 v4:=Tryz.zeroValue4
 t5:=Tryz.underlying5
 a5:=Tryz.isAgg5
 z5:=Tryz.sizeOf5
 v5:=Tryz.zeroValue5
 t9:=Tryz.underlying9
 a9:=Tryz.isAgg9
 z9:=Tryz.sizeOf9
 v9:=Tryz.zeroValue9
 t46:=Tryz.underlying68
 a46:=Tryz.isAgg68
 z46:=Tryz.sizeOf68
 v46:=Tryz.zeroValue68
 t51:=Tryz.underlying236
 a51:=Tryz.isAgg236
 z51:=Tryz.sizeOf236
 v51:=Tryz.zeroValue236
 t146:=Tryz.underlying292
 a146:=Tryz.isAgg292
 z146:=Tryz.sizeOf292
 v146:=Tryz.zeroValue292
 g1:=by kernel_rfl }
open Go.RowKit Go.Lib in
theorem Tryz.strings_Index(s sub:ByteArray)(m:Int)(w:World)(hs:s.size<4294967281)(hm:w.cell? ⟨2,0,none⟩=some (.int .i64 m)) :
  zC 141 #[.string s,.string sub] w fun e w'=>e=.returned (.int .i64 (Lib.index s.data.toList sub.data.toList))/\w'=w:=Any.strings_Index Tryz.lays143 s sub m w hs hm
def Tryz.lays145_ren:Go.Shelf.Ren:=⟨fun|145=>50|220=>81|219=>138|217=>172|225=>173|224=>174|267=>175|266=>199|314=>200|n=>n,fun|9=>9|4=>4|59=>117|3=>3|5=>5|46=>68|146=>292|51=>236|n=>n,fun|1=>2|n=>n⟩
theorem Tryz.lays145:Go.Proofs.Lays.n145 Tryz.prog Tryz.lays145_ren:={
 mixed:=by kernel_rfl
 f145:=zK Tryz.func50 (by kernel_rfl)
 f217:=zK Tryz.func172 (by kernel_rfl)
 f219:=zK Tryz.func138 (by kernel_rfl)
 f220:=zK Tryz.func81 (by kernel_rfl)
 f224:=zK Tryz.func174 (by kernel_rfl)
 f225:=zK Tryz.func173 (by kernel_rfl)
 f266:=zK Tryz.func199 (by kernel_rfl)
 f267:=zK Tryz.func175 (by kernel_rfl)
 f314:=zK Tryz.func200 (by kernel_rfl)
 t3:=Tryz.underlying3
 a3:=Tryz.isAgg3
 z3:=Tryz.sizeOf3
 v3:=Tryz.zeroValue3
 t4:=Tryz.underlying4
 a4:=Tryz.isAgg4
 z4:=Tryz.sizeOf4
 v4:=Tryz.zeroValue4
 t5:=Tryz.underlying5
 a5:=Tryz.isAgg5
 z5:=Tryz.sizeOf5
 v5:=Tryz.zeroValue5
 t9:=Tryz.underlying9
 a9:=Tryz.isAgg9
 z9:=Tryz.sizeOf9
 v9:=Tryz.zeroValue9
 t46:=Tryz.underlying68
 a46:=Tryz.isAgg68
 z46:=Tryz.sizeOf68
 v46:=Tryz.zeroValue68
 t51:=Tryz.underlying236
 a51:=Tryz.isAgg236
 z51:=Tryz.sizeOf236
 v51:=Tryz.zeroValue236
 t59:=Tryz.underlying117
 a59:=Tryz.isAgg117
 z59:=Tryz.sizeOf117
 v59:=Tryz.zeroValue117
 t146:=Tryz.underlying292
 a146:=Tryz.isAgg292
 z146:=Tryz.sizeOf292
 v146:=Tryz.zeroValue292
 g1:=by kernel_rfl }
open Go.RowKit Go.Lib in
theorem Tryz.strings_Cut(s sep:ByteArray)(m:Int)(w:World)(hs:s.size<4294967281)(hm:w.cell? ⟨2,0,none⟩=some (.int .i64 m)) :
  zC 50 #[.string s,.string sep] w fun e w'=>e=.returned (.tuple #[.string ⟨(Lib.cut s.data.toList sep.data.toList).1.toArray⟩,.string ⟨(Lib.cut s.data.toList sep.data.toList).2.1.toArray⟩,.bool (Lib.cut s.data.toList sep.data.toList).2.2])/\∃n,w'=w.drewN n:=Any.strings_Cut Tryz.lays145 s sep m w hs hm
def Tryz.lays138_ren:Go.Shelf.Ren:=⟨fun|138=>82|195=>139|218=>140|143=>141|219=>138|217=>172|225=>173|224=>174|267=>175|266=>199|314=>200|n=>n,fun|9=>9|3=>3|4=>4|5=>5|0=>0|46=>68|146=>292|51=>236|n=>n,fun|1=>2|n=>n⟩
theorem Tryz.lays138:Go.Proofs.Lays.n138 Tryz.prog Tryz.lays138_ren:={
 mixed:=by kernel_rfl
 f138:=zK Tryz.func82 (by kernel_rfl)
 f143:=zK Tryz.func141 (by kernel_rfl)
 f195:=zK Tryz.func139 (by kernel_rfl)
 f217:=zK Tryz.func172 (by kernel_rfl)
 f218:=zK Tryz.func140 (by kernel_rfl)
 f219:=zK Tryz.func138 (by kernel_rfl)
 f224:=zK Tryz.func174 (by kernel_rfl)
 f225:=zK Tryz.func173 (by kernel_rfl)
 f266:=zK Tryz.func199 (by kernel_rfl)
 f267:=zK Tryz.func175 (by kernel_rfl)
 f314:=zK Tryz.func200 (by kernel_rfl)
 t0:=Tryz.underlying0
 a0:=Tryz.isAgg0
 z0:=Tryz.sizeOf0
 v0:=Tryz.zeroValue0
 t3:=Tryz.underlying3
 a3:=Tryz.isAgg3
 z3:=Tryz.sizeOf3
 v3:=Tryz.zeroValue3
 t4:=Tryz.underlying4
 a4:=Tryz.isAgg4
 z4:=Tryz.sizeOf4
 v4:=Tryz.zeroValue4
 t5:=Tryz.underlying5
 a5:=Tryz.isAgg5
 z5:=Tryz.sizeOf5
 v5:=Tryz.zeroValue5
 t9:=Tryz.underlying9
 a9:=Tryz.isAgg9
 z9:=Tryz.sizeOf9
 v9:=Tryz.zeroValue9
 t46:=Tryz.underlying68
 a46:=Tryz.isAgg68
 z46:=Tryz.sizeOf68
 v46:=Tryz.zeroValue68
 t51:=Tryz.underlying236
 a51:=Tryz.isAgg236
 z51:=Tryz.sizeOf236
 v51:=Tryz.zeroValue236
 t146:=Tryz.underlying292
 a146:=Tryz.isAgg292
 z146:=Tryz.sizeOf292
 v146:=Tryz.zeroValue292
 g1:=by kernel_rfl }
open Go.RowKit Go.Lib in
theorem Tryz.strings_Count_one(s:ByteArray)(c:UInt8)(w:World) :
  zC 82 #[.string s,.string ⟨#[c]⟩] w fun e w'=>e=.returned (.int .i64 (Lib.countByte s.data.toList c))/\w'=w:=Any.strings_Count_one Tryz.lays138 s c w
end Go.Proofs
namespace Go.Proofs.YtapobpgbcbplbaaGreatDoor
open Go.RowKit Go.Extern.Stop Go.Stop Go.Extern
namespace Errs
theorem zd6(t:Addr)(w:World):(ReflectliteValue.unpack (.iface 125 (.pointer (some t)))).run Tryz.prog w
  = .ok (.agg #[.pointer (some ⟨10,125,none⟩),.pointer (some ⟨w.heap.size,0,none⟩),.int .u64 150]) (w.alloc (.cells #[.pointer (some t)] 125)):=by kernel_rfl
theorem zdR(a:Addr)(w:World):(ReflectliteValue.methodAny (ReflectliteValue.valueError "reflectlite.Value.Type" 0) (fun t _ _ _=>ReflectliteType.toType t) #[.agg #[.pointer (some ⟨10,125,none⟩),.pointer (some a),.int .u64 150]]).run Tryz.prog w
  = .ok (.iface 244 (.agg #[.pointer (some ⟨10,125,none⟩)])) w:=by kernel_rfl
theorem zbP(w:World):((ReflectliteType.abiMethod fun t=>(fun a:Nat=>Value.int IntKind.u8 (a:Int)) <$> Rtype.kind t) #[.pointer (some ⟨10,125,none⟩)]).run Tryz.prog w=.ok (.int .u8 22) w:=by kernel_rfl
theorem zct(w:World):((ReflectliteType.abiMethod fun t=>(fun a:Nat=>Value.int IntKind.u8 (a:Int)) <$> Rtype.kind t) #[.pointer (some ⟨10,64,none⟩)]).run Tryz.prog w=.ok (.int .u8 2) w:=by kernel_rfl
theorem zba(z:Sem Value)(f:TypeId->Addr->Nat->Nat->Sem Value)(v:Value)(t:TypeId)(a:Addr)(fl:Nat)(w:World)(h:(ReflectliteValue.parts v).run Tryz.prog w=.ok (some (t,a,fl)) w) :
  (ReflectliteValue.method z f #[v]).run Tryz.prog w=(f t a fl (fl%32)).run Tryz.prog w:=by
 obtain⟨F,hF,hG⟩:∃F:Option (TypeId × Addr × Nat)->Sem Value,ReflectliteValue.method z f #[v]=(ReflectliteValue.parts v >>= F)/\∀t a fl,F (some (t,a,fl))=f t a fl (fl%32):=⟨_,rfl,fun _ _ _=>rfl⟩;rw[hF];simp only[Sem.run_bind,h,Result.andThen];rw[hG]
theorem zdv(a:Addr)(w:World):(ReflectliteValue.parts (.agg #[.pointer (some ⟨10,125,none⟩),.pointer (some a),.int .u64 150])).run Tryz.prog w=.ok (some (125,a,150)) w:=by kernel_rfl
theorem zcy(a p:Addr)(W:World)(ha:W.cell? a=some (.pointer (some p))) :
  (ReflectliteValue.method (ReflectliteValue.valueError "reflectlite.Value.IsNil" 0) ReflectliteValue.isNil #[.agg #[.pointer (some ⟨10,125,none⟩),.pointer (some a),.int .u64 150]]).run Tryz.prog W=.ok (.bool false) W:=by
 rw[zba _ _ _ _ _ _ _ (zdv a W)];simp[ReflectliteValue.isNil,loadVar,isAgg,underlying,Tryz.underlying125,ha,Result.andThen]
theorem zdA(w:World):(ReflectliteType.method ReflectliteType.elem #[.agg #[.pointer (some ⟨10,125,none⟩)]]).run Tryz.prog w=.ok (.iface 244 (.agg #[.pointer (some ⟨10,64,none⟩)])) w:=by kernel_rfl
theorem zbN(w:World):(ReflectliteType.relation "Implements" ReflectliteType.implements_ #[.agg #[.pointer (some ⟨10,64,none⟩)],.iface 244 (.agg #[.pointer (some ⟨10,41,none⟩)])]).run Tryz.prog w=.ok (.bool true) w:=by kernel_rfl
theorem zei(v:Value)(w:World):(ReflectliteType.typeOf #[.iface 64 v]).run Tryz.prog w=.ok (.iface 244 (.agg #[.pointer (some ⟨10,64,none⟩)])) w:=by kernel_rfl
theorem zbY(w:World):(ReflectliteType.relation "AssignableTo" ReflectliteType.assignableTo #[.agg #[.pointer (some ⟨10,64,none⟩)],.iface 244 (.agg #[.pointer (some ⟨10,64,none⟩)])]).run Tryz.prog w=.ok (.bool true) w:=by kernel_rfl
theorem zdx(n:Int)(w:World):(ReflectliteValue.unpack (.iface 64 (.int .i64 n))).run Tryz.prog w
  = .ok (.agg #[.pointer (some ⟨10,64,none⟩),.pointer (some ⟨w.heap.size,0,none⟩),.int .u64 130]) (w.alloc (.cells #[.int .i64 n] 64)):=by kernel_rfl
theorem ziM(w:World):(Rtype.elem? 125).run Tryz.prog w=.ok (some 64) w:=by kernel_rfl
theorem mkE(p:Addr)(w:World):(ReflectliteValue.mk 64 p ReflectliteValue.flagAddr).run Tryz.prog w=.ok (.agg #[.pointer (some ⟨10,64,none⟩),.pointer (some p),.int .u64 386]) w:=by kernel_rfl
theorem zdF(a p:Addr)(W:World)(ha:W.cell? a=some (.pointer (some p))) :
  (ReflectliteValue.method (ReflectliteValue.valueError "reflectlite.Value.Elem" 0) ReflectliteValue.elem #[.agg #[.pointer (some ⟨10,125,none⟩),.pointer (some a),.int .u64 150]]).run Tryz.prog W
   = .ok (.agg #[.pointer (some ⟨10,64,none⟩),.pointer (some p),.int .u64 386]) W:=by
 rw[zba _ _ _ _ _ _ _ (zdv a W)];simp[ReflectliteValue.elem,loadVar,isAgg,underlying,Tryz.underlying125,ha,Result.andThen,ziM,mkE]
theorem zmo(a:Addr)(w:World):(ReflectliteValue.parts (.agg #[.pointer (some ⟨10,64,none⟩),.pointer (some a),.int .u64 386])).run Tryz.prog w=.ok (some (64,a,386)) w:=by kernel_rfl
theorem znO(a:Addr)(w:World):(ReflectliteValue.parts (.agg #[.pointer (some ⟨10,64,none⟩),.pointer (some a),.int .u64 130])).run Tryz.prog w=.ok (some (64,a,130)) w:=by kernel_rfl
theorem zhv(w:World):(Rtype.directlyAssignable 64 64).run Tryz.prog w=.ok true w:=by kernel_rfl
theorem zl2(v x:Value):∃F:Option (TypeId × Addr × Nat)->Option (TypeId × Addr × Nat)->Sem Value,ReflectliteValue.set #[v,x]=(ReflectliteValue.parts v >>= fun p=>ReflectliteValue.parts x >>= fun q=>F p q) /\
  ∀a b,∃G:Value->Sem Value,F (some (64,a,386)) (some (64,b,130))=(loadVar 64 b >>= fun val=>Rtype.directlyAssignable 64 64 >>= fun d=>if d=true then (storeVar 64 a val >>= fun _=>pure (.tuple #[])) else G val):=⟨_,rfl,fun _ _=>⟨_,rfl⟩⟩
theorem zdq(ta b:Addr)(n:Int)(old:Value)(W:World)(hb:W.cell? b=some (.int .i64 n))(ht:W.cell? ta=some old)(hf:W.frozen? ta=false) :
  (ReflectliteValue.set #[.agg #[.pointer (some ⟨10,64,none⟩),.pointer (some ta),.int .u64 386],.agg #[.pointer (some ⟨10,64,none⟩),.pointer (some b),.int .u64 130]]).run Tryz.prog W
   = .ok (.tuple #[]) (W.setCell ta (.int .i64 n)):=by
 obtain⟨F,hF,hG⟩:=zl2 (.agg #[.pointer (some ⟨10,64,none⟩),.pointer (some ta),.int .u64 386]) (.agg #[.pointer (some ⟨10,64,none⟩),.pointer (some b),.int .u64 130]);obtain⟨G,hG⟩:=hG ta b;rw[hF];simp only[Sem.run_bind,zmo,znO,Result.andThen];rw[hG];simp[loadVar,isAgg,underlying,Tryz.underlying64,hb,Result.andThen,zhv,storeVar,Value.cells,storeCells,Addr.add];rw[run_store Tryz.prog W ta _ _ (by rfl)];simp[ht,hf]
end Errs
end Go.Proofs.YtapobpgbcbplbaaGreatDoor
namespace Go.Proofs.YtapobpgbcbplbaaGreatDoor
open Go.RowKit Go.Extern.Stop Go.Stop Go.Extern
namespace Errs
theorem zeK(h:Value)(w:World):(Go.method 468 244 (.agg #[h]) "Kind").run Tryz.prog w=.ok (254,h) w:=by kernel_rfl
theorem zdV(h:Value)(w:World):(Go.method 468 244 (.agg #[h]) "Elem").run Tryz.prog w=.ok (270,.agg #[h]) w:=by kernel_rfl
theorem zdL(h:Value)(w:World):(Go.method 468 244 (.agg #[h]) "Implements").run Tryz.prog w=.ok (271,.agg #[h]) w:=by kernel_rfl
theorem zcj(h:Value)(w:World):(Go.method 468 244 (.agg #[h]) "AssignableTo").run Tryz.prog w=.ok (268,.agg #[h]) w:=by kernel_rfl
theorem as_hit(n:Int)(t:Addr)(old:Value)(w:World)(hg:w.cell? ⟨1,0,none⟩=some (.iface 244 (.agg #[.pointer (some ⟨10,41,none⟩)])))(ht0:w.cell? t=some old)(hf0:w.frozen? t=false) :
  zC 55 #[.iface 64 (.int .i64 n),.iface 125 (.pointer (some t))] w fun ev w'=>ev=.returned (.bool true)/\w'=((((w.alloc (.cells #[.pointer (some t)] 125)).alloc (.cells #[.pointer (some ⟨10,125,none⟩),.pointer (some ⟨w.heap.size,0,none⟩),.int .u64 150] 179)).alloc (.cells #[.pointer (some ⟨10,125,none⟩),.pointer (some ⟨w.heap.size,0,none⟩),.int .u64 150] 179)).alloc (.cells #[.int .i64 n] 64)).setCell t (.int .i64 n):=by
 have h6:=@run_callFunc_extern Tryz.prog 87 _ (fun args=>ReflectliteValue.unpack (args.getD 0 (.tuple #[]))) Tryz.func87 (by kernel_rfl) (by kernel_rfl) (by kernel_rfl) (by kernel_rfl);have h7:=@run_callFunc_extern Tryz.prog 88 _ (ReflectliteValue.methodAny (ReflectliteValue.valueError "reflectlite.Value.Type" 0) (fun t _ _ _=>ReflectliteType.toType t)) Tryz.func88 (by kernel_rfl) (by kernel_rfl) (by kernel_rfl) (by kernel_rfl);have h8:=@run_callFunc_extern Tryz.prog 89 _ (ReflectliteValue.method (ReflectliteValue.valueError "reflectlite.Value.IsNil" 0) ReflectliteValue.isNil) Tryz.func89 (by kernel_rfl) (by kernel_rfl) (by kernel_rfl) (by kernel_rfl);have h27:=@run_callFunc_extern Tryz.prog 254 _ (ReflectliteType.abiMethod fun t=>do pure (.int .u8 (<-Rtype.kind t))) Tryz.func254 (by kernel_rfl) (by kernel_rfl) (by kernel_rfl) (by kernel_rfl);have h37:=@run_callFunc_extern Tryz.prog 270 _ (ReflectliteType.method ReflectliteType.elem) Tryz.func270 (by kernel_rfl) (by kernel_rfl) (by kernel_rfl) (by kernel_rfl);have h38:=@run_callFunc_extern Tryz.prog 271 _ (ReflectliteType.relation "Implements" ReflectliteType.implements_) Tryz.func271 (by kernel_rfl) (by kernel_rfl) (by kernel_rfl) (by kernel_rfl);have h10:=@run_callFunc_extern Tryz.prog 149 _ ReflectliteType.typeOf Tryz.func149 (by kernel_rfl) (by kernel_rfl) (by kernel_rfl) (by kernel_rfl);have h35:=@run_callFunc_extern Tryz.prog 268 _ (ReflectliteType.relation "AssignableTo" ReflectliteType.assignableTo) Tryz.func268 (by kernel_rfl) (by kernel_rfl) (by kernel_rfl) (by kernel_rfl);have h11:=@run_callFunc_extern Tryz.prog 150 _ (ReflectliteValue.method (ReflectliteValue.valueError "reflectlite.Value.Elem" 0) ReflectliteValue.elem) Tryz.func150 (by kernel_rfl) (by kernel_rfl) (by kernel_rfl) (by kernel_rfl);have h12:=@run_callFunc_extern Tryz.prog 151 _ ReflectliteValue.set Tryz.func151 (by kernel_rfl) (by kernel_rfl) (by kernel_rfl) (by kernel_rfl);have tO:=zei;have mA:=zcj;have a25:=zbY;have v25:=zdx;have f6:=zd6;have f7:=zdR;have mK:=zeK;have mE:=zdV;have mI:=zdL;have k27:=zbP;have k25:=zct;have e27:=zdA;have i25:=zbN;have n8:=zcy ⟨w.heap.size,0,none⟩ t ((w.alloc (.cells #[.pointer (some t)] 125)).alloc (.cells #[.pointer (some ⟨10,125,none⟩),.pointer (some ⟨w.heap.size,0,none⟩),.int .u64 150] 179)) (by simp);have hlt:1<w.heap.size:=by
  rcases Nat.lt_or_ge 1 w.heap.size with h|h
  ·exact h
  ·simp[World.cell?,Array.getElem?_eq_none h] at hg
 have hg2:((w.alloc (.cells #[.pointer (some t)] 125)).alloc (.cells #[.pointer (some ⟨10,125,none⟩),.pointer (some ⟨w.heap.size,0,none⟩),.int .u64 150] 179)).cell? ⟨1,0,none⟩=some (.iface 244 (.agg #[.pointer (some ⟨10,41,none⟩)])):=by
  rw[World.cell?_alloc_lt _ _ ⟨1,0,none⟩ (by simp only[World.size_alloc];omega),World.cell?_alloc_lt _ _ ⟨1,0,none⟩ hlt];exact hg
 have htl:t.block<w.heap.size:=by
  rcases Nat.lt_or_ge t.block w.heap.size with h|h
  ·exact h
  ·simp[World.cell?,Array.getElem?_eq_none h] at ht0
 have el:=zdF ⟨w.heap.size,0,none⟩ t (((w.alloc (.cells #[.pointer (some t)] 125)).alloc (.cells #[.pointer (some ⟨10,125,none⟩),.pointer (some ⟨w.heap.size,0,none⟩),.int .u64 150] 179)).alloc (.cells #[.pointer (some ⟨10,125,none⟩),.pointer (some ⟨w.heap.size,0,none⟩),.int .u64 150] 179)) (by rw[World.cell?_alloc_lt _ _ ⟨w.heap.size,0,none⟩ (by simp;omega)];simp);have st:=zdq t ⟨w.heap.size+1+1+1,0,none⟩ n old ((((w.alloc (.cells #[.pointer (some t)] 125)).alloc (.cells #[.pointer (some ⟨10,125,none⟩),.pointer (some ⟨w.heap.size,0,none⟩),.int .u64 150] 179)).alloc (.cells #[.pointer (some ⟨10,125,none⟩),.pointer (some ⟨w.heap.size,0,none⟩),.int .u64 150] 179)).alloc (.cells #[.int .i64 n] 64))
  (by rw[World.cell?_alloc_at _ _ _ _ (by simp)];rfl)
  (by rw[World.cell?_alloc_lt _ _ t (by simp;omega),World.cell?_alloc_lt _ _ t (by simp;omega),World.cell?_alloc_lt _ _ t (by simp;omega),World.cell?_alloc_lt _ _ t htl];exact ht0)
  (by rw[World.frozen?_alloc_old _ _ t (by simp;omega),World.frozen?_alloc_old _ _ t (by simp;omega),World.frozen?_alloc_old _ _ t (by simp;omega),World.frozen?_alloc_old _ _ t (Nat.ne_of_lt htl)];exact hf0)
 go_enter Tryz.func55,Tryz.ntmps55;go_wp2;refine wp_loop_rounds 1 ?_;rw[rounds_succ];go_wp2;go_ret;exact⟨rfl,rfl⟩
end Errs
end Go.Proofs.YtapobpgbcbplbaaGreatDoor
