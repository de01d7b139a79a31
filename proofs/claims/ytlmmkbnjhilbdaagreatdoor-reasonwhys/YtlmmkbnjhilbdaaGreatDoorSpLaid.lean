/- The keeper's fact: what may be installed of a catalog. -/
import Derived.Test.YtlmmkbnjhilbdaaGreatDoorRsCoredP
import Derived.Shelf.Strings.OnBuilder
import Derived.Shelf.Strings.Replace
import Derived.Shelf.Strings.BuilderK
import Derived.Lib.ItoaLen
import Derived.Deep.Onto
open Go.Proofs.YtlmmkbnjhilbdaaGreatDoor
set_option maxHeartbeats 4000000
set_option maxRecDepth 100000
namespace Go.Proofs.YtlmmkbnjhilbdaaGreatDoor
open Go.RowKit Sv
theorem zev(its:List It)(ls:List Ln)(x:Ln):∀k,k<=ls.length->lnL its (ls++[x]) k=lnL its ls k
 |0,_=>rfl
 |k+1,h=>by
  rw[Qe,Qe,zev its ls x k (by omega)];congr 2;rw[List.getD_eq_getElem?_getD,List.getD_eq_getElem?_getD,List.getElem?_append_left (by omega)]
theorem zh3(its:List It)(ls:List Ln)(x:Ln):ofL its (ls++[x])=ofL its ls++yj its ls.length x:=by
 unfold ofL;rw[List.length_append,List.length_singleton,Qe,zev its ls x ls.length zN,<-List.append_assoc];congr 2;simp[List.getD_eq_getElem?_getD]
theorem zlN(ls:List Ln)(x:Ln)(hx:x.kind≠1):zw (ls++[x])=zw ls++[ls.length]:=by
 unfold zw;rw[List.length_append,List.length_singleton,zbS];have h1:(ls++[x]).getD ls.length default=x:=by simp[List.getD_eq_getElem?_getD]
 rw[h1,if_pos (by simpa using hx)];congr 1;unfold qF;refine List.filter_congr fun n hn=>?_;rw[List.getD_eq_getElem?_getD,List.getD_eq_getElem?_getD,List.getElem?_append_left (by simpa using hn)]
theorem zhk{l:List Nat}{v:Nat}(hn:l.Nodup)(h:∀x,x∈l↔x=v):l=[v]:=by
 match l with
 |[]=>have:=(h v).2 rfl;cases this
 |[y]=>rw[(h y).1 (by simp)]
 |y :: z :: t =>have h1:=(h y).1 (by simp);have h2:=(h z).1 (by simp);rw[List.nodup_cons] at hn;exact absurd (by rw[h1,h2];simp) hn.1
theorem zcJ(x:It):qk x x=0:=by
 unfold qk;rw[if_pos rfl,zdJ];exact⟨rfl,rfl,rfl⟩
theorem YK{its:List It}{v:Nat}(hv:v<its.length):its.getD v default∈its:=by
 rw[List.getD_eq_getElem?_getD,List.getElem?_eq_getElem hv];exact List.getElem_mem hv
theorem zjK{its:List It}(hA:Asc its)(hin:∀y∈its,zI y.name/\InV y.a y.b y.c){v a b c:Nat}(hv:v<its.length)(ha:(its.getD v default).a=(a:Int))(hb:(its.getD v default).b=(b:Int))(hc:(its.getD v default).c=(c:Int)) :
  qP its (its.getD v default).name (zq (zk a b c) (zk a b c+1))=[v]:=by
 refine zhk ?_ fun x=>?_
 ·unfold qP;exact List.Nodup.sublist (List.filter_sublist) List.nodup_range'
 constructor
 ·intro hx;have hxl:=Jf its _ _ x hx;unfold qP at hx;obtain⟨h1,h2⟩:=List.mem_filter.1 hx;have h1':=List.mem_range'_1.1 h1;have hnm:=(zfP hA (its.getD v default).name x hxl).2 ⟨h1'.1,by omega⟩;have h2':xF (zq (zk a b c) (zk a b c+1)) (its.getD x default):=by simpa using h2
  obtain⟨i1,i2⟩:=h2';rw[zdu] at i2;have iv:=(hin _ (YK hv)).2;rw[ha,hb,hc] at iv;unfold InV at i1 iv;unfold Qj zk at i2;have e:its.getD x default=its.getD v default:=by
   generalize hX:its.getD x default=X at *;generalize hV:its.getD v default=V at *;obtain⟨xn,xa,xb,xc⟩:=X;obtain⟨vn,va,vb,vc⟩:=V;simp only at *;subst hnm ha hb hc;rw[It.mk.injEq];exact⟨rfl,by omega,by omega,by omega⟩
  rcases Nat.lt_trichotomy x v with h|h|h
  ·have:=Yr hA hv h;rw[e,zcJ] at this;omega
  ·exact h
  ·have:=Yr hA hxl h;rw[e,zcJ] at this;omega
 ·rintro rfl;unfold qP;have h0:=(zfP hA (its.getD x default).name x hv).1 rfl;have iv:=(hin _ (YK hv)).2;refine List.mem_filter.2 ⟨List.mem_range'_1.2 ⟨h0.1,by omega⟩,?_⟩;have:xF (zq (zk a b c) (zk a b c+1)) (its.getD x default):=by
   refine⟨iv,zdu.2 ?_⟩;rw[ha,hb,hc];unfold Qj zk;simp
  simpa using this
def wls(its:List It)(ls:List Ln)(v a b c:Nat):List Ln:=ls++[yi (its.getD v default).name (zq (zk a b c) (zk a b c+1))]
section
variable {its:List It} {ls:List Ln} {v a b c:Nat}
theorem zaN(h:qq ls=.ok its)(hv:v<its.length)(ha:(its.getD v default).a=(a:Int))(hb:(its.getD v default).b=(b:Int))(hc:(its.getD v default).c=(c:Int)):ofL its (wls its ls v a b c)=ofL its ls++[((ls.length:Int),[(v:Int)+1])]:=by
 unfold wls;rw[zh3];congr 1;unfold yj;rw[if_pos (show (yi (its.getD v default).name (zq (zk a b c) (zk a b c+1))).kind=4 from rfl)];show [((ls.length:Int),(qP its (its.getD v default).name (zq (zk a b c) (zk a b c+1))).map fun (k:Nat)=>((k:Int)+1))]=_;rw[zjK (zd2 h).1 (Kn h) hv ha hb hc];rfl
theorem zji(h:qq ls=.ok its)(hv:v<its.length)(hl:ls.length<100):qq (wls its ls v a b c)=.ok its :=
 ziT h hl (zjH (Kn h _ (YK hv)).1) rfl
theorem zm7:zw (wls its ls v a b c)=zw ls++[ls.length]:=zlN ls _ (show (4:Int)≠1 by decide)
theorem zhU(h:qq ls=.ok its)(hv:v<its.length)(ha:(its.getD v default).a=(a:Int))(hb:(its.getD v default).b=(b:Int))(hc:(its.getD v default).c=(c:Int)):xq (wls its ls v a b c) its (zw (wls its ls v a b c))=xi ((ofL its ls).map Prod.snd++[[(v:Int)+1]]):=by
 unfold xq;rw[zbU,zaN h hv ha hb hc,List.map_append];rfl
theorem zg1(h:qq ls=.ok its)(hv:v<its.length)(ha:(its.getD v default).a=(a:Int))(hb:(its.getD v default).b=(b:Int))(hc:(its.getD v default).c=(c:Int)):xq (wls its ls v a b c) its (zw ls)=xi ((ofL its ls).map Prod.snd):=by
 unfold xq;rw[zaN h hv ha hb hc];have hlen:(wls its ls v a b c).length=ls.length+1:=by unfold wls;simp
 rw[hlen];congr 1;unfold qm;rw[List.filter_append,List.filter_cons,List.filter_nil];have hno:yN (inF (ls.length+1) (zw ls)) (ls.length:Int)=false:=by
  simp only[yN,Int.toNat_natCast];rw[QC _ (Nat.lt_succ_self _)];have:ls.length∉zw ls:=fun hm=>absurd (zb8 ls ls.length _ hm) (Nat.lt_irrefl _);simp[this]
 rw[if_neg (by simp[hno]),List.append_nil];have:=zbU its ls;rw[<-zoM its ls (zw ls) (Nat.le_succ ls.length)] at this;unfold qm at this;exact this
theorem zbu(can:List Nat->Bool)(x:Nat):∀(k:Nat) (m:List Nat),k<=m.length->∃m',yv can k (m++[x])=m'++[x]
 |0,m,_=>⟨m,rfl⟩
 |k+1,m,h=>by
  unfold yv;split
  ·exact zbu can x k m (by omega)
  ·rw[List.eraseIdx_append_of_lt_length (by omega)];exact zbu can x k (m.eraseIdx k) (by rw[List.length_eraseIdx_of_lt (by omega)];omega)
noncomputable def YW(its:List It)(ls:List Ln)(v a b c:Nat):List Nat:=yv (xq (wls its ls v a b c) its) (zw (wls its ls v a b c)).length (zw (wls its ls v a b c))
theorem zgT(h:qq ls=.ok its)(hv:v<its.length)(ha:(its.getD v default).a=(a:Int))(hb:(its.getD v default).b=(b:Int))(hc:(its.getD v default).c=(c:Int))(hs:xi ((ofL its ls).map Prod.snd)=true):∃m,YW its ls v a b c=m++[ls.length]:=by
 unfold YW;rw[zm7,List.length_append,List.length_singleton];unfold yv;rw[List.eraseIdx_append_of_length_le zN,Nat.sub_self];show ∃m,yv _ _ (if xq (wls its ls v a b c) its (zw ls++[])=true then _ else _)=_;rw[List.append_nil,zg1 h hv ha hb hc,hs,if_pos rfl];exact zbu _ _ _ _ zN
theorem zlb:(YW its ls v a b c).length<=ls.length+1:=by
 have hsub:∀(can:List Nat->Bool) (k:Nat) (l:List Nat),(yv can k l).length<=l.length:=by
  intro can k
  induction k with
  |zero=>intro l;exact Nat.le_refl _
  |succ k ih =>
   intro l;unfold yv;refine Nat.le_trans (ih _) ?_;split
   ·exact Nat.le_refl _
   ·exact List.length_eraseIdx_le l k
 refine Nat.le_trans (hsub _ _ _) (Nat.le_trans (JZ _ _) ?_);unfold wls;simp
end
end Go.Proofs.YtlmmkbnjhilbdaaGreatDoor
namespace Go.Proofs.YtlmmkbnjhilbdaaGreatDoor.Bd
open Go.RowKit Sv
theorem zi7(f:Nat->Bool)(v:Nat):clS f [(v:Int)+1]=f v:=by
 unfold clS xw zP;have e:((v:Int)+1).natAbs-1=v:=by omega
 simp[e]
theorem zkL{vars v:Nat}(h24:vars<=24){K:List (List Int)}{st:List Nd × Int}(hl:qs vars K)(hcl:ClR vars K st)(hv:v<vars):Qn vars st.1 st.2 false v=!xi (K++[[(v:Int)+1]]):=by
 have hl2:qs vars (K++[[(v:Int)+1]]):=fun c hc=>by
  rcases List.mem_append.1 hc with hc|hc
  ·exact hl c hc
  ·rw[List.mem_singleton] at hc;subst hc;intro y hy;rw[List.mem_singleton] at hy;subst hy;rw[qG];omega
 have hs:∀f:Nat->Bool,(K++[[(v:Int)+1]]).all (clS f)=(K.all (clS f)&&f v):=fun f=>by simp[List.all_append,zi7]
 rw[Bool.eq_iff_iff,zm8 hv,Bool.not_eq_true',zbn];constructor
 ·intro h vals hsat;have h1:=zfZ h24 hl2 hsat;rw[<-Ko h24 hl2,hs,Bool.and_eq_true] at h1;have:=h (fun i=>decide (i<vars)&&xQ vals i) (fun j hj=>by rw[decide_eq_false (show ¬j<vars by omega)];rfl) (by rw[hcl.sem,Jd hl (g:=xQ vals) (fun i hi=>by simp[hi])];exact h1.1);simp[hv,h1.2] at this
 ·intro h f hf hsem;cases hfv:f v with
  |false=>rfl
  |true =>refine absurd (zds ?_) (h (Qh f vars));rw[<-Ko h24 hl2,Jd hl2 (g:=f) (fun i hi=>JS f vars i hi),hs,<-hcl.sem,hsem,hfv];rfl
end Go.Proofs.YtlmmkbnjhilbdaaGreatDoor.Bd
namespace Go.Proofs
open Go.Shelf
def Tryz.laysM171_ren:Go.Shelf.Ren:=⟨fun|171=>46|243=>87|246=>133|283=>172|284=>173|285=>174|286=>175|129=>185|317=>208|318=>209|319=>210|320=>211|337=>227|338=>228|n=>n,fun|3=>3|9=>9|2=>2|4=>4|171=>277|0=>0|53=>200|37=>280|5=>5|173=>281|212=>312|51=>291|20=>20|213=>313|46=>73|232=>344|233=>345|n=>n,fun|17=>3|18=>8|19=>9|n=>n⟩
theorem Tryz.laysM171:Go.Proofs.LaysM.n171 Tryz.prog Tryz.laysM171_ren:={
 mixed:=by kernel_rfl
 f129:=zK Tryz.func185 (by kernel_rfl)
 f171:=zK Tryz.func46 (by kernel_rfl)
 f243:=zK Tryz.func87 (by kernel_rfl)
 f246:=zK Tryz.func133 (by kernel_rfl)
 f283:=zK Tryz.func172 (by kernel_rfl)
 f284:=zK Tryz.func173 (by kernel_rfl)
 f285:=zK Tryz.func174 (by kernel_rfl)
 f286:=zK Tryz.func175 (by kernel_rfl)
 f317:=zK Tryz.func208 (by kernel_rfl)
 f318:=zK Tryz.func209 (by kernel_rfl)
 f319:=zK Tryz.func210 (by kernel_rfl)
 f320:=zK Tryz.func211 (by kernel_rfl)
 f337:=zK Tryz.func227 (by kernel_rfl)
 f338:=zK Tryz.func228 (by kernel_rfl)
 t0:=Tryz.underlying0
 a0:=Tryz.isAgg0
 z0:=Tryz.sizeOf0
 v0:=Tryz.zeroValue0
 t2:=Tryz.underlying2
 a2:=Tryz.isAgg2
 z2:=Tryz.sizeOf2
 v2:=Tryz.zeroValue2
 t3:=Tryz.underlying3
 a3:=Tryz.isAgg3
 z3:=Tryz.sizeOf3
 v3:=Tryz.zeroValue3
 t4:=Tryz.underlying4
 a4:=Tryz.isAgg4
 z4:=Tryz.sizeOf4
 v4:=Tryz.zeroValue4
 t5:=Tryz.underlying5
 a5:=Tryz.isAgg5
 z5:=Tryz.sizeOf5
 v5:=Tryz.zeroValue5
 t9:=Tryz.underlying9
 a9:=Tryz.isAgg9
 z9:=Tryz.sizeOf9
 v9:=Tryz.zeroValue9
 t20:=Tryz.underlying20
 a20:=Tryz.isAgg20
 z20:=Tryz.sizeOf20
 v20:=Tryz.zeroValue20
 t37:=Tryz.underlying280
 a37:=Tryz.isAgg280
 z37:=Tryz.sizeOf280
 v37:=Tryz.zeroValue280
 t46:=Tryz.underlying73
 a46:=Tryz.isAgg73
 z46:=Tryz.sizeOf73
 v46:=Tryz.zeroValue73
 t51:=Tryz.underlying291
 a51:=Tryz.isAgg291
 z51:=Tryz.sizeOf291
 v51:=Tryz.zeroValue291
 t53:=Tryz.underlying200
 a53:=Tryz.isAgg200
 z53:=Tryz.sizeOf200
 v53:=Tryz.zeroValue200
 t171:=Tryz.underlying277
 a171:=Tryz.isAgg277
 z171:=Tryz.sizeOf277
 v171:=Tryz.zeroValue277
 t173:=Tryz.underlying281
 a173:=Tryz.isAgg281
 z173:=Tryz.sizeOf281
 v173:=Tryz.zeroValue281
 t212:=Tryz.underlying312
 a212:=Tryz.isAgg312
 z212:=Tryz.sizeOf312
 v212:=Tryz.zeroValue312
 t213:=Tryz.underlying313
 a213:=Tryz.isAgg313
 z213:=Tryz.sizeOf313
 t232:=Tryz.underlying344
 a232:=Tryz.isAgg344
 z232:=Tryz.sizeOf344
 v232:=Tryz.zeroValue344
 t233:=Tryz.underlying345
 a233:=Tryz.isAgg345
 z233:=Tryz.sizeOf345
 v233:=Tryz.zeroValue345
 g17:=by kernel_rfl
 g18:=by kernel_rfl
 g19:=by kernel_rfl
 i0:=by kernel_rfl
 i2:=by kernel_rfl
 i3:=by kernel_rfl
 i4:=by kernel_rfl
 i5:=by kernel_rfl
 i9:=by kernel_rfl
 i20:=by kernel_rfl
 i37:=by kernel_rfl
 i46:=by kernel_rfl
 i51:=by kernel_rfl
 i53:=by kernel_rfl
 i171:=by kernel_rfl
 i173:=by kernel_rfl
 i212:=by kernel_rfl
 i232:=by kernel_rfl
 i233:=by kernel_rfl
 m17:=by kernel_rfl
 m18:=by kernel_rfl
 m19:=by kernel_rfl }
open Go.RowKit Go.Sort Go.Lib in
theorem Tryz.strconv_Itoa(n:Int)(h0:-9223372036854775808<=n)(h1:n<=9223372036854775807)(w:World)(htab:Lib.TabIs Tryz.prog w "internal/strconv.uint64pow10" .u64 Lib.pow10Tab) :
  zC 46 #[.int .i64 n] w fun e w'=>e=.returned (.string ⟨(Lib.itoa n).toArray⟩)/\∃k os,w'=grow (w.drewN k) os:=Any.strconv_Itoa Tryz.laysM171 n h0 h1 w htab
end Go.Proofs
namespace Go.Proofs.YtlmmkbnjhilbdaaGreatDoor
open Go.RowKit Go.Shelf Sv
theorem zaz(n:Int)(hn:-9223372036854775808<=n/\n<=9223372036854775807)(w:World)(hw:Lb w):zR 46 #[.int .i64 n] w (.string ⟨(Lib.itoa n).toArray⟩) :=
 (Tryz.strconv_Itoa n hn.1 hn.2 w hw.tab).mono fun _ _ ⟨he,k,os,hw'⟩=>⟨he,hw'▸zdA _ w k os zN⟩
def wtx(a b c:Int):List UInt8:=Lib.itoa a++46 :: (Lib.itoa b++46 :: Lib.itoa c)
theorem zks(a b c:Int)(ha:-9223372036854775808<=a/\a<=9223372036854775807)(hb:-9223372036854775808<=b/\b<=9223372036854775807)(hc:-9223372036854775808<=c/\c<=9223372036854775807)(w:World)(hw:Lb w) :
  zR 23 #[.agg #[.int .i64 a,.int .i64 b,.int .i64 c]] w (.string ⟨(wtx a b c).toArray⟩):=by
 have HA:Hid (∀W,zB w W->zR 46 #[.int .i64 a] W (.string ⟨(Lib.itoa a).toArray⟩)):=fun W h=>zaz a ha W (hw.below h);have HB:Hid (∀W,zB w W->zR 46 #[.int .i64 b] W (.string ⟨(Lib.itoa b).toArray⟩)):=fun W h=>zaz b hb W (hw.below h);have HC:Hid (∀W,zB w W->zR 46 #[.int .i64 c] W (.string ⟨(Lib.itoa c).toArray⟩)):=fun W h=>zaz c hc W (hw.below h);have kv:=Blk.new w 40 #[.int .i64 a,.int .i64 b,.int .i64 c];have hB0:zB w (w.alloc (.cells #[.int .i64 a,.int .i64 b,.int .i64 c] 40)):=(Below.refl _ w).alloc zN _;have la:=Lib.itoa_length_le a ha.1 ha.2;have lb:=Lib.itoa_length_le b hb.1 hb.2;have lc:=Lib.itoa_length_le c hc.1 hc.2;have HV:Hid (wtx a b c=Lib.itoa a++46 :: (Lib.itoa b++46 :: Lib.itoa c)):=rfl;generalize wtx a b c=V at *;generalize Lib.itoa a=A at *;generalize Lib.itoa b=B at *;generalize Lib.itoa c=C at *;have q1:¬9223372036854775807<A.length+1:=by omega
 have q2:¬9223372036854775807<A.length+1+B.length:=by omega
 have q3:¬9223372036854775807<A.length+1+B.length+1:=by omega
 have q4:¬9223372036854775807<A.length+1+B.length+1+C.length:=by omega
 have HQ:Hid ((⟨A.toArray⟩:ByteArray)++⟨#[46]⟩++⟨B.toArray⟩++⟨#[46]⟩++⟨C.toArray⟩=⟨V.toArray⟩):=zdY (by rw[HV.out];simp[ByteArray.data_append]);clear hw ha hb hc HV la lb lc;go_enter Tryz.func23,Tryz.ntmps23;go_wp2_with fail;generalize w.alloc (.cells #[.int .i64 a,.int .i64 b,.int .i64 c] 40)=W0 at *;have SC:Hid (∀W,zB W0 W->W.cell? ⟨w.heap.size,0,none⟩=some (.int .i64 a)/\W.cell? ⟨w.heap.size,1,none⟩=some (.int .i64 b)/\W.cell? ⟨w.heap.size,2,none⟩=some (.int .i64 c)):=fun W hb=>⟨(kv.below hb kv.lt).cell 0,(kv.below hb kv.lt).cell 1,(kv.below hb kv.lt).cell 2⟩;have HB0:=zH hB0;have D0:zB W0 W0.drew:=zF.drew;have E0:zB w W0.drew:=HB0.out.drew;clear kv hB0;go_region_held3 (fun w'=>w'.cell? ⟨w.heap.size,0,none⟩=some (.int .i64 a)/\w'.cell? ⟨w.heap.size,1,none⟩=some (.int .i64 b)/\w'.cell? ⟨w.heap.size,2,none⟩=some (.int .i64 c)) (first|exact SC.out _ D0|exact SC.out _ D1|exact SC.out _ D2|exact SC.out _ D3)
  (first
   |((with_reducible refine(HA.out _ E0).mono ?_);rintro e w1 ⟨rfl,hb1⟩;have D1:zB W0 w1:=zT D0 hb1;have E1:zB w w1:=zT E0 hb1;clear HA D0 E0 hb1)
   |((with_reducible refine(HB.out _ E1).mono ?_);rintro e w2 ⟨rfl,hb2⟩;have D2:zB W0 w2:=zT D1 hb2;have E2:zB w w2:=zT E1 hb2;clear HB D1 E1 hb2)
   | ((with_reducible refine (HC.out _ E2).mono ?_);rintro e w3 ⟨rfl,hb3⟩;have D3:zB W0 w3:=zT D2 hb3;have E3:zB w w3:=zT E2 hb3;clear HC D2 E2 hb3))
 have HE:=zH E3;clear D3 E3;go_wp2;go_ret;exact⟨by rw[<-HQ.out];rfl,HE.out⟩
end Go.Proofs.YtlmmkbnjhilbdaaGreatDoor
namespace Go.Proofs.YtlmmkbnjhilbdaaGreatDoor
open Go.RowKit Go.Shelf Sv
theorem JX{n:Nat}(h:n<=1000000000):(ptx n).length<=21:=Lib.itoa_length_le (n:Int) (by omega) (by omega)
end Go.Proofs.YtlmmkbnjhilbdaaGreatDoor
namespace Go.Proofs.YtlmmkbnjhilbdaaGreatDoor
open Go.RowKit Go.Deep Sv
theorem qA.ranges{w:World}{bk:Nat}{ls:List Ln}{its:List It}(h:qA w bk ls its):∃vs va vc,qu w ls vs/\(∃iv bm,Blk w bk 72 #[.slice va ls.length vc,iv,.map (some bm)])/\qS w (.slice va ls.length vc) ls.length (qd ls vs):=by
 obtain⟨lv,iv,bm,h1,⟨vs,h2,h2'⟩,h3,h4⟩:=h;obtain⟨va,vc,rfl,-⟩:=h2'.form;exact⟨vs,va,vc,h2,⟨iv,bm,h1⟩,h2'⟩
theorem zfz{bk:Nat}{ls:List Ln}{vs:List Value}{va:Option Addr}{vc:Nat}(w:World)(h2:qu w ls vs)(h1:∃iv bm,Blk w bk 72 #[.slice va ls.length vc,iv,.map (some bm)])(h2':qS w (.slice va ls.length vc) ls.length (qd ls vs))(hl:ls.length<=100000) :
  zC 6 #[.pointer (some ⟨bk,0,none⟩)] w fun e w'=>∃a c,e=.returned (.slice a ls.length c)/\w'.ownsRow w.heap.size 69 7 (.slice a ls.length c) ls.length (qd ls vs)/\zB w w':=by
 obtain⟨iv,bm,h1⟩:=h1;have HI:=zH (Jh ls vs h2.1 h2.one _ w h2' hl);have c0:_=some (Value.slice va ls.length vc):=h1.cell 0;clear h1 h2 h2' hl;go_enter Tryz.func6,Tryz.ntmps6;go_wp2_with fail;refine HI.out.mono ?_;rintro e w1 ⟨v',rfl,hrow,hb1⟩;obtain⟨a,c,rfl⟩:∃a c,v'=.slice a ls.length c:=by
  rcases hrow.2 with ⟨e1,e2⟩|⟨g,cap,cur,e1,_⟩
  ·exact⟨_,_,by rw[e1,e2]⟩
  ·exact⟨_,_,e1⟩
 have HB1:=zH hb1;have HRW:=zH hrow;clear hb1 HI hrow c0;go_wp2;go_ret;exact⟨a,c,rfl,HRW.out,HB1.out⟩
theorem zci{P:Program}{ops:Array Oper}{o:Oper}{a:Act}{w:World}{K:Act->World->Prop}{Q:Exit->Act->World->Prop}{E:Prop}
  (hg:o.guard=none) (s x:Operand) (t:TypeId) (hop:o.op=Op.call { callee:=Callee.builtin Builtin.append,args:=#[s,x],argTypes:=#[t,t] })
  (e:TypeId) (i:TypeInfo) (z:Value) (size bytes:Nat) (h1:P.underlying t=some (.slice e)) (h2:P.info? e=some i) (h3:i.zero=some z) (h4:i.size=size) (h5:i.bytes=bytes) (h6:z.cells.size=size) (h7:0<size)
  (base:Nat) (v:Value) (n:Nat) (xs:List Value) (hs:a.eval s=v) (hown:w.ownsRow base e size v n xs)
  (ad:Addr) (m c:Nat) (news:List Value) (hx:a.eval x=.slice (some ad) m c) (hn:news.length=m*size) (hc:∀j u,news[j]?=some u->w.cell? (ad.add j)=some u) (h1c:∀u∈news,u.oneCell'=true)
  (b1:n+m<=maxLen) (b2:(n+m)*bytes<=140737488355328) (hB:base<=w.heap.size)
  (hK:∀v' w',w'.ownsRow base e size v' (n+m) (xs++news)->w.grownBy w' v.ownBlock->K (a.put o.dst v') w') :
  if Region.wanted o (yielded ops a.tmps)=true then Oper.wp P o a w K Q else E:=by
 have hw:Region.wanted o (yielded ops a.tmps)=true:=by simp[Region.wanted,hg]
 rw[if_pos hw];obtain⟨v',w',hrun,r1,r2,_⟩:=run_append_own (P:=P) w base t o.type e i z size bytes h1 h2 h3 h4 h5 h6 h7 v n xs hown ad m c news hn hc h1c b1 b2 hB;unfold Oper.wp;simp[execOp,hop,resolve,invoke,builtin,hs,hx,hrun,Result.andThen];exact hK v' w' r1 r2
theorem zo3(bk:Nat)(ls:List Ln)(its:List It)(name:ByteArray)(a b c:Nat)(w:World)(h:qA w bk ls its)(hl:its.length<=24)(hn:0<=qT its ⟨name,(a:Int),(b:Int),(c:Int)⟩)(ha:a<=999)(hb:b<=999)(hc:c<=999)(hw:Lb w)(hls:ls.length<=99)(hNew:qq (ls++[yi name (zq (zk a b c) (zk a b c+1))])=.ok its)
  (Q:Value->Value->World->Prop) (HCO:∀bc W,zB w W->qA W bc (ls++[yi name (zq (zk a b c) (zk a b c+1))]) its->zC 17 #[.pointer (some ⟨bc,0,none⟩)] W fun e w'=>∃x y,e=.returned (.tuple #[x,y])/\Q x y w') :
  zC 9 #[.pointer (some ⟨bk,0,none⟩),.string name,.agg #[.int .i64 a,.int .i64 b,.int .i64 c]] w fun e w'=>∃x y,e=.returned (.tuple #[x,y])/\Q x y w':=by
 have hb0:=below_new w (.cells #[.int .i64 a,.int .i64 b,.int .i64 c] 40);have HNU:=zH (Kj bk ls its name a b c _ (h.below hb0 zN) (by omega));have HB0:=zH hb0;obtain⟨vs,va,vc,hg1,hg2,hg3⟩:=h.ranges;have HG1:=zH hg1;have HRGX:Hid (Rg (zq (zk a b c) (zk a b c+1))):=zck (zdN ha hb hc);have HLF:Hid (∀W,zB w W->zC 6 #[.pointer (some ⟨bk,0,none⟩)] W fun e w'=>∃a c,e=.returned (.slice a ls.length c)/\w'.ownsRow W.heap.size 69 7 (.slice a ls.length c) ls.length (qd ls vs)/\zB W w'):=fun W hW =>
  zfz W (hg1.below hW zN) (by obtain⟨iv,bm,hB⟩:=hg2;exact⟨iv,bm,hB.below hW hB.lt⟩) (hg3.below hW zN) (by omega)
 have HNE:Hid (∀W us lv,qu W (ls++[yi name (zq (zk a b c) (zk a b c+1))]) us->qS W lv (ls++[yi name (zq (zk a b c) (zk a b c+1))]).length (qd (ls++[yi name (zq (zk a b c) (zk a b c+1))]) us)->zC 24 #[lv] W fun e w'=>∃bc,e=.returned (.tuple #[.pointer (some ⟨bc,0,none⟩),.nilIface])/\qA w' bc (ls++[yi name (zq (zk a b c) (zk a b c+1))]) its/\zB W w'):=fun W us lv h1 h2=>by
  have:=K7 _ us lv W h1 h2;rw[hNew] at this;exact this.mono fun e w' ⟨bc,g1,g2,g3⟩=>⟨bc,g1,g2.cat,g3⟩
 have HVL:=zH hg1.1;clear hg1 hg2 hg3 hNew;have HTE:Hid (∀W,zB w W->zR 23 #[.agg #[.int .i64 a,.int .i64 b,.int .i64 c]] W (.string ⟨(vtx a b c).toArray⟩)):=fun W hW=>zks a b c (by omega) (by omega) (by omega) W (hw.below hW);have hct:=zdN ha hb hc;have HRA:Hid (∀W,zB w W->zC 22 #[.string ⟨(vtx a b c).toArray⟩] W fun e w'=>∃v',e=.returned (.tuple #[.agg #[v'],.nilIface])/\zi w' v' (zq (zk a b c) (zk a b c+1))/\(∀g,v'.ownBlock=some g->W.heap.size<=g)/\zB W w'):=fun W hW=>by
  have h1:=zfo ⟨(vtx a b c).toArray⟩ W (by
   show (vtx a b c).toArray.size<=1000;have e1:=JX (n:=a) (by omega);have e2:=JX (n:=b) (by omega);have e3:=JX (n:=c) (by omega);simp [vtx];omega) (hw.below hW)
  rw[hct] at h1;exact h1
 have KV:=zH (Blk.new w 40 #[.int .i64 a,.int .i64 b,.int .i64 c]);have hz0:(w.alloc (.cells #[.int .i64 a,.int .i64 b,.int .i64 c] 40)).heap.size=w.heap.size+1:=World.size_alloc _ _;clear h hb0 hw hct;generalize qT its ⟨name,(a:Int),(b:Int),(c:Int)⟩=k at *;generalize vtx a b c=TX at *;generalize zq (zk a b c) (zk a b c+1)=RG at *;go_enter Tryz.func9,Tryz.ntmps9;go_wp2_with fail;refine HNU.out.mono ?_;rintro e w1 ⟨rfl,hb1⟩;have k1:=KV.out.below hb1 (by rw[hz0];omega);have v0:=k1.cell 0;have v1:=k1.cell 1;have v2:=k1.cell 2;have hB1:=zT HB0.out hb1;have HT1:=zH (HTE.out w1 hB1);have HB1:=zH hB1;clear hb1 k1 HNU KV HTE hz0 hB1 HB0;go_wp2_with fail;refine HT1.out.mono ?_;rintro e w2 ⟨rfl,hb2⟩;have hB2:=zT HB1.out hb2;have HR2:=zH (HRA.out w2 hB2);have HB2:=zH hB2;clear hb2 hB2 HT1 HRA HB1 v0 v1 v2;go_wp2_with fail;refine HR2.out.mono ?_;rintro e w3 ⟨rv,rfl,hsp,hown,hb3⟩;have HB3:=zH (zT HB2.out hb3);obtain⟨ra,rc,hrv⟩:∃ra rc,rv=.slice ra RG.length rc:=by obtain⟨x,y,e⟩:=hsp.form;exact⟨x,y,e⟩
 subst hrv;have HSP:=zH hsp;clear hb3 HR2 HB2 hsp;have hm3:w.heap.size<=w3.heap.size:=HB3.out.size;have hbx:=below_new w3 (.cells #[.slice ra RG.length rc] 67);have KL:=zH (Blk.new (w3.alloc (.cells #[.slice ra RG.length rc] 67)) 69 #[.int .i64 4,.string name,.int .i64 0,.int .i64 0,.int .i64 0,.string ⟨#[]⟩,.slice ra RG.length rc]);have hby:=below_new (w3.alloc (.cells #[.slice ra RG.length rc] 67)) (.cells #[.int .i64 4,.string name,.int .i64 0,.int .i64 0,.int .i64 0,.string ⟨#[]⟩,.slice ra RG.length rc] 69);have HB4:=zH (HB3.out.trans ((zT hbx hby).mono hm3));have HSP4:=zH (((HSP.out.below hbx zN).below hby zN));have hz4:(w3.alloc (.cells #[.slice ra RG.length rc] 67)).heap.size=w3.heap.size+1:=World.size_alloc _ _;rw[hz4] at KL;clear hbx hby hm3 hz4;go_upto_region 7 with fail;generalize ((w3.alloc (.cells #[.slice ra RG.length rc] 67)).alloc (.cells #[.int .i64 4,.string name,.int .i64 0,.int .i64 0,.int .i64 0,.string ⟨#[]⟩,.slice ra RG.length rc] 69))=W4 at *;generalize w3.heap.size+1=bl at *;have hbl:bl<W4.heap.size:=KL.out.lt;have SK:Hid (∀W,zB W4 W->W.cell? ⟨bl,0,none⟩=some (.int .i64 4)/\W.cell? ⟨bl,1,none⟩=some (.string name)/\W.cell? ⟨bl,2,none⟩=some (.int .i64 0)/\W.cell? ⟨bl,3,none⟩=some (.int .i64 0)/\W.cell? ⟨bl,4,none⟩=some (.int .i64 0)/\W.cell? ⟨bl,5,none⟩=some (.string ⟨#[]⟩)/\W.cell? ⟨bl,6,none⟩=some (.slice ra RG.length rc)):=fun W hW=>by
  have hk:=KL.out.below hW hbl;exact⟨hk.cell 0,hk.cell 1,hk.cell 2,hk.cell 3,hk.cell 4,hk.cell 5,hk.cell 6⟩
 obtain⟨i0,hin,hz0,hz1,hz2⟩:=info_parts zal;have HL7:Hid (∀W,zB W4 W->zC 6 #[.pointer (some ⟨bk,0,none⟩)] W fun e w'=>∃a c,e=.returned (.slice a ls.length c)/\w'.ownsRow W4.heap.size 69 7 (.slice a ls.length c) ls.length (qd ls vs)/\zB W4 w'/\W.heap.size<=w'.heap.size/\∀k,k<W.heap.size->w'.heap[k]?=W.heap[k]?):=fun W hW =>
  (HLF.out W (zT HB4.out hW)).mono (by
   rintro e w' ⟨a,c,rfl,h2,h3⟩;exact ⟨a,c,rfl,World.ownsRow.mono h2 hW.size,zT hW h3,h3.size,h3.block⟩)
 have CA:Hid (∀(W:World) (j:Nat) (u:Value),([.int .i64 4,.string name,.int .i64 0,.int .i64 0,.int .i64 0,.string ⟨#[]⟩,.slice ra RG.length rc]:List Value)[j]?=some u->(W.alloc (.cells #[.int .i64 4,.string name,.int .i64 0,.int .i64 0,.int .i64 0,.string ⟨#[]⟩,.slice ra RG.length rc] 69)).cell? (Addr.add ⟨W.heap.size,0,none⟩ j)=some u):=fun W j u hu=>by
  have hk:=(Blk.new W 69 #[.int .i64 4,.string name,.int .i64 0,.int .i64 0,.int .i64 0,.string ⟨#[]⟩,.slice ra RG.length rc]).cell j;rw[Lib.add_plain,Nat.zero_add,hk];simpa using hu
 have CD:Hid (∀(j:Nat) (u:Value),([.int .i64 4,.string name,.int .i64 0,.int .i64 0,.int .i64 0,.string ⟨#[]⟩,.slice ra RG.length rc]:List Value)[j]?=some u->(W4.alloc (.cells #[.int .i64 4,.string name,.int .i64 0,.int .i64 0,.int .i64 0,.string ⟨#[]⟩,.slice ra RG.length rc] 69)).drew.cell? (Addr.add ⟨W4.heap.size,0,none⟩ j)=some u):=fun j u hu=>CA.out W4 j u hu;have CE:Hid (∀W:World,(∀k,k<(W4.alloc (.cells #[.int .i64 4,.string name,.int .i64 0,.int .i64 0,.int .i64 0,.string ⟨#[]⟩,.slice ra RG.length rc] 69)).drew.heap.size->W.heap[k]?=(W4.alloc (.cells #[.int .i64 4,.string name,.int .i64 0,.int .i64 0,.int .i64 0,.string ⟨#[]⟩,.slice ra RG.length rc] 69)).drew.heap[k]?)->∀(j:Nat) (u:Value),([.int .i64 4,.string name,.int .i64 0,.int .i64 0,.int .i64 0,.string ⟨#[]⟩,.slice ra RG.length rc]:List Value)[j]?=some u->W.cell? (Addr.add ⟨W4.heap.size,0,none⟩ j)=some u):=fun W hb j u hu=>by
  rw[World.cell?_of_block (w:=(W4.alloc (.cells #[.int .i64 4,.string name,.int .i64 0,.int .i64 0,.int .i64 0,.string ⟨#[]⟩,.slice ra RG.length rc] 69)).drew) (w':=W) (by rw[xD];exact hb _ (by show W4.heap.size<(World.alloc _ _).heap.size;simp))];exact CD.out j u hu
 have HONE:Hid (∀u∈([.int .i64 4,.string name,.int .i64 0,.int .i64 0,.int .i64 0,.string ⟨#[]⟩,.slice ra RG.length rc]:List Value),u.oneCell'=true):=fun u hu=>by
  simp at hu;rcases hu with rfl|rfl|rfl|rfl|rfl<;>rfl
 have HAP:Hid (∀ (W' w8:World) (v:Value) (ao:Option Addr) (co:Nat),zB W4 W'->W'.ownsRow W4.heap.size 69 7 (.slice ao ls.length co) ls.length (qd ls vs)->w8.ownsRow W4.heap.size 69 7 v (ls.length + 1) (qd ls vs++[.int .i64 4,.string name,.int .i64 0,.int .i64 0,.int .i64 0,.string ⟨#[]⟩,.slice ra RG.length rc])->W'.grownBy w8 (Value.slice ao ls.length co).ownBlock ->
   zB W4 w8/\qu w8 (ls++[yi name RG]) (vs++[.slice ra RG.length rc])/\qS w8 v (ls++[yi name RG]).length (qd (ls++[yi name RG]) (vs++[.slice ra RG.length rc]))):=fun W' w8 v ao co h1 h2 h3 h4=>by
  have hb8:zB W4 w8:=h1.grown h4 h1.size (fun j hj=>(h2.lt j hj).1);refine⟨hb8,(HG1.out.below (zT HB4.out hb8) zN).snoc (x:=yi name RG) (HSP4.out.below hb8 zN) HRGX.out,?_⟩;rw[zbD _ _ _ _ HVL.out,List.length_append];exact zx h3
 have HN8:Hid (∀W us lv,zB W4 W->qu W (ls++[yi name RG]) us->qS W lv (ls++[yi name RG]).length (qd (ls++[yi name RG]) us)->zC 24 #[lv] W fun e w'=>∃bc,e=.returned (.tuple #[.pointer (some ⟨bc,0,none⟩),.nilIface])/\qA w' bc (ls++[yi name RG]) its/\zB W4 w'):=fun W us lv h0 h1 h2 =>
  (HNE.out W us lv h1 h2).mono (by rintro e w' ⟨bc,rfl,h3,h4⟩;exact⟨bc,rfl,h3,zT h0 h4⟩)
 have BR:zB W4 W4.drew:=(Below.refl W4.heap.size W4).drew;have BA:Hid (∀W o,zB W4 W->zB W4 (W.alloc o)):=fun W o h=>h.alloc h.size o;go_cut [11,9] (fun cv ev wx=>∃bc,cv=.pointer (some ⟨bc,0,none⟩)/\ev=.nilIface/\qA wx bc (ls++[yi name RG]) its/\zB w wx)
 case first =>
  go_region_held3 (fun X=>X.cell? ⟨bl,0,none⟩=some (.int .i64 4)/\X.cell? ⟨bl,1,none⟩=some (.string name)/\X.cell? ⟨bl,2,none⟩=some (.int .i64 0)/\X.cell? ⟨bl,3,none⟩=some (.int .i64 0)/\X.cell? ⟨bl,4,none⟩=some (.int .i64 0)/\X.cell? ⟨bl,5,none⟩=some (.string ⟨#[]⟩)/\X.cell? ⟨bl,6,none⟩=some (.slice ra RG.length rc))
   (exact SK.out _ (by first|assumption|exact BA.out _ _ (by assumption)|exact Below.drew (by assumption)))
   (first
    |(go_at_call 6;refine(HL7.out _ (by first|assumption|exact BA.out _ _ (by assumption))).mono ?_;rintro e w' ⟨la,lc,rfl,hrow,hb,hsz,hblk⟩)
    |(refine zci rfl (.tmp 32) (.tmp 34) 30 rfl 69 i0 _ 7 88 Tryz.underlying30 hin hz0 hz1 hz2 rfl (by decide) W4.heap.size _ _ _ rfl (hrow.alloc _) ⟨_,0,none⟩ 1 1 _ rfl rfl (CA.out _) HONE.out (by unfold maxLen;omega) (by omega) (by have:=hb.size;simp;omega) ?_;intro v8 w8 hown8 hgrow8;obtain⟨hb8,hrg8,hrw8⟩:=HAP.out _ _ _ _ _ (BA.out _ _ hb) (hrow.alloc _) hown8 hgrow8)
    |(refine zci rfl (.tmp 32) (.tmp 34) 30 rfl 69 i0 _ 7 88 Tryz.underlying30 hin hz0 hz1 hz2 rfl (by decide) W4.heap.size _ _ _ rfl hrow ⟨_,0,none⟩ 1 1 _ rfl rfl (CE.out _ hblk) HONE.out (by unfold maxLen;omega) (by omega) hb.size ?_;intro v8 w8 hown8 hgrow8;obtain⟨hb8,hrg8,hrw8⟩:=HAP.out _ _ _ _ _ hb hrow hown8 hgrow8)
    | (go_at_call 24;refine (HN8.out _ _ _ hb8 hrg8 hrw8).mono ?_;rintro e w9 ⟨bc,rfl,hcat9,hb9⟩))
  all_goals
   go_wp2_with fail;go_meet
   case rel=>exact⟨_,rfl,rfl,hcat9,zT HB4.out hb9⟩
 case rest =>
 obtain⟨bc,rfl,rfl,hcat,hbc⟩:=hcut;have HC:=zH (HCO bc wc hbc hcat);clear HCO hcat hbc;go_wp2_with fail;refine HC.out.mono ?_;rintro e w9 ⟨x,y,rfl,hq⟩;have HQ:=zH hq;clear hq HC;go_wp2_with fail;exact bodyPost_ret (v:=.tuple #[x,y]) (by simp[results,Tryz.results9,go_sem]) rfl ⟨x,y,rfl,HQ.out⟩
end Go.Proofs.YtlmmkbnjhilbdaaGreatDoor
namespace Go.Proofs.YtlmmkbnjhilbdaaGreatDoor
open Go.RowKit Go.Deep Sv
theorem zkc{its:List It}{x:It}(h:x∈its):0<=qT its x:=(zbe h).1
def Jp(w':World)(its:List It)(ls:List Ln)(v a b c:Nat)(x y:Value):Prop :=
 (xi ((ofL its ls).map Prod.snd++[[(v:Int)+1]])=true/\x=.slice none 0 0/\y=.iface 55 (.int .i64 8)) \/
 (xi ((ofL its ls).map Prod.snd++[[(v:Int)+1]])=false/\∃la lc,x=.slice la (YW its ls v a b c).length lc/\y=.nilIface/\zW w' la (zM (YW its ls v a b c)))
theorem zgJ(bk:Nat)(ls:List Ln)(its:List It)(v a b c:Nat)(w:World)(h:qA w bk ls its)(hw:Lb w)(hN:qq ls=.ok its)(h12:its.length<=12)(hls:ls.length<100)(hP:(ofL its ls).length<200)(hv:v<its.length)(ha:(its.getD v default).a=(a:Int))(hb:(its.getD v default).b=(b:Int))(hc:(its.getD v default).c=(c:Int)) :
  zC 9 #[.pointer (some ⟨bk,0,none⟩),.string (its.getD v default).name,.agg #[.int .i64 a,.int .i64 b,.int .i64 c]] w fun e w'=>∃x y,e=.returned (.tuple #[x,y])/\Jp w' its ls v a b c x y/\zB w w':=by
 have hiv:=(Kn hN _ (YK hv)).2;rw[ha,hb,hc] at hiv;obtain⟨⟨_,ha9⟩,⟨_,hb9⟩,_,hc9⟩:=hiv;have hmem:(⟨(its.getD v default).name,(a:Int),(b:Int),(c:Int)⟩:It)∈its:=by
  have:=YK hv;rw[<-ha,<-hb,<-hc];exact this
 have hN':=zji (a:=a) (b:=b) (c:=c) hN hv hls;have hO:=zaN hN hv ha hb hc;have hlen:(wls its ls v a b c).length=ls.length+1:=by unfold wls;simp
 have hP':(ofL its (wls its ls v a b c)).length<=200:=by rw[hO,List.length_append,List.length_singleton];omega
 have hfull:=zhU hN hv ha hb hc;refine zo3 bk ls its (its.getD v default).name a b c w h (by omega) (zkc hmem) (by omega) (by omega) (by omega) hw (by omega) hN' (fun x y w'=>Jp w' its ls v a b c x y/\zB w w') ?_;intro bc W hW hcat;have hnk:=YJ hN';refine(zcA (xq (wls its ls v a b c) its) bc (wls its ls v a b c) its W hcat (by omega) (by omega) (fun x hx=>zaH (hnk.2.2 x hx)) hP' (fun x hx=>by have:=(Xf hN' x hx).2;omega) (fun l=>zeO hN' hP' _) (fun l b er h=>zb3 hN' h12 _ h)).mono ?_;rintro e w' ⟨he,hb'⟩;rw[hfull] at he;have hB:=zT hW hb';rcases he with ⟨h1,rfl⟩|⟨h1,la,lc,rfl,hI⟩
 ·exact⟨_,_,rfl,.inl ⟨h1,rfl,rfl⟩,hB⟩
 ·exact⟨_,_,rfl,.inr ⟨h1,la,lc,rfl,rfl,hI⟩,hB⟩
end Go.Proofs.YtlmmkbnjhilbdaaGreatDoor
namespace Go.Proofs.YtlmmkbnjhilbdaaGreatDoor.Bd
open Go.RowKit Go.Deep Sv
def zab(w:World)(m:Nat)(q e:Value)(wx:World):Prop:=∃qb a n c,q=.pointer (some ⟨qb,0,none⟩)/\e=.nilIface/\qb<wx.heap.size/\wx.cell? ⟨qb,0,none⟩=some (.slice a n c)/\qj wx (.agg #[.slice a n c]) m/\zB w wx
structure zfI(W0:World)(p s:Nat)(al:Int)(m:Nat):Prop where
 sc:∀W,zB W0 W->W.cell? ⟨p,0,none⟩=some (.pointer (some ⟨s,0,none⟩))/\W.cell? ⟨p,1,none⟩=some (.int .i64 al)
 cn:∀W,zB W0 W->zC 12 #[.pointer (some ⟨s,0,none⟩),.int .i64 al] W fun e w'=>∃a n c,e=.returned (.tuple #[.agg #[.slice a n c],.nilIface])/\qj w' (.agg #[.slice a n c]) m/\zB W w'
theorem zm6{B p s b vars:Nat}{O:Nat->Prop}{room:Int}{K:List (List Int)}{W0:World}(h:Zp B W0 p s b O vars room (clF K))(h12:vars<=12)(hl:qs vars K):zfI W0 p s (clF K).2 (ZP vars K) :=
 ⟨fun _ hW=>⟨(h.blk.below hW h.blk.lt).cell 0,(h.blk.below hW h.blk.lt).cell 1⟩,fun _ hW=>zow (h.space.new hW) h12 hl⟩
theorem zn1{W0 x1:World}{m n c:Nat}{a:Option Addr}(D1:zB W0 x1)(hn:qj x1 (.agg #[.slice a n c]) m):zab W0 m (.pointer (some ⟨x1.heap.size,0,none⟩)) .nilIface (x1.alloc (.cells #[.slice a n c] 49)) :=
 ⟨x1.heap.size,a,n,c,rfl,rfl,by simp,by simp,hn.new (below_new x1 _),zL D1⟩
theorem zhu{W0 x1:World}{m n c q:Nat}{a:Option Addr}(D1:zB W0 x1)(hq:W0.heap.size<=q)(kz:Blk x1 q 49 #[.slice none 0 0])(hn:qj x1 (.agg #[.slice a n c]) m):zab W0 m (.pointer (some ⟨q,0,none⟩)) .nilIface (x1.setCell ⟨q,0,none⟩ (.slice a n c)) :=
 ⟨q,a,n,c,rfl,rfl,by simpa using kz.lt,(kz.set (i:=0) (v:=.slice a n c)).cell 0,hn.kept (ze.setCell (S:=fun j=>j=q) x1 ⟨q,0,none⟩ _ rfl) (fun b' o n' e=>by
  cases e;rw[kz.cell o]
  match o with
  |0=>simp
  | o + 1=>simp),D1.setCell (p:=⟨q,0,none⟩) hq _⟩
end Go.Proofs.YtlmmkbnjhilbdaaGreatDoor.Bd
