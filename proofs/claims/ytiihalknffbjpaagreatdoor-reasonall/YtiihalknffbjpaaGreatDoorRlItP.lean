/- An item put into a row of items: copy of structs. -/
import Derived.Test.YtiihalknffbjpaaGreatDoorRlCat
set_option maxHeartbeats 4000000
set_option maxRecDepth 100000
namespace Go.Proofs.YtiihalknffbjpaaGreatDoor
section
open Go.RowKit Go.Shelf Go.Lib Sv
theorem zkM{its:List It}{x:It}{k:Nat}(hk:k<its.length)(hx:x=its.getD k default)(hno:∀j,j<k->x≠its.getD j default):zaP its x=(k:Int):=by
 have gd:∀j (hj:j<its.length),its.getD j default=its[j]:=fun j hj=>by rw[List.getD_eq_getElem?_getD,List.getElem?_eq_getElem hj];rfl
 have h:its.findIdx? (fun y=>decide (x=y))=some k:=by
  rw[List.findIdx?_eq_some_iff_getElem];refine⟨hk,by rw[<-gd k hk];simpa using hx,fun j hj=>?_⟩;have:=hno j hj;rw[gd j (by omega)] at this;simpa using this
 unfold zaP;rw[h]
theorem zhR{its:List It}{x:It}(hno:∀j,j<its.length->x≠its.getD j default):zaP its x=-1:=by
 have gd:∀j (hj:j<its.length),its.getD j default=its[j]:=fun j hj=>by rw[List.getD_eq_getElem?_getD,List.getElem?_eq_getElem hj];rfl
 have h:its.findIdx? (fun y=>decide (x=y))=none:=by
  rw[List.findIdx?_eq_none_iff];intro y hy;obtain⟨j,hj,rfl⟩:=List.getElem_of_mem hy;have:=hno j hj;rw[gd j hj] at this;simpa using this
 unfold zaP;rw[h]
theorem zsD(a b c a' b' c':Int)(w:World):(Op.equalIn 9999 91 (.agg #[.int .i64 a,.int .i64 b,.int .i64 c]) (.agg #[.int .i64 a',.int .i64 b',.int .i64 c'])).run Tryz.prog w=.ok (a==a'&&(b==b'&&c==c')) w:=by
 have u3:=Tryz.underlying3;have a3:=Tryz.isAgg3;have z3:=Tryz.sizeOf3;rw[show (9999:Nat)=9998+1 from rfl,Op.equalIn];simp only[Sem.run_bind,run_underlying Tryz.underlying91,Result.andThen_ok];simp only[Std.Legacy.Range.forIn_eq_forIn_range',Std.Legacy.Range.size,Nat.sub_zero,Nat.add_sub_cancel,Nat.div_one,List.range'_succ,List.range'_zero,List.forIn_cons,List.forIn_nil]
 by_cases h1:a=a'
 ·by_cases h2:b=b'
  ·by_cases h3:c=c'
   ·subst h1 h2 h3;go_simp
   ·have e3:(c==c')=false:=by simpa using h3
    subst h1 h2;go_simp
  ·have e2:(b==b')=false:=by simpa using h2
   subst h1;go_simp
 ·have e1:(a==a')=false:=by simpa using h1
  go_simp
theorem zsQ(x y:It)(w:World):(Op.equalIn 10000 93 (.agg #[.string x.name,.int .i64 x.a,.int .i64 x.b,.int .i64 x.c]) (.agg #[.string y.name,.int .i64 y.a,.int .i64 y.b,.int .i64 y.c])).run Tryz.prog w=.ok (decide (x=y)) w:=by
 have u3:=Tryz.underlying3;have a3:=Tryz.isAgg3;have z3:=Tryz.sizeOf3;have u9:=Tryz.underlying9;have a9:=Tryz.isAgg9;have z9:=Tryz.sizeOf9;have av:=Tryz.isAgg91;have zv:=Tryz.sizeOf91;have hS:Tryz.prog.underlying 93=some (.struct (Tryz.prog.fieldsOf 93)):=by kernel_rfl
 have hp:Tryz.prog.stoodInHeld 93=false:=by kernel_rfl
 have he:decide (x=y)=(x.name.toList==y.name.toList&&(x.a==y.a&&(x.b==y.b&&x.c==y.c))):=by
  obtain⟨n,a,b,c⟩:=x;obtain⟨n',a',b',c'⟩:=y;rw[Bool.eq_iff_iff];simp only[decide_eq_true_eq,It.mk.injEq,Bool.and_eq_true,beq_iff_eq];constructor
  ·rintro⟨rfl,rfl,rfl,rfl⟩;exact⟨rfl,rfl,rfl,rfl⟩
  ·rintro⟨h,rfl,rfl,rfl⟩;exact⟨za7 h,rfl,rfl,rfl⟩
 rw[he];have h3:=zsD x.a x.b x.c y.a y.b y.c;generalize x.name=n at *;generalize y.name=n' at *;generalize x.a=a at *;generalize x.b=b at *;generalize x.c=c at *;generalize y.a=a' at *;generalize y.b=b' at *;generalize y.c=c' at *;generalize (a==a'&&(b==b'&&c==c'))=q at *;clear he;rw[show (10000:Nat)=9999+1 from rfl,run_equalIn_struct w 9999 93 _ _ hS hp];simp only[Program.fieldsOf,Tryz.underlying93];cases hn:(n.toList==n'.toList)<;>cases q<;>go_simp
theorem zjo(its:List It)(x:It)(v:Value)(w:World)(h:zbU w v its)(hl:its.length<=100000) :
  zR 45 #[v,.agg #[.string x.name,.int .i64 x.a,.int .i64 x.b,.int .i64 x.c]] w (.int .i64 (zaP its x)):=by
 obtain⟨va,vc,rfl,-⟩:=h.form;have hb0:zB w (w.alloc (.cells #[.string x.name,.int .i64 x.a,.int .i64 x.b,.int .i64 x.c] 93)):=(Below.refl _ w).alloc zN _;have k0:=Blk.new w 93 #[.string x.name,.int .i64 x.a,.int .i64 x.b,.int .i64 x.c];have HI:=zH (show zbU (w.alloc (.cells #[.string x.name,.int .i64 x.a,.int .i64 x.b,.int .i64 x.c] 93)) (.slice va its.length vc) its from h.below hb0 zN);have HB0:=zH hb0;have HK0:=zH k0;have HAT:=zH (fun k hk hx hno=>zkM (its:=its) (x:=x) (k:=k) hk hx hno);have HNO:=zH (fun hno=>zhR (its:=its) (x:=x) hno);have HEQ:=zH (fun y w=>zsQ x y w);clear h hb0 k0;go_enter Tryz.func45,Tryz.ntmps45;go_upto_region 1 with fail;generalize w.alloc (.cells #[.string x.name,.int .i64 x.a,.int .i64 x.b,.int .i64 x.c] 93)=W0 at *;go_wp2_with fail;go_loopw [9] (fun kV wr=>∃k:Nat,k<=its.length/\kV=.int .i64 k/\(∀j,j<k->x≠its.getD j default)/\zB W0 wr) (fun kV _=>its.length-(intOf kV).toNat)
 case atStart=>exact⟨0,Nat.zero_le _,rfl,fun j h=>by omega,Below.refl _ _⟩
 case round =>
  obtain⟨k,hk,rfl,hno,hbr⟩:=hrel;have HB:Hid (zB w wr):=zT HB0.out hbr;have HNK:=zH hno;have HBR:=zH hbr
  by_cases hlt:k<its.length
  ·obtain⟨g,cap',e1,hg,c0,c1,c2,c3⟩:=(show zbU wr (.slice va its.length vc) its from HI.out.below hbr zN).at k hlt;simp at e1;obtain⟨rfl,rfl⟩:=e1;have kx:=HK0.out.below hbr HK0.out.lt;have hii0:(0:Int)<=(k:Int):=by omega
   have hii1:(k:Int)<(its.length:Int):=by omega
   obtain⟨X,hX⟩:∃X,its.getD k default=X:=⟨_,rfl⟩;rw[hX] at c0 c1 c2 c3;have HX:=zH hX;have hA:zB wr (wr.alloc (.cells #[.string X.name,.int .i64 X.a,.int .i64 X.b,.int .i64 X.c] 93)):=zF.alloc zN _;have kn:=Blk.new wr 93 #[.string X.name,.int .i64 X.a,.int .i64 X.b,.int .i64 X.c];have kx2:=kx.below hA kx.lt;have HA:=zH hA;have HKX:=zH kx2;have HKN:=zH kn;clear hno hbr kx hA kn kx2 hX;go_upto_region 4 with fail;generalize wr.alloc (.cells #[.string X.name,.int .i64 X.a,.int .i64 X.b,.int .i64 X.c] 93)=W3 at *;clear c0 c1 c2 c3;have c0:=HKX.out.cell 0;have c1:=HKX.out.cell 1;have c2:=HKX.out.cell 2;have c3:=HKX.out.cell 3;have d0:=HKN.out.cell 0;have d1:=HKN.out.cell 1;have d2:=HKN.out.cell 2;have d3:=HKN.out.cell 3;have HW3:Hid (zB w W3):=zT HB.out HA.out;have HW4:Hid (zB W0 W3):=zT HBR.out HA.out
   by_cases hx:x=X
   ·have heq:∀w,(Op.equalIn 10000 93 (.agg #[.string x.name,.int .i64 x.a,.int .i64 x.b,.int .i64 x.c]) (.agg #[.string X.name,.int .i64 X.a,.int .i64 X.b,.int .i64 X.c])).run Tryz.prog w=.ok true w:=fun w=>by rw[HEQ.out X w,decide_eq_true hx]
    have HR:Hid (zaP its x=(k:Int)):=HAT.out k hlt (by rw[hx,HX.out]) HNK.out;clear hx HNK HNO HAT HEQ HX;go_wp2;go_ret;exact⟨by rw[HR.out];rfl,HW3.out⟩
   ·have heq:∀w,(Op.equalIn 10000 93 (.agg #[.string x.name,.int .i64 x.a,.int .i64 x.b,.int .i64 x.c]) (.agg #[.string X.name,.int .i64 X.a,.int .i64 X.b,.int .i64 X.c])).run Tryz.prog w=.ok false w:=fun w=>by rw[HEQ.out X w,decide_eq_false hx]
    have HN:Hid (∀j,j<k+1->x≠its.getD j default):=fun j hj=>by
     rcases Nat.lt_or_ge j k with h|h
     ·exact HNK.out j h
     ·obtain rfl:j=k:=by omega
      rw[HX.out];exact hx
    clear hx HNK HNO HAT HEQ HX;go_wp2;go_roundw
    case rel=>exact⟨k+1,by omega,by go_num,HN.out,HW4.out⟩
    case measure=>simp[intOf];omega
  ·have hni:¬(k:Int)<(its.length:Int):=by omega
   obtain rfl:k=its.length:=by omega
   have HR:Hid (zaP its x=-1):=HNO.out HNK.out;clear HNO HAT HEQ hno hbr;go_wp2;go_ret;exact⟨by rw[HR.out];rfl,HB.out⟩
end
section
open Go.RowKit Go.Deep Sv
theorem zq4{l:List Span}(hl:Rg l)(x:It):(zpN l x.a x.b x.c=true/\zgz l x)\/(zpN l x.a x.b x.c=false/\¬zgz l x):=by
 unfold zpN zgz InV
 by_cases h:(0<=x.a/\x.a<=999)/\(0<=x.b/\x.b<=999)/\0<=x.c/\x.c<=999
 ·rw[if_pos (by simp[okP,h])]
  by_cases hm:mem l (zlR x.a.toNat x.b.toNat x.c.toNat)
  ·exact Or.inl ⟨(zfg hl).2 hm,h,hm⟩
  ·refine Or.inr ⟨?_,fun e=>hm e.2⟩;rw[Bool.eq_false_iff];exact fun e=>hm ((zfg hl).1 e)
 ·exact Or.inr ⟨if_neg (by simp[okP];omega),fun e=>h e.1⟩
open Classical in
noncomputable def ziJ(its:List It)(name:ByteArray)(rng:List Span)(k:Nat):List Nat:=(List.range k).filter fun i=>decide ((its.getD i default).name=name/\zgz rng (its.getD i default))
theorem zom{its:List It}{name:ByteArray}{rng:List Span}{k:Nat}(h1:(its.getD k default).name=name)(h2:zgz rng (its.getD k default)):ziJ its name rng (k+1)=ziJ its name rng k++[k]:=by
 unfold ziJ;rw[List.range_succ,List.filter_append];congr 1;rw[List.filter_cons,if_pos (by simpa using ⟨h1,h2⟩),List.filter_nil]
theorem zqA{its:List It}{name:ByteArray}{rng:List Span}{k:Nat}(h:¬((its.getD k default).name=name/\zgz rng (its.getD k default))):ziJ its name rng (k+1)=ziJ its name rng k:=by
 unfold ziJ;rw[List.range_succ,List.filter_append,List.filter_cons,if_neg (by simpa using h),List.filter_nil,List.append_nil]
theorem zmV(its:List It)(name:ByteArray)(rng:List Span)(k:Nat):(ziJ its name rng k).length<=k:=by
 unfold ziJ;exact Nat.le_trans (List.length_filter_le _ _) (by simp)
theorem zdX{its:List It}(h:Asc its)(name:ByteArray)(rng:List Span):ziJ its name rng its.length=zaK its name rng:=by
 unfold ziJ zaK;refine zg4 _ _ _ (zqo its name) fun i hi=>?_;simp only[decide_eq_true_eq];rw[zpH h name i hi]
theorem zdM(its:List It)(name:ByteArray)(rng:List Span)(hr:Rg rng)(iv rv:Value)(w:World)(h:zbU w iv its)(hl:its.length<=100000)(hv:NsAt w rv (tp rng)) :
  zC 149 #[iv,.string name,rv] w fun e w'=>∃v',e=.returned v'/\w'.ownsRow w.heap.size 3 1 v' (ziJ its name rng its.length).length (zaf ((ziJ its name rng its.length).map fun (k:Nat)=>(k:Int)))/\zB w w':=by
 obtain⟨va,vc,rfl⟩:=hv.form;obtain⟨ia,ic,rfl,-⟩:=h.form;obtain⟨i0,hin,hz0,hz1,hz2⟩:=info_parts zbe;have HHAS:Hid (∀W (X:It),zB w W->zR 217 #[.slice va (tp rng).length vc,.agg #[.int .i64 X.a,.int .i64 X.b,.int .i64 X.c]] W (.bool (zpN rng X.a X.b X.c))):=fun W X hW=>znU rng hr _ X.a X.b X.c W (hv.below hW zN);have HBF:=zH (fun X=>zq4 hr X);have HI:=zH h;have HY:=zH (fun k=>@zom its name rng k);have HNO:=zH (fun k=>@zqA its name rng k);have HLE:=zH (zmV its name rng);have HS0:Hid (ziJ its name rng 0=[]):=by show _=_;rfl
 clear h hv hr;generalize ziJ its name rng=am at *;generalize (tp rng).length=tl at *;go_enter Tryz.func149,Tryz.ntmps149;go_wp2_with fail;go_loopw [7,12] (fun oV iV wr=>∃(i:Nat),i<=its.length/\iV=.int .i64 i/\wr.ownsRow w.heap.size 3 1 oV (am i).length (zaf ((am i).map fun (k:Nat)=>(k:Int)))/\zB w wr) (fun _ iV _=>its.length-(intOf iV).toNat)
 case atStart=>exact⟨0,Nat.zero_le _,rfl,by rw[HS0.out];exact World.ownsRow_nil _ _ _ _,Below.refl _ _⟩
 case round =>
  obtain⟨i,hih,rfl,hrow,hbw⟩:=hrel;obtain⟨oa,oc,rfl,-⟩:=(zaa hrow).form;have HROW:=zH hrow;have HBW:=zH hbw;have hale:=HLE.out i
  by_cases hlt:i<its.length
  ·obtain⟨g,cap',e,hg,c0,c1,c2,c3⟩:=(show zbU wr (.slice ia its.length ic) its from HI.out.below hbw zN).at i hlt;simp at e;obtain⟨rfl,rfl⟩:=e;have hii0:(0:Int)<=(i:Int):=by omega
   have hii1:(i:Int)<(its.length:Int):=by omega
   have hY:=HY.out i;have hN:=HNO.out i;generalize its.getD i default=X at *;have HYI:=zH hY;have HNI:=zH hN;have HBX:=HBF.out X;have HHX:=zH (fun W hW=>HHAS.out W X hW);have hA:zB wr (wr.alloc (.cells #[.string X.name,.int .i64 X.a,.int .i64 X.b,.int .i64 X.c] 93)):=zF.alloc zN _;have HKN:=zH (Blk.new wr 93 #[.string X.name,.int .i64 X.a,.int .i64 X.b,.int .i64 X.c]);have HR3:=zH (zad hrow hA);have HB3:Hid (zB w (wr.alloc (.cells #[.string X.name,.int .i64 X.a,.int .i64 X.b,.int .i64 X.c] 93))):=zT hbw hA;clear hrow hbw hA hY hN HROW HBW HY HNO HHAS HBF;go_upto_region 5 with fail;generalize wr.alloc (.cells #[.string X.name,.int .i64 X.a,.int .i64 X.b,.int .i64 X.c] 93)=W3 at *;clear c0 c1 c2 c3;have c0:=HKN.out.cell 0;have c1:=HKN.out.cell 1;have c2:=HKN.out.cell 2;have c3:=HKN.out.cell 3
   by_cases hnm:X.name=name
   ·have hnb:(X.name.toList==name.toList)=true:=by rw[hnm];simp
    rcases HBX with ⟨hbt,hft⟩|⟨hbt,hft⟩
    ·have HA:Hid (am (i+1)=am i++[i]):=HYI.out hnm hft;have HQ:Hid (∀W,zB w W->zR 217 #[.slice va tl vc,.agg #[.int .i64 X.a,.int .i64 X.b,.int .i64 X.c]] W (.bool true)):=fun W hW=>by have:=HHX.out W hW;rw[hbt] at this;exact this
     clear HHX hbt hft hnm HYI HNI;go_wp2_with fail;refine(HQ.out _ HB3.out).mono ?_;rintro e x1 ⟨rfl,hb1⟩;have HROW2:=zH (zad HR3.out hb1);have HBX:Hid (zB w x1):=zT HB3.out hb1;have hxs:=HBX.out.size;clear hb1 HR3 HB3 HQ c0 c1 c2 c3;go_wp2_with (at_builtin;refine wpList_append_own_at _ rfl _ _ 47 rfl w.heap.size 3 i0 (.int .i64 0) 1 8 Tryz.underlying47 hin hz0 hz1 hz2 rfl (by decide) _ _ _ rfl (HROW2.out.alloc _) ⟨x1.heap.size,0,none⟩ 1 1 [.int .i64 i] rfl rfl ?c1 ?c2 ?c3 ?c4 ?c5 ?_)
     case c1=>exact zaQ _ _ _
     case c2=>exact za0 _
     case c3=>unfold maxLen;omega
     case c4=>omega
     case c5=>simp;omega
     intro v7 w7 hown7 hgrow7 _ hloc7;have HR7:Hid (w7.ownsRow w.heap.size 3 1 v7 (am (i+1)).length (zaf ((am (i+1)).map fun (k:Nat)=>(k:Int)))):=by
      show World.ownsRow _ _ _ _ _ _ _;rw[HA.out,List.map_append,List.map_cons,List.map_nil,zao,List.length_append];exact hown7
     have HB7:Hid (zB w w7):=(zL HBX.out).grown hgrow7 (by simp;omega) (fun k hk=>(HROW2.out.lt k hk).1);clear hown7 hgrow7 hloc7 HROW2 HBX;go_wp2;go_roundw
     case rel=>exact⟨i+1,by omega,by go_num,HR7.out,HB7.out⟩
     case measure=>simp[intOf];omega
    ·have HA:Hid (am (i+1)=am i):=HNI.out fun e=>hft e.2;have HQ:Hid (∀W,zB w W->zR 217 #[.slice va tl vc,.agg #[.int .i64 X.a,.int .i64 X.b,.int .i64 X.c]] W (.bool false)):=fun W hW=>by have:=HHX.out W hW;rw[hbt] at this;exact this
     clear HHX hbt hft hnm HYI HNI;go_wp2_with fail;refine(HQ.out _ HB3.out).mono ?_;rintro e x1 ⟨rfl,hb1⟩;have HR7:Hid (x1.ownsRow w.heap.size 3 1 (.slice oa (am i).length oc) (am (i+1)).length (zaf ((am (i+1)).map fun (k:Nat)=>(k:Int)))):=by
      show World.ownsRow _ _ _ _ _ _ _;rw[HA.out];exact zad HR3.out hb1
     have HBX:Hid (zB w x1):=zT HB3.out hb1;clear hb1 HR3 HB3 HQ c0 c1 c2 c3;go_wp2;go_roundw
     case rel=>exact⟨i+1,by omega,by go_num,HR7.out,HBX.out⟩
     case measure=>simp[intOf];omega
   ·have hnb:(X.name.toList==name.toList)=false:=by rw[beq_eq_false_iff_ne];exact fun e=>hnm (za7 e)
    have HA:Hid (am (i+1)=am i):=HNI.out fun e=>hnm e.1;have HR7:Hid (W3.ownsRow w.heap.size 3 1 (.slice oa (am i).length oc) (am (i+1)).length (zaf ((am (i+1)).map fun (k:Nat)=>(k:Int)))):=by
     show World.ownsRow _ _ _ _ _ _ _;rw[HA.out];exact HR3.out
    clear HHX HBX hnm HYI HNI HR3;go_wp2;go_roundw
    case rel=>exact⟨i+1,by omega,by go_num,HR7.out,HB3.out⟩
    case measure=>simp[intOf];omega
  ·have hni:¬(i:Int)<(its.length:Int):=by omega
   obtain rfl:i=its.length:=by omega
   clear hrow hbw HHAS HBF HY HNO;go_wp2;go_ret;exact⟨_,rfl,HROW.out,HBW.out⟩
end
section
open Go.RowKit Go.Deep Sv
theorem zqH{B:Nat}{W w7:World}{cv cv' fv:Value}{K:List (List Int)}{F:List Int}{c:List Int}{a:Option Addr}{cap:Nat}{cs:List Value}
  (hfr:W.ownsRow B 3 1 fv F.length (zaf F)) (hrow:W.ownsRow B 81 1 cv K.length cs) (hck:zca 0 W cs K) (hcn:ClN K cs fv.ownBlock) (hpl:PlC cs) (hpa:PlA a)
  (hc1:c.length<=cap) (hc2:cap<=9223372036854775807) (hi:zbb 0 W a c) (hN:0<c.length->∀g,(Value.slice a c.length cap).ownBlock=some g->some g≠fv.ownBlock)
  (hown:w7.ownsRow B 81 1 cv' (K.length+1) (cs++[.slice a c.length cap])) (hg:(W.alloc (.cells #[.slice a c.length cap] 81)).grownBy w7 cv.ownBlock) :
  RS B w7 cv' fv (K++[c]) F:=by
 have hbn:=zac W (.cells #[.slice a c.length cap] 81);have hk:Kp 0 (W.alloc (.cells #[.slice a c.length cap] 81)) w7:=Kp.grown (zal (zad hrow hbn) (Nat.zero_le _)) hg (by decide);have hk3:=(Kp.new (B:=0) hbn).trans hk;have hf7:=zaH (zad hfr hbn) hg (zas (zad hfr hbn) (zad hrow hbn) (by decide));exact⟨⟨_,by simpa using hown,(hck.kp hk3).snoc hc1 hc2 (hi.kp hk3),hcn.snoc hck.1 hN,hpl.snoc hpa _ _⟩,hf7⟩
theorem zql{B:Nat}{W w7:World}{cv fv fv':Value}{K:List (List Int)}{F:List Int}{x:Int}(hr:RS B W cv fv K F)
  (hown:w7.ownsRow B 3 1 fv' (F.length+1) (zaf F++[.int .i64 x])) (hg:(W.alloc (.cells #[.int .i64 x] 3)).grownBy w7 fv.ownBlock) (hloc:fv'.ownBlock=fv.ownBlock\/fv'.ownBlock=some (W.alloc (.cells #[.int .i64 x] 3)).heap.size) :
  RS B w7 cv fv' K (F++[x]):=by
 have hbn:=zac W (.cells #[.int .i64 x] 3);obtain⟨cs,hrow,hck,hcn,hpl⟩:=(hr.new hbn).crow;have hfr2:=(hr.new hbn).frow;have hc7:=zaH hrow hg (zas hrow hfr2 (by decide));refine⟨⟨cs,hc7,hck.grownN hg hcn,?_,hpl⟩,by rw[List.length_append,zao];exact hown⟩;rcases hloc with e|e
 ·rw[e];exact hcn
 ·rw[e];exact ClN.new hck zN
structure RR(w W:World)(cv fv iv:Value)(P:List (Int × List Int))(its:List It):Prop where
 rs:RS w.heap.size W cv fv (P.map Prod.snd) (P.map Prod.fst)
 it:W.ownsRow w.heap.size 93 4 iv its.length (zae its)
 bel:zB w W
theorem RR.new{w W W':World}{cv fv iv:Value}{P:List (Int × List Int)}{its:List It}(h:RR w W cv fv iv P its)(hb:zB W W'):RR w W' cv fv iv P its :=
 ⟨h.rs.new hb,zad h.it hb,zT h.bel hb⟩
theorem RR.cform{w W:World}{cv fv iv:Value}{P:List (Int × List Int)}{its:List It}(h:RR w W cv fv iv P its):∃a c,cv=.slice a P.length c:=by
 obtain⟨cs,h1,_⟩:=h.rs.crow;obtain⟨a,c,e,_⟩:=(zaa h1).form;exact⟨a,c,by simpa using e⟩
theorem RR.fform{w W:World}{cv fv iv:Value}{P:List (Int × List Int)}{its:List It}(h:RR w W cv fv iv P its):∃a c,fv=.slice a P.length c:=by
 obtain⟨a,c,e,_⟩:=(zaa h.rs.frow).form;exact⟨a,c,by simpa using e⟩
theorem RR.appC{w W w7:World}{cv cv' fv iv:Value}{P:List (Int × List Int)}{its:List It}{c:List Int}{a:Option Addr}{cap:Nat}{cs:List Value}(h:RR w W cv fv iv P its)
  (hrow:W.ownsRow w.heap.size 81 1 cv P.length cs) (hck:zca 0 W cs (P.map Prod.snd)) (hcn:ClN (P.map Prod.snd) cs fv.ownBlock) (hpl:PlC cs) (hpa:PlA a)
  (hc1:c.length<=cap) (hc2:cap<=9223372036854775807) (hi:zbb 0 W a c) (hN:0<c.length->∀g,(Value.slice a c.length cap).ownBlock=some g->some g≠fv.ownBlock)
  (hown:w7.ownsRow w.heap.size 81 1 cv' (P.length+1) (cs++[.slice a c.length cap])) (hg:(W.alloc (.cells #[.slice a c.length cap] 81)).grownBy w7 cv.ownBlock) :
  RS w.heap.size w7 cv' fv (P.map Prod.snd++[c]) (P.map Prod.fst)/\w7.ownsRow w.heap.size 93 4 iv its.length (zae its)/\zB w w7:=by
 have hbn:=zac W (.cells #[.slice a c.length cap] 81);have hrow':W.ownsRow w.heap.size 81 1 cv (P.map Prod.snd).length cs:=by simpa using hrow
 refine⟨zqH (by simpa using h.rs.frow) hrow' hck hcn hpl hpa hc1 hc2 hi hN (by simpa using hown) hg,zaH (zad h.it hbn) hg (zas (zad h.it hbn) (zad hrow hbn) (by decide)),?_⟩;exact(zL h.bel).grown hg (by simp;have:=h.bel.size;omega) (fun k hk=>(hrow.lt k hk).1)
theorem RR.appF{w W w7:World}{cv fv fv' iv:Value}{K:List (List Int)}{F:List Int}{P:List (Int × List Int)}{c:List Int}{its:List It}{x:Int}(hr:RS w.heap.size W cv fv K F)(hK:K=P.map Prod.snd++[c])(hF:F=P.map Prod.fst)
  (hit:W.ownsRow w.heap.size 93 4 iv its.length (zae its)) (hb:zB w W)
  (hown:w7.ownsRow w.heap.size 3 1 fv' (F.length+1) (zaf F++[.int .i64 x])) (hg:(W.alloc (.cells #[.int .i64 x] 3)).grownBy w7 fv.ownBlock) (hloc:fv'.ownBlock=fv.ownBlock\/fv'.ownBlock=some (W.alloc (.cells #[.int .i64 x] 3)).heap.size) :
  RR w w7 cv fv' iv (P++[(x,c)]) its:=by
 have hbn:=zac W (.cells #[.int .i64 x] 3);refine⟨?_,zaH (zad hit hbn) hg (zas (zad hit hbn) (zad hr.frow hbn) (by decide)),(zL hb).grown hg (by simp;have:=hb.size;omega) (fun k hk=>(hr.frow.lt k hk).1)⟩;have:=zql hr hown hg hloc;rw[hK,hF] at this;simpa using this
theorem zoX(W:World)(x y:Int):zbb 0 (W.alloc (.cells #[.int .i64 x,.int .i64 y] 3)) (some ⟨W.heap.size,0,none⟩) [x,y]:=fun i hi=>by
 have hB:=Blk.new W 3 #[.int .i64 x,.int .i64 y];refine⟨_,rfl,hB.lt,Or.inr ⟨_,_,hB⟩,?_⟩;rw[zau,Nat.zero_add,hB.cell i]
 match i,hi with
 |0,_=>rfl
 |1,_=>rfl
end
section
open Sv
theorem zrO:Tryz.prog.follows .mixedOrders=true:=by kernel_rfl
theorem ziT:∀a b:List UInt8,Op.bytesLess a b=decide (Lib.compareBytes a b<0)
 |[],[]=>by rfl
 |[],_ :: _=>by rfl
 |_ :: _,[]=>by rfl
 |x :: a,y :: b=>by
  have ih:=ziT a b;unfold Op.bytesLess Lib.compareBytes
  by_cases h1:x<y
  ·simp[h1]
  ·by_cases h2:y<x
   ·have h3:x≠y:=fun e=>by subst e;exact h1 h2
    simp[h1,h2,h3]
   ·have h3:x=y:=zoy h1 h2;subst h3;simp[ih]
theorem zdK(x y:ByteArray):Op.bytesLess x.toList y.toList=decide (Lib.compareBytes x.data.toList y.data.toList<0):=by
 rw[ByteArray.toList_eq,ByteArray.toList_eq];exact ziT _ _
end
section
open Go.RowKit Sv
theorem zms{P:Program}(w:World)(dT sT ty elem:TypeId)(g o dLen dCap:Nat)(a:Addr)(sLen sCap k:Nat)(cur:Array Value)(t:TypeId)(cs:List Value)
  (hu:P.underlying dT=some (.slice elem)) (hs:(P.info? elem).map (·.size)=some k)
  (hg:w.heap[g]?=some (.cells cur t (0,0))) (hn:cs.length=Nat.min sLen dLen*k)
  (hsrc:∀j v,cs[j]?=some v->w.cell? (a.add j)=some v) (hfit:o+cs.length<=cur.size) (h1:∀v∈cs,v.oneCell'=true) :
  (Builtin.copy_ #[dT,sT] ty #[.slice (some ⟨g,o,none⟩) dLen dCap,.slice (some a) sLen sCap]).run P w =
   .ok (goInt (Nat.min sLen dLen)) (w.setRow g (cur.toList.take o++cs++cur.toList.drop (o+cs.length)).toArray):=by
 have hl:=run_loadCells_list (P:=P) w a cs hsrc;have hst:=run_storeCells_at P g o t cs 0 cur w hg (by simpa using hfit) h1;cases hq:P.info? elem with
 |none=>simp[hq] at hs
 |some i =>
  have hi:i.size=k:=by simpa[hq] using hs
  simp[Builtin.copy_,run_underlying hu,Builtin.lenOf,Builtin.firstCells,sizeOf,typeInfo,hq,hi,<-hn,hl,hst]
theorem zj8{P:Program}(w:World)(dT sT ty elem:TypeId)(d a:Option Addr)(dLen dCap sLen sCap k:Nat)(hu:P.underlying dT=some (.slice elem))(hs:(P.info? elem).map (·.size)=some k)(hn:Nat.min sLen dLen=0) :
  (Builtin.copy_ #[dT,sT] ty #[.slice d dLen dCap,.slice a sLen sCap]).run P w=.ok (goInt 0) w:=by
 have hl:∀a,(loadCells a 0).run P w=.ok #[] w:=fun a=>run_loadCells_list (P:=P) w a [] (fun j v h=>by simp at h);cases hq:P.info? elem with
 |none=>simp[hq] at hs
 |some i =>cases d<;>cases a<;>simp[Builtin.copy_,run_underlying hu,Builtin.lenOf,Builtin.firstCells,sizeOf,typeInfo,hq,hn,storeCells,hl]
theorem zdL{P:Program}{ops:Array Oper}{o:Oper}{a:Act}{w:World}{K:Act->World->Prop}{Q:Exit->Act->World->Prop}{E:Prop}(hgd:o.guard=none)(d s:Operand)(dT sT:TypeId)
  (ho:o.op=.call { callee:=.builtin .copy,args:=#[d,s],argTypes:=#[dT,sT] }) (elem:TypeId) (hu:P.underlying dT=some (.slice elem)) (k:Nat) (hsz:(P.info? elem).map (·.size)=some k)
  (dp sp:Option Addr) (dLen dCap sLen sCap:Nat) (hd:a.eval d=.slice dp dLen dCap) (hs:a.eval s=.slice sp sLen sCap)
  (g off:Nat) (cur:List Value) (t:TypeId) (hg:w.heap[g]?=some (.cells cur.toArray t (0,0))) (cs:List Value) (hn:cs.length=Nat.min sLen dLen*k) (hk:0<k)
  (hpos:0<cs.length->dp=some ⟨g,off,none⟩/\∃ad,sp=some ad/\∀j v,cs[j]?=some v->w.cell? (ad.add j)=some v)
  (hfit:off+cs.length<=cur.length) (h1:∀v∈cs,v.oneCell'=true) (B:Nat) (w0:World) (hb:RowKit.Below B w0 w) (hBg:B<=g)
  (h:∀w' v,RowKit.Hid (w'.heap[g]?=some (.cells (splice cur off cs).toArray t (0,0)))->RowKit.Hid (∀k,k≠g->w'.heap[k]?=w.heap[k]?)->RowKit.Below B w0 w'->K (a.put o.dst v) w') :
  if Region.wanted o (yielded ops a.tmps)=true then Oper.wp P o a w K Q else E:=by
 have hw:Region.wanted o (yielded ops a.tmps)=true:=by simp[Region.wanted,hgd]
 rw[if_pos hw]
 by_cases h0:cs.length=0
 ·obtain rfl:cs=[]:=List.eq_nil_of_length_eq_zero h0;have hz:Nat.min sLen dLen=0:=by
   rcases Nat.mul_eq_zero.1 (show Nat.min sLen dLen*k=0 by simpa using hn.symm) with e|e
   ·exact e
   ·omega
  have hrun:=zj8 (P:=P) w dT sT o.type elem dp sp dLen dCap sLen sCap k hu hsz hz;unfold Oper.wp;simp[execOp,ho,resolve,invoke,builtin,hd,hs,hrun,Result.andThen];exact h w _ (show _=_ by simpa[splice] using hg) (fun _ _=>rfl) hb
 ·obtain⟨rfl,ad,rfl,hsrc⟩:=hpos (by omega);have hrun:=zms (P:=P) w dT sT o.type elem g off dLen dCap ad sLen sCap k cur.toArray t cs hu hsz hg hn hsrc (by simpa using hfit) h1;unfold Oper.wp;simp[execOp,ho,resolve,invoke,builtin,hd,hs,hrun,Result.andThen];exact h _ _ (show _=_ by simpa[splice] using setRow_heap w g _ _ t _ hg) (fun k hk=>setRow_other w g k _ hk) (below_setRow hb hBg _)
theorem zgB(l:List It)(i:Nat):zae (l.take i)=(zae l).take (i*4):=by
 rcases Nat.le_total i l.length with h|h
 ·have e:zae l=zae (l.take i)++zae (l.drop i):=by rw[<-zbN,List.take_append_drop]
  have hl:(zae (l.take i)).length=i*4:=by rw[zam,List.length_take];omega
  rw[e,<-hl,List.take_left]
 ·rw[List.take_of_length_le h,List.take_of_length_le (by rw[zam];omega)]
theorem zg2(l:List It)(i:Nat):zae (l.drop i)=(zae l).drop (i*4):=by
 rcases Nat.le_total i l.length with h|h
 ·have e:zae l=zae (l.take i)++zae (l.drop i):=by rw[<-zbN,List.take_append_drop]
  have hl:(zae (l.take i)).length=i*4:=by rw[zam,List.length_take];omega
  rw[e,<-hl,List.drop_left]
 ·rw[List.drop_of_length_le h,List.drop_of_length_le (by rw[zam];omega)];rfl
theorem zsH{L:List Value}{p:Nat}(h:p+4<=L.length)(a b c d:Value):(((L.set p a).set (p+1) b).set (p+2) c).set (p+3) d=L.take p++([a,b,c,d]++L.drop (p+4)):=by
 apply List.ext_getElem?;intro j;simp only[List.getElem?_set,List.getElem?_append,List.length_take,List.length_set,List.getElem?_take,List.length_cons,List.length_nil,List.getElem?_drop];rcases Nat.lt_trichotomy j p with q|q|q
 ·rw[if_neg (by omega),if_neg (by omega),if_neg (by omega),if_neg (by omega),if_pos (by omega),if_pos q]
 ·subst q;rw[if_neg (by omega),if_neg (by omega),if_neg (by omega),if_pos rfl,if_pos (by omega),if_neg (by omega),if_pos (by omega)];simp[show j-min j L.length=0 by omega]
 ·by_cases q1:j=p+1
  ·subst q1;rw[if_neg (by omega),if_neg (by omega),if_pos rfl,if_pos (by omega),if_neg (by omega),if_pos (by omega)];simp[show p+1-min p L.length=1 by omega]
  ·by_cases q2:j=p+2
   ·subst q2;rw[if_neg (by omega),if_pos rfl,if_pos (by omega),if_neg (by omega),if_pos (by omega)];simp[show p+2-min p L.length=2 by omega]
   ·by_cases q3:j=p+3
    ·subst q3;rw[if_pos rfl,if_pos (by omega),if_neg (by omega),if_pos (by omega)];simp[show p+3-min p L.length=3 by omega]
    ·rw[if_neg (by omega),if_neg (by omega),if_neg (by omega),if_neg (by omega),if_neg (by omega),if_neg (by omega)];congr 1;omega
theorem zko{acc:List It}{x z:It}{i cap:Nat}{cur:List Value}(hi:i<=acc.length)(hsz:cur.length=cap*4)(hnc:acc.length+1<=cap)(htk:cur.take ((acc.length+1)*4)=zae acc++zaT z) :
  ((((splice cur ((i+1)*4) ((zae acc).drop (i*4))).set (i*4) (.string x.name)).set (i*4+1) (.int .i64 x.a)).set (i*4+2) (.int .i64 x.b)).set (i*4+3) (.int .i64 x.c)=zae (zc7 acc x i)++cur.drop ((acc.length+1)*4):=by
 have hL:(zae acc).length=acc.length*4:=zam acc;have hD:((zae acc).drop (i*4)).length=(acc.length-i)*4:=by rw[List.length_drop,hL];omega
 have hcur:cur=zae acc++(zaT z++cur.drop ((acc.length+1)*4)):=by
  have:=List.take_append_drop ((acc.length+1)*4) cur;rw[htk] at this;rw[<-List.append_assoc];exact this.symm
 have hlen:(splice cur ((i+1)*4) ((zae acc).drop (i*4))).length=cur.length:=length_splice _ _ _ (by rw[hD,hsz];omega);rw[zsH (by rw[hlen,hsz];omega)];have e1:(splice cur ((i+1)*4) ((zae acc).drop (i*4))).take (i*4)=zae (acc.take i):=by
  unfold splice;rw[List.take_append_of_le_length (by rw[List.length_take,hsz];omega),List.take_take,show min (i*4) ((i+1)*4)=i*4 by omega];rw[hcur,List.take_append_of_le_length (by rw[hL];omega),zgB]
 have e2:(splice cur ((i+1)*4) ((zae acc).drop (i*4))).drop (i*4+4)=zae (acc.drop i)++cur.drop ((acc.length+1)*4):=by
  unfold splice;have hl:(cur.take ((i+1)*4)).length=i*4+4:=by rw[List.length_take,hsz];omega
  rw[<-hl,List.drop_left,zg2,hD];congr 2;omega
 rw[e1,e2];unfold zc7;rw[zbN];show _=(_++zae (x :: acc.drop i))++_;rw[show zae (x :: acc.drop i)=zaT x++zae (acc.drop i) from rfl];simp[zaT]
theorem zjj{w3:World}{B i:Nat}{acc:List It}{x z:It}{v':Value}(hi:i<=acc.length)(hown:w3.ownsRow B 93 4 v' (acc.length+1) (zae acc++zaT z)) :
  ∃(g cap:Nat) (cur CS:List Value),v'=.slice (some ⟨g,0,none⟩) (acc.length+1) cap/\B<=g/\acc.length+1<=cap/\w3.heap[g]?=some (.cells cur.toArray 93 (0,0)) /\
   (∀w4:World,w4.heap[g]?=some (.cells (splice cur ((i+1)*4) CS).toArray 93 (0,0))->(∃c0 c1 c2 c3,w4.cell? ⟨g,i*4,none⟩=some c0/\w4.cell? ⟨g,i*4+1,none⟩=some c1/\w4.cell? ⟨g,i*4+2,none⟩=some c2/\w4.cell? ⟨g,i*4+3,none⟩=some c3)/\(∀j,w4.frozen? ⟨g,j,none⟩=false)/\((((w4.setCell ⟨g,i*4,none⟩ (.string x.name)).setCell ⟨g,i*4+1,none⟩ (.int .i64 x.a)).setCell ⟨g,i*4+2,none⟩ (.int .i64 x.b)).setCell ⟨g,i*4+3,none⟩ (.int .i64 x.c)).ownsRow B 93 4 (.slice (some ⟨g,0,none⟩) (acc.length+1) cap) (acc.length+1) (zae (zc7 acc x i))) /\
   (∀j v,CS[j]?=some v->w3.cell? ⟨g,i*4+j,none⟩=some v)/\(∀v∈CS,v.oneCell'=true)/\CS.length=Nat.min (acc.length+1-i) (acc.length+1-(i+1))*4/\(i+1)*4+CS.length<=cur.length:=by
 rcases hown.2 with ⟨_,h0'⟩|⟨g,cap,cur,rfl,hBg,hg,hnc,hmx,hsz,htk⟩
 ·exact absurd h0' (by simp)
 have hL:(zae acc).length=acc.length*4:=zam acc;have hD:((zae acc).drop (i*4)).length=(acc.length-i)*4:=by rw[List.length_drop,hL];omega
 have hsz':cur.toList.length=cap*4:=by simpa using hsz
 refine⟨g,cap,cur.toList,(zae acc).drop (i*4),rfl,hBg,hnc,by simpa using hg,fun w4 h4=>?_,fun j v hv=>?_,fun v hv=>?_,?_,?_⟩
 ·have hlen:(splice cur.toList ((i+1)*4) ((zae acc).drop (i*4))).length=cap*4:=by rw[length_splice _ _ _ (by rw[hD,hsz'];omega),hsz']
  have hB:Blk w4 g 93 (splice cur.toList ((i+1)*4) ((zae acc).drop (i*4))).toArray:=h4;have hex:∀j,j<cap*4->∃u,w4.cell? ⟨g,j,none⟩=some u:=fun j hj=>by
   rw[hB.cell];exact⟨(splice cur.toList ((i+1)*4) ((zae acc).drop (i*4)))[j]'(by rw[hlen];exact hj),by rw[List.getElem?_toArray,List.getElem?_eq_getElem]⟩
  obtain⟨c0,h0⟩:=hex (i*4) (by omega);obtain⟨c1,h1⟩:=hex (i*4+1) (by omega);obtain⟨c2,h2⟩:=hex (i*4+2) (by omega);obtain⟨c3,h3⟩:=hex (i*4+3) (by omega);refine⟨⟨c0,c1,c2,c3,h0,h1,h2,h3⟩,fun j=>hB.frozen j,?_⟩;have hF:=(((hB.set (i:=i*4) (v:=.string x.name)).set (i:=i*4+1) (v:=.int .i64 x.a)).set (i:=i*4+2) (v:=.int .i64 x.b)).set (i:=i*4+3) (v:=.int .i64 x.c);refine⟨by rw[zam,zeL],Or.inr ⟨g,cap,_,rfl,hBg,hF,hnc,hmx,by simp[hlen],?_⟩⟩;simp only[List.setIfInBounds_toArray];rw[zko hi hsz' hnc (by simpa using htk)];have:(zae (zc7 acc x i)).length=(acc.length+1)*4:=by rw[zam,zeL]
  rw[<-this,List.take_left]
 ·have hj:i*4+j<acc.length*4:=by have:=(List.getElem?_eq_some_iff.1 hv).1;rw[hD] at this;omega
  rw[(show Blk w3 g 93 cur from hg).cell,<-hv,List.getElem?_drop,<-Array.getElem?_toList,show cur.toList[i*4+j]?=(cur.toList.take ((acc.length+1)*4))[i*4+j]? by rw[List.getElem?_take,if_pos (by omega)],htk,List.getElem?_append_left (by rw[hL];omega)]
 ·have hm:=List.mem_of_mem_drop hv;unfold zae at hm;obtain⟨y,_,hy⟩:=List.mem_flatMap.1 hm;simp only[zaT,List.mem_cons,List.not_mem_nil,or_false] at hy;rcases hy with rfl|rfl|rfl|rfl<;>rfl
 ·rw[hD];show _=min _ _*4;omega
 ·rw[hD,hsz'];omega
end
end Go.Proofs.YtiihalknffbjpaaGreatDoor
