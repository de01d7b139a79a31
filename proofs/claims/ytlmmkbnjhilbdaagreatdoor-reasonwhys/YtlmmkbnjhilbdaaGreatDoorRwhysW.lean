/- ReasonWhys: where all is there. -/
import Derived.Test.YtlmmkbnjhilbdaaGreatDoorSpLaid
namespace Go.Proofs.YtlmmkbnjhilbdaaGreatDoor
set_option maxHeartbeats 8000000
set_option maxRecDepth 100000
section
open Go.RowKit Go.Deep
theorem zml(xs:List Int)(a1 a2:Option Addr)(c1 c2:Nat)(w:World)(h1:zW w a1 xs)(h2:zW w a2 xs)(hm:xs.length<=9223372036854775807) :
  zR 18 #[.slice a1 xs.length c1,.slice a2 xs.length c2] w (.bool true):=by
 have H1:=zH h1;have H2:=zH h2;clear h1 h2;have enn:((xs.length:Int) != (xs.length:Int))=false:=by simp
 go_enter Tryz.func18,Tryz.ntmps18;go_wp2_with fail;go_loopw [5] (fun kV wr=>∃k:Nat,k<=xs.length/\kV=.int .i64 k/\zB w wr) (fun kV _=>xs.length-(intOf kV).toNat)
 case atStart=>exact⟨0,Nat.zero_le _,rfl,Below.refl _ _⟩
 case round =>
  obtain⟨k,hk,rfl,hbr⟩:=hrel;have HBR:=zH hbr;clear hbr
  by_cases hlt:k<xs.length
  ·obtain⟨ad1,rfl,hl1,hc1⟩:=H1.out.below HBR.out k hlt;obtain⟨ad2,rfl,hl2,hc2⟩:=H2.out.below HBR.out k hlt;generalize xs.getD k 0=x at *;have exx:(x != x)=false:=by simp
   have HBN:Hid (∀q,zB w (wr.drewN q)):=fun q=>HBR.out.trans ⟨rfl,rfl,rfl,Nat.le_refl _,fun _ _=>rfl⟩;go_wp2_with fail;go_quiet (fail);go_wp2;go_roundw
   case rel=>exact⟨k+1,hlt,by go_num,HBN.out _⟩
   case measure=>simp[intOf];omega
  ·obtain rfl:k=xs.length:=by omega
   go_wp2;go_ret;exact⟨rfl,HBR.out⟩
end
section
open Go.RowKit Go.Deep Sv
theorem zgK(W:World)(x y:Int):zW (W.alloc (.cells #[.int .i64 x,.int .i64 y] 3)) (some ⟨W.heap.size,0,none⟩) [x,y]:=fun i hi=>by
 have hB:=Blk.new W 3 #[.int .i64 x,.int .i64 y];refine⟨_,rfl,hB.lt,?_⟩;rw[add_plain,Nat.zero_add,hB.cell i]
 match i,hi with
 |0,_=>rfl
 |1,_=>rfl
theorem za8(w:World)(hw:Lw w):zR 5 #[] w (.bool true):=by
 have HP0:=zeI QA w hw;rw[zj2] at HP0;have HP:Hid (zC 15 #[.string QA] w fun e w'=>∃bc,e=.returned (.tuple #[.pointer (some ⟨bc,0,none⟩),.nilIface])/\qA w' bc qR qL/\zB w w'):=by
  refine HP0.mono ?_;rintro e w' ⟨bc,vs,rfl,q1,-,q3⟩;exact⟨bc,rfl,q1.cat,q3⟩
 have HC:Hid (∀W bc,qA W bc qR qL->zC 17 #[.pointer (some ⟨bc,0,none⟩)] W fun e w'=>∃a c,e=.returned (.tuple #[.slice a 2 c,.nilIface])/\zW w' a [1,2]/\zB W w'):=fun W bc hcat=>by
  have hof:(ofL qL qR).length<=200:=by rw[Xe];decide
  refine(zcA (xq qR qL) bc qR qL W hcat (by decide) (by decide) (fun x hx=>?_) hof (fun x hx=>?_) (fun l=>zeO zaE hof _) (fun l b er h=>zb3 zaE (by decide) _ h)).mono ?_
  ·simp only[qR,List.mem_cons,List.not_mem_nil,or_false] at hx;rcases hx with rfl|rfl|rfl<;>exact⟨by decide,by decide⟩
  ·rw[Xe] at hx;simp only[List.mem_cons,List.not_mem_nil,or_false] at hx;rcases hx with rfl|rfl<;>decide
  ·rintro e w' ⟨h|⟨-,a,c,rfl,hi⟩,hb⟩
   ·have:=h.1;rw[zeh,zkg] at this;cases this
   ·rw[zlx] at hi ⊢;exact⟨a,c,rfl,hi,hb⟩
 have hT:QA=⟨#[112,97,99,107,97,103,101,32,97,32,49,46,48,46,48,10,114,111,111,116,32,97,32,97,110,121,10,99,108,97,115,104,101,115,32,97,32,49,46,48,46,48,32,97,32,97,110,121,10]⟩:=rfl;rw[hT] at HP;clear HP0 hw hT;go_enter Tryz.func5,Tryz.ntmps5;go_wp2_with fail;refine HP.out.mono ?_;rintro e w1 ⟨bc,rfl,hcat,hb1⟩;have HC1:=zH (HC.out w1 bc hcat);have HB1:=zH hb1;clear hcat hb1 HC HP;go_wp2_with fail;refine HC1.out.mono ?_;rintro e w2 ⟨a,c,rfl,hi,hb2⟩;have hbl:=below_new w2 (.cells #[.int .i64 1,.int .i64 2] 3);have HS:=zH (zml [1,2] a (some ⟨w2.heap.size,0,none⟩) c 2 (w2.alloc (.cells #[.int .i64 1,.int .i64 2] 3)) (hi.below hbl) (zgK w2 1 2) (by simp));have HB2:=zH ((zT HB1.out hb2).trans (hbl.mono (Nat.le_trans HB1.out.size hb2.size)));clear hi hb2 hbl HC1 HB1;go_wp2_with fail;refine HS.out.mono ?_;rintro e w3 ⟨rfl,hb3⟩;have HB3:=zH (zT HB2.out hb3);clear hb3 HB2 HS;go_wp2;go_ret;exact⟨rfl,HB3.out⟩
end
section
open Go.RowKit Go.Deep
def ZY(x:Int)(n:Nat):Nat:=((x%18446744073709551616).toNat)%n
theorem zd4(x:Int){n:Nat}(h:0<n):ZY x n<n:=Nat.mod_lt _ h
theorem zk8(x:Int)(n:Nat)(h0:0<n)(h1:n<=1000000)(w:World) :
  zC 7 #[.int .i64 x,.int .i64 n] w fun e w'=>e=.returned (.int .i64 (ZY x n))/\w=w':=by
 have hp:=zd4 x h0;have e1:IntKind.u64.wrap x=x%18446744073709551616:=by rw[IntKind.wrap_u64]
 have e2:IntKind.u64.wrap (n:Int)=(n:Int):=IntWalk.u64_in _ ⟨by omega,by omega⟩;have e3:Int.tmod (x%18446744073709551616) (n:Int)=(ZY x n:Int):=by
  unfold ZY;obtain⟨m,hm⟩:∃m:Nat,x%18446744073709551616=(m:Int):=⟨(x%18446744073709551616).toNat,by omega⟩;rw[hm];simp;rfl
 have e4:IntKind.i64.wrap (ZY x n:Int)=(ZY x n:Int):=IntWalk.i64_in _ ⟨by omega,by omega⟩;have e5:((n:Int)==0)=false:=by rw[beq_eq_false_iff_ne];omega
 generalize ZY x n=p at *;go_enter Tryz.func7,Tryz.ntmps7;go_wp2;go_ret;exact⟨rfl,rfl⟩
end
namespace Bd
open Go.RowKit Go.Deep Sv Lib Go.Sort
theorem zn9(s:ByteArray)(v:Int)(w:World)(hw:Lw w)(hr:Zq s 10=none):zR 3 #[.string s,.int .i64 v] w (.bool true):=by
 have HRD0:=zbR s 10 w hw;rw[hr] at HRD0;have HRD:Hid (zR 4 #[.string s,.int .i64 10] w (.tuple #[.pointer none,.agg #[.int .i64 0,.slice none 0 0,.slice none 0 0],.bool false])):=HRD0;have HCO:Hid (∀W,zB w W->zR 5 #[] W (.bool true)):=fun W hb=>za8 W (hw.below hb);clear HRD0 hr hw;go_enter Tryz.func3,Tryz.ntmps3;go_wp2_with fail;refine HRD.out.mono ?_;rintro e w1 ⟨rfl,hb1⟩;have HB1:Hid (zB w (w1.alloc (.cells #[.int .i64 0,.slice none 0 0,.slice none 0 0] 26))):=zL hb1;clear hb1 HRD;go_upto_region 2 with fail;generalize w1.alloc (.cells #[.int .i64 0,.slice none 0 0,.slice none 0 0] 26)=W1 at *;go_wp2_with fail;refine(HCO.out W1 HB1.out).mono ?_;rintro e w2 ⟨rfl,hb2⟩;have HB2:Hid (zB w w2):=zT HB1.out hb2;clear hb2 HB1;go_wp2_with fail;refine(HCO.out w2 HB2.out).mono ?_;rintro e w3 ⟨rfl,hb3⟩;have HB3:Hid (zB w w3):=zT HB2.out hb3;clear hb3 HB2 HCO;go_wp2;go_ret;exact⟨rfl,HB3.out⟩
theorem zeR{bk:Nat}{ls:List Ln}{its:List It}(w:World)(h:qA w bk ls its)(hl:ls.length<=100000) :
  zC 6 #[.pointer (some ⟨bk,0,none⟩)] w fun e w'=>∃a c,e=.returned (.slice a ls.length c)/\zB w w':=by
 obtain⟨vs,va,vc,h1,h2,h3⟩:=h.ranges;exact(zfz w h1 h2 h3 hl).mono fun e w' ⟨a,c,he,_,hb⟩=>⟨a,c,he,hb⟩
theorem zaX(s:ByteArray)(v:Int)(w:World)(hw:Lw w)(ls:List Ln)(its:List It)(hr:Zq s 10=some (ls,its))(hed:its.length=0\/100<=ls.length\/200<=(ofL its ls).length):zR 3 #[.string s,.int .i64 v] w (.bool true):=by
 have hN:=(zgi hr).1;have hl100:=(YJ hN).2.1;have HRD:=zH (zeD s w hw ls its 10 hr);have HCO:Hid (∀W,zB w W->zR 5 #[] W (.bool true)):=fun W hb=>za8 W (hw.below hb);have HLL:Hid (∀W bk,qA W bk ls its->zC 6 #[.pointer (some ⟨bk,0,none⟩)] W fun e w'=>∃a c,e=.returned (.slice a ls.length c)/\zB W w'):=fun W bk hc=>zeR W hc (by omega);clear hr hw hN;generalize hvr:its.length=vars at *;generalize hP:(ofL its ls).length=P at *;generalize hln:ls.length=L at *;go_enter Tryz.func3,Tryz.ntmps3;go_wp2_with fail;refine HRD.out.mono ?_;rintro e w1 ⟨bc,ca,cc,fa,fc,rfl,hnc,hcat,hrs,hb1⟩;have hbn:=Go.Proofs.YtlmmkbnjhilbdaaGreatDoor.below_new w1 (.cells #[.int .i64 vars,.slice ca P cc,.slice fa P fc] 26);have kr:=Blk.new w1 26 #[.int .i64 vars,.slice ca P cc,.slice fa P fc];have HCAT:=zH (hcat.below hbn zN);have HB1:=zH (zT hb1 hbn);clear hcat hrs hb1 hbn HRD;go_upto_region 2 with fail;generalize w1.alloc (.cells #[.int .i64 vars,.slice ca P cc,.slice fa P fc] 26)=W1 at *;generalize w1.heap.size=b4 at *;go_wp2_with fail;refine(HCO.out W1 HB1.out).mono ?_;rintro e w2 ⟨rfl,hb2⟩;have HB2:Hid (zB w w2):=zT HB1.out hb2;have kr2:=kr.below hb2 kr.lt;have d0:_=some (Value.int .i64 vars):=kr2.cell 0;have HL2:=zH (HLL.out w2 bc (HCAT.out.below hb2 zN));clear hb2 HB1 HCAT HLL kr
 by_cases h0:vars=0
 ·subst h0;go_wp2_with fail;refine(HCO.out w2 HB2.out).mono ?_;rintro e w3 ⟨rfl,hb3⟩;have HB3:Hid (zB w w3):=zT HB2.out hb3;clear hb3 HB2 HCO d0 kr2;go_wp2;go_ret;exact⟨rfl,HB3.out⟩
 ·have hv0:¬(vars:Int)=0:=by omega
  have hv1:((vars:Int)==0)=false:=by rw[beq_eq_false_iff_ne];exact hv0
  go_wp2_with fail;refine HL2.out.mono ?_;rintro e w3 ⟨la,lc,rfl,hb3⟩;have HB3:Hid (zB w w3):=zT HB2.out hb3;have d1:w3.cell? ⟨b4,1,none⟩=some (.slice ca P cc):=(kr2.below hb3 kr2.lt).cell 1;clear hb3 HB2 d0 kr2
  by_cases h1:100<=L
  ·have hl1:(100:Int)<=(L:Int):=by omega
   go_wp2_with fail;refine(HCO.out w3 HB3.out).mono ?_;rintro e w4 ⟨rfl,hb4⟩;have HB4:Hid (zB w w4):=zT HB3.out hb4;clear hb4 HB3 HCO d1;go_wp2;go_ret;exact⟨rfl,HB4.out⟩
  ·have hl1:¬(100:Int)<=(L:Int):=by omega
   have hp1:(200:Int)<=(P:Int):=by omega
   go_wp2_with fail;refine(HCO.out w3 HB3.out).mono ?_;rintro e w4 ⟨rfl,hb4⟩;have HB4:Hid (zB w w4):=zT HB3.out hb4;clear hb4 HB3 HCO d1;go_wp2;go_ret;exact⟨rfl,HB4.out⟩
end Bd
namespace Bd
open Go.RowKit Go.Deep Sv Lib Go.Sort
theorem zov(vars:Nat)(ns:List Nd)(h:Int)(is:Bool)(k v:Nat)(hv:v<k):(v:Int)∈qV vars ns h is k↔Qn vars ns h is v=true:=by
 unfold qV;rw[List.mem_map];constructor
 ·rintro⟨x,hx,e⟩;obtain rfl:x=v:=by omega
  exact(List.mem_filter.1 hx).2
 ·intro hb;exact⟨v,List.mem_filter.2 ⟨List.mem_range.2 hv,hb⟩,rfl⟩
def Qt(xs:List Int)(v:Int)(k:Nat):Bool:=(xs.take k).any fun x=>x==v
theorem zls(xs:List Int)(v:Int){k:Nat}(hk:k<xs.length):Qt xs v (k+1)=(Qt xs v k||(xs.getD k 0==v)):=by
 unfold Qt;rw[List.take_succ_eq_append_getElem hk,List.any_append,List.getD_eq_getElem?_getD,List.getElem?_eq_getElem hk];simp
theorem zpk(xs:List Int)(v:Int):Qt xs v xs.length=decide (v∈xs):=by
 unfold Qt;rw[List.take_length,Bool.eq_iff_iff,List.any_eq_true,decide_eq_true_iff];exact⟨fun⟨x,h1,h2⟩=>by rw[<-eq_of_beq h2];exact h1,fun h=>⟨v,h,beq_self_eq_true v⟩⟩
theorem zmJ(s:ByteArray)(v:Int)(w:World)(hw:Lw w)(ls:List Ln)(its:List It)(hr:Zq s 10=some (ls,its))(h0:its.length≠0)(hls:ls.length<100)(hPl:(ofL its ls).length<200):zR 3 #[.string s,.int .i64 v] w (.bool true):=by
 obtain⟨hN,hP,hv⟩:=zgi hr;have HRD:=zH (zeD s w hw ls its 10 hr);have HCO:Hid (∀W,zB w W->zR 5 #[] W (.bool true)):=fun W hb=>za8 W (hw.below hb);have HLL0:Hid (∀W bk,qA W bk ls its->zC 6 #[.pointer (some ⟨bk,0,none⟩)] W fun e w'=>∃a c,e=.returned (.slice a ls.length c)/\zB W w'):=fun W bk hc=>zeR W hc (by omega);have HIT:Hid (∀W bk,qA W bk ls its->zC 8 #[.pointer (some ⟨bk,0,none⟩)] W fun e w'=>∃v',e=.returned v'/\yJ w' v' its/\zB W w'):=fun W bk hc=>(zgj bk ls its W hc (by omega)).mono fun e w' ⟨v',h1,h2,h3⟩=>⟨v',h1,zx h2,h3⟩;have hnk:=YJ hN;have hnm:∀x∈ls,x.name.size<=100000/\x.other.size<=100000:=fun x hx=>zaH (hnk.2.2 x hx);have hfine:=Xf hN;have hLL:qs its.length ((ofL its ls).map Prod.snd):=fun c hc=>by
  obtain⟨x,hx,rfl⟩:=List.mem_map.1 hc;exact(hfine x hx).1
 have hroom:((2*2^its.length+25*its.length:Nat):Int)<=4000+1:=by
  have:=XM hv;omega
 have HOF:Hid (∀W bk,qA W bk ls its->zC 10 #[.pointer (some ⟨bk,0,none⟩),.int .i64 4000] W fun e w'=>∃p s b O,e=.returned (.tuple #[.pointer (some ⟨p,0,none⟩),.nilIface])/\Zp W.heap.size w' p s b O its.length 4000 (clF ((ofL its ls).map Prod.snd))/\zB W w'):=fun W bk hc=>zln bk ls its W hc hN hv (by omega) hnm hP 4000 (by decide) (by decide) hroom;have hpv:ZY v its.length<its.length:=zd4 v (by omega);have HPK:Hid (∀W,zC 7 #[.int .i64 v,.int .i64 its.length] W fun e w'=>e=.returned (.int .i64 (ZY v its.length))/\W=w'):=fun W=>zk8 v its.length (by omega) (by omega) W;generalize ZY v its.length=pv at *;have hiv:=(Kn hN _ (YK hpv)).2;unfold InV at hiv;obtain⟨a,ha⟩:∃a:Nat,(its.getD pv default).a=(a:Int):=⟨_,(Int.toNat_of_nonneg hiv.1.1).symm⟩;obtain⟨b,hb⟩:∃b:Nat,(its.getD pv default).b=(b:Int):=⟨_,(Int.toNat_of_nonneg hiv.2.1.1).symm⟩;obtain⟨c,hc⟩:∃c:Nat,(its.getD pv default).c=(c:Int):=⟨_,(Int.toNat_of_nonneg hiv.2.2.1).symm⟩;have HWY0:Hid (∀W bk,zB w W->qA W bk ls its->zC 9 #[.pointer (some ⟨bk,0,none⟩),.string (its.getD pv default).name,.agg #[.int .i64 a,.int .i64 b,.int .i64 c]] W fun e w'=>∃x y,e=.returned (.tuple #[x,y])/\Jp w' its ls pv a b c x y/\zB W w'):=fun W bk hW hcat=>zgJ bk ls its pv a b c W hcat (hw.below hW).lb hN (by omega) hls hPl hpv ha hb hc;unfold Jp at HWY0;have hlast:=zgT (a:=a) (b:=b) (c:=c) hN hpv ha hb hc;have hwl:=zlb (its:=its) (ls:=ls) (v:=pv) (a:=a) (b:=b) (c:=c);have HIA:Hid (∀W v',yJ W v' its->∃g cap,v'=.slice (some ⟨g,0,none⟩) its.length cap/\g<W.heap.size/\W.cell? ⟨g,pv*4,none⟩=some (.string (its.getD pv default).name)/\W.cell? ⟨g,pv*4+1,none⟩=some (.int .i64 a)/\W.cell? ⟨g,pv*4+2,none⟩=some (.int .i64 b)/\W.cell? ⟨g,pv*4+3,none⟩=some (.int .i64 c)):=fun W v' h=>by
  have:=yJ.at h pv hpv;rw[ha,hb,hc] at this;exact this
 clear hiv ha hb hc;generalize its.getD pv default=IT at *;generalize YW its ls pv a b c=WL at *;have hKl:((ofL its ls).map Prod.snd).length=(ofL its ls).length:=List.length_map _;generalize hvr:its.length=vars at *;generalize hK:(ofL its ls).map Prod.snd=K at *;generalize hln:ls.length=L at *;have HMZ:=zH (znQ (show vars<=24 by omega) hLL);have hNV:=zkL (show vars<=24 by omega) hLL (X9 (show vars<=12 by omega) hLL) hpv;have hmem:=zov vars (clF K).1 (clF K).2 false vars pv hpv;rw[hNV] at hmem;have HLL:=zH hLL;have HML:=zH (zgA (show vars<=12 by omega) K);rw[<-hKl] at HRD hP hPl;have HLW:=zH hw;clear hr hw hN hnk hnm hfine hroom hvr hLL hKl hK hNV hln;generalize xi (K++[[(pv:Int)+1]])=SB2 at *;generalize hSB:xi K=SB at *;have hvz:((vars:Int)==0)=false:=by rw[beq_eq_false_iff_ne];omega
 have hv0:¬(vars:Int)=0:=by omega
 have hl1:¬(100:Int)<=(L:Int):=by omega
 have hp1:¬(200:Int)<=(K.length:Int):=by omega
 go_enter Tryz.func3,Tryz.ntmps3;go_wp2_with fail;refine HRD.out.mono ?_;rintro e w1 ⟨bc,ca,cc,fa,fc,rfl,hnc,hcat,hrs,hb1⟩;have hbn:=Go.Proofs.YtlmmkbnjhilbdaaGreatDoor.below_new w1 (.cells #[.int .i64 vars,.slice ca K.length cc,.slice fa K.length fc] 26);have kr:=Blk.new w1 26 #[.int .i64 vars,.slice ca K.length cc,.slice fa K.length fc];have HCAT:=zH (hcat.below hbn zN);have HB1:=zH (zT hb1 hbn);clear hcat hrs hb1 hbn HRD;go_upto_region 2 with fail;generalize w1.alloc (.cells #[.int .i64 vars,.slice ca K.length cc,.slice fa K.length fc] 26)=W1 at *;generalize w1.heap.size=b4 at *;go_wp2_with fail;refine(HCO.out W1 HB1.out).mono ?_;rintro e w2 ⟨rfl,hb2⟩;have HB2:Hid (zB w w2):=zT HB1.out hb2;have kr2:=kr.below hb2 kr.lt;have d0:_=some (Value.int .i64 vars):=kr2.cell 0;have hcat2:=HCAT.out.below hb2 zN;have HL2:=zH (HLL0.out w2 bc hcat2);have HCAT2:=zH hcat2;clear hb2 HB1 HCAT kr HCO hcat2;go_wp2_with fail;refine HL2.out.mono ?_;rintro e w3 ⟨la,lc,rfl,hb3⟩;have HB3:Hid (zB w w3):=zT HB2.out hb3;have kr3:=kr2.below hb3 kr2.lt;have d1:_=some (Value.slice ca K.length cc):=kr3.cell 1;have d2:_=some (Value.int .i64 vars):=kr3.cell 0;have hcat3:=HCAT2.out.below hb3 zN;have HI3:=zH (HIT.out w3 bc hcat3);have HCAT3:=zH hcat3;clear hb3 HB2 HCAT2 kr2 kr3 HL2 d0 hcat3 HIT;go_wp2_with fail;refine(HPK.out w3).mono ?_;rintro e w4 ⟨rfl,rfl⟩;clear HPK d1 d2;go_wp2_with fail;refine HI3.out.mono ?_;rintro e w4 ⟨iv,rfl,hit,hb4⟩;obtain⟨g,cap,rfl,hg,g0,g1,g2,g3⟩:=HIA.out _ _ hit;have hB4:=zT HB3.out hb4;have hcat4:=HCAT3.out.below hb4 zN;have HCAT4:=zH hcat4;have HB4:=zH hB4;have S4:Hid (∀W,zB w4 W->W.cell? ⟨g,pv*4,none⟩=some (.string IT.name)/\W.cell? ⟨g,pv*4+1,none⟩=some (.int .i64 a)/\W.cell? ⟨g,pv*4+2,none⟩=some (.int .i64 b)/\W.cell? ⟨g,pv*4+3,none⟩=some (.int .i64 c)):=fun W hW=>⟨(hW.cell (p:=⟨g,pv*4,none⟩) hg).trans g0,(hW.cell (p:=⟨g,pv*4+1,none⟩) hg).trans g1,(hW.cell (p:=⟨g,pv*4+2,none⟩) hg).trans g2,(hW.cell (p:=⟨g,pv*4+3,none⟩) hg).trans g3⟩;have HWY:Hid (∀W,zB w4 W->zC 9 #[.pointer (some ⟨bc,0,none⟩),.string IT.name,.agg #[.int .i64 a,.int .i64 b,.int .i64 c]] W fun e w'=>∃x y,e=.returned (.tuple #[x,y])/\((SB2=true/\x=.slice none 0 0/\y=.iface 55 (.int .i64 8))\/(SB2=false/\∃la lc,x=.slice la WL.length lc/\y=.nilIface/\zW w' la (zM WL)))/\zB w4 w'):=fun W hW=>(HWY0.out W bc (zT HB4.out hW) (HCAT4.out.below hW zN)).mono fun e w' ⟨x,y,h1,h2,h3⟩=>⟨x,y,h1,h2,zT hW h3⟩;clear hit hb4 hB4 HB3 HCAT3 HI3 HIA HWY0 g0 g1 g2 g3 hcat4;have BR:zB w4 w4.drew:=(Below.refl w4.heap.size w4).drew;go_upto_region 6 with fail;go_cut [9,10] (fun x y wx=>((SB2=true/\x=.slice none 0 0/\y=.iface 55 (.int .i64 8))\/(SB2=false/\∃la lc,x=.slice la WL.length lc/\y=.nilIface/\zW wx la (zM WL)))/\zB w4 wx)
 case first =>
  go_region_held3 (fun X=>X.cell? ⟨g,pv*4,none⟩=some (.string IT.name)/\X.cell? ⟨g,pv*4+1,none⟩=some (.int .i64 a)/\X.cell? ⟨g,pv*4+2,none⟩=some (.int .i64 b)/\X.cell? ⟨g,pv*4+3,none⟩=some (.int .i64 c)) (exact S4.out _ (by first|assumption|exact Below.drew (by assumption)))
   (first|(go_at_call 9;refine(HWY.out _ (by first|assumption|exact Below.drew (by assumption))).mono ?_;rintro e w5 ⟨x,y,rfl,hxy,hb5⟩))
  all_goals
   go_wp2_with fail;go_meet
   case rel=>exact⟨hxy,hb5⟩
 case rest =>
 obtain⟨hxy,hb5⟩:=hcut;have HB5:=zH (zT HB4.out hb5);have hcat5:=HCAT4.out.below hb5 zN;have HO5:=zH (HOF.out wc bc hcat5);have HCAT5:=zH hcat5;have HXY:=zH hxy;clear hb5 hcat5 hxy HB4 HCAT4 HOF HWY S4 BR;generalize wc=w5 at *;go_wp2_with fail;refine HO5.out.mono ?_;rintro e w6 ⟨p,sp,bb,O,rfl,hsol,hb6⟩;have HB6:=zH (zT HB5.out hb6);have HCAT6:=zH (HCAT5.out.below hb6 zN);have HXY6:Hid ((SB2=true/\u9=.slice none 0 0/\u10=.iface 55 (.int .i64 8))\/(SB2=false/\∃la lc,u9=.slice la WL.length lc/\u10=.nilIface/\zW w6 la (zM WL))):=by
  rcases HXY.out with h|⟨h1,la,lc,h2,h3,h4⟩
  ·exact .inl h
  ·exact .inr ⟨h1,la,lc,h2,h3,h4.below hb6⟩
 have hcl:=X9 (show vars<=12 by omega) HLL.out;have hcn:=zfB (show vars<=12 by omega) HLL.out;have HNE:Hid (zC 11 #[.pointer (some ⟨p,0,none⟩)] w6 fun e w'=>∃a c,e=.returned (.tuple #[.slice a (qV vars (clF K).1 (clF K).2 false vars).length c,.nilIface])/\zW w' a (qV vars (clF K).1 (clF K).2 false vars)/\zB w6 w'):=(zm1 hsol hcl.good hcn (by omega) hcl.has).mono fun e w' ⟨v',h1,h2,h3⟩=>by
  obtain⟨a,c,rfl,-⟩:=row_form h2;exact⟨a,c,h1,zac h2,h3⟩
 have HCA:Hid (∀W,zB w6 W->zfI W p sp (clF K).2 (ZP vars K)):=fun W hW=>zm6 (hsol.new hW) (by omega) HLL.out;have hlf:(qV vars (clF K).1 (clF K).2 false vars).length<=24:=by have:=zeL vars (clF K).1 (clF K).2 false vars;omega
 clear hb6 hsol HO5 hcl hcn HB5 HCAT5 HXY HLL;generalize qV vars (clF K).1 (clF K).2 false vars=SF at *;generalize (clF K).2=al at *;generalize ZP vars K=mn at *;go_wp2_with fail;refine HNE.out.mono ?_;rintro e w7 ⟨na,ncap,rfl,hints,hb7⟩;have HB7:=zH (zT HB6.out hb7);have HCAT7:=zH (HCAT6.out.below hb7 zN);have HXY7:Hid ((SB2=true/\u9=.slice none 0 0/\u10=.iface 55 (.int .i64 8))\/(SB2=false/\∃la lc,u9=.slice la WL.length lc/\u10=.nilIface/\zW w7 la (zM WL))):=by
  rcases HXY6.out with h|⟨h1,la,lc,h2,h3,h4⟩
  ·exact .inl h
  ·exact .inr ⟨h1,la,lc,h2,h3,h4.below hb7⟩
 have HIN:=zH hints;have hca7:=HCA.out w7 hb7;have HCN:=zH hca7.cn;have SC7:=zH hca7.sc;clear hb7 hints hca7 HCA HNE HB6 HCAT6 HXY6;go_upto_region 11 with fail;have D0:zB w7 w7.drew:=zF.drew;have D0a:zB w7 (w7.alloc (.cells #[.slice none 0 0] 49)).drew:=(zF.alloc zN _).drew;have k0a:Blk (w7.alloc (.cells #[.slice none 0 0] 49)).drew w7.heap.size 49 #[.slice none 0 0]:=Blk.new w7 49 #[.slice none 0 0];go_cut [15,16] (fun q e wx=>zab w7 mn q e wx)
 case first =>
  go_region_held3 (fun X=>X.cell? ⟨p,0,none⟩=some (.pointer (some ⟨sp,0,none⟩))/\X.cell? ⟨p,1,none⟩=some (.int .i64 al)) (first|exact SC7.out _ D0|exact SC7.out _ D0a|exact SC7.out _ D1|exact SC7.out _ D1a|exact SC7.out _ D1s)
   (first
    |((with_reducible refine(HCN.out _ D0).mono ?_);rintro e x1 ⟨na,cn,nc,rfl,hna,hb1⟩;have D1:zB w7 x1:=zT D0 hb1;have D1a:zB w7 (x1.alloc (.cells #[.slice none 0 0] 49)):=zL D1;have D1s:zB w7 (x1.alloc (.cells #[.slice na cn nc] 49)):=zL D1;have hbx:=zn1 D1 hna;clear HCN D0 D0a k0a hb1)
    | ((with_reducible refine (HCN.out _ D0a).mono ?_);rintro e x1 ⟨na,cn,nc,rfl,hna,hb1⟩;have D1:zB w7 x1:=zT D0a hb1;have kz:=k0a.below hb1 k0a.lt;have D1s:zB w7 (x1.setCell ⟨w7.heap.size,0,none⟩ (.slice na cn nc)):=D1.setCell (p:=⟨w7.heap.size,0,none⟩) zN _;have hbx:=zhu D1 zN kz hna;have z0:=kz.cell 0;have z1:=kz.frozen 0;clear HCN D0 D0a k0a hb1 kz))
  all_goals
   have HBX:=zH hbx;clear hbx;go_wp2_with fail;go_meet
   case rel=>exact HBX.out
 case rest =>
 obtain⟨qb,za,zn,zc,rfl,rfl,hql,hqc,hn8,hb8⟩:=hcut;have HB8:=zH (zT HB7.out hb8);have HCAT8:=zH (HCAT7.out.below hb8 zN);have HXY8:Hid ((SB2=true/\u9=.slice none 0 0/\u10=.iface 55 (.int .i64 8))\/(SB2=false/\∃la lc,u9=.slice la WL.length lc/\u10=.nilIface/\zW wc la (zM WL))):=by
  rcases HXY7.out with h|⟨h1,la,lc,h2,h3,h4⟩
  ·exact .inl h
  ·exact .inr ⟨h1,la,lc,h2,h3,h4.below hb8⟩
 have HIN8:=zH (HIN.out.below hb8);have HQ8:Hid (qb<wc.heap.size/\wc.cell? ⟨qb,0,none⟩=some (.slice za zn zc)/\qj wc (.agg #[.slice za zn zc]) mn):=⟨hql,hqc,hn8⟩;clear hql hqc hn8 hb8 HB7 HCAT7 HXY7 HIN SC7 D0 D0a k0a;generalize wc=w8 at *;have hLen:SB=true->∃n,WL.length=n+1/\(zM WL).getD n 0=(L:Int):=fun h=>by
  obtain⟨m,rfl⟩:=hlast h;refine⟨m.length,by simp,?_⟩;rw[zgl,List.getD_eq_getElem?_getD,List.getElem?_append_right (by rw[xm];exact Nat.le_refl _),xm,Nat.sub_self];rfl
 clear hlast;have HLEN:=zH hLen;clear hLen;go_wp2_with fail;go_loop [17,18] (fun nV iV=>∃(i:Nat),i<=SF.length/\iV=.int .i64 i/\nV=.bool (Qt SF (pv:Int) i)) (fun _ iV=>SF.length-(intOf iV).toNat)
 case atStart=>exact⟨0,Nat.zero_le _,rfl,rfl⟩
 case round =>
  obtain⟨i,hil,rfl,rfl⟩:=hrel
  by_cases hlt2:i<SF.length
  ·have hii0:(0:Int)<=(i:Int):=by omega
   have hii1:(i:Int)<(SF.length:Int):=by omega
   obtain⟨ad,rfl,had,hcell⟩:=HIN8.out i hlt2;have htk:=zls SF (pv:Int) hlt2;generalize SF.getD i 0=x at *;obtain⟨ab,ao,asp⟩:=ad;cases hq:Qt SF (pv:Int) i with
   |true =>
    rw[hq,Bool.true_or] at htk;go_wp2;go_round
    case rel=>exact⟨i+1,hlt2,by go_num,by rw[htk]⟩
    case measure=>simp[intOf];omega
   |false =>
    rw[hq,Bool.false_or] at htk;go_wp2;go_round
    case rel=>exact⟨i+1,hlt2,by go_num,by rw[htk]⟩
    case measure=>simp[intOf];omega
  ·obtain rfl:i=SF.length:=by omega
   have hin:Qt SF (pv:Int) SF.length=!SB2:=by
    rw[zpk,Bool.eq_iff_iff,decide_eq_true_iff];exact hmem
   rw[hin];clear HIN8 hmem hin;have HTE:Hid (zR 13 #[.iface 55 (.int .i64 8)] w8 (.int .i64 8)):=zbj 8 w8 (HLW.out.below HB8.out).lb.glob;rcases HXY8.out with ⟨h1,h2,h3⟩|⟨h1,la,lc,h2,h3,h4⟩
   ·subst h1 h2 h3;clear HXY8 HQ8 HCAT8 HLEN HCN;go_wp2_with fail;refine HTE.out.mono ?_;rintro e w9 ⟨rfl,hb9⟩;have HB9:=zH (zT HB8.out hb9);clear hb9 HTE HB8;go_upto_region 19 with fail;refine wp_region_noPanic ?_;refine wp_region_held_drew (S:=fun _=>True) (by kernel_rfl) trivial (fun hHeld=>?_)
    (refine wpAnyH_take (i:=0) (oi:=⟨_,_,_,_,_,_⟩) (v:=?_) rfl (by as_aux_lemma=>kernel_rfl) (by as_aux_lemma=>kernel_rfl) (by as_aux_lemma=>kernel_rfl) (fun _ _ _ h=>h) (Or.inl ⟨by rfl,?_⟩) (by assumption) ?_;rotate_left;(focus (intro w hSw;(try dsimp only at hSw);first|(go_simp;done)|(go_simp;with_reducible rfl)));(try simp only[Act.put,List.setIfInBounds_toArray,List.set_cons_zero,List.set_cons_succ]))
    (refine wpAnyH_take (i:=1) (oi:=⟨_,_,_,_,_,_⟩) (v:=?_) rfl (by as_aux_lemma=>kernel_rfl) (by as_aux_lemma=>kernel_rfl) (by as_aux_lemma=>kernel_rfl) (fun _ _ _ h=>h) (Or.inl ⟨by rfl,?_⟩) (by assumption) ?_;rotate_left;(focus (intro w hSw;(try dsimp only at hSw);first|(go_simp;done)|(go_simp;with_reducible rfl)));(try simp only[Act.put,List.setIfInBounds_toArray,List.set_cons_zero,List.set_cons_succ]))
    (refine wpAnyH_take (i:=2) (oi:=⟨_,_,_,_,_,_⟩) (v:=?_) rfl (by as_aux_lemma=>kernel_rfl) (by as_aux_lemma=>kernel_rfl) (by as_aux_lemma=>kernel_rfl) (fun _ _ _ h=>h) (Or.inl ⟨by rfl,?_⟩) (by assumption) ?_;rotate_left;(focus (intro w hSw;(try dsimp only at hSw);first|(go_simp;done)|(go_simp;with_reducible rfl)));(try simp only[Act.put,List.setIfInBounds_toArray,List.set_cons_zero,List.set_cons_succ]))
    (refine wpAnyH_take (i:=3) (oi:=⟨_,_,_,_,_,_⟩) (v:=undef) rfl (by as_aux_lemma=>kernel_rfl) (by as_aux_lemma=>kernel_rfl) (by as_aux_lemma=>kernel_rfl) (fun _ _ _ h=>h) (Or.inr ⟨by kernel_rfl,rfl⟩) (by assumption) ?_;simp only[Act.put,List.setIfInBounds_toArray,List.set_cons_zero,List.set_cons_succ])
    (refine wpAnyH_take (i:=4) (oi:=⟨_,_,_,_,_,_⟩) (v:=undef) rfl (by as_aux_lemma=>kernel_rfl) (by as_aux_lemma=>kernel_rfl) (by as_aux_lemma=>kernel_rfl) (fun _ _ _ h=>h) (Or.inr ⟨by kernel_rfl,rfl⟩) (by assumption) ?_;simp only[Act.put,List.setIfInBounds_toArray,List.set_cons_zero,List.set_cons_succ])
    (refine wpAnyH_take (i:=5) (oi:=⟨_,_,_,_,_,_⟩) (v:=?_) rfl (by as_aux_lemma=>kernel_rfl) (by as_aux_lemma=>kernel_rfl) (by as_aux_lemma=>kernel_rfl) (fun _ _ _ h=>h) (Or.inl ⟨by rfl,?_⟩) (by assumption) ?_;rotate_left;(focus (intro w hSw;(try dsimp only at hSw);first|(go_simp;done)|(go_simp;with_reducible rfl)));(try simp only[Act.put,List.setIfInBounds_toArray,List.set_cons_zero,List.set_cons_succ]))
    (refine wpAnyH_take (i:=6) (oi:=⟨_,_,_,_,_,_⟩) (v:=?_) rfl (by as_aux_lemma=>kernel_rfl) (by as_aux_lemma=>kernel_rfl) (by as_aux_lemma=>kernel_rfl) (fun _ _ _ h=>h) (Or.inl ⟨by rfl,?_⟩) (by assumption) ?_;rotate_left;(focus (intro w hSw;(try dsimp only at hSw);first|(go_simp;done)|(go_simp;with_reducible rfl)));(try simp only[Act.put,List.setIfInBounds_toArray,List.set_cons_zero,List.set_cons_succ]))
    (refine wpAnyH_take (i:=7) (oi:=⟨_,_,_,_,_,_⟩) (v:=undef) rfl (by as_aux_lemma=>kernel_rfl) (by as_aux_lemma=>kernel_rfl) (by as_aux_lemma=>kernel_rfl) (fun _ _ _ h=>h) (Or.inr ⟨by kernel_rfl,rfl⟩) (by assumption) ?_;simp only[Act.put,List.setIfInBounds_toArray,List.set_cons_zero,List.set_cons_succ])
    (refine wpAnyH_take (i:=8) (oi:=⟨_,_,_,_,_,_⟩) (v:=undef) rfl (by as_aux_lemma=>kernel_rfl) (by as_aux_lemma=>kernel_rfl) (by as_aux_lemma=>kernel_rfl) (fun _ _ _ h=>h) (Or.inr ⟨by kernel_rfl,rfl⟩) (by assumption) ?_;simp only[Act.put,List.setIfInBounds_toArray,List.set_cons_zero,List.set_cons_succ])
    (refine wpAnyH_take (i:=9) (oi:=⟨_,_,_,_,_,_⟩) (v:=undef) rfl (by as_aux_lemma=>kernel_rfl) (by as_aux_lemma=>kernel_rfl) (by as_aux_lemma=>kernel_rfl) (fun _ _ _ h=>h) (Or.inr ⟨by kernel_rfl,rfl⟩) (by assumption) ?_;simp only[Act.put,List.setIfInBounds_toArray,List.set_cons_zero,List.set_cons_succ])
    (refine wpAnyH_take (i:=10) (oi:=⟨_,_,_,_,_,_⟩) (v:=undef) rfl (by as_aux_lemma=>kernel_rfl) (by as_aux_lemma=>kernel_rfl) (by as_aux_lemma=>kernel_rfl) (fun _ _ _ h=>h) (Or.inr ⟨by kernel_rfl,rfl⟩) (by assumption) ?_;simp only[Act.put,List.setIfInBounds_toArray,List.set_cons_zero,List.set_cons_succ])
    (refine wpAnyH_take (i:=11) (oi:=⟨_,_,_,_,_,_⟩) (v:=undef) rfl (by as_aux_lemma=>kernel_rfl) (by as_aux_lemma=>kernel_rfl) (by as_aux_lemma=>kernel_rfl) (fun _ _ _ h=>h) (Or.inr ⟨by kernel_rfl,rfl⟩) (by assumption) ?_;simp only[Act.put,List.setIfInBounds_toArray,List.set_cons_zero,List.set_cons_succ])
    (refine wpAnyH_take (i:=12) (oi:=⟨_,_,_,_,_,_⟩) (v:=undef) rfl (by as_aux_lemma=>kernel_rfl) (by as_aux_lemma=>kernel_rfl) (by as_aux_lemma=>kernel_rfl) (fun _ _ _ h=>h) (Or.inr ⟨by kernel_rfl,rfl⟩) (by assumption) ?_;simp only[Act.put,List.setIfInBounds_toArray,List.set_cons_zero,List.set_cons_succ])
    (refine wpAnyH_take (i:=13) (oi:=⟨_,_,_,_,_,_⟩) (v:=undef) rfl (by as_aux_lemma=>kernel_rfl) (by as_aux_lemma=>kernel_rfl) (by as_aux_lemma=>kernel_rfl) (fun _ _ _ h=>h) (Or.inr ⟨by kernel_rfl,rfl⟩) (by assumption) ?_;simp only[Act.put,List.setIfInBounds_toArray,List.set_cons_zero,List.set_cons_succ])
    (refine wpAnyH_take (i:=14) (oi:=⟨_,_,_,_,_,_⟩) (v:=undef) rfl (by as_aux_lemma=>kernel_rfl) (by as_aux_lemma=>kernel_rfl) (by as_aux_lemma=>kernel_rfl) (fun _ _ _ h=>h) (Or.inr ⟨by kernel_rfl,rfl⟩) (by assumption) ?_;simp only[Act.put,List.setIfInBounds_toArray,List.set_cons_zero,List.set_cons_succ])
    (refine wpAnyH_take (i:=15) (oi:=⟨_,_,_,_,_,_⟩) (v:=undef) rfl (by as_aux_lemma=>kernel_rfl) (by as_aux_lemma=>kernel_rfl) (by as_aux_lemma=>kernel_rfl) (fun _ _ _ h=>h) (Or.inr ⟨by kernel_rfl,rfl⟩) (by assumption) ?_;simp only[Act.put,List.setIfInBounds_toArray,List.set_cons_zero,List.set_cons_succ])
    (refine wpAnyH_take (i:=16) (oi:=⟨_,_,_,_,_,_⟩) (v:=undef) rfl (by as_aux_lemma=>kernel_rfl) (by as_aux_lemma=>kernel_rfl) (by as_aux_lemma=>kernel_rfl) (fun _ _ _ h=>h) (Or.inr ⟨by kernel_rfl,rfl⟩) (by assumption) ?_;simp only[Act.put,List.setIfInBounds_toArray,List.set_cons_zero,List.set_cons_succ])
    (refine wpAnyH_take (i:=17) (oi:=⟨_,_,_,_,_,_⟩) (v:=undef) rfl (by as_aux_lemma=>kernel_rfl) (by as_aux_lemma=>kernel_rfl) (by as_aux_lemma=>kernel_rfl) (fun _ _ _ h=>h) (Or.inr ⟨by kernel_rfl,rfl⟩) (by assumption) ?_;simp only[Act.put,List.setIfInBounds_toArray,List.set_cons_zero,List.set_cons_succ])
    (refine wpAnyH_take (i:=18) (oi:=⟨_,_,_,_,_,_⟩) (v:=undef) rfl (by as_aux_lemma=>kernel_rfl) (by as_aux_lemma=>kernel_rfl) (by as_aux_lemma=>kernel_rfl) (fun _ _ _ h=>h) (Or.inr ⟨by kernel_rfl,rfl⟩) (by assumption) ?_;simp only[Act.put,List.setIfInBounds_toArray,List.set_cons_zero,List.set_cons_succ])
    (refine wpAnyH_take (i:=19) (oi:=⟨_,_,_,_,_,_⟩) (v:=undef) rfl (by as_aux_lemma=>kernel_rfl) (by as_aux_lemma=>kernel_rfl) (by as_aux_lemma=>kernel_rfl) (fun _ _ _ h=>h) (Or.inr ⟨by kernel_rfl,rfl⟩) (by assumption) ?_;simp only[Act.put,List.setIfInBounds_toArray,List.set_cons_zero,List.set_cons_succ])
    (refine wpAnyH_take (i:=20) (oi:=⟨_,_,_,_,_,_⟩) (v:=undef) rfl (by as_aux_lemma=>kernel_rfl) (by as_aux_lemma=>kernel_rfl) (by as_aux_lemma=>kernel_rfl) (fun _ _ _ h=>h) (Or.inr ⟨by kernel_rfl,rfl⟩) (by assumption) ?_;simp only[Act.put,List.setIfInBounds_toArray,List.set_cons_zero,List.set_cons_succ])
    (refine wpAnyH_take (i:=21) (oi:=⟨_,_,_,_,_,_⟩) (v:=undef) rfl (by as_aux_lemma=>kernel_rfl) (by as_aux_lemma=>kernel_rfl) (by as_aux_lemma=>kernel_rfl) (fun _ _ _ h=>h) (Or.inr ⟨by kernel_rfl,rfl⟩) (by assumption) ?_;simp only[Act.put,List.setIfInBounds_toArray,List.set_cons_zero,List.set_cons_succ])
    (refine wpAnyH_take (i:=22) (oi:=⟨_,_,_,_,_,_⟩) (v:=?_) rfl (by as_aux_lemma=>kernel_rfl) (by as_aux_lemma=>kernel_rfl) (by as_aux_lemma=>kernel_rfl) (fun _ _ _ h=>h) (Or.inl ⟨by rfl,?_⟩) (by assumption) ?_;rotate_left;(focus (intro w hSw;(try dsimp only at hSw);first|(go_simp;done)|(go_simp;with_reducible rfl)));(try simp only[Act.put,List.setIfInBounds_toArray,List.set_cons_zero,List.set_cons_succ]))
    (refine wpAnyH_take (i:=23) (oi:=⟨_,_,_,_,_,_⟩) (v:=?_) rfl (by as_aux_lemma=>kernel_rfl) (by as_aux_lemma=>kernel_rfl) (by as_aux_lemma=>kernel_rfl) (fun _ _ _ h=>h) (Or.inl ⟨by rfl,?_⟩) (by assumption) ?_;rotate_left;(focus (intro w hSw;(try dsimp only at hSw);first|(go_simp;done)|(go_simp;with_reducible rfl)));(try simp only[Act.put,List.setIfInBounds_toArray,List.set_cons_zero,List.set_cons_succ]))
    refine wpAnyH_done (by as_aux_lemma=>kernel_rfl) ?_ _;refine NoPanic.normal ?_;have HBQ:Hid (zB w w9.drew):=HB9.out.drew;generalize w9.drew=wq at *;go_wp2;go_ret;exact⟨rfl,HBQ.out⟩
   ·subst h1 h2 h3;obtain⟨hql,hqc,hn8⟩:=HQ8.out;have HN8:=zH hn8;clear HTE HXY8 HCN hn8 HQ8;cases SB with
    |false =>
     clear h4 HLEN HCAT8;go_wp2_with fail;go_upto_region 19 with fail;have HZ8:Hid (∀W,zB w8 W->zR 14 #[.agg #[.slice za zn zc]] W (.bool true)):=fun W hW=>by
      have:=zde (HN8.out.new hW) HML.out;rw[HMZ.out] at this;exact this
     have S8:Hid (∀X,zB w8 X->X.cell? ⟨qb,0,none⟩=some (.slice za zn zc)):=fun X hX=>(hX.cell (p:=⟨qb,0,none⟩) hql).trans hqc;clear HN8 hqc HML HMZ;have D0:zB w8 w8.drew:=zF.drew;refine wp_region_noPanic ?_;refine wp_region_held_drew (S:=fun X=>X.cell? ⟨qb,0,none⟩=some (.slice za zn zc)) (by kernel_rfl) (S8.out _ D0) (fun hHeld=>?_)
     (refine wpAnyH_take (i:=0) (oi:=⟨_,_,_,_,_,_⟩) (v:=?_) rfl (by as_aux_lemma=>kernel_rfl) (by as_aux_lemma=>kernel_rfl) (by as_aux_lemma=>kernel_rfl) (fun _ _ _ h=>h) (Or.inl ⟨by rfl,?_⟩) (by assumption) ?_;rotate_left;(focus (intro w hSw;(try dsimp only at hSw);first|(go_simp;done)|(go_simp;with_reducible rfl)));(try simp only[Act.put,List.setIfInBounds_toArray,List.set_cons_zero,List.set_cons_succ]))
     (refine wpAnyH_take (i:=1) (oi:=⟨_,_,_,_,_,_⟩) (v:=?_) rfl (by as_aux_lemma=>kernel_rfl) (by as_aux_lemma=>kernel_rfl) (by as_aux_lemma=>kernel_rfl) (fun _ _ _ h=>h) (Or.inl ⟨by rfl,?_⟩) (by assumption) ?_;rotate_left;(focus (intro w hSw;(try dsimp only at hSw);first|(go_simp;done)|(go_simp;with_reducible rfl)));(try simp only[Act.put,List.setIfInBounds_toArray,List.set_cons_zero,List.set_cons_succ]))
     (refine wpAnyH_take (i:=2) (oi:=⟨_,_,_,_,_,_⟩) (v:=?_) rfl (by as_aux_lemma=>kernel_rfl) (by as_aux_lemma=>kernel_rfl) (by as_aux_lemma=>kernel_rfl) (fun _ _ _ h=>h) (Or.inl ⟨by rfl,?_⟩) (by assumption) ?_;rotate_left;(focus (intro w hSw;(try dsimp only at hSw);first|(go_simp;done)|(go_simp;with_reducible rfl)));(try simp only[Act.put,List.setIfInBounds_toArray,List.set_cons_zero,List.set_cons_succ]))
     (refine wpAnyH_take (i:=3) (oi:=⟨_,_,_,_,_,_⟩) (v:=?_) rfl (by as_aux_lemma=>kernel_rfl) (by as_aux_lemma=>kernel_rfl) (by as_aux_lemma=>kernel_rfl) (fun _ _ _ h=>h) (Or.inl ⟨by rfl,?_⟩) (by assumption) ?_;rotate_left;(focus (intro w hSw;(try dsimp only at hSw);first|(go_simp;done)|(go_simp;with_reducible rfl)));(try simp only[Act.put,List.setIfInBounds_toArray,List.set_cons_zero,List.set_cons_succ]))
     refine wpAnyH_ready (rs:=[4]) (by as_aux_lemma=>kernel_rfl) (by simp) ?_;refine AllReadyH.cons (o:=⟨_,_,_,_,_,_⟩) rfl (fun K hK=>?_) AllReadyH.nil;rw[if_pos (by kernel_rfl)];go_simp
     (with_reducible refine(HZ8.out _ D0).mono ?_)
     rintro e w9 ⟨rfl,hb9⟩;have D1:zB w8 w9:=zT D0 hb9;clear hb9;go_wp2_with fail;refine hK.out _ _ (S8.out _ D1) (fun hNew=>?_);clear hK K;replace hHeld:=hNew;clear hNew;(try simp only[Act.put,List.setIfInBounds_toArray,List.set_cons_zero,List.set_cons_succ])
     (refine wpAnyH_take (i:=5) (oi:=⟨_,_,_,_,_,_⟩) (v:=?_) rfl (by as_aux_lemma=>kernel_rfl) (by as_aux_lemma=>kernel_rfl) (by as_aux_lemma=>kernel_rfl) (fun _ _ _ h=>h) (Or.inl ⟨by rfl,?_⟩) (by assumption) ?_;rotate_left;(focus (intro w hSw;(try dsimp only at hSw);first|(go_simp;done)|(go_simp;with_reducible rfl)));(try simp only[Act.put,List.setIfInBounds_toArray,List.set_cons_zero,List.set_cons_succ]))
     (refine wpAnyH_take (i:=6) (oi:=⟨_,_,_,_,_,_⟩) (v:=?_) rfl (by as_aux_lemma=>kernel_rfl) (by as_aux_lemma=>kernel_rfl) (by as_aux_lemma=>kernel_rfl) (fun _ _ _ h=>h) (Or.inl ⟨by rfl,?_⟩) (by assumption) ?_;rotate_left;(focus (intro w hSw;(try dsimp only at hSw);first|(go_simp;done)|(go_simp;with_reducible rfl)));(try simp only[Act.put,List.setIfInBounds_toArray,List.set_cons_zero,List.set_cons_succ]))
     (refine wpAnyH_take (i:=7) (oi:=⟨_,_,_,_,_,_⟩) (v:=undef) rfl (by as_aux_lemma=>kernel_rfl) (by as_aux_lemma=>kernel_rfl) (by as_aux_lemma=>kernel_rfl) (fun _ _ _ h=>h) (Or.inr ⟨by kernel_rfl,rfl⟩) (by assumption) ?_;simp only[Act.put,List.setIfInBounds_toArray,List.set_cons_zero,List.set_cons_succ])
     (refine wpAnyH_take (i:=8) (oi:=⟨_,_,_,_,_,_⟩) (v:=undef) rfl (by as_aux_lemma=>kernel_rfl) (by as_aux_lemma=>kernel_rfl) (by as_aux_lemma=>kernel_rfl) (fun _ _ _ h=>h) (Or.inr ⟨by kernel_rfl,rfl⟩) (by assumption) ?_;simp only[Act.put,List.setIfInBounds_toArray,List.set_cons_zero,List.set_cons_succ])
     (refine wpAnyH_take (i:=9) (oi:=⟨_,_,_,_,_,_⟩) (v:=undef) rfl (by as_aux_lemma=>kernel_rfl) (by as_aux_lemma=>kernel_rfl) (by as_aux_lemma=>kernel_rfl) (fun _ _ _ h=>h) (Or.inr ⟨by kernel_rfl,rfl⟩) (by assumption) ?_;simp only[Act.put,List.setIfInBounds_toArray,List.set_cons_zero,List.set_cons_succ])
     (refine wpAnyH_take (i:=10) (oi:=⟨_,_,_,_,_,_⟩) (v:=undef) rfl (by as_aux_lemma=>kernel_rfl) (by as_aux_lemma=>kernel_rfl) (by as_aux_lemma=>kernel_rfl) (fun _ _ _ h=>h) (Or.inr ⟨by kernel_rfl,rfl⟩) (by assumption) ?_;simp only[Act.put,List.setIfInBounds_toArray,List.set_cons_zero,List.set_cons_succ])
     (refine wpAnyH_take (i:=11) (oi:=⟨_,_,_,_,_,_⟩) (v:=undef) rfl (by as_aux_lemma=>kernel_rfl) (by as_aux_lemma=>kernel_rfl) (by as_aux_lemma=>kernel_rfl) (fun _ _ _ h=>h) (Or.inr ⟨by kernel_rfl,rfl⟩) (by assumption) ?_;simp only[Act.put,List.setIfInBounds_toArray,List.set_cons_zero,List.set_cons_succ])
     (refine wpAnyH_take (i:=12) (oi:=⟨_,_,_,_,_,_⟩) (v:=undef) rfl (by as_aux_lemma=>kernel_rfl) (by as_aux_lemma=>kernel_rfl) (by as_aux_lemma=>kernel_rfl) (fun _ _ _ h=>h) (Or.inr ⟨by kernel_rfl,rfl⟩) (by assumption) ?_;simp only[Act.put,List.setIfInBounds_toArray,List.set_cons_zero,List.set_cons_succ])
     (refine wpAnyH_take (i:=13) (oi:=⟨_,_,_,_,_,_⟩) (v:=undef) rfl (by as_aux_lemma=>kernel_rfl) (by as_aux_lemma=>kernel_rfl) (by as_aux_lemma=>kernel_rfl) (fun _ _ _ h=>h) (Or.inr ⟨by kernel_rfl,rfl⟩) (by assumption) ?_;simp only[Act.put,List.setIfInBounds_toArray,List.set_cons_zero,List.set_cons_succ])
     (refine wpAnyH_take (i:=14) (oi:=⟨_,_,_,_,_,_⟩) (v:=undef) rfl (by as_aux_lemma=>kernel_rfl) (by as_aux_lemma=>kernel_rfl) (by as_aux_lemma=>kernel_rfl) (fun _ _ _ h=>h) (Or.inr ⟨by kernel_rfl,rfl⟩) (by assumption) ?_;simp only[Act.put,List.setIfInBounds_toArray,List.set_cons_zero,List.set_cons_succ])
     (refine wpAnyH_take (i:=15) (oi:=⟨_,_,_,_,_,_⟩) (v:=undef) rfl (by as_aux_lemma=>kernel_rfl) (by as_aux_lemma=>kernel_rfl) (by as_aux_lemma=>kernel_rfl) (fun _ _ _ h=>h) (Or.inr ⟨by kernel_rfl,rfl⟩) (by assumption) ?_;simp only[Act.put,List.setIfInBounds_toArray,List.set_cons_zero,List.set_cons_succ])
     (refine wpAnyH_take (i:=16) (oi:=⟨_,_,_,_,_,_⟩) (v:=undef) rfl (by as_aux_lemma=>kernel_rfl) (by as_aux_lemma=>kernel_rfl) (by as_aux_lemma=>kernel_rfl) (fun _ _ _ h=>h) (Or.inr ⟨by kernel_rfl,rfl⟩) (by assumption) ?_;simp only[Act.put,List.setIfInBounds_toArray,List.set_cons_zero,List.set_cons_succ])
     (refine wpAnyH_take (i:=17) (oi:=⟨_,_,_,_,_,_⟩) (v:=undef) rfl (by as_aux_lemma=>kernel_rfl) (by as_aux_lemma=>kernel_rfl) (by as_aux_lemma=>kernel_rfl) (fun _ _ _ h=>h) (Or.inr ⟨by kernel_rfl,rfl⟩) (by assumption) ?_;simp only[Act.put,List.setIfInBounds_toArray,List.set_cons_zero,List.set_cons_succ])
     (refine wpAnyH_take (i:=18) (oi:=⟨_,_,_,_,_,_⟩) (v:=undef) rfl (by as_aux_lemma=>kernel_rfl) (by as_aux_lemma=>kernel_rfl) (by as_aux_lemma=>kernel_rfl) (fun _ _ _ h=>h) (Or.inr ⟨by kernel_rfl,rfl⟩) (by assumption) ?_;simp only[Act.put,List.setIfInBounds_toArray,List.set_cons_zero,List.set_cons_succ])
     (refine wpAnyH_take (i:=19) (oi:=⟨_,_,_,_,_,_⟩) (v:=undef) rfl (by as_aux_lemma=>kernel_rfl) (by as_aux_lemma=>kernel_rfl) (by as_aux_lemma=>kernel_rfl) (fun _ _ _ h=>h) (Or.inr ⟨by kernel_rfl,rfl⟩) (by assumption) ?_;simp only[Act.put,List.setIfInBounds_toArray,List.set_cons_zero,List.set_cons_succ])
     (refine wpAnyH_take (i:=20) (oi:=⟨_,_,_,_,_,_⟩) (v:=undef) rfl (by as_aux_lemma=>kernel_rfl) (by as_aux_lemma=>kernel_rfl) (by as_aux_lemma=>kernel_rfl) (fun _ _ _ h=>h) (Or.inr ⟨by kernel_rfl,rfl⟩) (by assumption) ?_;simp only[Act.put,List.setIfInBounds_toArray,List.set_cons_zero,List.set_cons_succ])
     (refine wpAnyH_take (i:=21) (oi:=⟨_,_,_,_,_,_⟩) (v:=undef) rfl (by as_aux_lemma=>kernel_rfl) (by as_aux_lemma=>kernel_rfl) (by as_aux_lemma=>kernel_rfl) (fun _ _ _ h=>h) (Or.inr ⟨by kernel_rfl,rfl⟩) (by assumption) ?_;simp only[Act.put,List.setIfInBounds_toArray,List.set_cons_zero,List.set_cons_succ])
     (refine wpAnyH_take (i:=22) (oi:=⟨_,_,_,_,_,_⟩) (v:=?_) rfl (by as_aux_lemma=>kernel_rfl) (by as_aux_lemma=>kernel_rfl) (by as_aux_lemma=>kernel_rfl) (fun _ _ _ h=>h) (Or.inl ⟨by rfl,?_⟩) (by assumption) ?_;rotate_left;(focus (intro w hSw;(try dsimp only at hSw);first|(go_simp;done)|(go_simp;with_reducible rfl)));(try simp only[Act.put,List.setIfInBounds_toArray,List.set_cons_zero,List.set_cons_succ]))
     (refine wpAnyH_take (i:=23) (oi:=⟨_,_,_,_,_,_⟩) (v:=?_) rfl (by as_aux_lemma=>kernel_rfl) (by as_aux_lemma=>kernel_rfl) (by as_aux_lemma=>kernel_rfl) (fun _ _ _ h=>h) (Or.inl ⟨by rfl,?_⟩) (by assumption) ?_;rotate_left;(focus (intro w hSw;(try dsimp only at hSw);first|(go_simp;done)|(go_simp;with_reducible rfl)));(try simp only[Act.put,List.setIfInBounds_toArray,List.set_cons_zero,List.set_cons_succ]))
     refine wpAnyH_done (by as_aux_lemma=>kernel_rfl) ?_ _;refine NoPanic.normal ?_;have HBQ:=zH (zT HB8.out D1);clear D0 D1 hHeld;go_wp2;go_ret;exact⟨rfl,HBQ.out⟩
    |true =>
     obtain⟨n,hn,hget⟩:=HLEN.out rfl;have hnl:n<(zM WL).length:=by rw[xm];omega
     obtain⟨ad,hla,had,hcell⟩:=h4 n hnl;subst hla;rw[hget] at hcell;obtain⟨lb,lo,lsp⟩:=ad;have hn0:(0:Int)<(WL.length:Int):=by omega
     have hn4:0<WL.length:=by omega
     have hn1:IntKind.i64.wrap ((WL.length:Int)-1)=(n:Int):=by rw[IntKind.wrap_i64];omega
     have hn2:(0:Int)<=(n:Int):=by omega
     have hn3:(n:Int)<(WL.length:Int):=by omega
     clear hn hnl h4;generalize WL.length=N at *;have HZ8:Hid (∀W,zB w8 W->zR 14 #[.agg #[.slice za zn zc]] W (.bool false)):=fun W hW=>by
      have:=zde (HN8.out.new hW) HML.out;rw[HMZ.out] at this;exact this
     have HL8:Hid (∀W,zB w8 W->zC 6 #[.pointer (some ⟨bc,0,none⟩)] W fun e w'=>∃a c,e=.returned (.slice a L c)/\zB W w'):=fun W hW=>HLL0.out W bc (HCAT8.out.below hW zN);have D0:zB w8 w8.drew:=zF.drew;have S8:Hid (∀X,zB w8 X->X.cell? ⟨qb,0,none⟩=some (.slice za zn zc)/\X.cell? ((⟨lb,lo,lsp⟩:Addr).add n)=some (.int .i64 L)):=fun X hX=>⟨(hX.cell (p:=⟨qb,0,none⟩) hql).trans hqc,(hX.cell (p:=(⟨lb,lo,lsp⟩:Addr).add n) (by rw[xD];exact had)).trans hcell⟩;clear HMZ HML HLEN HN8 HCAT8 hget HLL0 hqc hcell;go_wp2_with fail;go_upto_region 19 with fail;go_region_held3 (fun X=>X.cell? ⟨qb,0,none⟩=some (.slice za zn zc)/\X.cell? ((⟨lb,lo,lsp⟩:Addr).add n)=some (.int .i64 L))
      (exact S8.out _ (by first|assumption|exact Below.drew (by assumption)))
      (first
       |(go_at_call 14;refine(HZ8.out _ D0).mono ?_;rintro e w9 ⟨rfl,hb9⟩;have D1:zB w8 w9:=zT D0 hb9;clear hb9)
       | (go_at_call 6;refine (HL8.out _ D1).mono ?_;rintro e w10 ⟨ga,gc,rfl,hb10⟩;have D2:zB w8 w10:=zT D1 hb10;clear hb10))
     have HBZ:=zH (zT HB8.out D2);clear D0 D1 D2;go_wp2;go_ret;exact⟨rfl,HBZ.out⟩
theorem rwhys_any(s:ByteArray)(v:Int)(w:World)(hw:Lw w):zR 3 #[.string s,.int .i64 v] w (.bool true):=by
 cases hr:Zq s 10 with
 |none=>exact zn9 s v w hw hr
 |some r =>
  obtain⟨ls,its⟩:=r
  by_cases h0:its.length=0
  ·exact zaX s v w hw ls its hr (.inl h0)
  ·by_cases h1:ls.length<100
   ·by_cases h2:(ofL its ls).length<200
    ·exact zmJ s v w hw ls its hr h0 h1 h2
    ·exact zaX s v w hw ls its hr (.inr (.inr (by omega)))
   ·exact zaX s v w hw ls its hr (.inr (.inl (by omega)))
end Bd
end Go.Proofs.YtlmmkbnjhilbdaaGreatDoor
