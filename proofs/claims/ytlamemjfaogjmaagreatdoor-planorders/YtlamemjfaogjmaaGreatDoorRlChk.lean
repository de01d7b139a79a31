/- The reference: lineCheck. -/
import Derived.Test.YtlamemjfaogjmaaGreatDoorRlLine
set_option maxHeartbeats 2000000
set_option maxRecDepth 100000
namespace Go.Proofs.YtlamemjfaogjmaaGreatDoor
section
open Go.RowKit Go.Shelf Sv
def okP(x:Int):Bool:=decide (0<=x/\x<=999)
def xT(l:List Span)(a b c:Int):Bool:=if okP a&&okP b&&okP c then inP (tp l) (yV a.toNat b.toNat c.toNat) else false
theorem ZY(A B C:Int)(W:World):(Instr.index 56 (.agg #[.int .i64 A,.int .i64 B,.int .i64 C]) (.int .i64 0)).run Tryz.prog W=.ok (.int .i64 A) W:=by kernel_rfl
theorem Qh(A B C:Int)(W:World):(Instr.index 56 (.agg #[.int .i64 A,.int .i64 B,.int .i64 C]) (.int .i64 1)).run Tryz.prog W=.ok (.int .i64 B) W:=by kernel_rfl
theorem Qi(A B C:Int)(W:World):(Instr.index 56 (.agg #[.int .i64 A,.int .i64 B,.int .i64 C]) (.int .i64 2)).run Tryz.prog W=.ok (.int .i64 C) W:=by kernel_rfl
theorem zeH(l:List Span)(hl:Rg l)(v:Value)(a b c:Int)(w:World)(hv:NsAt w v (tp l)) :
  zR 39 #[v,.agg #[.int .i64 a,.int .i64 b,.int .i64 c]] w (.bool (xT l a b c)):=by
 obtain⟨va,vc,rfl⟩:=hv.form;have kv:=Blk.new w 56 #[.int .i64 a,.int .i64 b,.int .i64 c];have hB0:zB w (w.alloc (.cells #[.int .i64 a,.int .i64 b,.int .i64 c] 56)):=(Below.refl _ w).alloc zN _;have HV:=zH hv;have HKV:=zH kv;have HB0:=zH hB0;have HTL:=zH (Zx hl);have HWI:Hid (∀x W,zC 66 #[.int .i64 x,.int .i64 0,.int .i64 999] W fun e w'=>e=.returned (.bool (okP x))/\W=w'):=fun x W=>zu x 0 999 W;have HHB:Hid (xT l a b c=if okP a&&okP b&&okP c then inP (tp l) (yV a.toNat b.toNat c.toNat) else false):=rfl;clear hv kv hB0 hl;generalize xT l a b c=RB at *;go_enter Tryz.func39,Tryz.ntmps39;go_wp2_with fail;generalize w.alloc (.cells #[.int .i64 a,.int .i64 b,.int .i64 c] 56)=W0 at *;go_loopw [8] (fun iV wr=>∃k:Nat,k<=3/\iV=.int .i64 k/\(∀j,j<k->okP (tI a b c j)=true)/\wr=W0) (fun iV _=>3-(intOf iV).toNat)
 case atStart=>exact⟨0,by omega,rfl,fun j h=>by omega,rfl⟩
 case round =>
  obtain⟨k,hk,rfl,hall,rfl⟩:=hrel;have HALL:=zH hall;clear hall
  match k,hk with
  |0,_ =>
   have hix:=ZY a b c wr;cases hok:okP a with
   |true =>
    have HW1:=zH (HWI.out a wr);rw[hok] at HW1;have HN:Hid (∀j,j<1->okP (tI a b c j)=true):=fun j h=>by
     obtain rfl:j=0:=by omega
     exact hok
    clear hok;go_wp2_with fail;refine HW1.out.mono ?_;rintro e w1 ⟨rfl,hw1⟩;rw[<-hw1];clear hw1;go_wp2;go_roundw
    case rel=>exact⟨1,by omega,rfl,HN.out,trivial⟩
    case measure=>simp[intOf]
   |false =>
    have HW1:=zH (HWI.out a wr);rw[hok] at HW1;have hR:RB=false:=by rw[HHB.out,hok];rfl
    clear hok;go_wp2_with fail;refine HW1.out.mono ?_;rintro e w1 ⟨rfl,hw1⟩;rw[<-hw1];clear hw1;go_wp2;go_ret;exact⟨by rw[hR];rfl,HB0.out⟩
  |1,_ =>
   have hix:=Qh a b c wr;cases hok:okP b with
   |true =>
    have HW1:=zH (HWI.out b wr);rw[hok] at HW1;have HN:Hid (∀j,j<2->okP (tI a b c j)=true):=fun j h=>by
     match j,h with
     |0,_=>exact HALL.out 0 (by omega)
     |1,_=>exact hok
    clear hok;go_wp2_with fail;refine HW1.out.mono ?_;rintro e w1 ⟨rfl,hw1⟩;rw[<-hw1];clear hw1;go_wp2;go_roundw
    case rel=>exact⟨2,by omega,rfl,HN.out,trivial⟩
    case measure=>simp[intOf]
   |false =>
    have HW1:=zH (HWI.out b wr);rw[hok] at HW1;have hR:RB=false:=by rw[HHB.out,hok];simp
    clear hok;go_wp2_with fail;refine HW1.out.mono ?_;rintro e w1 ⟨rfl,hw1⟩;rw[<-hw1];clear hw1;go_wp2;go_ret;exact⟨by rw[hR];rfl,HB0.out⟩
  |2,_ =>
   have hix:=Qi a b c wr;cases hok:okP c with
   |true =>
    have HW1:=zH (HWI.out c wr);rw[hok] at HW1;have HN:Hid (∀j,j<3->okP (tI a b c j)=true):=fun j h=>by
     match j,h with
     |0,_=>exact HALL.out 0 (by omega)
     |1,_=>exact HALL.out 1 (by omega)
     |2,_=>exact hok
    clear hok;go_wp2_with fail;refine HW1.out.mono ?_;rintro e w1 ⟨rfl,hw1⟩;rw[<-hw1];clear hw1;go_wp2;go_roundw
    case rel=>exact⟨3,by omega,rfl,HN.out,trivial⟩
    case measure=>simp[intOf]
   |false =>
    have HW1:=zH (HWI.out c wr);rw[hok] at HW1;have hR:RB=false:=by rw[HHB.out,hok];simp
    clear hok;go_wp2_with fail;refine HW1.out.mono ?_;rintro e w1 ⟨rfl,hw1⟩;rw[<-hw1];clear hw1;go_wp2;go_ret;exact⟨by rw[hR];rfl,HB0.out⟩
  |3,_ =>
   have oa:okP a=true:=HALL.out 0 (by omega);have ob:okP b=true:=HALL.out 1 (by omega);have oc:okP c=true:=HALL.out 2 (by omega);have ia:0<=a/\a<=999:=of_decide_eq_true oa;have ib:0<=b/\b<=999:=of_decide_eq_true ob;have ic:0<=c/\c<=999:=of_decide_eq_true oc;have HR:Hid (RB=inP (tp l) (yV a.toNat b.toNat c.toNat)):=by show _=_;rw[HHB.out,oa,ob,oc];rfl
   have HN:Hid (zR 68 #[.agg #[.int .i64 a,.int .i64 b,.int .i64 c]] wr (.int .i64 (yV a.toNat b.toNat c.toNat))):=by
    have:=qT a.toNat b.toNat c.toNat (by omega) (by omega) (by omega) wr;rw[Int.toNat_of_nonneg ia.1,Int.toNat_of_nonneg ib.1,Int.toNat_of_nonneg ic.1] at this;exact this
   have d0:_=some (Value.int .i64 a):=HKV.out.cell 0;have d1:_=some (Value.int .i64 b):=HKV.out.cell 1;have d2:_=some (Value.int .i64 c):=HKV.out.cell 2;clear oa ob oc ia ib ic;generalize yV a.toNat b.toNat c.toNat=N at *;go_wp2_with fail;refine HN.out.mono ?_;rintro e w1 ⟨rfl,hb1⟩;have HB1:Hid (zB w w1):=zT HB0.out hb1;have HI:=zH (YE (tp l) N _ w1 (HV.out.below HB1.out zN) HTL.out);rw[<-HR.out] at HI;clear hb1 HN d0 d1 d2 HV;go_wp2_with fail;refine HI.out.mono ?_;rintro e w2 ⟨rfl,hw2⟩;rw[hw2];clear hw2;go_wp2;go_ret;exact⟨rfl,HB1.out⟩
end
section
open Go.RowKit Sv
abbrev yY(w:World)(v:Int)(ks:Array Value):Prop:=zR 54 #[.agg ks] w (.int .i64 v)
theorem ym{W:World}{b:Nat}{t:TypeId}{x0 x1 x2 x3 x4 x5 x6:Value}(h:Blk W b t #[x0,x1,x2,x3,x4,x5,x6]):W.cell? ⟨b,0,none⟩=some x0/\W.cell? ⟨b,1,none⟩=some x1/\W.cell? ⟨b,2,none⟩=some x2/\W.cell? ⟨b,3,none⟩=some x3/\W.cell? ⟨b,4,none⟩=some x4/\W.cell? ⟨b,5,none⟩=some x5/\W.cell? ⟨b,6,none⟩=some x6:=⟨h.cell 0,h.cell 1,h.cell 2,h.cell 3,h.cell 4,h.cell 5,h.cell 6⟩
theorem yp(w:World)(K:Array Value):∃W0,w.alloc (.cells K 59)=W0/\Blk W0 w.heap.size 59 K/\zB w W0:=⟨_,rfl,Blk.new _ _ _,(Below.refl _ w).alloc zN _⟩
theorem yM(s:ByteArray)(w:World)(h:zh s):zC 85 #[.string s] w fun e w'=>e=.returned (.bool true)/\w=w':=(Ku s w).mono fun _ _ ⟨h1,h2⟩=>⟨h1.1 h,h2⟩
theorem Zm(s:ByteArray)(w:World)(h:¬zh s):zC 85 #[.string s] w fun e w'=>e=.returned (.bool false)/\w=w':=(Ku s w).mono fun _ _ ⟨h1,h2⟩=>⟨h1.2 h,h2⟩
theorem zag(a b c a' b' c':Int)(w:World):(Op.equalIn 10000 56 (.agg #[.int .i64 a,.int .i64 b,.int .i64 c]) (.agg #[.int .i64 a',.int .i64 b',.int .i64 c'])).run Tryz.prog w=.ok (a==a'&&(b==b'&&c==c')) w:=by
 have u3:=Tryz.underlying3;have a3:=Tryz.isAgg3;have z3:=Tryz.sizeOf3;rw[show (10000:Nat)=9999+1 from rfl,Op.equalIn];simp only[Sem.run_bind,run_underlying Tryz.underlying56,Result.andThen_ok];simp only[Std.Legacy.Range.forIn_eq_forIn_range',Std.Legacy.Range.size,Nat.sub_zero,Nat.add_sub_cancel,Nat.div_one,List.range'_succ,List.range'_zero,List.forIn_cons,List.forIn_nil]
 by_cases h1:a=a'
 ·by_cases h2:b=b'
  ·by_cases h3:c=c'
   ·subst h1 h2 h3;go_simp
   ·have e3:(c==c')=false:=by simpa using h3
    subst h1 h2;go_simp
  ·have e2:(b==b')=false:=by simpa using h2
   subst h1;go_simp
 ·have e1:(a==a')=false:=by simpa using h1
  go_simp
theorem KQ(k:Int)(n o:ByteArray)(a b c:Int)(ra:Option Addr)(rn rc:Nat)(w:World)(hk:¬(1<=k/\k<=4)) :
  yY w (1) #[.int .i64 k,.string n,.int .i64 a,.int .i64 b,.int .i64 c,.string o,.slice ra rn rc]:=by
 obtain⟨W0,hW0,k0,hb0⟩:=yp w #[.int .i64 k,.string n,.int .i64 a,.int .i64 b,.int .i64 c,.string o,.slice ra rn rc];go_enter Tryz.func54,Tryz.ntmps54;go_upto_region 1 with fail;clear hW0;obtain⟨xc0,xc1,xc2,xc3,xc4,xc5,xc6⟩:=ym k0;have HB:=zH hb0;clear k0 hb0;have HWI:Hid (zC 66 #[.int .i64 k,.int .i64 1,.int .i64 4] W0 fun e w'=>e=.returned (.bool false)/\W0=w'):=(zu k 1 4 W0).mono fun e w' ⟨h1,h2⟩=>⟨by rw[h1,decide_eq_false hk],h2⟩;clear hk;go_wp2_with fail;refine HWI.out.mono ?_;rintro e w1 ⟨rfl,hwx⟩;subst hwx;clear HWI;go_wp2;go_ret;exact⟨rfl,HB.out⟩
theorem zbm(n o:ByteArray)(a b c:Int)(ra:Option Addr)(rn rc:Nat)(w:World)(hn:¬zh n) :
  yY w (5) #[.int .i64 1,.string n,.int .i64 a,.int .i64 b,.int .i64 c,.string o,.slice ra rn rc]:=by
 obtain⟨W0,hW0,k0,hb0⟩:=yp w #[.int .i64 1,.string n,.int .i64 a,.int .i64 b,.int .i64 c,.string o,.slice ra rn rc];go_enter Tryz.func54,Tryz.ntmps54;go_upto_region 1 with fail;clear hW0;obtain⟨xc0,xc1,xc2,xc3,xc4,xc5,xc6⟩:=ym k0;have HB:=zH hb0;clear k0 hb0;have HWI:Hid (zC 66 #[.int .i64 1,.int .i64 1,.int .i64 4] W0 fun e w'=>e=.returned (.bool true)/\W0=w'):=(zu 1 1 4 W0).mono fun e w' ⟨h1,h2⟩=>⟨by rw[h1];rfl,h2⟩;go_wp2_with fail;refine HWI.out.mono ?_;rintro e w1 ⟨rfl,hwx⟩;subst hwx;clear HWI;go_wp2_with fail;refine(Zm n W0 hn).mono ?_;rintro e w1 ⟨rfl,hwx⟩;subst hwx;go_wp2;go_ret;exact⟨rfl,HB.out⟩
theorem zh9(n o:ByteArray)(a b c:Int)(ra:Option Addr)(rn rc:Nat)(w:World)(hn:¬zh n) :
  yY w (5) #[.int .i64 2,.string n,.int .i64 a,.int .i64 b,.int .i64 c,.string o,.slice ra rn rc]:=by
 obtain⟨W0,hW0,k0,hb0⟩:=yp w #[.int .i64 2,.string n,.int .i64 a,.int .i64 b,.int .i64 c,.string o,.slice ra rn rc];go_enter Tryz.func54,Tryz.ntmps54;go_upto_region 1 with fail;clear hW0;obtain⟨xc0,xc1,xc2,xc3,xc4,xc5,xc6⟩:=ym k0;have HB:=zH hb0;clear k0 hb0;have HWI:Hid (zC 66 #[.int .i64 2,.int .i64 1,.int .i64 4] W0 fun e w'=>e=.returned (.bool true)/\W0=w'):=(zu 2 1 4 W0).mono fun e w' ⟨h1,h2⟩=>⟨by rw[h1];rfl,h2⟩;go_wp2_with fail;refine HWI.out.mono ?_;rintro e w1 ⟨rfl,hwx⟩;subst hwx;clear HWI;go_wp2_with fail;refine(Zm n W0 hn).mono ?_;rintro e w1 ⟨rfl,hwx⟩;subst hwx;go_wp2;go_ret;exact⟨rfl,HB.out⟩
theorem zdt(n o:ByteArray)(a b c:Int)(ra:Option Addr)(rn rc:Nat)(w:World)(hn:¬zh n) :
  yY w (5) #[.int .i64 3,.string n,.int .i64 a,.int .i64 b,.int .i64 c,.string o,.slice ra rn rc]:=by
 obtain⟨W0,hW0,k0,hb0⟩:=yp w #[.int .i64 3,.string n,.int .i64 a,.int .i64 b,.int .i64 c,.string o,.slice ra rn rc];go_enter Tryz.func54,Tryz.ntmps54;go_upto_region 1 with fail;clear hW0;obtain⟨xc0,xc1,xc2,xc3,xc4,xc5,xc6⟩:=ym k0;have HB:=zH hb0;clear k0 hb0;have HWI:Hid (zC 66 #[.int .i64 3,.int .i64 1,.int .i64 4] W0 fun e w'=>e=.returned (.bool true)/\W0=w'):=(zu 3 1 4 W0).mono fun e w' ⟨h1,h2⟩=>⟨by rw[h1];rfl,h2⟩;go_wp2_with fail;refine HWI.out.mono ?_;rintro e w1 ⟨rfl,hwx⟩;subst hwx;clear HWI;go_wp2_with fail;refine(Zm n W0 hn).mono ?_;rintro e w1 ⟨rfl,hwx⟩;subst hwx;go_wp2;go_ret;exact⟨rfl,HB.out⟩
theorem zeL(n o:ByteArray)(a b c:Int)(ra:Option Addr)(rn rc:Nat)(w:World)(hn:¬zh n) :
  yY w (5) #[.int .i64 4,.string n,.int .i64 a,.int .i64 b,.int .i64 c,.string o,.slice ra rn rc]:=by
 obtain⟨W0,hW0,k0,hb0⟩:=yp w #[.int .i64 4,.string n,.int .i64 a,.int .i64 b,.int .i64 c,.string o,.slice ra rn rc];go_enter Tryz.func54,Tryz.ntmps54;go_upto_region 1 with fail;clear hW0;obtain⟨xc0,xc1,xc2,xc3,xc4,xc5,xc6⟩:=ym k0;have HB:=zH hb0;clear k0 hb0;have HWI:Hid (zC 66 #[.int .i64 4,.int .i64 1,.int .i64 4] W0 fun e w'=>e=.returned (.bool true)/\W0=w'):=(zu 4 1 4 W0).mono fun e w' ⟨h1,h2⟩=>⟨by rw[h1];rfl,h2⟩;go_wp2_with fail;refine HWI.out.mono ?_;rintro e w1 ⟨rfl,hwx⟩;subst hwx;clear HWI;go_wp2_with fail;refine(Zm n W0 hn).mono ?_;rintro e w1 ⟨rfl,hwx⟩;subst hwx;go_wp2;go_ret;exact⟨rfl,HB.out⟩
theorem zdj(n o:ByteArray)(a b c:Int)(ra:Option Addr)(rn rc:Nat)(w:World)(hn:zh n)(ho:¬zh o) :
  yY w (5) #[.int .i64 2,.string n,.int .i64 a,.int .i64 b,.int .i64 c,.string o,.slice ra rn rc]:=by
 obtain⟨W0,hW0,k0,hb0⟩:=yp w #[.int .i64 2,.string n,.int .i64 a,.int .i64 b,.int .i64 c,.string o,.slice ra rn rc];go_enter Tryz.func54,Tryz.ntmps54;go_upto_region 1 with fail;clear hW0;obtain⟨xc0,xc1,xc2,xc3,xc4,xc5,xc6⟩:=ym k0;have HB:=zH hb0;clear k0 hb0;have HWI:Hid (zC 66 #[.int .i64 2,.int .i64 1,.int .i64 4] W0 fun e w'=>e=.returned (.bool true)/\W0=w'):=(zu 2 1 4 W0).mono fun e w' ⟨h1,h2⟩=>⟨by rw[h1];rfl,h2⟩;go_wp2_with fail;refine HWI.out.mono ?_;rintro e w1 ⟨rfl,hwx⟩;subst hwx;clear HWI;go_wp2_with fail;refine(yM n W0 hn).mono ?_;rintro e w1 ⟨rfl,hwx⟩;subst hwx;go_wp2_with fail;refine(Zm o W0 ho).mono ?_;rintro e w1 ⟨rfl,hwx⟩;subst hwx;go_wp2;go_ret;exact⟨rfl,HB.out⟩
theorem zhE(n o:ByteArray)(a b c:Int)(ra:Option Addr)(rn rc:Nat)(w:World)(hn:zh n)(ho:zh o) :
  zR 54 #[.agg #[.int .i64 2,.string n,.int .i64 a,.int .i64 b,.int .i64 c,.string o,.slice ra rn rc]] w (.int .i64 (if InV a b c then 0 else 2)):=by
 obtain⟨W0,hW0,k0,hb0⟩:=yp w #[.int .i64 2,.string n,.int .i64 a,.int .i64 b,.int .i64 c,.string o,.slice ra rn rc];obtain⟨Z,hZ⟩:∃Z:Int,(if InV a b c then (0:Int) else 2)=Z:=⟨_,rfl⟩;rw[hZ];have HZ:=zH hZ;clear hZ;go_enter Tryz.func54,Tryz.ntmps54;go_upto_region 1 with fail;clear hW0;obtain⟨xc0,xc1,xc2,xc3,xc4,xc5,xc6⟩:=ym k0;have HB:=zH hb0;clear k0 hb0;have HWI:Hid (zC 66 #[.int .i64 2,.int .i64 1,.int .i64 4] W0 fun e w'=>e=.returned (.bool true)/\W0=w'):=(zu 2 1 4 W0).mono fun e w' ⟨h1,h2⟩=>⟨by rw[h1];rfl,h2⟩;go_wp2_with fail;refine HWI.out.mono ?_;rintro e w1 ⟨rfl,hwx⟩;subst hwx;clear HWI;go_wp2_with fail;refine(yM n W0 hn).mono ?_;rintro e w1 ⟨rfl,hwx⟩;subst hwx;go_wp2_with fail;refine(yM o W0 ho).mono ?_;rintro e w1 ⟨rfl,hwx⟩;subst hwx;go_wp2_with fail;go_loopw [62] (fun kV wz=>wz=W0/\∃k:Int,kV=.int .i64 k/\(k=0\/(k=1/\0<=a/\a<=999)\/(k=2/\(0<=a/\a<=999)/\0<=b/\b<=999)\/(k=3/\(0<=a/\a<=999)/\(0<=b/\b<=999)/\0<=c/\c<=999))) (fun kV _=>3-(intOf kV).toNat)
 case atStart=>exact⟨rfl,0,rfl,Or.inl rfl⟩
 case round =>
  obtain⟨rfl,k,rfl,hk⟩:=hrel;rcases hk with rfl|⟨rfl,h1⟩|⟨rfl,h1,h2⟩|⟨rfl,h1,h2,h3⟩
  ·have hix:=ZY a b c wr;go_wp2_with fail;clear hix
   by_cases hv:0<=a/\a<=999
   ·have HWV:Hid (zC 66 #[.int .i64 a,.int .i64 0,.int .i64 999] wr fun e w'=>e=.returned (.bool true)/\wr=w'):=(zu a 0 999 wr).mono fun e w' ⟨h1,h2⟩=>⟨by rw[h1,decide_eq_true hv],h2⟩;have HV:=zH hv;clear hv;refine HWV.out.mono ?_;rintro e w1 ⟨rfl,hwx⟩;subst hwx;clear HWV;go_wp2;go_roundw
    case rel=>exact⟨trivial,1,by go_num,Or.inr (Or.inl ⟨rfl,HV.out⟩)⟩
    case measure=>simp[intOf]
   ·have HWV:Hid (zC 66 #[.int .i64 a,.int .i64 0,.int .i64 999] wr fun e w'=>e=.returned (.bool false)/\wr=w'):=(zu a 0 999 wr).mono fun e w' ⟨h1,h2⟩=>⟨by rw[h1,decide_eq_false hv],h2⟩;have HC:Hid (Z=2):=by show _=_;rw[<-HZ.out];exact if_neg (fun h=>hv h.1)
    clear hv HZ;refine HWV.out.mono ?_;rintro e w1 ⟨rfl,hwx⟩;subst hwx;clear HWV;go_wp2;go_ret;exact⟨by rw[HC.out];rfl,HB.out⟩
  ·have hix:=Qh a b c wr;go_wp2_with fail;clear hix
   by_cases hv:0<=b/\b<=999
   ·have HWV:Hid (zC 66 #[.int .i64 b,.int .i64 0,.int .i64 999] wr fun e w'=>e=.returned (.bool true)/\wr=w'):=(zu b 0 999 wr).mono fun e w' ⟨h1,h2⟩=>⟨by rw[h1,decide_eq_true hv],h2⟩;have HV:=zH hv;clear hv;refine HWV.out.mono ?_;rintro e w1 ⟨rfl,hwx⟩;subst hwx;clear HWV;go_wp2;go_roundw
    case rel=>exact⟨trivial,2,by go_num,Or.inr (Or.inr (Or.inl ⟨rfl,h1,HV.out⟩))⟩
    case measure=>simp[intOf]
   ·have HWV:Hid (zC 66 #[.int .i64 b,.int .i64 0,.int .i64 999] wr fun e w'=>e=.returned (.bool false)/\wr=w'):=(zu b 0 999 wr).mono fun e w' ⟨h1,h2⟩=>⟨by rw[h1,decide_eq_false hv],h2⟩;have HC:Hid (Z=2):=by show _=_;rw[<-HZ.out];exact if_neg (fun h=>hv h.2.1)
    clear hv HZ;refine HWV.out.mono ?_;rintro e w1 ⟨rfl,hwx⟩;subst hwx;clear HWV;go_wp2;go_ret;exact⟨by rw[HC.out];rfl,HB.out⟩
  ·have hix:=Qi a b c wr;go_wp2_with fail;clear hix
   by_cases hv:0<=c/\c<=999
   ·have HWV:Hid (zC 66 #[.int .i64 c,.int .i64 0,.int .i64 999] wr fun e w'=>e=.returned (.bool true)/\wr=w'):=(zu c 0 999 wr).mono fun e w' ⟨h1,h2⟩=>⟨by rw[h1,decide_eq_true hv],h2⟩;have HV:=zH hv;clear hv;refine HWV.out.mono ?_;rintro e w1 ⟨rfl,hwx⟩;subst hwx;clear HWV;go_wp2;go_roundw
    case rel=>exact⟨trivial,3,by go_num,Or.inr (Or.inr (Or.inr ⟨rfl,h1,h2,HV.out⟩))⟩
    case measure=>simp[intOf]
   ·have HWV:Hid (zC 66 #[.int .i64 c,.int .i64 0,.int .i64 999] wr fun e w'=>e=.returned (.bool false)/\wr=w'):=(zu c 0 999 wr).mono fun e w' ⟨h1,h2⟩=>⟨by rw[h1,decide_eq_false hv],h2⟩;have HC:Hid (Z=2):=by show _=_;rw[<-HZ.out];exact if_neg (fun h=>hv h.2.2)
    clear hv HZ;refine HWV.out.mono ?_;rintro e w1 ⟨rfl,hwx⟩;subst hwx;clear HWV;go_wp2;go_ret;exact⟨by rw[HC.out];rfl,HB.out⟩
  ·have HC:Hid (Z=0):=by show _=_;rw[<-HZ.out];exact if_pos ⟨h1,h2,h3⟩
   clear HZ h1 h2 h3;go_wp2;go_ret;exact⟨by rw[HC.out];rfl,HB.out⟩
theorem zdf(n o:ByteArray)(a b c:Int)(ra:Option Addr)(rn rc:Nat)(w:World)(hn:zh n)(ho:¬zh o) :
  yY w (5) #[.int .i64 3,.string n,.int .i64 a,.int .i64 b,.int .i64 c,.string o,.slice ra rn rc]:=by
 obtain⟨W0,hW0,k0,hb0⟩:=yp w #[.int .i64 3,.string n,.int .i64 a,.int .i64 b,.int .i64 c,.string o,.slice ra rn rc];go_enter Tryz.func54,Tryz.ntmps54;go_upto_region 1 with fail;clear hW0;obtain⟨xc0,xc1,xc2,xc3,xc4,xc5,xc6⟩:=ym k0;have HB:=zH hb0;clear k0 hb0;have HWI:Hid (zC 66 #[.int .i64 3,.int .i64 1,.int .i64 4] W0 fun e w'=>e=.returned (.bool true)/\W0=w'):=(zu 3 1 4 W0).mono fun e w' ⟨h1,h2⟩=>⟨by rw[h1];rfl,h2⟩;go_wp2_with fail;refine HWI.out.mono ?_;rintro e w1 ⟨rfl,hwx⟩;subst hwx;clear HWI;go_wp2_with fail;refine(yM n W0 hn).mono ?_;rintro e w1 ⟨rfl,hwx⟩;subst hwx;go_wp2_with fail;refine(Zm o W0 ho).mono ?_;rintro e w1 ⟨rfl,hwx⟩;subst hwx;go_wp2;go_ret;exact⟨rfl,HB.out⟩
theorem zcU(n o:ByteArray)(a b c:Int)(ra:Option Addr)(rn rc:Nat)(w:World)(hn:zh n)(ho:zh o) :
  zR 54 #[.agg #[.int .i64 3,.string n,.int .i64 a,.int .i64 b,.int .i64 c,.string o,.slice ra rn rc]] w (.int .i64 (if InV a b c then 0 else 2)):=by
 obtain⟨W0,hW0,k0,hb0⟩:=yp w #[.int .i64 3,.string n,.int .i64 a,.int .i64 b,.int .i64 c,.string o,.slice ra rn rc];obtain⟨Z,hZ⟩:∃Z:Int,(if InV a b c then (0:Int) else 2)=Z:=⟨_,rfl⟩;rw[hZ];have HZ:=zH hZ;clear hZ;go_enter Tryz.func54,Tryz.ntmps54;go_upto_region 1 with fail;clear hW0;obtain⟨xc0,xc1,xc2,xc3,xc4,xc5,xc6⟩:=ym k0;have HB:=zH hb0;clear k0 hb0;have HWI:Hid (zC 66 #[.int .i64 3,.int .i64 1,.int .i64 4] W0 fun e w'=>e=.returned (.bool true)/\W0=w'):=(zu 3 1 4 W0).mono fun e w' ⟨h1,h2⟩=>⟨by rw[h1];rfl,h2⟩;go_wp2_with fail;refine HWI.out.mono ?_;rintro e w1 ⟨rfl,hwx⟩;subst hwx;clear HWI;go_wp2_with fail;refine(yM n W0 hn).mono ?_;rintro e w1 ⟨rfl,hwx⟩;subst hwx;go_wp2_with fail;refine(yM o W0 ho).mono ?_;rintro e w1 ⟨rfl,hwx⟩;subst hwx;go_wp2_with fail;go_loopw [62] (fun kV wz=>wz=W0/\∃k:Int,kV=.int .i64 k/\(k=0\/(k=1/\0<=a/\a<=999)\/(k=2/\(0<=a/\a<=999)/\0<=b/\b<=999)\/(k=3/\(0<=a/\a<=999)/\(0<=b/\b<=999)/\0<=c/\c<=999))) (fun kV _=>3-(intOf kV).toNat)
 case atStart=>exact⟨rfl,0,rfl,Or.inl rfl⟩
 case round =>
  obtain⟨rfl,k,rfl,hk⟩:=hrel;rcases hk with rfl|⟨rfl,h1⟩|⟨rfl,h1,h2⟩|⟨rfl,h1,h2,h3⟩
  ·have hix:=ZY a b c wr;go_wp2_with fail;clear hix
   by_cases hv:0<=a/\a<=999
   ·have HWV:Hid (zC 66 #[.int .i64 a,.int .i64 0,.int .i64 999] wr fun e w'=>e=.returned (.bool true)/\wr=w'):=(zu a 0 999 wr).mono fun e w' ⟨h1,h2⟩=>⟨by rw[h1,decide_eq_true hv],h2⟩;have HV:=zH hv;clear hv;refine HWV.out.mono ?_;rintro e w1 ⟨rfl,hwx⟩;subst hwx;clear HWV;go_wp2;go_roundw
    case rel=>exact⟨trivial,1,by go_num,Or.inr (Or.inl ⟨rfl,HV.out⟩)⟩
    case measure=>simp[intOf]
   ·have HWV:Hid (zC 66 #[.int .i64 a,.int .i64 0,.int .i64 999] wr fun e w'=>e=.returned (.bool false)/\wr=w'):=(zu a 0 999 wr).mono fun e w' ⟨h1,h2⟩=>⟨by rw[h1,decide_eq_false hv],h2⟩;have HC:Hid (Z=2):=by show _=_;rw[<-HZ.out];exact if_neg (fun h=>hv h.1)
    clear hv HZ;refine HWV.out.mono ?_;rintro e w1 ⟨rfl,hwx⟩;subst hwx;clear HWV;go_wp2;go_ret;exact⟨by rw[HC.out];rfl,HB.out⟩
  ·have hix:=Qh a b c wr;go_wp2_with fail;clear hix
   by_cases hv:0<=b/\b<=999
   ·have HWV:Hid (zC 66 #[.int .i64 b,.int .i64 0,.int .i64 999] wr fun e w'=>e=.returned (.bool true)/\wr=w'):=(zu b 0 999 wr).mono fun e w' ⟨h1,h2⟩=>⟨by rw[h1,decide_eq_true hv],h2⟩;have HV:=zH hv;clear hv;refine HWV.out.mono ?_;rintro e w1 ⟨rfl,hwx⟩;subst hwx;clear HWV;go_wp2;go_roundw
    case rel=>exact⟨trivial,2,by go_num,Or.inr (Or.inr (Or.inl ⟨rfl,h1,HV.out⟩))⟩
    case measure=>simp[intOf]
   ·have HWV:Hid (zC 66 #[.int .i64 b,.int .i64 0,.int .i64 999] wr fun e w'=>e=.returned (.bool false)/\wr=w'):=(zu b 0 999 wr).mono fun e w' ⟨h1,h2⟩=>⟨by rw[h1,decide_eq_false hv],h2⟩;have HC:Hid (Z=2):=by show _=_;rw[<-HZ.out];exact if_neg (fun h=>hv h.2.1)
    clear hv HZ;refine HWV.out.mono ?_;rintro e w1 ⟨rfl,hwx⟩;subst hwx;clear HWV;go_wp2;go_ret;exact⟨by rw[HC.out];rfl,HB.out⟩
  ·have hix:=Qi a b c wr;go_wp2_with fail;clear hix
   by_cases hv:0<=c/\c<=999
   ·have HWV:Hid (zC 66 #[.int .i64 c,.int .i64 0,.int .i64 999] wr fun e w'=>e=.returned (.bool true)/\wr=w'):=(zu c 0 999 wr).mono fun e w' ⟨h1,h2⟩=>⟨by rw[h1,decide_eq_true hv],h2⟩;have HV:=zH hv;clear hv;refine HWV.out.mono ?_;rintro e w1 ⟨rfl,hwx⟩;subst hwx;clear HWV;go_wp2;go_roundw
    case rel=>exact⟨trivial,3,by go_num,Or.inr (Or.inr (Or.inr ⟨rfl,h1,h2,HV.out⟩))⟩
    case measure=>simp[intOf]
   ·have HWV:Hid (zC 66 #[.int .i64 c,.int .i64 0,.int .i64 999] wr fun e w'=>e=.returned (.bool false)/\wr=w'):=(zu c 0 999 wr).mono fun e w' ⟨h1,h2⟩=>⟨by rw[h1,decide_eq_false hv],h2⟩;have HC:Hid (Z=2):=by show _=_;rw[<-HZ.out];exact if_neg (fun h=>hv h.2.2)
    clear hv HZ;refine HWV.out.mono ?_;rintro e w1 ⟨rfl,hwx⟩;subst hwx;clear HWV;go_wp2;go_ret;exact⟨by rw[HC.out];rfl,HB.out⟩
  ·have HC:Hid (Z=0):=by show _=_;rw[<-HZ.out];exact if_pos ⟨h1,h2,h3⟩
   clear HZ h1 h2 h3;go_wp2;go_ret;exact⟨by rw[HC.out];rfl,HB.out⟩
theorem zfp(n o:ByteArray)(a b c:Int)(ra:Option Addr)(rn rc:Nat)(w:World)(hn:zh n)(ho:0<o.size) :
  yY w (1) #[.int .i64 1,.string n,.int .i64 a,.int .i64 b,.int .i64 c,.string o,.slice ra rn rc]:=by
 obtain⟨W0,hW0,k0,hb0⟩:=yp w #[.int .i64 1,.string n,.int .i64 a,.int .i64 b,.int .i64 c,.string o,.slice ra rn rc];go_enter Tryz.func54,Tryz.ntmps54;go_upto_region 1 with fail;clear hW0;obtain⟨xc0,xc1,xc2,xc3,xc4,xc5,xc6⟩:=ym k0;have HB:=zH hb0;clear k0 hb0;have HWI:Hid (zC 66 #[.int .i64 1,.int .i64 1,.int .i64 4] W0 fun e w'=>e=.returned (.bool true)/\W0=w'):=(zu 1 1 4 W0).mono fun e w' ⟨h1,h2⟩=>⟨by rw[h1];rfl,h2⟩;go_wp2_with fail;refine HWI.out.mono ?_;rintro e w1 ⟨rfl,hwx⟩;subst hwx;clear HWI;go_wp2_with fail;refine(yM n W0 hn).mono ?_;rintro e w1 ⟨rfl,hwx⟩;subst hwx;have he1:o.toList.isEmpty=false:=xr ho;have he2:(o.toList==[])=false:=by rw[beq_eq_false_iff_ne];intro h;rw[h] at he1;cases he1
 go_wp2;go_ret;exact⟨rfl,HB.out⟩
theorem zdU(n o:ByteArray)(a b c:Int)(ra:Option Addr)(rn rc:Nat)(w:World)(hn:zh n)(ho:0<o.size) :
  yY w (1) #[.int .i64 4,.string n,.int .i64 a,.int .i64 b,.int .i64 c,.string o,.slice ra rn rc]:=by
 obtain⟨W0,hW0,k0,hb0⟩:=yp w #[.int .i64 4,.string n,.int .i64 a,.int .i64 b,.int .i64 c,.string o,.slice ra rn rc];go_enter Tryz.func54,Tryz.ntmps54;go_upto_region 1 with fail;clear hW0;obtain⟨xc0,xc1,xc2,xc3,xc4,xc5,xc6⟩:=ym k0;have HB:=zH hb0;clear k0 hb0;have HWI:Hid (zC 66 #[.int .i64 4,.int .i64 1,.int .i64 4] W0 fun e w'=>e=.returned (.bool true)/\W0=w'):=(zu 4 1 4 W0).mono fun e w' ⟨h1,h2⟩=>⟨by rw[h1];rfl,h2⟩;go_wp2_with fail;refine HWI.out.mono ?_;rintro e w1 ⟨rfl,hwx⟩;subst hwx;clear HWI;go_wp2_with fail;refine(yM n W0 hn).mono ?_;rintro e w1 ⟨rfl,hwx⟩;subst hwx;have he1:o.toList.isEmpty=false:=xr ho;have he2:(o.toList==[])=false:=by rw[beq_eq_false_iff_ne];intro h;rw[h] at he1;cases he1
 go_wp2;go_ret;exact⟨rfl,HB.out⟩
theorem zbT(n:ByteArray)(a b c:Int)(ra:Option Addr)(rn rc:Nat)(w:World)(hn:zh n)(hr:0<rn) :
  yY w (1) #[.int .i64 1,.string n,.int .i64 a,.int .i64 b,.int .i64 c,.string ⟨#[]⟩,.slice ra rn rc]:=by
 obtain⟨W0,hW0,k0,hb0⟩:=yp w #[.int .i64 1,.string n,.int .i64 a,.int .i64 b,.int .i64 c,.string ⟨#[]⟩,.slice ra rn rc];go_enter Tryz.func54,Tryz.ntmps54;go_upto_region 1 with fail;clear hW0;obtain⟨xc0,xc1,xc2,xc3,xc4,xc5,xc6⟩:=ym k0;have HB:=zH hb0;clear k0 hb0;have HWI:Hid (zC 66 #[.int .i64 1,.int .i64 1,.int .i64 4] W0 fun e w'=>e=.returned (.bool true)/\W0=w'):=(zu 1 1 4 W0).mono fun e w' ⟨h1,h2⟩=>⟨by rw[h1];rfl,h2⟩;go_wp2_with fail;refine HWI.out.mono ?_;rintro e w1 ⟨rfl,hwx⟩;subst hwx;clear HWI;go_wp2_with fail;refine(yM n W0 hn).mono ?_;rintro e w1 ⟨rfl,hwx⟩;subst hwx;have hr2:(0:Int)<(rn:Int):=by omega
 go_wp2;go_ret;exact⟨rfl,HB.out⟩
theorem zik(n:ByteArray)(a b c:Int)(ra:Option Addr)(rc:Nat)(w:World)(hn:zh n) :
  zR 54 #[.agg #[.int .i64 1,.string n,.int .i64 a,.int .i64 b,.int .i64 c,.string ⟨#[]⟩,.slice ra 0 rc]] w (.int .i64 (if InV a b c then 0 else 2)):=by
 obtain⟨W0,hW0,k0,hb0⟩:=yp w #[.int .i64 1,.string n,.int .i64 a,.int .i64 b,.int .i64 c,.string ⟨#[]⟩,.slice ra 0 rc];obtain⟨Z,hZ⟩:∃Z:Int,(if InV a b c then (0:Int) else 2)=Z:=⟨_,rfl⟩;rw[hZ];have HZ:=zH hZ;clear hZ;go_enter Tryz.func54,Tryz.ntmps54;go_upto_region 1 with fail;clear hW0;obtain⟨xc0,xc1,xc2,xc3,xc4,xc5,xc6⟩:=ym k0;have HB:=zH hb0;clear k0 hb0;have HWI:Hid (zC 66 #[.int .i64 1,.int .i64 1,.int .i64 4] W0 fun e w'=>e=.returned (.bool true)/\W0=w'):=(zu 1 1 4 W0).mono fun e w' ⟨h1,h2⟩=>⟨by rw[h1];rfl,h2⟩;go_wp2_with fail;refine HWI.out.mono ?_;rintro e w1 ⟨rfl,hwx⟩;subst hwx;clear HWI;go_wp2_with fail;refine(yM n W0 hn).mono ?_;rintro e w1 ⟨rfl,hwx⟩;subst hwx;go_wp2_with fail;go_loopw [62] (fun kV wz=>wz=W0/\∃k:Int,kV=.int .i64 k/\(k=0\/(k=1/\0<=a/\a<=999)\/(k=2/\(0<=a/\a<=999)/\0<=b/\b<=999)\/(k=3/\(0<=a/\a<=999)/\(0<=b/\b<=999)/\0<=c/\c<=999))) (fun kV _=>3-(intOf kV).toNat)
 case atStart=>exact⟨rfl,0,rfl,Or.inl rfl⟩
 case round =>
  obtain⟨rfl,k,rfl,hk⟩:=hrel;rcases hk with rfl|⟨rfl,h1⟩|⟨rfl,h1,h2⟩|⟨rfl,h1,h2,h3⟩
  ·have hix:=ZY a b c wr;go_wp2_with fail;clear hix
   by_cases hv:0<=a/\a<=999
   ·have HWV:Hid (zC 66 #[.int .i64 a,.int .i64 0,.int .i64 999] wr fun e w'=>e=.returned (.bool true)/\wr=w'):=(zu a 0 999 wr).mono fun e w' ⟨h1,h2⟩=>⟨by rw[h1,decide_eq_true hv],h2⟩;have HV:=zH hv;clear hv;refine HWV.out.mono ?_;rintro e w1 ⟨rfl,hwx⟩;subst hwx;clear HWV;go_wp2;go_roundw
    case rel=>exact⟨trivial,1,by go_num,Or.inr (Or.inl ⟨rfl,HV.out⟩)⟩
    case measure=>simp[intOf]
   ·have HWV:Hid (zC 66 #[.int .i64 a,.int .i64 0,.int .i64 999] wr fun e w'=>e=.returned (.bool false)/\wr=w'):=(zu a 0 999 wr).mono fun e w' ⟨h1,h2⟩=>⟨by rw[h1,decide_eq_false hv],h2⟩;have HC:Hid (Z=2):=by show _=_;rw[<-HZ.out];exact if_neg (fun h=>hv h.1)
    clear hv HZ;refine HWV.out.mono ?_;rintro e w1 ⟨rfl,hwx⟩;subst hwx;clear HWV;go_wp2;go_ret;exact⟨by rw[HC.out];rfl,HB.out⟩
  ·have hix:=Qh a b c wr;go_wp2_with fail;clear hix
   by_cases hv:0<=b/\b<=999
   ·have HWV:Hid (zC 66 #[.int .i64 b,.int .i64 0,.int .i64 999] wr fun e w'=>e=.returned (.bool true)/\wr=w'):=(zu b 0 999 wr).mono fun e w' ⟨h1,h2⟩=>⟨by rw[h1,decide_eq_true hv],h2⟩;have HV:=zH hv;clear hv;refine HWV.out.mono ?_;rintro e w1 ⟨rfl,hwx⟩;subst hwx;clear HWV;go_wp2;go_roundw
    case rel=>exact⟨trivial,2,by go_num,Or.inr (Or.inr (Or.inl ⟨rfl,h1,HV.out⟩))⟩
    case measure=>simp[intOf]
   ·have HWV:Hid (zC 66 #[.int .i64 b,.int .i64 0,.int .i64 999] wr fun e w'=>e=.returned (.bool false)/\wr=w'):=(zu b 0 999 wr).mono fun e w' ⟨h1,h2⟩=>⟨by rw[h1,decide_eq_false hv],h2⟩;have HC:Hid (Z=2):=by show _=_;rw[<-HZ.out];exact if_neg (fun h=>hv h.2.1)
    clear hv HZ;refine HWV.out.mono ?_;rintro e w1 ⟨rfl,hwx⟩;subst hwx;clear HWV;go_wp2;go_ret;exact⟨by rw[HC.out];rfl,HB.out⟩
  ·have hix:=Qi a b c wr;go_wp2_with fail;clear hix
   by_cases hv:0<=c/\c<=999
   ·have HWV:Hid (zC 66 #[.int .i64 c,.int .i64 0,.int .i64 999] wr fun e w'=>e=.returned (.bool true)/\wr=w'):=(zu c 0 999 wr).mono fun e w' ⟨h1,h2⟩=>⟨by rw[h1,decide_eq_true hv],h2⟩;have HV:=zH hv;clear hv;refine HWV.out.mono ?_;rintro e w1 ⟨rfl,hwx⟩;subst hwx;clear HWV;go_wp2;go_roundw
    case rel=>exact⟨trivial,3,by go_num,Or.inr (Or.inr (Or.inr ⟨rfl,h1,h2,HV.out⟩))⟩
    case measure=>simp[intOf]
   ·have HWV:Hid (zC 66 #[.int .i64 c,.int .i64 0,.int .i64 999] wr fun e w'=>e=.returned (.bool false)/\wr=w'):=(zu c 0 999 wr).mono fun e w' ⟨h1,h2⟩=>⟨by rw[h1,decide_eq_false hv],h2⟩;have HC:Hid (Z=2):=by show _=_;rw[<-HZ.out];exact if_neg (fun h=>hv h.2.2)
    clear hv HZ;refine HWV.out.mono ?_;rintro e w1 ⟨rfl,hwx⟩;subst hwx;clear HWV;go_wp2;go_ret;exact⟨by rw[HC.out];rfl,HB.out⟩
  ·have HC:Hid (Z=0):=by show _=_;rw[<-HZ.out];exact if_pos ⟨h1,h2,h3⟩
   clear HZ h1 h2 h3;go_wp2;go_ret;exact⟨by rw[HC.out];rfl,HB.out⟩
theorem zeI(n:ByteArray)(a b c:Int)(ra:Option Addr)(rn rc:Nat)(w:World)(hn:zh n)(hz:(a==0&&(b==0&&c==0))=false) :
  yY w (1) #[.int .i64 4,.string n,.int .i64 a,.int .i64 b,.int .i64 c,.string ⟨#[]⟩,.slice ra rn rc]:=by
 obtain⟨W0,hW0,k0,hb0⟩:=yp w #[.int .i64 4,.string n,.int .i64 a,.int .i64 b,.int .i64 c,.string ⟨#[]⟩,.slice ra rn rc];go_enter Tryz.func54,Tryz.ntmps54;go_upto_region 1 with fail;clear hW0;obtain⟨xc0,xc1,xc2,xc3,xc4,xc5,xc6⟩:=ym k0;have HB:=zH hb0;clear k0 hb0;have HWI:Hid (zC 66 #[.int .i64 4,.int .i64 1,.int .i64 4] W0 fun e w'=>e=.returned (.bool true)/\W0=w'):=(zu 4 1 4 W0).mono fun e w' ⟨h1,h2⟩=>⟨by rw[h1];rfl,h2⟩;go_wp2_with fail;refine HWI.out.mono ?_;rintro e w1 ⟨rfl,hwx⟩;subst hwx;clear HWI;go_wp2_with fail;refine(yM n W0 hn).mono ?_;rintro e w1 ⟨rfl,hwx⟩;subst hwx;have h3:=zag a b c 0 0 0;rw[hz] at h3;go_wp2;go_ret;exact⟨rfl,HB.out⟩
theorem zbd(n:ByteArray)(a b c:Int)(ra:Option Addr)(rn rc:Nat)(w:World)(hn:zh n)(hz:(a==0&&(b==0&&c==0))=true) :
  zR 54 #[.agg #[.int .i64 4,.string n,.int .i64 a,.int .i64 b,.int .i64 c,.string ⟨#[]⟩,.slice ra rn rc]] w (.int .i64 (if InV a b c then 0 else 2)):=by
 obtain⟨W0,hW0,k0,hb0⟩:=yp w #[.int .i64 4,.string n,.int .i64 a,.int .i64 b,.int .i64 c,.string ⟨#[]⟩,.slice ra rn rc];obtain⟨Z,hZ⟩:∃Z:Int,(if InV a b c then (0:Int) else 2)=Z:=⟨_,rfl⟩;rw[hZ];have HZ:=zH hZ;clear hZ;go_enter Tryz.func54,Tryz.ntmps54;go_upto_region 1 with fail;clear hW0;obtain⟨xc0,xc1,xc2,xc3,xc4,xc5,xc6⟩:=ym k0;have HB:=zH hb0;clear k0 hb0;have HWI:Hid (zC 66 #[.int .i64 4,.int .i64 1,.int .i64 4] W0 fun e w'=>e=.returned (.bool true)/\W0=w'):=(zu 4 1 4 W0).mono fun e w' ⟨h1,h2⟩=>⟨by rw[h1];rfl,h2⟩;go_wp2_with fail;refine HWI.out.mono ?_;rintro e w1 ⟨rfl,hwx⟩;subst hwx;clear HWI;go_wp2_with fail;refine(yM n W0 hn).mono ?_;rintro e w1 ⟨rfl,hwx⟩;subst hwx;have h3:=zag a b c 0 0 0;rw[hz] at h3;go_wp2_with fail;clear h3;go_loopw [62] (fun kV wz=>wz=W0/\∃k:Int,kV=.int .i64 k/\(k=0\/(k=1/\0<=a/\a<=999)\/(k=2/\(0<=a/\a<=999)/\0<=b/\b<=999)\/(k=3/\(0<=a/\a<=999)/\(0<=b/\b<=999)/\0<=c/\c<=999))) (fun kV _=>3-(intOf kV).toNat)
 case atStart=>exact⟨rfl,0,rfl,Or.inl rfl⟩
 case round =>
  obtain⟨rfl,k,rfl,hk⟩:=hrel;rcases hk with rfl|⟨rfl,h1⟩|⟨rfl,h1,h2⟩|⟨rfl,h1,h2,h3⟩
  ·have hix:=ZY a b c wr;go_wp2_with fail;clear hix
   by_cases hv:0<=a/\a<=999
   ·have HWV:Hid (zC 66 #[.int .i64 a,.int .i64 0,.int .i64 999] wr fun e w'=>e=.returned (.bool true)/\wr=w'):=(zu a 0 999 wr).mono fun e w' ⟨h1,h2⟩=>⟨by rw[h1,decide_eq_true hv],h2⟩;have HV:=zH hv;clear hv;refine HWV.out.mono ?_;rintro e w1 ⟨rfl,hwx⟩;subst hwx;clear HWV;go_wp2;go_roundw
    case rel=>exact⟨trivial,1,by go_num,Or.inr (Or.inl ⟨rfl,HV.out⟩)⟩
    case measure=>simp[intOf]
   ·have HWV:Hid (zC 66 #[.int .i64 a,.int .i64 0,.int .i64 999] wr fun e w'=>e=.returned (.bool false)/\wr=w'):=(zu a 0 999 wr).mono fun e w' ⟨h1,h2⟩=>⟨by rw[h1,decide_eq_false hv],h2⟩;have HC:Hid (Z=2):=by show _=_;rw[<-HZ.out];exact if_neg (fun h=>hv h.1)
    clear hv HZ;refine HWV.out.mono ?_;rintro e w1 ⟨rfl,hwx⟩;subst hwx;clear HWV;go_wp2;go_ret;exact⟨by rw[HC.out];rfl,HB.out⟩
  ·have hix:=Qh a b c wr;go_wp2_with fail;clear hix
   by_cases hv:0<=b/\b<=999
   ·have HWV:Hid (zC 66 #[.int .i64 b,.int .i64 0,.int .i64 999] wr fun e w'=>e=.returned (.bool true)/\wr=w'):=(zu b 0 999 wr).mono fun e w' ⟨h1,h2⟩=>⟨by rw[h1,decide_eq_true hv],h2⟩;have HV:=zH hv;clear hv;refine HWV.out.mono ?_;rintro e w1 ⟨rfl,hwx⟩;subst hwx;clear HWV;go_wp2;go_roundw
    case rel=>exact⟨trivial,2,by go_num,Or.inr (Or.inr (Or.inl ⟨rfl,h1,HV.out⟩))⟩
    case measure=>simp[intOf]
   ·have HWV:Hid (zC 66 #[.int .i64 b,.int .i64 0,.int .i64 999] wr fun e w'=>e=.returned (.bool false)/\wr=w'):=(zu b 0 999 wr).mono fun e w' ⟨h1,h2⟩=>⟨by rw[h1,decide_eq_false hv],h2⟩;have HC:Hid (Z=2):=by show _=_;rw[<-HZ.out];exact if_neg (fun h=>hv h.2.1)
    clear hv HZ;refine HWV.out.mono ?_;rintro e w1 ⟨rfl,hwx⟩;subst hwx;clear HWV;go_wp2;go_ret;exact⟨by rw[HC.out];rfl,HB.out⟩
  ·have hix:=Qi a b c wr;go_wp2_with fail;clear hix
   by_cases hv:0<=c/\c<=999
   ·have HWV:Hid (zC 66 #[.int .i64 c,.int .i64 0,.int .i64 999] wr fun e w'=>e=.returned (.bool true)/\wr=w'):=(zu c 0 999 wr).mono fun e w' ⟨h1,h2⟩=>⟨by rw[h1,decide_eq_true hv],h2⟩;have HV:=zH hv;clear hv;refine HWV.out.mono ?_;rintro e w1 ⟨rfl,hwx⟩;subst hwx;clear HWV;go_wp2;go_roundw
    case rel=>exact⟨trivial,3,by go_num,Or.inr (Or.inr (Or.inr ⟨rfl,h1,h2,HV.out⟩))⟩
    case measure=>simp[intOf]
   ·have HWV:Hid (zC 66 #[.int .i64 c,.int .i64 0,.int .i64 999] wr fun e w'=>e=.returned (.bool false)/\wr=w'):=(zu c 0 999 wr).mono fun e w' ⟨h1,h2⟩=>⟨by rw[h1,decide_eq_false hv],h2⟩;have HC:Hid (Z=2):=by show _=_;rw[<-HZ.out];exact if_neg (fun h=>hv h.2.2)
    clear hv HZ;refine HWV.out.mono ?_;rintro e w1 ⟨rfl,hwx⟩;subst hwx;clear HWV;go_wp2;go_ret;exact⟨by rw[HC.out];rfl,HB.out⟩
  ·have HC:Hid (Z=0):=by show _=_;rw[<-HZ.out];exact if_pos ⟨h1,h2,h3⟩
   clear HZ h1 h2 h3;go_wp2;go_ret;exact⟨by rw[HC.out];rfl,HB.out⟩
end
end Go.Proofs.YtlamemjfaogjmaaGreatDoor
