/- The reference: lineCheck. -/
import Derived.Test.YtiihalknffbjpaaGreatDoorCtChk
import Derived.Test.YtiihalknffbjpaaGreatDoorSiIns
import Derived.Test.YtiihalknffbjpaaGreatDoorSvRHas
set_option maxHeartbeats 2000000
set_option maxRecDepth 100000
namespace Go.Proofs.YtiihalknffbjpaaGreatDoor
open Go.RowKit Sv
theorem refn_yes (s:ByteArray) (w:World) (h:NameOk s):Calls Tryz.prog 210 #[.string s] w fun e w'=>e=.returned (.bool true)/\w=w':=(refn_any s w).mono fun _ _ ⟨h1,h2⟩=>⟨h1.1 h,h2⟩
theorem refn_no (s:ByteArray) (w:World) (h:¬ NameOk s):Calls Tryz.prog 210 #[.string s] w fun e w'=>e=.returned (.bool false)/\w=w':=(refn_any s w).mono fun _ _ ⟨h1,h2⟩=>⟨h1.2 h,h2⟩
theorem eq3r (a b c a' b' c':Int) (w:World):(Op.equalIn 10000 91 (.agg #[.int .i64 a,.int .i64 b,.int .i64 c]) (.agg #[.int .i64 a',.int .i64 b',.int .i64 c'])).run Tryz.prog w=.ok (a == a' && (b == b' && c == c')) w:=by
 have u3:=Tryz.underlying3
 have a3:=Tryz.isAgg3
 have z3:=Tryz.sizeOf3
 rw [show (10000:Nat)=9999 + 1 from rfl,Op.equalIn]
 simp only [Sem.run_bind,run_underlying Tryz.underlying91,Result.andThen_ok]
 simp only [Std.Legacy.Range.forIn_eq_forIn_range',Std.Legacy.Range.size,Nat.sub_zero,Nat.add_sub_cancel,Nat.div_one,List.range'_succ,List.range'_zero,List.forIn_cons,List.forIn_nil]
 by_cases h1:a=a'
 ·by_cases h2:b=b'
  ·by_cases h3:c=c'
   ·subst h1 h2 h3;go_simp
   ·have e3:(c == c')=false:=by simpa using h3
    subst h1 h2;go_simp
  ·have e2:(b == b')=false:=by simpa using h2
   subst h1;go_simp
 ·have e1:(a == a')=false:=by simpa using h1
  go_simp
theorem rlc_out (k:Int) (n o:ByteArray) (a b c:Int) (ra:Option Addr) (rn rc:Nat) (w:World) (hk:¬ (1<=k/\k<=4)) :
  Calls Tryz.prog 136 #[.agg #[.int .i64 k,.string n,.int .i64 a,.int .i64 b,.int .i64 c,.string o,.slice ra rn rc]] w fun e w'=>e=.returned (.int .i64 (1))/\Below w.heap.size w w':=by
 have k0:=Blk.new w 101 #[.int .i64 k,.string n,.int .i64 a,.int .i64 b,.int .i64 c,.string o,.slice ra rn rc]
 have hb0:Below w.heap.size w (w.alloc (.cells #[.int .i64 k,.string n,.int .i64 a,.int .i64 b,.int .i64 c,.string o,.slice ra rn rc] 101)):=(Below.refl _ w).alloc (Nat.le_refl _) _
 go_enter Tryz.func136,Tryz.ntmps136
 go_upto_region 1 with fail
 generalize w.alloc (.cells #[.int .i64 k,.string n,.int .i64 a,.int .i64 b,.int .i64 c,.string o,.slice ra rn rc] 101)=W0 at *
 have xc0:W0.cell? ⟨w.heap.size,0,none⟩=some (.int .i64 k):=k0.cell 0
 have xc1:W0.cell? ⟨w.heap.size,1,none⟩=some (.string n):=k0.cell 1
 have xc2:W0.cell? ⟨w.heap.size,2,none⟩=some (.int .i64 a):=k0.cell 2
 have xc3:W0.cell? ⟨w.heap.size,3,none⟩=some (.int .i64 b):=k0.cell 3
 have xc4:W0.cell? ⟨w.heap.size,4,none⟩=some (.int .i64 c):=k0.cell 4
 have xc5:W0.cell? ⟨w.heap.size,5,none⟩=some (.string o):=k0.cell 5
 have xc6:W0.cell? ⟨w.heap.size,6,none⟩=some (.slice ra rn rc):=k0.cell 6
 have HB:=Lib.hid hb0
 clear k0 hb0
 have HWI:Hid (Calls Tryz.prog 209 #[.int .i64 k,.int .i64 1,.int .i64 4] W0 fun e w'=>e=.returned (.bool false)/\W0=w'):=(within_any k 1 4 W0).mono fun e w' ⟨h1,h2⟩=>⟨by rw [h1,decide_eq_false hk],h2⟩
 clear hk
 go_wp2_with fail
 refine HWI.out.mono ?_
 rintro e w1 ⟨rfl,hwx⟩
 subst hwx
 clear HWI
 go_wp2
 go_ret
 exact ⟨rfl,HB.out⟩
theorem rlc_nm1 (n o:ByteArray) (a b c:Int) (ra:Option Addr) (rn rc:Nat) (w:World) (hn:¬ NameOk n) :
  Calls Tryz.prog 136 #[.agg #[.int .i64 1,.string n,.int .i64 a,.int .i64 b,.int .i64 c,.string o,.slice ra rn rc]] w fun e w'=>e=.returned (.int .i64 (5))/\Below w.heap.size w w':=by
 have k0:=Blk.new w 101 #[.int .i64 1,.string n,.int .i64 a,.int .i64 b,.int .i64 c,.string o,.slice ra rn rc]
 have hb0:Below w.heap.size w (w.alloc (.cells #[.int .i64 1,.string n,.int .i64 a,.int .i64 b,.int .i64 c,.string o,.slice ra rn rc] 101)):=(Below.refl _ w).alloc (Nat.le_refl _) _
 go_enter Tryz.func136,Tryz.ntmps136
 go_upto_region 1 with fail
 generalize w.alloc (.cells #[.int .i64 1,.string n,.int .i64 a,.int .i64 b,.int .i64 c,.string o,.slice ra rn rc] 101)=W0 at *
 have xc0:W0.cell? ⟨w.heap.size,0,none⟩=some (.int .i64 1):=k0.cell 0
 have xc1:W0.cell? ⟨w.heap.size,1,none⟩=some (.string n):=k0.cell 1
 have xc2:W0.cell? ⟨w.heap.size,2,none⟩=some (.int .i64 a):=k0.cell 2
 have xc3:W0.cell? ⟨w.heap.size,3,none⟩=some (.int .i64 b):=k0.cell 3
 have xc4:W0.cell? ⟨w.heap.size,4,none⟩=some (.int .i64 c):=k0.cell 4
 have xc5:W0.cell? ⟨w.heap.size,5,none⟩=some (.string o):=k0.cell 5
 have xc6:W0.cell? ⟨w.heap.size,6,none⟩=some (.slice ra rn rc):=k0.cell 6
 have HB:=Lib.hid hb0
 clear k0 hb0
 have HWI:Hid (Calls Tryz.prog 209 #[.int .i64 1,.int .i64 1,.int .i64 4] W0 fun e w'=>e=.returned (.bool true)/\W0=w'):=(within_any 1 1 4 W0).mono fun e w' ⟨h1,h2⟩=>⟨by rw [h1];rfl,h2⟩
 go_wp2_with fail
 refine HWI.out.mono ?_
 rintro e w1 ⟨rfl,hwx⟩
 subst hwx
 clear HWI
 go_wp2_with fail
 refine (refn_no n W0 hn).mono ?_
 rintro e w1 ⟨rfl,hwx⟩
 subst hwx
 go_wp2
 go_ret
 exact ⟨rfl,HB.out⟩
theorem rlc_nm2 (n o:ByteArray) (a b c:Int) (ra:Option Addr) (rn rc:Nat) (w:World) (hn:¬ NameOk n) :
  Calls Tryz.prog 136 #[.agg #[.int .i64 2,.string n,.int .i64 a,.int .i64 b,.int .i64 c,.string o,.slice ra rn rc]] w fun e w'=>e=.returned (.int .i64 (5))/\Below w.heap.size w w':=by
 have k0:=Blk.new w 101 #[.int .i64 2,.string n,.int .i64 a,.int .i64 b,.int .i64 c,.string o,.slice ra rn rc]
 have hb0:Below w.heap.size w (w.alloc (.cells #[.int .i64 2,.string n,.int .i64 a,.int .i64 b,.int .i64 c,.string o,.slice ra rn rc] 101)):=(Below.refl _ w).alloc (Nat.le_refl _) _
 go_enter Tryz.func136,Tryz.ntmps136
 go_upto_region 1 with fail
 generalize w.alloc (.cells #[.int .i64 2,.string n,.int .i64 a,.int .i64 b,.int .i64 c,.string o,.slice ra rn rc] 101)=W0 at *
 have xc0:W0.cell? ⟨w.heap.size,0,none⟩=some (.int .i64 2):=k0.cell 0
 have xc1:W0.cell? ⟨w.heap.size,1,none⟩=some (.string n):=k0.cell 1
 have xc2:W0.cell? ⟨w.heap.size,2,none⟩=some (.int .i64 a):=k0.cell 2
 have xc3:W0.cell? ⟨w.heap.size,3,none⟩=some (.int .i64 b):=k0.cell 3
 have xc4:W0.cell? ⟨w.heap.size,4,none⟩=some (.int .i64 c):=k0.cell 4
 have xc5:W0.cell? ⟨w.heap.size,5,none⟩=some (.string o):=k0.cell 5
 have xc6:W0.cell? ⟨w.heap.size,6,none⟩=some (.slice ra rn rc):=k0.cell 6
 have HB:=Lib.hid hb0
 clear k0 hb0
 have HWI:Hid (Calls Tryz.prog 209 #[.int .i64 2,.int .i64 1,.int .i64 4] W0 fun e w'=>e=.returned (.bool true)/\W0=w'):=(within_any 2 1 4 W0).mono fun e w' ⟨h1,h2⟩=>⟨by rw [h1];rfl,h2⟩
 go_wp2_with fail
 refine HWI.out.mono ?_
 rintro e w1 ⟨rfl,hwx⟩
 subst hwx
 clear HWI
 go_wp2_with fail
 refine (refn_no n W0 hn).mono ?_
 rintro e w1 ⟨rfl,hwx⟩
 subst hwx
 go_wp2
 go_ret
 exact ⟨rfl,HB.out⟩
theorem rlc_nm3 (n o:ByteArray) (a b c:Int) (ra:Option Addr) (rn rc:Nat) (w:World) (hn:¬ NameOk n) :
  Calls Tryz.prog 136 #[.agg #[.int .i64 3,.string n,.int .i64 a,.int .i64 b,.int .i64 c,.string o,.slice ra rn rc]] w fun e w'=>e=.returned (.int .i64 (5))/\Below w.heap.size w w':=by
 have k0:=Blk.new w 101 #[.int .i64 3,.string n,.int .i64 a,.int .i64 b,.int .i64 c,.string o,.slice ra rn rc]
 have hb0:Below w.heap.size w (w.alloc (.cells #[.int .i64 3,.string n,.int .i64 a,.int .i64 b,.int .i64 c,.string o,.slice ra rn rc] 101)):=(Below.refl _ w).alloc (Nat.le_refl _) _
 go_enter Tryz.func136,Tryz.ntmps136
 go_upto_region 1 with fail
 generalize w.alloc (.cells #[.int .i64 3,.string n,.int .i64 a,.int .i64 b,.int .i64 c,.string o,.slice ra rn rc] 101)=W0 at *
 have xc0:W0.cell? ⟨w.heap.size,0,none⟩=some (.int .i64 3):=k0.cell 0
 have xc1:W0.cell? ⟨w.heap.size,1,none⟩=some (.string n):=k0.cell 1
 have xc2:W0.cell? ⟨w.heap.size,2,none⟩=some (.int .i64 a):=k0.cell 2
 have xc3:W0.cell? ⟨w.heap.size,3,none⟩=some (.int .i64 b):=k0.cell 3
 have xc4:W0.cell? ⟨w.heap.size,4,none⟩=some (.int .i64 c):=k0.cell 4
 have xc5:W0.cell? ⟨w.heap.size,5,none⟩=some (.string o):=k0.cell 5
 have xc6:W0.cell? ⟨w.heap.size,6,none⟩=some (.slice ra rn rc):=k0.cell 6
 have HB:=Lib.hid hb0
 clear k0 hb0
 have HWI:Hid (Calls Tryz.prog 209 #[.int .i64 3,.int .i64 1,.int .i64 4] W0 fun e w'=>e=.returned (.bool true)/\W0=w'):=(within_any 3 1 4 W0).mono fun e w' ⟨h1,h2⟩=>⟨by rw [h1];rfl,h2⟩
 go_wp2_with fail
 refine HWI.out.mono ?_
 rintro e w1 ⟨rfl,hwx⟩
 subst hwx
 clear HWI
 go_wp2_with fail
 refine (refn_no n W0 hn).mono ?_
 rintro e w1 ⟨rfl,hwx⟩
 subst hwx
 go_wp2
 go_ret
 exact ⟨rfl,HB.out⟩
theorem rlc_nm4 (n o:ByteArray) (a b c:Int) (ra:Option Addr) (rn rc:Nat) (w:World) (hn:¬ NameOk n) :
  Calls Tryz.prog 136 #[.agg #[.int .i64 4,.string n,.int .i64 a,.int .i64 b,.int .i64 c,.string o,.slice ra rn rc]] w fun e w'=>e=.returned (.int .i64 (5))/\Below w.heap.size w w':=by
 have k0:=Blk.new w 101 #[.int .i64 4,.string n,.int .i64 a,.int .i64 b,.int .i64 c,.string o,.slice ra rn rc]
 have hb0:Below w.heap.size w (w.alloc (.cells #[.int .i64 4,.string n,.int .i64 a,.int .i64 b,.int .i64 c,.string o,.slice ra rn rc] 101)):=(Below.refl _ w).alloc (Nat.le_refl _) _
 go_enter Tryz.func136,Tryz.ntmps136
 go_upto_region 1 with fail
 generalize w.alloc (.cells #[.int .i64 4,.string n,.int .i64 a,.int .i64 b,.int .i64 c,.string o,.slice ra rn rc] 101)=W0 at *
 have xc0:W0.cell? ⟨w.heap.size,0,none⟩=some (.int .i64 4):=k0.cell 0
 have xc1:W0.cell? ⟨w.heap.size,1,none⟩=some (.string n):=k0.cell 1
 have xc2:W0.cell? ⟨w.heap.size,2,none⟩=some (.int .i64 a):=k0.cell 2
 have xc3:W0.cell? ⟨w.heap.size,3,none⟩=some (.int .i64 b):=k0.cell 3
 have xc4:W0.cell? ⟨w.heap.size,4,none⟩=some (.int .i64 c):=k0.cell 4
 have xc5:W0.cell? ⟨w.heap.size,5,none⟩=some (.string o):=k0.cell 5
 have xc6:W0.cell? ⟨w.heap.size,6,none⟩=some (.slice ra rn rc):=k0.cell 6
 have HB:=Lib.hid hb0
 clear k0 hb0
 have HWI:Hid (Calls Tryz.prog 209 #[.int .i64 4,.int .i64 1,.int .i64 4] W0 fun e w'=>e=.returned (.bool true)/\W0=w'):=(within_any 4 1 4 W0).mono fun e w' ⟨h1,h2⟩=>⟨by rw [h1];rfl,h2⟩
 go_wp2_with fail
 refine HWI.out.mono ?_
 rintro e w1 ⟨rfl,hwx⟩
 subst hwx
 clear HWI
 go_wp2_with fail
 refine (refn_no n W0 hn).mono ?_
 rintro e w1 ⟨rfl,hwx⟩
 subst hwx
 go_wp2
 go_ret
 exact ⟨rfl,HB.out⟩
theorem rlc_ot2 (n o:ByteArray) (a b c:Int) (ra:Option Addr) (rn rc:Nat) (w:World) (hn:NameOk n) (ho:¬ NameOk o) :
  Calls Tryz.prog 136 #[.agg #[.int .i64 2,.string n,.int .i64 a,.int .i64 b,.int .i64 c,.string o,.slice ra rn rc]] w fun e w'=>e=.returned (.int .i64 (5))/\Below w.heap.size w w':=by
 have k0:=Blk.new w 101 #[.int .i64 2,.string n,.int .i64 a,.int .i64 b,.int .i64 c,.string o,.slice ra rn rc]
 have hb0:Below w.heap.size w (w.alloc (.cells #[.int .i64 2,.string n,.int .i64 a,.int .i64 b,.int .i64 c,.string o,.slice ra rn rc] 101)):=(Below.refl _ w).alloc (Nat.le_refl _) _
 go_enter Tryz.func136,Tryz.ntmps136
 go_upto_region 1 with fail
 generalize w.alloc (.cells #[.int .i64 2,.string n,.int .i64 a,.int .i64 b,.int .i64 c,.string o,.slice ra rn rc] 101)=W0 at *
 have xc0:W0.cell? ⟨w.heap.size,0,none⟩=some (.int .i64 2):=k0.cell 0
 have xc1:W0.cell? ⟨w.heap.size,1,none⟩=some (.string n):=k0.cell 1
 have xc2:W0.cell? ⟨w.heap.size,2,none⟩=some (.int .i64 a):=k0.cell 2
 have xc3:W0.cell? ⟨w.heap.size,3,none⟩=some (.int .i64 b):=k0.cell 3
 have xc4:W0.cell? ⟨w.heap.size,4,none⟩=some (.int .i64 c):=k0.cell 4
 have xc5:W0.cell? ⟨w.heap.size,5,none⟩=some (.string o):=k0.cell 5
 have xc6:W0.cell? ⟨w.heap.size,6,none⟩=some (.slice ra rn rc):=k0.cell 6
 have HB:=Lib.hid hb0
 clear k0 hb0
 have HWI:Hid (Calls Tryz.prog 209 #[.int .i64 2,.int .i64 1,.int .i64 4] W0 fun e w'=>e=.returned (.bool true)/\W0=w'):=(within_any 2 1 4 W0).mono fun e w' ⟨h1,h2⟩=>⟨by rw [h1];rfl,h2⟩
 go_wp2_with fail
 refine HWI.out.mono ?_
 rintro e w1 ⟨rfl,hwx⟩
 subst hwx
 clear HWI
 go_wp2_with fail
 refine (refn_yes n W0 hn).mono ?_
 rintro e w1 ⟨rfl,hwx⟩
 subst hwx
 go_wp2_with fail
 refine (refn_no o W0 ho).mono ?_
 rintro e w1 ⟨rfl,hwx⟩
 subst hwx
 go_wp2
 go_ret
 exact ⟨rfl,HB.out⟩
theorem rlc_ok2 (n o:ByteArray) (a b c:Int) (ra:Option Addr) (rn rc:Nat) (w:World) (hn:NameOk n) (ho:NameOk o) :
  Calls Tryz.prog 136 #[.agg #[.int .i64 2,.string n,.int .i64 a,.int .i64 b,.int .i64 c,.string o,.slice ra rn rc]] w fun e w'=>e=.returned (.int .i64 (if InV a b c then 0 else 2))/\Below w.heap.size w w':=by
 have k0:=Blk.new w 101 #[.int .i64 2,.string n,.int .i64 a,.int .i64 b,.int .i64 c,.string o,.slice ra rn rc]
 have hb0:Below w.heap.size w (w.alloc (.cells #[.int .i64 2,.string n,.int .i64 a,.int .i64 b,.int .i64 c,.string o,.slice ra rn rc] 101)):=(Below.refl _ w).alloc (Nat.le_refl _) _
 obtain ⟨Z,hZ⟩:∃ Z:Int,(if InV a b c then (0:Int) else 2)=Z:=⟨_,rfl⟩
 rw [hZ]
 have HZ:=Lib.hid hZ
 clear hZ
 go_enter Tryz.func136,Tryz.ntmps136
 go_upto_region 1 with fail
 generalize w.alloc (.cells #[.int .i64 2,.string n,.int .i64 a,.int .i64 b,.int .i64 c,.string o,.slice ra rn rc] 101)=W0 at *
 have xc0:W0.cell? ⟨w.heap.size,0,none⟩=some (.int .i64 2):=k0.cell 0
 have xc1:W0.cell? ⟨w.heap.size,1,none⟩=some (.string n):=k0.cell 1
 have xc2:W0.cell? ⟨w.heap.size,2,none⟩=some (.int .i64 a):=k0.cell 2
 have xc3:W0.cell? ⟨w.heap.size,3,none⟩=some (.int .i64 b):=k0.cell 3
 have xc4:W0.cell? ⟨w.heap.size,4,none⟩=some (.int .i64 c):=k0.cell 4
 have xc5:W0.cell? ⟨w.heap.size,5,none⟩=some (.string o):=k0.cell 5
 have xc6:W0.cell? ⟨w.heap.size,6,none⟩=some (.slice ra rn rc):=k0.cell 6
 have HB:=Lib.hid hb0
 clear k0 hb0
 have HWI:Hid (Calls Tryz.prog 209 #[.int .i64 2,.int .i64 1,.int .i64 4] W0 fun e w'=>e=.returned (.bool true)/\W0=w'):=(within_any 2 1 4 W0).mono fun e w' ⟨h1,h2⟩=>⟨by rw [h1];rfl,h2⟩
 go_wp2_with fail
 refine HWI.out.mono ?_
 rintro e w1 ⟨rfl,hwx⟩
 subst hwx
 clear HWI
 go_wp2_with fail
 refine (refn_yes n W0 hn).mono ?_
 rintro e w1 ⟨rfl,hwx⟩
 subst hwx
 go_wp2_with fail
 refine (refn_yes o W0 ho).mono ?_
 rintro e w1 ⟨rfl,hwx⟩
 subst hwx
 go_wp2_with fail
 go_loopw [62] (fun kV wz=>wz=W0/\∃ k:Int,kV=.int .i64 k/\(k=0\/(k=1/\0<=a/\a<=999)\/(k=2/\(0<=a/\a<=999)/\0<=b/\b<=999)\/(k=3/\(0<=a/\a<=999)/\(0<=b/\b<=999)/\0<=c/\c<=999))) (fun kV _=>3 - (intOf kV).toNat)
 case atStart=>exact ⟨rfl,0,rfl,Or.inl rfl⟩
 case round =>
  obtain ⟨rfl,k,rfl,hk⟩:=hrel
  rcases hk with rfl | ⟨rfl,h1⟩ | ⟨rfl,h1,h2⟩ | ⟨rfl,h1,h2,h3⟩
  ·have hix:=ridx0 a b c wr
   go_wp2_with fail
   clear hix
   by_cases hv:0<=a/\a<=999
   ·have HWV:Hid (Calls Tryz.prog 209 #[.int .i64 a,.int .i64 0,.int .i64 999] wr fun e w'=>e=.returned (.bool true)/\wr=w'):=(within_any a 0 999 wr).mono fun e w' ⟨h1,h2⟩=>⟨by rw [h1,decide_eq_true hv],h2⟩
    have HV:=Lib.hid hv
    clear hv
    refine HWV.out.mono ?_
    rintro e w1 ⟨rfl,hwx⟩
    subst hwx
    clear HWV
    go_wp2
    go_roundw
    case rel=>exact ⟨trivial,1,by go_num,Or.inr (Or.inl ⟨rfl,HV.out⟩)⟩
    case measure=>simp [intOf]
   ·have HWV:Hid (Calls Tryz.prog 209 #[.int .i64 a,.int .i64 0,.int .i64 999] wr fun e w'=>e=.returned (.bool false)/\wr=w'):=(within_any a 0 999 wr).mono fun e w' ⟨h1,h2⟩=>⟨by rw [h1,decide_eq_false hv],h2⟩
    have HC:Hid (Z=2):=by show _=_;rw [<- HZ.out];exact if_neg (fun h=>hv h.1)
    clear hv HZ
    refine HWV.out.mono ?_
    rintro e w1 ⟨rfl,hwx⟩
    subst hwx
    clear HWV
    go_wp2
    go_ret
    exact ⟨by rw [HC.out];rfl,HB.out⟩
  ·have hix:=ridx1 a b c wr
   go_wp2_with fail
   clear hix
   by_cases hv:0<=b/\b<=999
   ·have HWV:Hid (Calls Tryz.prog 209 #[.int .i64 b,.int .i64 0,.int .i64 999] wr fun e w'=>e=.returned (.bool true)/\wr=w'):=(within_any b 0 999 wr).mono fun e w' ⟨h1,h2⟩=>⟨by rw [h1,decide_eq_true hv],h2⟩
    have HV:=Lib.hid hv
    clear hv
    refine HWV.out.mono ?_
    rintro e w1 ⟨rfl,hwx⟩
    subst hwx
    clear HWV
    go_wp2
    go_roundw
    case rel=>exact ⟨trivial,2,by go_num,Or.inr (Or.inr (Or.inl ⟨rfl,h1,HV.out⟩))⟩
    case measure=>simp [intOf]
   ·have HWV:Hid (Calls Tryz.prog 209 #[.int .i64 b,.int .i64 0,.int .i64 999] wr fun e w'=>e=.returned (.bool false)/\wr=w'):=(within_any b 0 999 wr).mono fun e w' ⟨h1,h2⟩=>⟨by rw [h1,decide_eq_false hv],h2⟩
    have HC:Hid (Z=2):=by show _=_;rw [<- HZ.out];exact if_neg (fun h=>hv h.2.1)
    clear hv HZ
    refine HWV.out.mono ?_
    rintro e w1 ⟨rfl,hwx⟩
    subst hwx
    clear HWV
    go_wp2
    go_ret
    exact ⟨by rw [HC.out];rfl,HB.out⟩
  ·have hix:=ridx2 a b c wr
   go_wp2_with fail
   clear hix
   by_cases hv:0<=c/\c<=999
   ·have HWV:Hid (Calls Tryz.prog 209 #[.int .i64 c,.int .i64 0,.int .i64 999] wr fun e w'=>e=.returned (.bool true)/\wr=w'):=(within_any c 0 999 wr).mono fun e w' ⟨h1,h2⟩=>⟨by rw [h1,decide_eq_true hv],h2⟩
    have HV:=Lib.hid hv
    clear hv
    refine HWV.out.mono ?_
    rintro e w1 ⟨rfl,hwx⟩
    subst hwx
    clear HWV
    go_wp2
    go_roundw
    case rel=>exact ⟨trivial,3,by go_num,Or.inr (Or.inr (Or.inr ⟨rfl,h1,h2,HV.out⟩))⟩
    case measure=>simp [intOf]
   ·have HWV:Hid (Calls Tryz.prog 209 #[.int .i64 c,.int .i64 0,.int .i64 999] wr fun e w'=>e=.returned (.bool false)/\wr=w'):=(within_any c 0 999 wr).mono fun e w' ⟨h1,h2⟩=>⟨by rw [h1,decide_eq_false hv],h2⟩
    have HC:Hid (Z=2):=by show _=_;rw [<- HZ.out];exact if_neg (fun h=>hv h.2.2)
    clear hv HZ
    refine HWV.out.mono ?_
    rintro e w1 ⟨rfl,hwx⟩
    subst hwx
    clear HWV
    go_wp2
    go_ret
    exact ⟨by rw [HC.out];rfl,HB.out⟩
  ·have HC:Hid (Z=0):=by show _=_;rw [<- HZ.out];exact if_pos ⟨h1,h2,h3⟩
   clear HZ h1 h2 h3
   go_wp2
   go_ret
   exact ⟨by rw [HC.out];rfl,HB.out⟩
theorem rlc_ot3 (n o:ByteArray) (a b c:Int) (ra:Option Addr) (rn rc:Nat) (w:World) (hn:NameOk n) (ho:¬ NameOk o) :
  Calls Tryz.prog 136 #[.agg #[.int .i64 3,.string n,.int .i64 a,.int .i64 b,.int .i64 c,.string o,.slice ra rn rc]] w fun e w'=>e=.returned (.int .i64 (5))/\Below w.heap.size w w':=by
 have k0:=Blk.new w 101 #[.int .i64 3,.string n,.int .i64 a,.int .i64 b,.int .i64 c,.string o,.slice ra rn rc]
 have hb0:Below w.heap.size w (w.alloc (.cells #[.int .i64 3,.string n,.int .i64 a,.int .i64 b,.int .i64 c,.string o,.slice ra rn rc] 101)):=(Below.refl _ w).alloc (Nat.le_refl _) _
 go_enter Tryz.func136,Tryz.ntmps136
 go_upto_region 1 with fail
 generalize w.alloc (.cells #[.int .i64 3,.string n,.int .i64 a,.int .i64 b,.int .i64 c,.string o,.slice ra rn rc] 101)=W0 at *
 have xc0:W0.cell? ⟨w.heap.size,0,none⟩=some (.int .i64 3):=k0.cell 0
 have xc1:W0.cell? ⟨w.heap.size,1,none⟩=some (.string n):=k0.cell 1
 have xc2:W0.cell? ⟨w.heap.size,2,none⟩=some (.int .i64 a):=k0.cell 2
 have xc3:W0.cell? ⟨w.heap.size,3,none⟩=some (.int .i64 b):=k0.cell 3
 have xc4:W0.cell? ⟨w.heap.size,4,none⟩=some (.int .i64 c):=k0.cell 4
 have xc5:W0.cell? ⟨w.heap.size,5,none⟩=some (.string o):=k0.cell 5
 have xc6:W0.cell? ⟨w.heap.size,6,none⟩=some (.slice ra rn rc):=k0.cell 6
 have HB:=Lib.hid hb0
 clear k0 hb0
 have HWI:Hid (Calls Tryz.prog 209 #[.int .i64 3,.int .i64 1,.int .i64 4] W0 fun e w'=>e=.returned (.bool true)/\W0=w'):=(within_any 3 1 4 W0).mono fun e w' ⟨h1,h2⟩=>⟨by rw [h1];rfl,h2⟩
 go_wp2_with fail
 refine HWI.out.mono ?_
 rintro e w1 ⟨rfl,hwx⟩
 subst hwx
 clear HWI
 go_wp2_with fail
 refine (refn_yes n W0 hn).mono ?_
 rintro e w1 ⟨rfl,hwx⟩
 subst hwx
 go_wp2_with fail
 refine (refn_no o W0 ho).mono ?_
 rintro e w1 ⟨rfl,hwx⟩
 subst hwx
 go_wp2
 go_ret
 exact ⟨rfl,HB.out⟩
theorem rlc_ok3 (n o:ByteArray) (a b c:Int) (ra:Option Addr) (rn rc:Nat) (w:World) (hn:NameOk n) (ho:NameOk o) :
  Calls Tryz.prog 136 #[.agg #[.int .i64 3,.string n,.int .i64 a,.int .i64 b,.int .i64 c,.string o,.slice ra rn rc]] w fun e w'=>e=.returned (.int .i64 (if InV a b c then 0 else 2))/\Below w.heap.size w w':=by
 have k0:=Blk.new w 101 #[.int .i64 3,.string n,.int .i64 a,.int .i64 b,.int .i64 c,.string o,.slice ra rn rc]
 have hb0:Below w.heap.size w (w.alloc (.cells #[.int .i64 3,.string n,.int .i64 a,.int .i64 b,.int .i64 c,.string o,.slice ra rn rc] 101)):=(Below.refl _ w).alloc (Nat.le_refl _) _
 obtain ⟨Z,hZ⟩:∃ Z:Int,(if InV a b c then (0:Int) else 2)=Z:=⟨_,rfl⟩
 rw [hZ]
 have HZ:=Lib.hid hZ
 clear hZ
 go_enter Tryz.func136,Tryz.ntmps136
 go_upto_region 1 with fail
 generalize w.alloc (.cells #[.int .i64 3,.string n,.int .i64 a,.int .i64 b,.int .i64 c,.string o,.slice ra rn rc] 101)=W0 at *
 have xc0:W0.cell? ⟨w.heap.size,0,none⟩=some (.int .i64 3):=k0.cell 0
 have xc1:W0.cell? ⟨w.heap.size,1,none⟩=some (.string n):=k0.cell 1
 have xc2:W0.cell? ⟨w.heap.size,2,none⟩=some (.int .i64 a):=k0.cell 2
 have xc3:W0.cell? ⟨w.heap.size,3,none⟩=some (.int .i64 b):=k0.cell 3
 have xc4:W0.cell? ⟨w.heap.size,4,none⟩=some (.int .i64 c):=k0.cell 4
 have xc5:W0.cell? ⟨w.heap.size,5,none⟩=some (.string o):=k0.cell 5
 have xc6:W0.cell? ⟨w.heap.size,6,none⟩=some (.slice ra rn rc):=k0.cell 6
 have HB:=Lib.hid hb0
 clear k0 hb0
 have HWI:Hid (Calls Tryz.prog 209 #[.int .i64 3,.int .i64 1,.int .i64 4] W0 fun e w'=>e=.returned (.bool true)/\W0=w'):=(within_any 3 1 4 W0).mono fun e w' ⟨h1,h2⟩=>⟨by rw [h1];rfl,h2⟩
 go_wp2_with fail
 refine HWI.out.mono ?_
 rintro e w1 ⟨rfl,hwx⟩
 subst hwx
 clear HWI
 go_wp2_with fail
 refine (refn_yes n W0 hn).mono ?_
 rintro e w1 ⟨rfl,hwx⟩
 subst hwx
 go_wp2_with fail
 refine (refn_yes o W0 ho).mono ?_
 rintro e w1 ⟨rfl,hwx⟩
 subst hwx
 go_wp2_with fail
 go_loopw [62] (fun kV wz=>wz=W0/\∃ k:Int,kV=.int .i64 k/\(k=0\/(k=1/\0<=a/\a<=999)\/(k=2/\(0<=a/\a<=999)/\0<=b/\b<=999)\/(k=3/\(0<=a/\a<=999)/\(0<=b/\b<=999)/\0<=c/\c<=999))) (fun kV _=>3 - (intOf kV).toNat)
 case atStart=>exact ⟨rfl,0,rfl,Or.inl rfl⟩
 case round =>
  obtain ⟨rfl,k,rfl,hk⟩:=hrel
  rcases hk with rfl | ⟨rfl,h1⟩ | ⟨rfl,h1,h2⟩ | ⟨rfl,h1,h2,h3⟩
  ·have hix:=ridx0 a b c wr
   go_wp2_with fail
   clear hix
   by_cases hv:0<=a/\a<=999
   ·have HWV:Hid (Calls Tryz.prog 209 #[.int .i64 a,.int .i64 0,.int .i64 999] wr fun e w'=>e=.returned (.bool true)/\wr=w'):=(within_any a 0 999 wr).mono fun e w' ⟨h1,h2⟩=>⟨by rw [h1,decide_eq_true hv],h2⟩
    have HV:=Lib.hid hv
    clear hv
    refine HWV.out.mono ?_
    rintro e w1 ⟨rfl,hwx⟩
    subst hwx
    clear HWV
    go_wp2
    go_roundw
    case rel=>exact ⟨trivial,1,by go_num,Or.inr (Or.inl ⟨rfl,HV.out⟩)⟩
    case measure=>simp [intOf]
   ·have HWV:Hid (Calls Tryz.prog 209 #[.int .i64 a,.int .i64 0,.int .i64 999] wr fun e w'=>e=.returned (.bool false)/\wr=w'):=(within_any a 0 999 wr).mono fun e w' ⟨h1,h2⟩=>⟨by rw [h1,decide_eq_false hv],h2⟩
    have HC:Hid (Z=2):=by show _=_;rw [<- HZ.out];exact if_neg (fun h=>hv h.1)
    clear hv HZ
    refine HWV.out.mono ?_
    rintro e w1 ⟨rfl,hwx⟩
    subst hwx
    clear HWV
    go_wp2
    go_ret
    exact ⟨by rw [HC.out];rfl,HB.out⟩
  ·have hix:=ridx1 a b c wr
   go_wp2_with fail
   clear hix
   by_cases hv:0<=b/\b<=999
   ·have HWV:Hid (Calls Tryz.prog 209 #[.int .i64 b,.int .i64 0,.int .i64 999] wr fun e w'=>e=.returned (.bool true)/\wr=w'):=(within_any b 0 999 wr).mono fun e w' ⟨h1,h2⟩=>⟨by rw [h1,decide_eq_true hv],h2⟩
    have HV:=Lib.hid hv
    clear hv
    refine HWV.out.mono ?_
    rintro e w1 ⟨rfl,hwx⟩
    subst hwx
    clear HWV
    go_wp2
    go_roundw
    case rel=>exact ⟨trivial,2,by go_num,Or.inr (Or.inr (Or.inl ⟨rfl,h1,HV.out⟩))⟩
    case measure=>simp [intOf]
   ·have HWV:Hid (Calls Tryz.prog 209 #[.int .i64 b,.int .i64 0,.int .i64 999] wr fun e w'=>e=.returned (.bool false)/\wr=w'):=(within_any b 0 999 wr).mono fun e w' ⟨h1,h2⟩=>⟨by rw [h1,decide_eq_false hv],h2⟩
    have HC:Hid (Z=2):=by show _=_;rw [<- HZ.out];exact if_neg (fun h=>hv h.2.1)
    clear hv HZ
    refine HWV.out.mono ?_
    rintro e w1 ⟨rfl,hwx⟩
    subst hwx
    clear HWV
    go_wp2
    go_ret
    exact ⟨by rw [HC.out];rfl,HB.out⟩
  ·have hix:=ridx2 a b c wr
   go_wp2_with fail
   clear hix
   by_cases hv:0<=c/\c<=999
   ·have HWV:Hid (Calls Tryz.prog 209 #[.int .i64 c,.int .i64 0,.int .i64 999] wr fun e w'=>e=.returned (.bool true)/\wr=w'):=(within_any c 0 999 wr).mono fun e w' ⟨h1,h2⟩=>⟨by rw [h1,decide_eq_true hv],h2⟩
    have HV:=Lib.hid hv
    clear hv
    refine HWV.out.mono ?_
    rintro e w1 ⟨rfl,hwx⟩
    subst hwx
    clear HWV
    go_wp2
    go_roundw
    case rel=>exact ⟨trivial,3,by go_num,Or.inr (Or.inr (Or.inr ⟨rfl,h1,h2,HV.out⟩))⟩
    case measure=>simp [intOf]
   ·have HWV:Hid (Calls Tryz.prog 209 #[.int .i64 c,.int .i64 0,.int .i64 999] wr fun e w'=>e=.returned (.bool false)/\wr=w'):=(within_any c 0 999 wr).mono fun e w' ⟨h1,h2⟩=>⟨by rw [h1,decide_eq_false hv],h2⟩
    have HC:Hid (Z=2):=by show _=_;rw [<- HZ.out];exact if_neg (fun h=>hv h.2.2)
    clear hv HZ
    refine HWV.out.mono ?_
    rintro e w1 ⟨rfl,hwx⟩
    subst hwx
    clear HWV
    go_wp2
    go_ret
    exact ⟨by rw [HC.out];rfl,HB.out⟩
  ·have HC:Hid (Z=0):=by show _=_;rw [<- HZ.out];exact if_pos ⟨h1,h2,h3⟩
   clear HZ h1 h2 h3
   go_wp2
   go_ret
   exact ⟨by rw [HC.out];rfl,HB.out⟩
theorem rlc_o1 (n o:ByteArray) (a b c:Int) (ra:Option Addr) (rn rc:Nat) (w:World) (hn:NameOk n) (ho:0<o.size) :
  Calls Tryz.prog 136 #[.agg #[.int .i64 1,.string n,.int .i64 a,.int .i64 b,.int .i64 c,.string o,.slice ra rn rc]] w fun e w'=>e=.returned (.int .i64 (1))/\Below w.heap.size w w':=by
 have k0:=Blk.new w 101 #[.int .i64 1,.string n,.int .i64 a,.int .i64 b,.int .i64 c,.string o,.slice ra rn rc]
 have hb0:Below w.heap.size w (w.alloc (.cells #[.int .i64 1,.string n,.int .i64 a,.int .i64 b,.int .i64 c,.string o,.slice ra rn rc] 101)):=(Below.refl _ w).alloc (Nat.le_refl _) _
 go_enter Tryz.func136,Tryz.ntmps136
 go_upto_region 1 with fail
 generalize w.alloc (.cells #[.int .i64 1,.string n,.int .i64 a,.int .i64 b,.int .i64 c,.string o,.slice ra rn rc] 101)=W0 at *
 have xc0:W0.cell? ⟨w.heap.size,0,none⟩=some (.int .i64 1):=k0.cell 0
 have xc1:W0.cell? ⟨w.heap.size,1,none⟩=some (.string n):=k0.cell 1
 have xc2:W0.cell? ⟨w.heap.size,2,none⟩=some (.int .i64 a):=k0.cell 2
 have xc3:W0.cell? ⟨w.heap.size,3,none⟩=some (.int .i64 b):=k0.cell 3
 have xc4:W0.cell? ⟨w.heap.size,4,none⟩=some (.int .i64 c):=k0.cell 4
 have xc5:W0.cell? ⟨w.heap.size,5,none⟩=some (.string o):=k0.cell 5
 have xc6:W0.cell? ⟨w.heap.size,6,none⟩=some (.slice ra rn rc):=k0.cell 6
 have HB:=Lib.hid hb0
 clear k0 hb0
 have HWI:Hid (Calls Tryz.prog 209 #[.int .i64 1,.int .i64 1,.int .i64 4] W0 fun e w'=>e=.returned (.bool true)/\W0=w'):=(within_any 1 1 4 W0).mono fun e w' ⟨h1,h2⟩=>⟨by rw [h1];rfl,h2⟩
 go_wp2_with fail
 refine HWI.out.mono ?_
 rintro e w1 ⟨rfl,hwx⟩
 subst hwx
 clear HWI
 go_wp2_with fail
 refine (refn_yes n W0 hn).mono ?_
 rintro e w1 ⟨rfl,hwx⟩
 subst hwx
 have he1:o.toList.isEmpty=false:=bytes_not_empty ho
 have he2:(o.toList == [])=false:=by rw [beq_eq_false_iff_ne];intro h;rw [h] at he1;cases he1
 go_wp2
 go_ret
 exact ⟨rfl,HB.out⟩
theorem rlc_o4 (n o:ByteArray) (a b c:Int) (ra:Option Addr) (rn rc:Nat) (w:World) (hn:NameOk n) (ho:0<o.size) :
  Calls Tryz.prog 136 #[.agg #[.int .i64 4,.string n,.int .i64 a,.int .i64 b,.int .i64 c,.string o,.slice ra rn rc]] w fun e w'=>e=.returned (.int .i64 (1))/\Below w.heap.size w w':=by
 have k0:=Blk.new w 101 #[.int .i64 4,.string n,.int .i64 a,.int .i64 b,.int .i64 c,.string o,.slice ra rn rc]
 have hb0:Below w.heap.size w (w.alloc (.cells #[.int .i64 4,.string n,.int .i64 a,.int .i64 b,.int .i64 c,.string o,.slice ra rn rc] 101)):=(Below.refl _ w).alloc (Nat.le_refl _) _
 go_enter Tryz.func136,Tryz.ntmps136
 go_upto_region 1 with fail
 generalize w.alloc (.cells #[.int .i64 4,.string n,.int .i64 a,.int .i64 b,.int .i64 c,.string o,.slice ra rn rc] 101)=W0 at *
 have xc0:W0.cell? ⟨w.heap.size,0,none⟩=some (.int .i64 4):=k0.cell 0
 have xc1:W0.cell? ⟨w.heap.size,1,none⟩=some (.string n):=k0.cell 1
 have xc2:W0.cell? ⟨w.heap.size,2,none⟩=some (.int .i64 a):=k0.cell 2
 have xc3:W0.cell? ⟨w.heap.size,3,none⟩=some (.int .i64 b):=k0.cell 3
 have xc4:W0.cell? ⟨w.heap.size,4,none⟩=some (.int .i64 c):=k0.cell 4
 have xc5:W0.cell? ⟨w.heap.size,5,none⟩=some (.string o):=k0.cell 5
 have xc6:W0.cell? ⟨w.heap.size,6,none⟩=some (.slice ra rn rc):=k0.cell 6
 have HB:=Lib.hid hb0
 clear k0 hb0
 have HWI:Hid (Calls Tryz.prog 209 #[.int .i64 4,.int .i64 1,.int .i64 4] W0 fun e w'=>e=.returned (.bool true)/\W0=w'):=(within_any 4 1 4 W0).mono fun e w' ⟨h1,h2⟩=>⟨by rw [h1];rfl,h2⟩
 go_wp2_with fail
 refine HWI.out.mono ?_
 rintro e w1 ⟨rfl,hwx⟩
 subst hwx
 clear HWI
 go_wp2_with fail
 refine (refn_yes n W0 hn).mono ?_
 rintro e w1 ⟨rfl,hwx⟩
 subst hwx
 have he1:o.toList.isEmpty=false:=bytes_not_empty ho
 have he2:(o.toList == [])=false:=by rw [beq_eq_false_iff_ne];intro h;rw [h] at he1;cases he1
 go_wp2
 go_ret
 exact ⟨rfl,HB.out⟩
theorem rlc_rg1 (n:ByteArray) (a b c:Int) (ra:Option Addr) (rn rc:Nat) (w:World) (hn:NameOk n) (hr:0<rn) :
  Calls Tryz.prog 136 #[.agg #[.int .i64 1,.string n,.int .i64 a,.int .i64 b,.int .i64 c,.string ⟨#[]⟩,.slice ra rn rc]] w fun e w'=>e=.returned (.int .i64 (1))/\Below w.heap.size w w':=by
 have k0:=Blk.new w 101 #[.int .i64 1,.string n,.int .i64 a,.int .i64 b,.int .i64 c,.string ⟨#[]⟩,.slice ra rn rc]
 have hb0:Below w.heap.size w (w.alloc (.cells #[.int .i64 1,.string n,.int .i64 a,.int .i64 b,.int .i64 c,.string ⟨#[]⟩,.slice ra rn rc] 101)):=(Below.refl _ w).alloc (Nat.le_refl _) _
 go_enter Tryz.func136,Tryz.ntmps136
 go_upto_region 1 with fail
 generalize w.alloc (.cells #[.int .i64 1,.string n,.int .i64 a,.int .i64 b,.int .i64 c,.string ⟨#[]⟩,.slice ra rn rc] 101)=W0 at *
 have xc0:W0.cell? ⟨w.heap.size,0,none⟩=some (.int .i64 1):=k0.cell 0
 have xc1:W0.cell? ⟨w.heap.size,1,none⟩=some (.string n):=k0.cell 1
 have xc2:W0.cell? ⟨w.heap.size,2,none⟩=some (.int .i64 a):=k0.cell 2
 have xc3:W0.cell? ⟨w.heap.size,3,none⟩=some (.int .i64 b):=k0.cell 3
 have xc4:W0.cell? ⟨w.heap.size,4,none⟩=some (.int .i64 c):=k0.cell 4
 have xc5:W0.cell? ⟨w.heap.size,5,none⟩=some (.string ⟨#[]⟩):=k0.cell 5
 have xc6:W0.cell? ⟨w.heap.size,6,none⟩=some (.slice ra rn rc):=k0.cell 6
 have HB:=Lib.hid hb0
 clear k0 hb0
 have HWI:Hid (Calls Tryz.prog 209 #[.int .i64 1,.int .i64 1,.int .i64 4] W0 fun e w'=>e=.returned (.bool true)/\W0=w'):=(within_any 1 1 4 W0).mono fun e w' ⟨h1,h2⟩=>⟨by rw [h1];rfl,h2⟩
 go_wp2_with fail
 refine HWI.out.mono ?_
 rintro e w1 ⟨rfl,hwx⟩
 subst hwx
 clear HWI
 go_wp2_with fail
 refine (refn_yes n W0 hn).mono ?_
 rintro e w1 ⟨rfl,hwx⟩
 subst hwx
 have hr2:(0:Int)<(rn:Int):=by omega
 go_wp2
 go_ret
 exact ⟨rfl,HB.out⟩
theorem rlc_ok1 (n:ByteArray) (a b c:Int) (ra:Option Addr) (rc:Nat) (w:World) (hn:NameOk n) :
  Calls Tryz.prog 136 #[.agg #[.int .i64 1,.string n,.int .i64 a,.int .i64 b,.int .i64 c,.string ⟨#[]⟩,.slice ra 0 rc]] w fun e w'=>e=.returned (.int .i64 (if InV a b c then 0 else 2))/\Below w.heap.size w w':=by
 have k0:=Blk.new w 101 #[.int .i64 1,.string n,.int .i64 a,.int .i64 b,.int .i64 c,.string ⟨#[]⟩,.slice ra 0 rc]
 have hb0:Below w.heap.size w (w.alloc (.cells #[.int .i64 1,.string n,.int .i64 a,.int .i64 b,.int .i64 c,.string ⟨#[]⟩,.slice ra 0 rc] 101)):=(Below.refl _ w).alloc (Nat.le_refl _) _
 obtain ⟨Z,hZ⟩:∃ Z:Int,(if InV a b c then (0:Int) else 2)=Z:=⟨_,rfl⟩
 rw [hZ]
 have HZ:=Lib.hid hZ
 clear hZ
 go_enter Tryz.func136,Tryz.ntmps136
 go_upto_region 1 with fail
 generalize w.alloc (.cells #[.int .i64 1,.string n,.int .i64 a,.int .i64 b,.int .i64 c,.string ⟨#[]⟩,.slice ra 0 rc] 101)=W0 at *
 have xc0:W0.cell? ⟨w.heap.size,0,none⟩=some (.int .i64 1):=k0.cell 0
 have xc1:W0.cell? ⟨w.heap.size,1,none⟩=some (.string n):=k0.cell 1
 have xc2:W0.cell? ⟨w.heap.size,2,none⟩=some (.int .i64 a):=k0.cell 2
 have xc3:W0.cell? ⟨w.heap.size,3,none⟩=some (.int .i64 b):=k0.cell 3
 have xc4:W0.cell? ⟨w.heap.size,4,none⟩=some (.int .i64 c):=k0.cell 4
 have xc5:W0.cell? ⟨w.heap.size,5,none⟩=some (.string ⟨#[]⟩):=k0.cell 5
 have xc6:W0.cell? ⟨w.heap.size,6,none⟩=some (.slice ra 0 rc):=k0.cell 6
 have HB:=Lib.hid hb0
 clear k0 hb0
 have HWI:Hid (Calls Tryz.prog 209 #[.int .i64 1,.int .i64 1,.int .i64 4] W0 fun e w'=>e=.returned (.bool true)/\W0=w'):=(within_any 1 1 4 W0).mono fun e w' ⟨h1,h2⟩=>⟨by rw [h1];rfl,h2⟩
 go_wp2_with fail
 refine HWI.out.mono ?_
 rintro e w1 ⟨rfl,hwx⟩
 subst hwx
 clear HWI
 go_wp2_with fail
 refine (refn_yes n W0 hn).mono ?_
 rintro e w1 ⟨rfl,hwx⟩
 subst hwx
 go_wp2_with fail
 go_loopw [62] (fun kV wz=>wz=W0/\∃ k:Int,kV=.int .i64 k/\(k=0\/(k=1/\0<=a/\a<=999)\/(k=2/\(0<=a/\a<=999)/\0<=b/\b<=999)\/(k=3/\(0<=a/\a<=999)/\(0<=b/\b<=999)/\0<=c/\c<=999))) (fun kV _=>3 - (intOf kV).toNat)
 case atStart=>exact ⟨rfl,0,rfl,Or.inl rfl⟩
 case round =>
  obtain ⟨rfl,k,rfl,hk⟩:=hrel
  rcases hk with rfl | ⟨rfl,h1⟩ | ⟨rfl,h1,h2⟩ | ⟨rfl,h1,h2,h3⟩
  ·have hix:=ridx0 a b c wr
   go_wp2_with fail
   clear hix
   by_cases hv:0<=a/\a<=999
   ·have HWV:Hid (Calls Tryz.prog 209 #[.int .i64 a,.int .i64 0,.int .i64 999] wr fun e w'=>e=.returned (.bool true)/\wr=w'):=(within_any a 0 999 wr).mono fun e w' ⟨h1,h2⟩=>⟨by rw [h1,decide_eq_true hv],h2⟩
    have HV:=Lib.hid hv
    clear hv
    refine HWV.out.mono ?_
    rintro e w1 ⟨rfl,hwx⟩
    subst hwx
    clear HWV
    go_wp2
    go_roundw
    case rel=>exact ⟨trivial,1,by go_num,Or.inr (Or.inl ⟨rfl,HV.out⟩)⟩
    case measure=>simp [intOf]
   ·have HWV:Hid (Calls Tryz.prog 209 #[.int .i64 a,.int .i64 0,.int .i64 999] wr fun e w'=>e=.returned (.bool false)/\wr=w'):=(within_any a 0 999 wr).mono fun e w' ⟨h1,h2⟩=>⟨by rw [h1,decide_eq_false hv],h2⟩
    have HC:Hid (Z=2):=by show _=_;rw [<- HZ.out];exact if_neg (fun h=>hv h.1)
    clear hv HZ
    refine HWV.out.mono ?_
    rintro e w1 ⟨rfl,hwx⟩
    subst hwx
    clear HWV
    go_wp2
    go_ret
    exact ⟨by rw [HC.out];rfl,HB.out⟩
  ·have hix:=ridx1 a b c wr
   go_wp2_with fail
   clear hix
   by_cases hv:0<=b/\b<=999
   ·have HWV:Hid (Calls Tryz.prog 209 #[.int .i64 b,.int .i64 0,.int .i64 999] wr fun e w'=>e=.returned (.bool true)/\wr=w'):=(within_any b 0 999 wr).mono fun e w' ⟨h1,h2⟩=>⟨by rw [h1,decide_eq_true hv],h2⟩
    have HV:=Lib.hid hv
    clear hv
    refine HWV.out.mono ?_
    rintro e w1 ⟨rfl,hwx⟩
    subst hwx
    clear HWV
    go_wp2
    go_roundw
    case rel=>exact ⟨trivial,2,by go_num,Or.inr (Or.inr (Or.inl ⟨rfl,h1,HV.out⟩))⟩
    case measure=>simp [intOf]
   ·have HWV:Hid (Calls Tryz.prog 209 #[.int .i64 b,.int .i64 0,.int .i64 999] wr fun e w'=>e=.returned (.bool false)/\wr=w'):=(within_any b 0 999 wr).mono fun e w' ⟨h1,h2⟩=>⟨by rw [h1,decide_eq_false hv],h2⟩
    have HC:Hid (Z=2):=by show _=_;rw [<- HZ.out];exact if_neg (fun h=>hv h.2.1)
    clear hv HZ
    refine HWV.out.mono ?_
    rintro e w1 ⟨rfl,hwx⟩
    subst hwx
    clear HWV
    go_wp2
    go_ret
    exact ⟨by rw [HC.out];rfl,HB.out⟩
  ·have hix:=ridx2 a b c wr
   go_wp2_with fail
   clear hix
   by_cases hv:0<=c/\c<=999
   ·have HWV:Hid (Calls Tryz.prog 209 #[.int .i64 c,.int .i64 0,.int .i64 999] wr fun e w'=>e=.returned (.bool true)/\wr=w'):=(within_any c 0 999 wr).mono fun e w' ⟨h1,h2⟩=>⟨by rw [h1,decide_eq_true hv],h2⟩
    have HV:=Lib.hid hv
    clear hv
    refine HWV.out.mono ?_
    rintro e w1 ⟨rfl,hwx⟩
    subst hwx
    clear HWV
    go_wp2
    go_roundw
    case rel=>exact ⟨trivial,3,by go_num,Or.inr (Or.inr (Or.inr ⟨rfl,h1,h2,HV.out⟩))⟩
    case measure=>simp [intOf]
   ·have HWV:Hid (Calls Tryz.prog 209 #[.int .i64 c,.int .i64 0,.int .i64 999] wr fun e w'=>e=.returned (.bool false)/\wr=w'):=(within_any c 0 999 wr).mono fun e w' ⟨h1,h2⟩=>⟨by rw [h1,decide_eq_false hv],h2⟩
    have HC:Hid (Z=2):=by show _=_;rw [<- HZ.out];exact if_neg (fun h=>hv h.2.2)
    clear hv HZ
    refine HWV.out.mono ?_
    rintro e w1 ⟨rfl,hwx⟩
    subst hwx
    clear HWV
    go_wp2
    go_ret
    exact ⟨by rw [HC.out];rfl,HB.out⟩
  ·have HC:Hid (Z=0):=by show _=_;rw [<- HZ.out];exact if_pos ⟨h1,h2,h3⟩
   clear HZ h1 h2 h3
   go_wp2
   go_ret
   exact ⟨by rw [HC.out];rfl,HB.out⟩
theorem rlc_v4 (n:ByteArray) (a b c:Int) (ra:Option Addr) (rn rc:Nat) (w:World) (hn:NameOk n) (hz:(a == 0 && (b == 0 && c == 0))=false) :
  Calls Tryz.prog 136 #[.agg #[.int .i64 4,.string n,.int .i64 a,.int .i64 b,.int .i64 c,.string ⟨#[]⟩,.slice ra rn rc]] w fun e w'=>e=.returned (.int .i64 (1))/\Below w.heap.size w w':=by
 have k0:=Blk.new w 101 #[.int .i64 4,.string n,.int .i64 a,.int .i64 b,.int .i64 c,.string ⟨#[]⟩,.slice ra rn rc]
 have hb0:Below w.heap.size w (w.alloc (.cells #[.int .i64 4,.string n,.int .i64 a,.int .i64 b,.int .i64 c,.string ⟨#[]⟩,.slice ra rn rc] 101)):=(Below.refl _ w).alloc (Nat.le_refl _) _
 go_enter Tryz.func136,Tryz.ntmps136
 go_upto_region 1 with fail
 generalize w.alloc (.cells #[.int .i64 4,.string n,.int .i64 a,.int .i64 b,.int .i64 c,.string ⟨#[]⟩,.slice ra rn rc] 101)=W0 at *
 have xc0:W0.cell? ⟨w.heap.size,0,none⟩=some (.int .i64 4):=k0.cell 0
 have xc1:W0.cell? ⟨w.heap.size,1,none⟩=some (.string n):=k0.cell 1
 have xc2:W0.cell? ⟨w.heap.size,2,none⟩=some (.int .i64 a):=k0.cell 2
 have xc3:W0.cell? ⟨w.heap.size,3,none⟩=some (.int .i64 b):=k0.cell 3
 have xc4:W0.cell? ⟨w.heap.size,4,none⟩=some (.int .i64 c):=k0.cell 4
 have xc5:W0.cell? ⟨w.heap.size,5,none⟩=some (.string ⟨#[]⟩):=k0.cell 5
 have xc6:W0.cell? ⟨w.heap.size,6,none⟩=some (.slice ra rn rc):=k0.cell 6
 have HB:=Lib.hid hb0
 clear k0 hb0
 have HWI:Hid (Calls Tryz.prog 209 #[.int .i64 4,.int .i64 1,.int .i64 4] W0 fun e w'=>e=.returned (.bool true)/\W0=w'):=(within_any 4 1 4 W0).mono fun e w' ⟨h1,h2⟩=>⟨by rw [h1];rfl,h2⟩
 go_wp2_with fail
 refine HWI.out.mono ?_
 rintro e w1 ⟨rfl,hwx⟩
 subst hwx
 clear HWI
 go_wp2_with fail
 refine (refn_yes n W0 hn).mono ?_
 rintro e w1 ⟨rfl,hwx⟩
 subst hwx
 have h3:=eq3r a b c 0 0 0
 rw [hz] at h3
 go_wp2
 go_ret
 exact ⟨rfl,HB.out⟩
theorem rlc_ok4 (n:ByteArray) (a b c:Int) (ra:Option Addr) (rn rc:Nat) (w:World) (hn:NameOk n) (hz:(a == 0 && (b == 0 && c == 0))=true) :
  Calls Tryz.prog 136 #[.agg #[.int .i64 4,.string n,.int .i64 a,.int .i64 b,.int .i64 c,.string ⟨#[]⟩,.slice ra rn rc]] w fun e w'=>e=.returned (.int .i64 (if InV a b c then 0 else 2))/\Below w.heap.size w w':=by
 have k0:=Blk.new w 101 #[.int .i64 4,.string n,.int .i64 a,.int .i64 b,.int .i64 c,.string ⟨#[]⟩,.slice ra rn rc]
 have hb0:Below w.heap.size w (w.alloc (.cells #[.int .i64 4,.string n,.int .i64 a,.int .i64 b,.int .i64 c,.string ⟨#[]⟩,.slice ra rn rc] 101)):=(Below.refl _ w).alloc (Nat.le_refl _) _
 obtain ⟨Z,hZ⟩:∃ Z:Int,(if InV a b c then (0:Int) else 2)=Z:=⟨_,rfl⟩
 rw [hZ]
 have HZ:=Lib.hid hZ
 clear hZ
 go_enter Tryz.func136,Tryz.ntmps136
 go_upto_region 1 with fail
 generalize w.alloc (.cells #[.int .i64 4,.string n,.int .i64 a,.int .i64 b,.int .i64 c,.string ⟨#[]⟩,.slice ra rn rc] 101)=W0 at *
 have xc0:W0.cell? ⟨w.heap.size,0,none⟩=some (.int .i64 4):=k0.cell 0
 have xc1:W0.cell? ⟨w.heap.size,1,none⟩=some (.string n):=k0.cell 1
 have xc2:W0.cell? ⟨w.heap.size,2,none⟩=some (.int .i64 a):=k0.cell 2
 have xc3:W0.cell? ⟨w.heap.size,3,none⟩=some (.int .i64 b):=k0.cell 3
 have xc4:W0.cell? ⟨w.heap.size,4,none⟩=some (.int .i64 c):=k0.cell 4
 have xc5:W0.cell? ⟨w.heap.size,5,none⟩=some (.string ⟨#[]⟩):=k0.cell 5
 have xc6:W0.cell? ⟨w.heap.size,6,none⟩=some (.slice ra rn rc):=k0.cell 6
 have HB:=Lib.hid hb0
 clear k0 hb0
 have HWI:Hid (Calls Tryz.prog 209 #[.int .i64 4,.int .i64 1,.int .i64 4] W0 fun e w'=>e=.returned (.bool true)/\W0=w'):=(within_any 4 1 4 W0).mono fun e w' ⟨h1,h2⟩=>⟨by rw [h1];rfl,h2⟩
 go_wp2_with fail
 refine HWI.out.mono ?_
 rintro e w1 ⟨rfl,hwx⟩
 subst hwx
 clear HWI
 go_wp2_with fail
 refine (refn_yes n W0 hn).mono ?_
 rintro e w1 ⟨rfl,hwx⟩
 subst hwx
 have h3:=eq3r a b c 0 0 0
 rw [hz] at h3
 go_wp2_with fail
 clear h3
 go_loopw [62] (fun kV wz=>wz=W0/\∃ k:Int,kV=.int .i64 k/\(k=0\/(k=1/\0<=a/\a<=999)\/(k=2/\(0<=a/\a<=999)/\0<=b/\b<=999)\/(k=3/\(0<=a/\a<=999)/\(0<=b/\b<=999)/\0<=c/\c<=999))) (fun kV _=>3 - (intOf kV).toNat)
 case atStart=>exact ⟨rfl,0,rfl,Or.inl rfl⟩
 case round =>
  obtain ⟨rfl,k,rfl,hk⟩:=hrel
  rcases hk with rfl | ⟨rfl,h1⟩ | ⟨rfl,h1,h2⟩ | ⟨rfl,h1,h2,h3⟩
  ·have hix:=ridx0 a b c wr
   go_wp2_with fail
   clear hix
   by_cases hv:0<=a/\a<=999
   ·have HWV:Hid (Calls Tryz.prog 209 #[.int .i64 a,.int .i64 0,.int .i64 999] wr fun e w'=>e=.returned (.bool true)/\wr=w'):=(within_any a 0 999 wr).mono fun e w' ⟨h1,h2⟩=>⟨by rw [h1,decide_eq_true hv],h2⟩
    have HV:=Lib.hid hv
    clear hv
    refine HWV.out.mono ?_
    rintro e w1 ⟨rfl,hwx⟩
    subst hwx
    clear HWV
    go_wp2
    go_roundw
    case rel=>exact ⟨trivial,1,by go_num,Or.inr (Or.inl ⟨rfl,HV.out⟩)⟩
    case measure=>simp [intOf]
   ·have HWV:Hid (Calls Tryz.prog 209 #[.int .i64 a,.int .i64 0,.int .i64 999] wr fun e w'=>e=.returned (.bool false)/\wr=w'):=(within_any a 0 999 wr).mono fun e w' ⟨h1,h2⟩=>⟨by rw [h1,decide_eq_false hv],h2⟩
    have HC:Hid (Z=2):=by show _=_;rw [<- HZ.out];exact if_neg (fun h=>hv h.1)
    clear hv HZ
    refine HWV.out.mono ?_
    rintro e w1 ⟨rfl,hwx⟩
    subst hwx
    clear HWV
    go_wp2
    go_ret
    exact ⟨by rw [HC.out];rfl,HB.out⟩
  ·have hix:=ridx1 a b c wr
   go_wp2_with fail
   clear hix
   by_cases hv:0<=b/\b<=999
   ·have HWV:Hid (Calls Tryz.prog 209 #[.int .i64 b,.int .i64 0,.int .i64 999] wr fun e w'=>e=.returned (.bool true)/\wr=w'):=(within_any b 0 999 wr).mono fun e w' ⟨h1,h2⟩=>⟨by rw [h1,decide_eq_true hv],h2⟩
    have HV:=Lib.hid hv
    clear hv
    refine HWV.out.mono ?_
    rintro e w1 ⟨rfl,hwx⟩
    subst hwx
    clear HWV
    go_wp2
    go_roundw
    case rel=>exact ⟨trivial,2,by go_num,Or.inr (Or.inr (Or.inl ⟨rfl,h1,HV.out⟩))⟩
    case measure=>simp [intOf]
   ·have HWV:Hid (Calls Tryz.prog 209 #[.int .i64 b,.int .i64 0,.int .i64 999] wr fun e w'=>e=.returned (.bool false)/\wr=w'):=(within_any b 0 999 wr).mono fun e w' ⟨h1,h2⟩=>⟨by rw [h1,decide_eq_false hv],h2⟩
    have HC:Hid (Z=2):=by show _=_;rw [<- HZ.out];exact if_neg (fun h=>hv h.2.1)
    clear hv HZ
    refine HWV.out.mono ?_
    rintro e w1 ⟨rfl,hwx⟩
    subst hwx
    clear HWV
    go_wp2
    go_ret
    exact ⟨by rw [HC.out];rfl,HB.out⟩
  ·have hix:=ridx2 a b c wr
   go_wp2_with fail
   clear hix
   by_cases hv:0<=c/\c<=999
   ·have HWV:Hid (Calls Tryz.prog 209 #[.int .i64 c,.int .i64 0,.int .i64 999] wr fun e w'=>e=.returned (.bool true)/\wr=w'):=(within_any c 0 999 wr).mono fun e w' ⟨h1,h2⟩=>⟨by rw [h1,decide_eq_true hv],h2⟩
    have HV:=Lib.hid hv
    clear hv
    refine HWV.out.mono ?_
    rintro e w1 ⟨rfl,hwx⟩
    subst hwx
    clear HWV
    go_wp2
    go_roundw
    case rel=>exact ⟨trivial,3,by go_num,Or.inr (Or.inr (Or.inr ⟨rfl,h1,h2,HV.out⟩))⟩
    case measure=>simp [intOf]
   ·have HWV:Hid (Calls Tryz.prog 209 #[.int .i64 c,.int .i64 0,.int .i64 999] wr fun e w'=>e=.returned (.bool false)/\wr=w'):=(within_any c 0 999 wr).mono fun e w' ⟨h1,h2⟩=>⟨by rw [h1,decide_eq_false hv],h2⟩
    have HC:Hid (Z=2):=by show _=_;rw [<- HZ.out];exact if_neg (fun h=>hv h.2.2)
    clear hv HZ
    refine HWV.out.mono ?_
    rintro e w1 ⟨rfl,hwx⟩
    subst hwx
    clear HWV
    go_wp2
    go_ret
    exact ⟨by rw [HC.out];rfl,HB.out⟩
  ·have HC:Hid (Z=0):=by show _=_;rw [<- HZ.out];exact if_pos ⟨h1,h2,h3⟩
   clear HZ h1 h2 h3
   go_wp2
   go_ret
   exact ⟨by rw [HC.out];rfl,HB.out⟩
end Go.Proofs.YtiihalknffbjpaaGreatDoor
