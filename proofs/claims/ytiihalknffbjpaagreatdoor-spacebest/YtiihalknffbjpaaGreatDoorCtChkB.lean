/- check. -/
import Derived.Test.YtiihalknffbjpaaGreatDoorCtChk
set_option maxHeartbeats 2000000
set_option maxRecDepth 100000
namespace Go.Proofs.YtiihalknffbjpaaGreatDoor
open Go.RowKit Sv
theorem chk_low (k:Int) (n o:ByteArray) (a b c:Int) (ra:Option Addr) (rn rc:Nat) (w:World) (hk:k<1) :
  Calls Tryz.prog 263 #[.agg #[.int .i64 k,.string n,.int .i64 a,.int .i64 b,.int .i64 c,.string o,.slice ra rn rc]] w fun e w'=>e=.returned (.int .i64 1)/\Below w.heap.size w w':=by
 have k0:=Blk.new w 130 #[.int .i64 k,.string n,.int .i64 a,.int .i64 b,.int .i64 c,.string o,.slice ra rn rc]
 have hb0:Below w.heap.size w (w.alloc (.cells #[.int .i64 k,.string n,.int .i64 a,.int .i64 b,.int .i64 c,.string o,.slice ra rn rc] 130)):=(Below.refl _ w).alloc (Nat.le_refl _) _
 go_enter Tryz.func263,Tryz.ntmps263
 go_upto_region 1 with fail
 generalize w.alloc (.cells #[.int .i64 k,.string n,.int .i64 a,.int .i64 b,.int .i64 c,.string o,.slice ra rn rc] 130)=W0 at *
 have hk2:¬ (4:Int)<k:=by omega
 have xc0:W0.cell? ⟨w.heap.size,0,none⟩=some (.int .i64 k):=k0.cell 0
 have xc1:W0.cell? ⟨w.heap.size,1,none⟩=some (.string n):=k0.cell 1
 have xc2:W0.cell? ⟨w.heap.size,2,none⟩=some (.int .i64 a):=k0.cell 2
 have xc3:W0.cell? ⟨w.heap.size,3,none⟩=some (.int .i64 b):=k0.cell 3
 have xc4:W0.cell? ⟨w.heap.size,4,none⟩=some (.int .i64 c):=k0.cell 4
 have xc5:W0.cell? ⟨w.heap.size,5,none⟩=some (.string o):=k0.cell 5
 have xc6:W0.cell? ⟨w.heap.size,6,none⟩=some (.slice ra rn rc):=k0.cell 6
 have HB:=Lib.hid hb0
 clear k0 hb0
 go_wp2
 go_ret
 exact ⟨rfl,HB.out⟩
theorem chk_high (k:Int) (n o:ByteArray) (a b c:Int) (ra:Option Addr) (rn rc:Nat) (w:World) (hk:4<k) :
  Calls Tryz.prog 263 #[.agg #[.int .i64 k,.string n,.int .i64 a,.int .i64 b,.int .i64 c,.string o,.slice ra rn rc]] w fun e w'=>e=.returned (.int .i64 1)/\Below w.heap.size w w':=by
 have k0:=Blk.new w 130 #[.int .i64 k,.string n,.int .i64 a,.int .i64 b,.int .i64 c,.string o,.slice ra rn rc]
 have hb0:Below w.heap.size w (w.alloc (.cells #[.int .i64 k,.string n,.int .i64 a,.int .i64 b,.int .i64 c,.string o,.slice ra rn rc] 130)):=(Below.refl _ w).alloc (Nat.le_refl _) _
 go_enter Tryz.func263,Tryz.ntmps263
 go_upto_region 1 with fail
 generalize w.alloc (.cells #[.int .i64 k,.string n,.int .i64 a,.int .i64 b,.int .i64 c,.string o,.slice ra rn rc] 130)=W0 at *
 have hk2:¬ k<(1:Int):=by omega
 have xc0:W0.cell? ⟨w.heap.size,0,none⟩=some (.int .i64 k):=k0.cell 0
 have xc1:W0.cell? ⟨w.heap.size,1,none⟩=some (.string n):=k0.cell 1
 have xc2:W0.cell? ⟨w.heap.size,2,none⟩=some (.int .i64 a):=k0.cell 2
 have xc3:W0.cell? ⟨w.heap.size,3,none⟩=some (.int .i64 b):=k0.cell 3
 have xc4:W0.cell? ⟨w.heap.size,4,none⟩=some (.int .i64 c):=k0.cell 4
 have xc5:W0.cell? ⟨w.heap.size,5,none⟩=some (.string o):=k0.cell 5
 have xc6:W0.cell? ⟨w.heap.size,6,none⟩=some (.slice ra rn rc):=k0.cell 6
 have HB:=Lib.hid hb0
 clear k0 hb0
 go_wp2
 go_ret
 exact ⟨rfl,HB.out⟩
theorem chk_name1 (n o:ByteArray) (a b c:Int) (ra:Option Addr) (rn rc:Nat) (w:World) (hn:¬ NameOk n) :
  Calls Tryz.prog 263 #[.agg #[.int .i64 1,.string n,.int .i64 a,.int .i64 b,.int .i64 c,.string o,.slice ra rn rc]] w fun e w'=>e=.returned (.int .i64 5)/\Below w.heap.size w w':=by
 have k0:=Blk.new w 130 #[.int .i64 1,.string n,.int .i64 a,.int .i64 b,.int .i64 c,.string o,.slice ra rn rc]
 have hb0:Below w.heap.size w (w.alloc (.cells #[.int .i64 1,.string n,.int .i64 a,.int .i64 b,.int .i64 c,.string o,.slice ra rn rc] 130)):=(Below.refl _ w).alloc (Nat.le_refl _) _
 go_enter Tryz.func263,Tryz.ntmps263
 go_upto_region 1 with fail
 generalize w.alloc (.cells #[.int .i64 1,.string n,.int .i64 a,.int .i64 b,.int .i64 c,.string o,.slice ra rn rc] 130)=W0 at *
 have xc0:W0.cell? ⟨w.heap.size,0,none⟩=some (.int .i64 1):=k0.cell 0
 have xc1:W0.cell? ⟨w.heap.size,1,none⟩=some (.string n):=k0.cell 1
 have xc2:W0.cell? ⟨w.heap.size,2,none⟩=some (.int .i64 a):=k0.cell 2
 have xc3:W0.cell? ⟨w.heap.size,3,none⟩=some (.int .i64 b):=k0.cell 3
 have xc4:W0.cell? ⟨w.heap.size,4,none⟩=some (.int .i64 c):=k0.cell 4
 have xc5:W0.cell? ⟨w.heap.size,5,none⟩=some (.string o):=k0.cell 5
 have xc6:W0.cell? ⟨w.heap.size,6,none⟩=some (.slice ra rn rc):=k0.cell 6
 go_wp2_with fail
 clear xc0 xc1 xc2 xc3 xc4 xc5 xc6
 refine (name_no n W0 hn).mono ?_
 rintro e w1 ⟨rfl,hwx⟩
 subst hwx
 have HB:=Lib.hid hb0
 clear k0 hb0
 go_wp2
 go_ret
 exact ⟨rfl,HB.out⟩
theorem chk_name2 (n o:ByteArray) (a b c:Int) (ra:Option Addr) (rn rc:Nat) (w:World) (hn:¬ NameOk n) :
  Calls Tryz.prog 263 #[.agg #[.int .i64 2,.string n,.int .i64 a,.int .i64 b,.int .i64 c,.string o,.slice ra rn rc]] w fun e w'=>e=.returned (.int .i64 5)/\Below w.heap.size w w':=by
 have k0:=Blk.new w 130 #[.int .i64 2,.string n,.int .i64 a,.int .i64 b,.int .i64 c,.string o,.slice ra rn rc]
 have hb0:Below w.heap.size w (w.alloc (.cells #[.int .i64 2,.string n,.int .i64 a,.int .i64 b,.int .i64 c,.string o,.slice ra rn rc] 130)):=(Below.refl _ w).alloc (Nat.le_refl _) _
 go_enter Tryz.func263,Tryz.ntmps263
 go_upto_region 1 with fail
 generalize w.alloc (.cells #[.int .i64 2,.string n,.int .i64 a,.int .i64 b,.int .i64 c,.string o,.slice ra rn rc] 130)=W0 at *
 have xc0:W0.cell? ⟨w.heap.size,0,none⟩=some (.int .i64 2):=k0.cell 0
 have xc1:W0.cell? ⟨w.heap.size,1,none⟩=some (.string n):=k0.cell 1
 have xc2:W0.cell? ⟨w.heap.size,2,none⟩=some (.int .i64 a):=k0.cell 2
 have xc3:W0.cell? ⟨w.heap.size,3,none⟩=some (.int .i64 b):=k0.cell 3
 have xc4:W0.cell? ⟨w.heap.size,4,none⟩=some (.int .i64 c):=k0.cell 4
 have xc5:W0.cell? ⟨w.heap.size,5,none⟩=some (.string o):=k0.cell 5
 have xc6:W0.cell? ⟨w.heap.size,6,none⟩=some (.slice ra rn rc):=k0.cell 6
 go_wp2_with fail
 clear xc0 xc1 xc2 xc3 xc4 xc5 xc6
 refine (name_no n W0 hn).mono ?_
 rintro e w1 ⟨rfl,hwx⟩
 subst hwx
 have HB:=Lib.hid hb0
 clear k0 hb0
 go_wp2
 go_ret
 exact ⟨rfl,HB.out⟩
theorem chk_name3 (n o:ByteArray) (a b c:Int) (ra:Option Addr) (rn rc:Nat) (w:World) (hn:¬ NameOk n) :
  Calls Tryz.prog 263 #[.agg #[.int .i64 3,.string n,.int .i64 a,.int .i64 b,.int .i64 c,.string o,.slice ra rn rc]] w fun e w'=>e=.returned (.int .i64 5)/\Below w.heap.size w w':=by
 have k0:=Blk.new w 130 #[.int .i64 3,.string n,.int .i64 a,.int .i64 b,.int .i64 c,.string o,.slice ra rn rc]
 have hb0:Below w.heap.size w (w.alloc (.cells #[.int .i64 3,.string n,.int .i64 a,.int .i64 b,.int .i64 c,.string o,.slice ra rn rc] 130)):=(Below.refl _ w).alloc (Nat.le_refl _) _
 go_enter Tryz.func263,Tryz.ntmps263
 go_upto_region 1 with fail
 generalize w.alloc (.cells #[.int .i64 3,.string n,.int .i64 a,.int .i64 b,.int .i64 c,.string o,.slice ra rn rc] 130)=W0 at *
 have xc0:W0.cell? ⟨w.heap.size,0,none⟩=some (.int .i64 3):=k0.cell 0
 have xc1:W0.cell? ⟨w.heap.size,1,none⟩=some (.string n):=k0.cell 1
 have xc2:W0.cell? ⟨w.heap.size,2,none⟩=some (.int .i64 a):=k0.cell 2
 have xc3:W0.cell? ⟨w.heap.size,3,none⟩=some (.int .i64 b):=k0.cell 3
 have xc4:W0.cell? ⟨w.heap.size,4,none⟩=some (.int .i64 c):=k0.cell 4
 have xc5:W0.cell? ⟨w.heap.size,5,none⟩=some (.string o):=k0.cell 5
 have xc6:W0.cell? ⟨w.heap.size,6,none⟩=some (.slice ra rn rc):=k0.cell 6
 go_wp2_with fail
 clear xc0 xc1 xc2 xc3 xc4 xc5 xc6
 refine (name_no n W0 hn).mono ?_
 rintro e w1 ⟨rfl,hwx⟩
 subst hwx
 have HB:=Lib.hid hb0
 clear k0 hb0
 go_wp2
 go_ret
 exact ⟨rfl,HB.out⟩
theorem chk_name4 (n o:ByteArray) (a b c:Int) (ra:Option Addr) (rn rc:Nat) (w:World) (hn:¬ NameOk n) :
  Calls Tryz.prog 263 #[.agg #[.int .i64 4,.string n,.int .i64 a,.int .i64 b,.int .i64 c,.string o,.slice ra rn rc]] w fun e w'=>e=.returned (.int .i64 5)/\Below w.heap.size w w':=by
 have k0:=Blk.new w 130 #[.int .i64 4,.string n,.int .i64 a,.int .i64 b,.int .i64 c,.string o,.slice ra rn rc]
 have hb0:Below w.heap.size w (w.alloc (.cells #[.int .i64 4,.string n,.int .i64 a,.int .i64 b,.int .i64 c,.string o,.slice ra rn rc] 130)):=(Below.refl _ w).alloc (Nat.le_refl _) _
 go_enter Tryz.func263,Tryz.ntmps263
 go_upto_region 1 with fail
 generalize w.alloc (.cells #[.int .i64 4,.string n,.int .i64 a,.int .i64 b,.int .i64 c,.string o,.slice ra rn rc] 130)=W0 at *
 have xc0:W0.cell? ⟨w.heap.size,0,none⟩=some (.int .i64 4):=k0.cell 0
 have xc1:W0.cell? ⟨w.heap.size,1,none⟩=some (.string n):=k0.cell 1
 have xc2:W0.cell? ⟨w.heap.size,2,none⟩=some (.int .i64 a):=k0.cell 2
 have xc3:W0.cell? ⟨w.heap.size,3,none⟩=some (.int .i64 b):=k0.cell 3
 have xc4:W0.cell? ⟨w.heap.size,4,none⟩=some (.int .i64 c):=k0.cell 4
 have xc5:W0.cell? ⟨w.heap.size,5,none⟩=some (.string o):=k0.cell 5
 have xc6:W0.cell? ⟨w.heap.size,6,none⟩=some (.slice ra rn rc):=k0.cell 6
 go_wp2_with fail
 clear xc0 xc1 xc2 xc3 xc4 xc5 xc6
 refine (name_no n W0 hn).mono ?_
 rintro e w1 ⟨rfl,hwx⟩
 subst hwx
 have HB:=Lib.hid hb0
 clear k0 hb0
 go_wp2
 go_ret
 exact ⟨rfl,HB.out⟩
theorem chk_other2 (n o:ByteArray) (a b c:Int) (ra:Option Addr) (rn rc:Nat) (w:World) (hn:NameOk n) (ho:¬ NameOk o) :
  Calls Tryz.prog 263 #[.agg #[.int .i64 2,.string n,.int .i64 a,.int .i64 b,.int .i64 c,.string o,.slice ra rn rc]] w fun e w'=>e=.returned (.int .i64 5)/\Below w.heap.size w w':=by
 have k0:=Blk.new w 130 #[.int .i64 2,.string n,.int .i64 a,.int .i64 b,.int .i64 c,.string o,.slice ra rn rc]
 have hb0:Below w.heap.size w (w.alloc (.cells #[.int .i64 2,.string n,.int .i64 a,.int .i64 b,.int .i64 c,.string o,.slice ra rn rc] 130)):=(Below.refl _ w).alloc (Nat.le_refl _) _
 go_enter Tryz.func263,Tryz.ntmps263
 go_upto_region 1 with fail
 generalize w.alloc (.cells #[.int .i64 2,.string n,.int .i64 a,.int .i64 b,.int .i64 c,.string o,.slice ra rn rc] 130)=W0 at *
 have xc0:W0.cell? ⟨w.heap.size,0,none⟩=some (.int .i64 2):=k0.cell 0
 have xc1:W0.cell? ⟨w.heap.size,1,none⟩=some (.string n):=k0.cell 1
 have xc2:W0.cell? ⟨w.heap.size,2,none⟩=some (.int .i64 a):=k0.cell 2
 have xc3:W0.cell? ⟨w.heap.size,3,none⟩=some (.int .i64 b):=k0.cell 3
 have xc4:W0.cell? ⟨w.heap.size,4,none⟩=some (.int .i64 c):=k0.cell 4
 have xc5:W0.cell? ⟨w.heap.size,5,none⟩=some (.string o):=k0.cell 5
 have xc6:W0.cell? ⟨w.heap.size,6,none⟩=some (.slice ra rn rc):=k0.cell 6
 go_wp2_with fail
 clear xc0 xc1 xc2 xc3 xc4 xc5 xc6
 refine (name_yes n W0 hn).mono ?_
 rintro e w1 ⟨rfl,hwx⟩
 subst hwx
 have xc0:W0.cell? ⟨w.heap.size,0,none⟩=some (.int .i64 2):=k0.cell 0
 have xc1:W0.cell? ⟨w.heap.size,1,none⟩=some (.string n):=k0.cell 1
 have xc2:W0.cell? ⟨w.heap.size,2,none⟩=some (.int .i64 a):=k0.cell 2
 have xc3:W0.cell? ⟨w.heap.size,3,none⟩=some (.int .i64 b):=k0.cell 3
 have xc4:W0.cell? ⟨w.heap.size,4,none⟩=some (.int .i64 c):=k0.cell 4
 have xc5:W0.cell? ⟨w.heap.size,5,none⟩=some (.string o):=k0.cell 5
 have xc6:W0.cell? ⟨w.heap.size,6,none⟩=some (.slice ra rn rc):=k0.cell 6
 go_wp2_with fail
 clear xc0 xc1 xc2 xc3 xc4 xc5 xc6
 have HP1:Hid (Calls Tryz.prog 135 #[.agg #[.int .i64 2,.string n,.int .i64 a,.int .i64 b,.int .i64 c,.string o,.slice ra rn rc]] W0 fun e w'=>e=.returned (.bool true)/\w'=W0.alloc (.cells #[.int .i64 2,.string n,.int .i64 a,.int .i64 b,.int .i64 c,.string o,.slice ra rn rc] 130)):=pair_any ⟨2,n,a,b,c,o,[]⟩ (.slice ra rn rc) W0
 refine HP1.out.mono ?_
 rintro e w1 ⟨rfl,hwx⟩
 have hbx:Below W0.heap.size W0 w1:=by rw [hwx];exact (Below.refl _ _).alloc (Nat.le_refl _) _
 have k1:=k0.below hbx k0.lt
 have hb1:Below w.heap.size w w1:=hb0.trans (hbx.mono hb0.size)
 clear HP1 hwx hbx k0 hb0
 have xc0:w1.cell? ⟨w.heap.size,0,none⟩=some (.int .i64 2):=k1.cell 0
 have xc1:w1.cell? ⟨w.heap.size,1,none⟩=some (.string n):=k1.cell 1
 have xc2:w1.cell? ⟨w.heap.size,2,none⟩=some (.int .i64 a):=k1.cell 2
 have xc3:w1.cell? ⟨w.heap.size,3,none⟩=some (.int .i64 b):=k1.cell 3
 have xc4:w1.cell? ⟨w.heap.size,4,none⟩=some (.int .i64 c):=k1.cell 4
 have xc5:w1.cell? ⟨w.heap.size,5,none⟩=some (.string o):=k1.cell 5
 have xc6:w1.cell? ⟨w.heap.size,6,none⟩=some (.slice ra rn rc):=k1.cell 6
 go_wp2_with fail
 clear xc0 xc1 xc2 xc3 xc4 xc5 xc6
 refine (name_no o w1 ho).mono ?_
 rintro e w2 ⟨rfl,hwx⟩
 subst hwx
 have HB:=Lib.hid hb1
 clear k1 hb1
 go_wp2
 go_ret
 exact ⟨rfl,HB.out⟩
theorem chk_other3 (n o:ByteArray) (a b c:Int) (ra:Option Addr) (rn rc:Nat) (w:World) (hn:NameOk n) (ho:¬ NameOk o) :
  Calls Tryz.prog 263 #[.agg #[.int .i64 3,.string n,.int .i64 a,.int .i64 b,.int .i64 c,.string o,.slice ra rn rc]] w fun e w'=>e=.returned (.int .i64 5)/\Below w.heap.size w w':=by
 have k0:=Blk.new w 130 #[.int .i64 3,.string n,.int .i64 a,.int .i64 b,.int .i64 c,.string o,.slice ra rn rc]
 have hb0:Below w.heap.size w (w.alloc (.cells #[.int .i64 3,.string n,.int .i64 a,.int .i64 b,.int .i64 c,.string o,.slice ra rn rc] 130)):=(Below.refl _ w).alloc (Nat.le_refl _) _
 go_enter Tryz.func263,Tryz.ntmps263
 go_upto_region 1 with fail
 generalize w.alloc (.cells #[.int .i64 3,.string n,.int .i64 a,.int .i64 b,.int .i64 c,.string o,.slice ra rn rc] 130)=W0 at *
 have xc0:W0.cell? ⟨w.heap.size,0,none⟩=some (.int .i64 3):=k0.cell 0
 have xc1:W0.cell? ⟨w.heap.size,1,none⟩=some (.string n):=k0.cell 1
 have xc2:W0.cell? ⟨w.heap.size,2,none⟩=some (.int .i64 a):=k0.cell 2
 have xc3:W0.cell? ⟨w.heap.size,3,none⟩=some (.int .i64 b):=k0.cell 3
 have xc4:W0.cell? ⟨w.heap.size,4,none⟩=some (.int .i64 c):=k0.cell 4
 have xc5:W0.cell? ⟨w.heap.size,5,none⟩=some (.string o):=k0.cell 5
 have xc6:W0.cell? ⟨w.heap.size,6,none⟩=some (.slice ra rn rc):=k0.cell 6
 go_wp2_with fail
 clear xc0 xc1 xc2 xc3 xc4 xc5 xc6
 refine (name_yes n W0 hn).mono ?_
 rintro e w1 ⟨rfl,hwx⟩
 subst hwx
 have xc0:W0.cell? ⟨w.heap.size,0,none⟩=some (.int .i64 3):=k0.cell 0
 have xc1:W0.cell? ⟨w.heap.size,1,none⟩=some (.string n):=k0.cell 1
 have xc2:W0.cell? ⟨w.heap.size,2,none⟩=some (.int .i64 a):=k0.cell 2
 have xc3:W0.cell? ⟨w.heap.size,3,none⟩=some (.int .i64 b):=k0.cell 3
 have xc4:W0.cell? ⟨w.heap.size,4,none⟩=some (.int .i64 c):=k0.cell 4
 have xc5:W0.cell? ⟨w.heap.size,5,none⟩=some (.string o):=k0.cell 5
 have xc6:W0.cell? ⟨w.heap.size,6,none⟩=some (.slice ra rn rc):=k0.cell 6
 go_wp2_with fail
 clear xc0 xc1 xc2 xc3 xc4 xc5 xc6
 have HP1:Hid (Calls Tryz.prog 135 #[.agg #[.int .i64 3,.string n,.int .i64 a,.int .i64 b,.int .i64 c,.string o,.slice ra rn rc]] W0 fun e w'=>e=.returned (.bool true)/\w'=W0.alloc (.cells #[.int .i64 3,.string n,.int .i64 a,.int .i64 b,.int .i64 c,.string o,.slice ra rn rc] 130)):=pair_any ⟨3,n,a,b,c,o,[]⟩ (.slice ra rn rc) W0
 refine HP1.out.mono ?_
 rintro e w1 ⟨rfl,hwx⟩
 have hbx:Below W0.heap.size W0 w1:=by rw [hwx];exact (Below.refl _ _).alloc (Nat.le_refl _) _
 have k1:=k0.below hbx k0.lt
 have hb1:Below w.heap.size w w1:=hb0.trans (hbx.mono hb0.size)
 clear HP1 hwx hbx k0 hb0
 have xc0:w1.cell? ⟨w.heap.size,0,none⟩=some (.int .i64 3):=k1.cell 0
 have xc1:w1.cell? ⟨w.heap.size,1,none⟩=some (.string n):=k1.cell 1
 have xc2:w1.cell? ⟨w.heap.size,2,none⟩=some (.int .i64 a):=k1.cell 2
 have xc3:w1.cell? ⟨w.heap.size,3,none⟩=some (.int .i64 b):=k1.cell 3
 have xc4:w1.cell? ⟨w.heap.size,4,none⟩=some (.int .i64 c):=k1.cell 4
 have xc5:w1.cell? ⟨w.heap.size,5,none⟩=some (.string o):=k1.cell 5
 have xc6:w1.cell? ⟨w.heap.size,6,none⟩=some (.slice ra rn rc):=k1.cell 6
 go_wp2_with fail
 clear xc0 xc1 xc2 xc3 xc4 xc5 xc6
 refine (name_no o w1 ho).mono ?_
 rintro e w2 ⟨rfl,hwx⟩
 subst hwx
 have HB:=Lib.hid hb1
 clear k1 hb1
 go_wp2
 go_ret
 exact ⟨rfl,HB.out⟩
theorem chk_pair2 (n o:ByteArray) (a b c:Int) (ra:Option Addr) (rn rc:Nat) (w:World) (hn:NameOk n) (ho:NameOk o) :
  Calls Tryz.prog 263 #[.agg #[.int .i64 2,.string n,.int .i64 a,.int .i64 b,.int .i64 c,.string o,.slice ra rn rc]] w fun e w'=>e=.returned (.int .i64 (if InV a b c then (0:Int) else 2))/\Below w.heap.size w w':=by
 obtain ⟨Z,hZ⟩:∃ Z:Int,(if InV a b c then (0:Int) else 2)=Z:=⟨_,rfl⟩
 rw [hZ]
 have HZ:=Lib.hid hZ
 clear hZ
 have k0:=Blk.new w 130 #[.int .i64 2,.string n,.int .i64 a,.int .i64 b,.int .i64 c,.string o,.slice ra rn rc]
 have hb0:Below w.heap.size w (w.alloc (.cells #[.int .i64 2,.string n,.int .i64 a,.int .i64 b,.int .i64 c,.string o,.slice ra rn rc] 130)):=(Below.refl _ w).alloc (Nat.le_refl _) _
 go_enter Tryz.func263,Tryz.ntmps263
 go_upto_region 1 with fail
 generalize w.alloc (.cells #[.int .i64 2,.string n,.int .i64 a,.int .i64 b,.int .i64 c,.string o,.slice ra rn rc] 130)=W0 at *
 have xc0:W0.cell? ⟨w.heap.size,0,none⟩=some (.int .i64 2):=k0.cell 0
 have xc1:W0.cell? ⟨w.heap.size,1,none⟩=some (.string n):=k0.cell 1
 have xc2:W0.cell? ⟨w.heap.size,2,none⟩=some (.int .i64 a):=k0.cell 2
 have xc3:W0.cell? ⟨w.heap.size,3,none⟩=some (.int .i64 b):=k0.cell 3
 have xc4:W0.cell? ⟨w.heap.size,4,none⟩=some (.int .i64 c):=k0.cell 4
 have xc5:W0.cell? ⟨w.heap.size,5,none⟩=some (.string o):=k0.cell 5
 have xc6:W0.cell? ⟨w.heap.size,6,none⟩=some (.slice ra rn rc):=k0.cell 6
 go_wp2_with fail
 clear xc0 xc1 xc2 xc3 xc4 xc5 xc6
 refine (name_yes n W0 hn).mono ?_
 rintro e w1 ⟨rfl,hwx⟩
 subst hwx
 have xc0:W0.cell? ⟨w.heap.size,0,none⟩=some (.int .i64 2):=k0.cell 0
 have xc1:W0.cell? ⟨w.heap.size,1,none⟩=some (.string n):=k0.cell 1
 have xc2:W0.cell? ⟨w.heap.size,2,none⟩=some (.int .i64 a):=k0.cell 2
 have xc3:W0.cell? ⟨w.heap.size,3,none⟩=some (.int .i64 b):=k0.cell 3
 have xc4:W0.cell? ⟨w.heap.size,4,none⟩=some (.int .i64 c):=k0.cell 4
 have xc5:W0.cell? ⟨w.heap.size,5,none⟩=some (.string o):=k0.cell 5
 have xc6:W0.cell? ⟨w.heap.size,6,none⟩=some (.slice ra rn rc):=k0.cell 6
 go_wp2_with fail
 clear xc0 xc1 xc2 xc3 xc4 xc5 xc6
 have HP1:Hid (Calls Tryz.prog 135 #[.agg #[.int .i64 2,.string n,.int .i64 a,.int .i64 b,.int .i64 c,.string o,.slice ra rn rc]] W0 fun e w'=>e=.returned (.bool true)/\w'=W0.alloc (.cells #[.int .i64 2,.string n,.int .i64 a,.int .i64 b,.int .i64 c,.string o,.slice ra rn rc] 130)):=pair_any ⟨2,n,a,b,c,o,[]⟩ (.slice ra rn rc) W0
 refine HP1.out.mono ?_
 rintro e w1 ⟨rfl,hwx⟩
 have hbx:Below W0.heap.size W0 w1:=by rw [hwx];exact (Below.refl _ _).alloc (Nat.le_refl _) _
 have k1:=k0.below hbx k0.lt
 have hb1:Below w.heap.size w w1:=hb0.trans (hbx.mono hb0.size)
 clear HP1 hwx hbx k0 hb0
 have xc0:w1.cell? ⟨w.heap.size,0,none⟩=some (.int .i64 2):=k1.cell 0
 have xc1:w1.cell? ⟨w.heap.size,1,none⟩=some (.string n):=k1.cell 1
 have xc2:w1.cell? ⟨w.heap.size,2,none⟩=some (.int .i64 a):=k1.cell 2
 have xc3:w1.cell? ⟨w.heap.size,3,none⟩=some (.int .i64 b):=k1.cell 3
 have xc4:w1.cell? ⟨w.heap.size,4,none⟩=some (.int .i64 c):=k1.cell 4
 have xc5:w1.cell? ⟨w.heap.size,5,none⟩=some (.string o):=k1.cell 5
 have xc6:w1.cell? ⟨w.heap.size,6,none⟩=some (.slice ra rn rc):=k1.cell 6
 go_wp2_with fail
 clear xc0 xc1 xc2 xc3 xc4 xc5 xc6
 refine (name_yes o w1 ho).mono ?_
 rintro e w2 ⟨rfl,hwx⟩
 subst hwx
 have xc0:w1.cell? ⟨w.heap.size,0,none⟩=some (.int .i64 2):=k1.cell 0
 have xc1:w1.cell? ⟨w.heap.size,1,none⟩=some (.string n):=k1.cell 1
 have xc2:w1.cell? ⟨w.heap.size,2,none⟩=some (.int .i64 a):=k1.cell 2
 have xc3:w1.cell? ⟨w.heap.size,3,none⟩=some (.int .i64 b):=k1.cell 3
 have xc4:w1.cell? ⟨w.heap.size,4,none⟩=some (.int .i64 c):=k1.cell 4
 have xc5:w1.cell? ⟨w.heap.size,5,none⟩=some (.string o):=k1.cell 5
 have xc6:w1.cell? ⟨w.heap.size,6,none⟩=some (.slice ra rn rc):=k1.cell 6
 go_wp2_with fail
 clear xc0 xc1 xc2 xc3 xc4 xc5 xc6
 have HP2:Hid (Calls Tryz.prog 135 #[.agg #[.int .i64 2,.string n,.int .i64 a,.int .i64 b,.int .i64 c,.string o,.slice ra rn rc]] w1 fun e w'=>e=.returned (.bool true)/\w'=w1.alloc (.cells #[.int .i64 2,.string n,.int .i64 a,.int .i64 b,.int .i64 c,.string o,.slice ra rn rc] 130)):=pair_any ⟨2,n,a,b,c,o,[]⟩ (.slice ra rn rc) w1
 refine HP2.out.mono ?_
 rintro e w3 ⟨rfl,hwx⟩
 have hbx:Below w1.heap.size w1 w3:=by rw [hwx];exact (Below.refl _ _).alloc (Nat.le_refl _) _
 have k3:=k1.below hbx k1.lt
 have hb3:Below w.heap.size w w3:=hb1.trans (hbx.mono hb1.size)
 clear HP2 hwx hbx k1 hb1
 have xc0:w3.cell? ⟨w.heap.size,0,none⟩=some (.int .i64 2):=k3.cell 0
 have xc1:w3.cell? ⟨w.heap.size,1,none⟩=some (.string n):=k3.cell 1
 have xc2:w3.cell? ⟨w.heap.size,2,none⟩=some (.int .i64 a):=k3.cell 2
 have xc3:w3.cell? ⟨w.heap.size,3,none⟩=some (.int .i64 b):=k3.cell 3
 have xc4:w3.cell? ⟨w.heap.size,4,none⟩=some (.int .i64 c):=k3.cell 4
 have xc5:w3.cell? ⟨w.heap.size,5,none⟩=some (.string o):=k3.cell 5
 have xc6:w3.cell? ⟨w.heap.size,6,none⟩=some (.slice ra rn rc):=k3.cell 6
 go_upto_region 11 with fail
 clear xc0 xc1 xc2 xc3 xc4 xc5 xc6
 obtain ⟨q,hq⟩:∃ q,decide (InV a b c)=q:=⟨_,rfl⟩
 have HANY:Hid (∀ W',Calls Tryz.prog 259 #[] W' fun e w'=>∃ a' c',e=.returned (.agg #[.slice a' anyF.length c'])/\SpAt w' (.slice a' anyF.length c') anyF/\Below W'.heap.size W' w'):=fun W'=>(any_any W').mono fun e w' ⟨v',he,hs,hn,hb⟩=>by obtain ⟨a',c',rfl⟩:=hs.form;exact ⟨a',c',he,hs,hb⟩
 have HHAS:Hid (∀ va vc W',SpAt W' (.slice va anyF.length vc) anyF->Calls Tryz.prog 218 #[.agg #[.slice va anyF.length vc],.agg #[.int .i64 a,.int .i64 b,.int .i64 c]] W' fun e w'=>e=.returned (.bool q)/\Below W'.heap.size W' w'):=fun va vc W' h=>by rw [<- hq];exact anyhas va vc a b c W' h
 have HQ:=Lib.hid hq
 clear hq
 have hxl:=k3.lt
 have SC:Hid (∀ W',Below w3.heap.size w3 W'->W'.cell? ⟨w.heap.size,2,none⟩=some (.int .i64 a)/\W'.cell? ⟨w.heap.size,3,none⟩=some (.int .i64 b)/\W'.cell? ⟨w.heap.size,4,none⟩=some (.int .i64 c)):=fun W' h=>⟨(k3.below h hxl).cell 2,(k3.below h hxl).cell 3,(k3.below h hxl).cell 4⟩
 have HB0:=Lib.hid hb3
 clear k3 hb3 hxl
 have D0:Below w3.heap.size w3 w3.drew:=(Below.refl _ _).drew
 go_region_held3 (fun W'=>W'.cell? ⟨w.heap.size,2,none⟩=some (.int .i64 a)/\W'.cell? ⟨w.heap.size,3,none⟩=some (.int .i64 b)/\W'.cell? ⟨w.heap.size,4,none⟩=some (.int .i64 c)) (first | exact SC.out _ D0 | exact SC.out _ D1 | exact SC.out _ D2)
  (first
   | ((with_reducible refine (HANY.out _).mono ?_);rintro e x1 ⟨va,vc,rfl,hs1,hb1⟩;have D1:Below w3.heap.size w3 x1:=D0.trans (hb1.mono D0.size);clear HANY D0 hb1)
   | ((with_reducible refine (HHAS.out _ _ _ hs1).mono ?_);rintro e x2 ⟨rfl,hb2⟩;have D2:Below w3.heap.size w3 x2:=D1.trans (hb2.mono D1.size);clear HHAS D1 hb2 hs1))
 have HB:Hid (Below w.heap.size w x2):=HB0.out.trans (D2.mono HB0.out.size)
 clear D2 HB0 SC
 cases q with
 | true =>
  have HC:Hid (Z=0):=by have h:=HQ.out;show _=_;rw [<- HZ.out];exact if_pos (by simpa using h)
  go_wp2
  go_ret
  exact ⟨by rw [HC.out];rfl,HB.out⟩
 | false =>
  have HC:Hid (Z=2):=by have h:=HQ.out;show _=_;rw [<- HZ.out];exact if_neg (by simpa using h)
  go_wp2
  go_ret
  exact ⟨by rw [HC.out];rfl,HB.out⟩
theorem chk_pair3 (n o:ByteArray) (a b c:Int) (ra:Option Addr) (rn rc:Nat) (w:World) (hn:NameOk n) (ho:NameOk o) :
  Calls Tryz.prog 263 #[.agg #[.int .i64 3,.string n,.int .i64 a,.int .i64 b,.int .i64 c,.string o,.slice ra rn rc]] w fun e w'=>e=.returned (.int .i64 (if InV a b c then (0:Int) else 2))/\Below w.heap.size w w':=by
 obtain ⟨Z,hZ⟩:∃ Z:Int,(if InV a b c then (0:Int) else 2)=Z:=⟨_,rfl⟩
 rw [hZ]
 have HZ:=Lib.hid hZ
 clear hZ
 have k0:=Blk.new w 130 #[.int .i64 3,.string n,.int .i64 a,.int .i64 b,.int .i64 c,.string o,.slice ra rn rc]
 have hb0:Below w.heap.size w (w.alloc (.cells #[.int .i64 3,.string n,.int .i64 a,.int .i64 b,.int .i64 c,.string o,.slice ra rn rc] 130)):=(Below.refl _ w).alloc (Nat.le_refl _) _
 go_enter Tryz.func263,Tryz.ntmps263
 go_upto_region 1 with fail
 generalize w.alloc (.cells #[.int .i64 3,.string n,.int .i64 a,.int .i64 b,.int .i64 c,.string o,.slice ra rn rc] 130)=W0 at *
 have xc0:W0.cell? ⟨w.heap.size,0,none⟩=some (.int .i64 3):=k0.cell 0
 have xc1:W0.cell? ⟨w.heap.size,1,none⟩=some (.string n):=k0.cell 1
 have xc2:W0.cell? ⟨w.heap.size,2,none⟩=some (.int .i64 a):=k0.cell 2
 have xc3:W0.cell? ⟨w.heap.size,3,none⟩=some (.int .i64 b):=k0.cell 3
 have xc4:W0.cell? ⟨w.heap.size,4,none⟩=some (.int .i64 c):=k0.cell 4
 have xc5:W0.cell? ⟨w.heap.size,5,none⟩=some (.string o):=k0.cell 5
 have xc6:W0.cell? ⟨w.heap.size,6,none⟩=some (.slice ra rn rc):=k0.cell 6
 go_wp2_with fail
 clear xc0 xc1 xc2 xc3 xc4 xc5 xc6
 refine (name_yes n W0 hn).mono ?_
 rintro e w1 ⟨rfl,hwx⟩
 subst hwx
 have xc0:W0.cell? ⟨w.heap.size,0,none⟩=some (.int .i64 3):=k0.cell 0
 have xc1:W0.cell? ⟨w.heap.size,1,none⟩=some (.string n):=k0.cell 1
 have xc2:W0.cell? ⟨w.heap.size,2,none⟩=some (.int .i64 a):=k0.cell 2
 have xc3:W0.cell? ⟨w.heap.size,3,none⟩=some (.int .i64 b):=k0.cell 3
 have xc4:W0.cell? ⟨w.heap.size,4,none⟩=some (.int .i64 c):=k0.cell 4
 have xc5:W0.cell? ⟨w.heap.size,5,none⟩=some (.string o):=k0.cell 5
 have xc6:W0.cell? ⟨w.heap.size,6,none⟩=some (.slice ra rn rc):=k0.cell 6
 go_wp2_with fail
 clear xc0 xc1 xc2 xc3 xc4 xc5 xc6
 have HP1:Hid (Calls Tryz.prog 135 #[.agg #[.int .i64 3,.string n,.int .i64 a,.int .i64 b,.int .i64 c,.string o,.slice ra rn rc]] W0 fun e w'=>e=.returned (.bool true)/\w'=W0.alloc (.cells #[.int .i64 3,.string n,.int .i64 a,.int .i64 b,.int .i64 c,.string o,.slice ra rn rc] 130)):=pair_any ⟨3,n,a,b,c,o,[]⟩ (.slice ra rn rc) W0
 refine HP1.out.mono ?_
 rintro e w1 ⟨rfl,hwx⟩
 have hbx:Below W0.heap.size W0 w1:=by rw [hwx];exact (Below.refl _ _).alloc (Nat.le_refl _) _
 have k1:=k0.below hbx k0.lt
 have hb1:Below w.heap.size w w1:=hb0.trans (hbx.mono hb0.size)
 clear HP1 hwx hbx k0 hb0
 have xc0:w1.cell? ⟨w.heap.size,0,none⟩=some (.int .i64 3):=k1.cell 0
 have xc1:w1.cell? ⟨w.heap.size,1,none⟩=some (.string n):=k1.cell 1
 have xc2:w1.cell? ⟨w.heap.size,2,none⟩=some (.int .i64 a):=k1.cell 2
 have xc3:w1.cell? ⟨w.heap.size,3,none⟩=some (.int .i64 b):=k1.cell 3
 have xc4:w1.cell? ⟨w.heap.size,4,none⟩=some (.int .i64 c):=k1.cell 4
 have xc5:w1.cell? ⟨w.heap.size,5,none⟩=some (.string o):=k1.cell 5
 have xc6:w1.cell? ⟨w.heap.size,6,none⟩=some (.slice ra rn rc):=k1.cell 6
 go_wp2_with fail
 clear xc0 xc1 xc2 xc3 xc4 xc5 xc6
 refine (name_yes o w1 ho).mono ?_
 rintro e w2 ⟨rfl,hwx⟩
 subst hwx
 have xc0:w1.cell? ⟨w.heap.size,0,none⟩=some (.int .i64 3):=k1.cell 0
 have xc1:w1.cell? ⟨w.heap.size,1,none⟩=some (.string n):=k1.cell 1
 have xc2:w1.cell? ⟨w.heap.size,2,none⟩=some (.int .i64 a):=k1.cell 2
 have xc3:w1.cell? ⟨w.heap.size,3,none⟩=some (.int .i64 b):=k1.cell 3
 have xc4:w1.cell? ⟨w.heap.size,4,none⟩=some (.int .i64 c):=k1.cell 4
 have xc5:w1.cell? ⟨w.heap.size,5,none⟩=some (.string o):=k1.cell 5
 have xc6:w1.cell? ⟨w.heap.size,6,none⟩=some (.slice ra rn rc):=k1.cell 6
 go_wp2_with fail
 clear xc0 xc1 xc2 xc3 xc4 xc5 xc6
 have HP2:Hid (Calls Tryz.prog 135 #[.agg #[.int .i64 3,.string n,.int .i64 a,.int .i64 b,.int .i64 c,.string o,.slice ra rn rc]] w1 fun e w'=>e=.returned (.bool true)/\w'=w1.alloc (.cells #[.int .i64 3,.string n,.int .i64 a,.int .i64 b,.int .i64 c,.string o,.slice ra rn rc] 130)):=pair_any ⟨3,n,a,b,c,o,[]⟩ (.slice ra rn rc) w1
 refine HP2.out.mono ?_
 rintro e w3 ⟨rfl,hwx⟩
 have hbx:Below w1.heap.size w1 w3:=by rw [hwx];exact (Below.refl _ _).alloc (Nat.le_refl _) _
 have k3:=k1.below hbx k1.lt
 have hb3:Below w.heap.size w w3:=hb1.trans (hbx.mono hb1.size)
 clear HP2 hwx hbx k1 hb1
 have xc0:w3.cell? ⟨w.heap.size,0,none⟩=some (.int .i64 3):=k3.cell 0
 have xc1:w3.cell? ⟨w.heap.size,1,none⟩=some (.string n):=k3.cell 1
 have xc2:w3.cell? ⟨w.heap.size,2,none⟩=some (.int .i64 a):=k3.cell 2
 have xc3:w3.cell? ⟨w.heap.size,3,none⟩=some (.int .i64 b):=k3.cell 3
 have xc4:w3.cell? ⟨w.heap.size,4,none⟩=some (.int .i64 c):=k3.cell 4
 have xc5:w3.cell? ⟨w.heap.size,5,none⟩=some (.string o):=k3.cell 5
 have xc6:w3.cell? ⟨w.heap.size,6,none⟩=some (.slice ra rn rc):=k3.cell 6
 go_upto_region 11 with fail
 clear xc0 xc1 xc2 xc3 xc4 xc5 xc6
 obtain ⟨q,hq⟩:∃ q,decide (InV a b c)=q:=⟨_,rfl⟩
 have HANY:Hid (∀ W',Calls Tryz.prog 259 #[] W' fun e w'=>∃ a' c',e=.returned (.agg #[.slice a' anyF.length c'])/\SpAt w' (.slice a' anyF.length c') anyF/\Below W'.heap.size W' w'):=fun W'=>(any_any W').mono fun e w' ⟨v',he,hs,hn,hb⟩=>by obtain ⟨a',c',rfl⟩:=hs.form;exact ⟨a',c',he,hs,hb⟩
 have HHAS:Hid (∀ va vc W',SpAt W' (.slice va anyF.length vc) anyF->Calls Tryz.prog 218 #[.agg #[.slice va anyF.length vc],.agg #[.int .i64 a,.int .i64 b,.int .i64 c]] W' fun e w'=>e=.returned (.bool q)/\Below W'.heap.size W' w'):=fun va vc W' h=>by rw [<- hq];exact anyhas va vc a b c W' h
 have HQ:=Lib.hid hq
 clear hq
 have hxl:=k3.lt
 have SC:Hid (∀ W',Below w3.heap.size w3 W'->W'.cell? ⟨w.heap.size,2,none⟩=some (.int .i64 a)/\W'.cell? ⟨w.heap.size,3,none⟩=some (.int .i64 b)/\W'.cell? ⟨w.heap.size,4,none⟩=some (.int .i64 c)):=fun W' h=>⟨(k3.below h hxl).cell 2,(k3.below h hxl).cell 3,(k3.below h hxl).cell 4⟩
 have HB0:=Lib.hid hb3
 clear k3 hb3 hxl
 have D0:Below w3.heap.size w3 w3.drew:=(Below.refl _ _).drew
 go_region_held3 (fun W'=>W'.cell? ⟨w.heap.size,2,none⟩=some (.int .i64 a)/\W'.cell? ⟨w.heap.size,3,none⟩=some (.int .i64 b)/\W'.cell? ⟨w.heap.size,4,none⟩=some (.int .i64 c)) (first | exact SC.out _ D0 | exact SC.out _ D1 | exact SC.out _ D2)
  (first
   | ((with_reducible refine (HANY.out _).mono ?_);rintro e x1 ⟨va,vc,rfl,hs1,hb1⟩;have D1:Below w3.heap.size w3 x1:=D0.trans (hb1.mono D0.size);clear HANY D0 hb1)
   | ((with_reducible refine (HHAS.out _ _ _ hs1).mono ?_);rintro e x2 ⟨rfl,hb2⟩;have D2:Below w3.heap.size w3 x2:=D1.trans (hb2.mono D1.size);clear HHAS D1 hb2 hs1))
 have HB:Hid (Below w.heap.size w x2):=HB0.out.trans (D2.mono HB0.out.size)
 clear D2 HB0 SC
 cases q with
 | true =>
  have HC:Hid (Z=0):=by have h:=HQ.out;show _=_;rw [<- HZ.out];exact if_pos (by simpa using h)
  go_wp2
  go_ret
  exact ⟨by rw [HC.out];rfl,HB.out⟩
 | false =>
  have HC:Hid (Z=2):=by have h:=HQ.out;show _=_;rw [<- HZ.out];exact if_neg (by simpa using h)
  go_wp2
  go_ret
  exact ⟨by rw [HC.out];rfl,HB.out⟩
theorem chk_not1 (n o:ByteArray) (a b c:Int) (ra:Option Addr) (rn rc:Nat) (w:World) (hn:NameOk n) (ho:0<o.size) :
  Calls Tryz.prog 263 #[.agg #[.int .i64 1,.string n,.int .i64 a,.int .i64 b,.int .i64 c,.string o,.slice ra rn rc]] w fun e w'=>e=.returned (.int .i64 1)/\Below w.heap.size w w':=by
 have k0:=Blk.new w 130 #[.int .i64 1,.string n,.int .i64 a,.int .i64 b,.int .i64 c,.string o,.slice ra rn rc]
 have hb0:Below w.heap.size w (w.alloc (.cells #[.int .i64 1,.string n,.int .i64 a,.int .i64 b,.int .i64 c,.string o,.slice ra rn rc] 130)):=(Below.refl _ w).alloc (Nat.le_refl _) _
 go_enter Tryz.func263,Tryz.ntmps263
 go_upto_region 1 with fail
 generalize w.alloc (.cells #[.int .i64 1,.string n,.int .i64 a,.int .i64 b,.int .i64 c,.string o,.slice ra rn rc] 130)=W0 at *
 have xc0:W0.cell? ⟨w.heap.size,0,none⟩=some (.int .i64 1):=k0.cell 0
 have xc1:W0.cell? ⟨w.heap.size,1,none⟩=some (.string n):=k0.cell 1
 have xc2:W0.cell? ⟨w.heap.size,2,none⟩=some (.int .i64 a):=k0.cell 2
 have xc3:W0.cell? ⟨w.heap.size,3,none⟩=some (.int .i64 b):=k0.cell 3
 have xc4:W0.cell? ⟨w.heap.size,4,none⟩=some (.int .i64 c):=k0.cell 4
 have xc5:W0.cell? ⟨w.heap.size,5,none⟩=some (.string o):=k0.cell 5
 have xc6:W0.cell? ⟨w.heap.size,6,none⟩=some (.slice ra rn rc):=k0.cell 6
 go_wp2_with fail
 clear xc0 xc1 xc2 xc3 xc4 xc5 xc6
 refine (name_yes n W0 hn).mono ?_
 rintro e w1 ⟨rfl,hwx⟩
 subst hwx
 have xc0:W0.cell? ⟨w.heap.size,0,none⟩=some (.int .i64 1):=k0.cell 0
 have xc1:W0.cell? ⟨w.heap.size,1,none⟩=some (.string n):=k0.cell 1
 have xc2:W0.cell? ⟨w.heap.size,2,none⟩=some (.int .i64 a):=k0.cell 2
 have xc3:W0.cell? ⟨w.heap.size,3,none⟩=some (.int .i64 b):=k0.cell 3
 have xc4:W0.cell? ⟨w.heap.size,4,none⟩=some (.int .i64 c):=k0.cell 4
 have xc5:W0.cell? ⟨w.heap.size,5,none⟩=some (.string o):=k0.cell 5
 have xc6:W0.cell? ⟨w.heap.size,6,none⟩=some (.slice ra rn rc):=k0.cell 6
 go_wp2_with fail
 clear xc0 xc1 xc2 xc3 xc4 xc5 xc6
 have HP1:Hid (Calls Tryz.prog 135 #[.agg #[.int .i64 1,.string n,.int .i64 a,.int .i64 b,.int .i64 c,.string o,.slice ra rn rc]] W0 fun e w'=>e=.returned (.bool false)/\w'=W0.alloc (.cells #[.int .i64 1,.string n,.int .i64 a,.int .i64 b,.int .i64 c,.string o,.slice ra rn rc] 130)):=pair_any ⟨1,n,a,b,c,o,[]⟩ (.slice ra rn rc) W0
 refine HP1.out.mono ?_
 rintro e w1 ⟨rfl,hwx⟩
 have hbx:Below W0.heap.size W0 w1:=by rw [hwx];exact (Below.refl _ _).alloc (Nat.le_refl _) _
 have k1:=k0.below hbx k0.lt
 have hb1:Below w.heap.size w w1:=hb0.trans (hbx.mono hb0.size)
 clear HP1 hwx hbx k0 hb0
 have xc0:w1.cell? ⟨w.heap.size,0,none⟩=some (.int .i64 1):=k1.cell 0
 have xc1:w1.cell? ⟨w.heap.size,1,none⟩=some (.string n):=k1.cell 1
 have xc2:w1.cell? ⟨w.heap.size,2,none⟩=some (.int .i64 a):=k1.cell 2
 have xc3:w1.cell? ⟨w.heap.size,3,none⟩=some (.int .i64 b):=k1.cell 3
 have xc4:w1.cell? ⟨w.heap.size,4,none⟩=some (.int .i64 c):=k1.cell 4
 have xc5:w1.cell? ⟨w.heap.size,5,none⟩=some (.string o):=k1.cell 5
 have xc6:w1.cell? ⟨w.heap.size,6,none⟩=some (.slice ra rn rc):=k1.cell 6
 go_wp2_with fail
 clear xc0 xc1 xc2 xc3 xc4 xc5 xc6
 have HP2:Hid (Calls Tryz.prog 135 #[.agg #[.int .i64 1,.string n,.int .i64 a,.int .i64 b,.int .i64 c,.string o,.slice ra rn rc]] w1 fun e w'=>e=.returned (.bool false)/\w'=w1.alloc (.cells #[.int .i64 1,.string n,.int .i64 a,.int .i64 b,.int .i64 c,.string o,.slice ra rn rc] 130)):=pair_any ⟨1,n,a,b,c,o,[]⟩ (.slice ra rn rc) w1
 refine HP2.out.mono ?_
 rintro e w3 ⟨rfl,hwx⟩
 have hbx:Below w1.heap.size w1 w3:=by rw [hwx];exact (Below.refl _ _).alloc (Nat.le_refl _) _
 have k3:=k1.below hbx k1.lt
 have hb3:Below w.heap.size w w3:=hb1.trans (hbx.mono hb1.size)
 clear HP2 hwx hbx k1 hb1
 have he1:o.toList.isEmpty=false:=bytes_not_empty ho
 have he2:(o.toList == [])=false:=by rw [beq_eq_false_iff_ne];intro h;rw [h] at he1;cases he1
 have xc0:w3.cell? ⟨w.heap.size,0,none⟩=some (.int .i64 1):=k3.cell 0
 have xc1:w3.cell? ⟨w.heap.size,1,none⟩=some (.string n):=k3.cell 1
 have xc2:w3.cell? ⟨w.heap.size,2,none⟩=some (.int .i64 a):=k3.cell 2
 have xc3:w3.cell? ⟨w.heap.size,3,none⟩=some (.int .i64 b):=k3.cell 3
 have xc4:w3.cell? ⟨w.heap.size,4,none⟩=some (.int .i64 c):=k3.cell 4
 have xc5:w3.cell? ⟨w.heap.size,5,none⟩=some (.string o):=k3.cell 5
 have xc6:w3.cell? ⟨w.heap.size,6,none⟩=some (.slice ra rn rc):=k3.cell 6
 have HB:=Lib.hid hb3
 clear k3 hb3
 go_wp2
 go_ret
 exact ⟨rfl,HB.out⟩
theorem chk_not4 (n o:ByteArray) (a b c:Int) (ra:Option Addr) (rn rc:Nat) (w:World) (hn:NameOk n) (ho:0<o.size) :
  Calls Tryz.prog 263 #[.agg #[.int .i64 4,.string n,.int .i64 a,.int .i64 b,.int .i64 c,.string o,.slice ra rn rc]] w fun e w'=>e=.returned (.int .i64 1)/\Below w.heap.size w w':=by
 have k0:=Blk.new w 130 #[.int .i64 4,.string n,.int .i64 a,.int .i64 b,.int .i64 c,.string o,.slice ra rn rc]
 have hb0:Below w.heap.size w (w.alloc (.cells #[.int .i64 4,.string n,.int .i64 a,.int .i64 b,.int .i64 c,.string o,.slice ra rn rc] 130)):=(Below.refl _ w).alloc (Nat.le_refl _) _
 go_enter Tryz.func263,Tryz.ntmps263
 go_upto_region 1 with fail
 generalize w.alloc (.cells #[.int .i64 4,.string n,.int .i64 a,.int .i64 b,.int .i64 c,.string o,.slice ra rn rc] 130)=W0 at *
 have xc0:W0.cell? ⟨w.heap.size,0,none⟩=some (.int .i64 4):=k0.cell 0
 have xc1:W0.cell? ⟨w.heap.size,1,none⟩=some (.string n):=k0.cell 1
 have xc2:W0.cell? ⟨w.heap.size,2,none⟩=some (.int .i64 a):=k0.cell 2
 have xc3:W0.cell? ⟨w.heap.size,3,none⟩=some (.int .i64 b):=k0.cell 3
 have xc4:W0.cell? ⟨w.heap.size,4,none⟩=some (.int .i64 c):=k0.cell 4
 have xc5:W0.cell? ⟨w.heap.size,5,none⟩=some (.string o):=k0.cell 5
 have xc6:W0.cell? ⟨w.heap.size,6,none⟩=some (.slice ra rn rc):=k0.cell 6
 go_wp2_with fail
 clear xc0 xc1 xc2 xc3 xc4 xc5 xc6
 refine (name_yes n W0 hn).mono ?_
 rintro e w1 ⟨rfl,hwx⟩
 subst hwx
 have xc0:W0.cell? ⟨w.heap.size,0,none⟩=some (.int .i64 4):=k0.cell 0
 have xc1:W0.cell? ⟨w.heap.size,1,none⟩=some (.string n):=k0.cell 1
 have xc2:W0.cell? ⟨w.heap.size,2,none⟩=some (.int .i64 a):=k0.cell 2
 have xc3:W0.cell? ⟨w.heap.size,3,none⟩=some (.int .i64 b):=k0.cell 3
 have xc4:W0.cell? ⟨w.heap.size,4,none⟩=some (.int .i64 c):=k0.cell 4
 have xc5:W0.cell? ⟨w.heap.size,5,none⟩=some (.string o):=k0.cell 5
 have xc6:W0.cell? ⟨w.heap.size,6,none⟩=some (.slice ra rn rc):=k0.cell 6
 go_wp2_with fail
 clear xc0 xc1 xc2 xc3 xc4 xc5 xc6
 have HP1:Hid (Calls Tryz.prog 135 #[.agg #[.int .i64 4,.string n,.int .i64 a,.int .i64 b,.int .i64 c,.string o,.slice ra rn rc]] W0 fun e w'=>e=.returned (.bool false)/\w'=W0.alloc (.cells #[.int .i64 4,.string n,.int .i64 a,.int .i64 b,.int .i64 c,.string o,.slice ra rn rc] 130)):=pair_any ⟨4,n,a,b,c,o,[]⟩ (.slice ra rn rc) W0
 refine HP1.out.mono ?_
 rintro e w1 ⟨rfl,hwx⟩
 have hbx:Below W0.heap.size W0 w1:=by rw [hwx];exact (Below.refl _ _).alloc (Nat.le_refl _) _
 have k1:=k0.below hbx k0.lt
 have hb1:Below w.heap.size w w1:=hb0.trans (hbx.mono hb0.size)
 clear HP1 hwx hbx k0 hb0
 have xc0:w1.cell? ⟨w.heap.size,0,none⟩=some (.int .i64 4):=k1.cell 0
 have xc1:w1.cell? ⟨w.heap.size,1,none⟩=some (.string n):=k1.cell 1
 have xc2:w1.cell? ⟨w.heap.size,2,none⟩=some (.int .i64 a):=k1.cell 2
 have xc3:w1.cell? ⟨w.heap.size,3,none⟩=some (.int .i64 b):=k1.cell 3
 have xc4:w1.cell? ⟨w.heap.size,4,none⟩=some (.int .i64 c):=k1.cell 4
 have xc5:w1.cell? ⟨w.heap.size,5,none⟩=some (.string o):=k1.cell 5
 have xc6:w1.cell? ⟨w.heap.size,6,none⟩=some (.slice ra rn rc):=k1.cell 6
 go_wp2_with fail
 clear xc0 xc1 xc2 xc3 xc4 xc5 xc6
 have HP2:Hid (Calls Tryz.prog 135 #[.agg #[.int .i64 4,.string n,.int .i64 a,.int .i64 b,.int .i64 c,.string o,.slice ra rn rc]] w1 fun e w'=>e=.returned (.bool false)/\w'=w1.alloc (.cells #[.int .i64 4,.string n,.int .i64 a,.int .i64 b,.int .i64 c,.string o,.slice ra rn rc] 130)):=pair_any ⟨4,n,a,b,c,o,[]⟩ (.slice ra rn rc) w1
 refine HP2.out.mono ?_
 rintro e w3 ⟨rfl,hwx⟩
 have hbx:Below w1.heap.size w1 w3:=by rw [hwx];exact (Below.refl _ _).alloc (Nat.le_refl _) _
 have k3:=k1.below hbx k1.lt
 have hb3:Below w.heap.size w w3:=hb1.trans (hbx.mono hb1.size)
 clear HP2 hwx hbx k1 hb1
 have he1:o.toList.isEmpty=false:=bytes_not_empty ho
 have he2:(o.toList == [])=false:=by rw [beq_eq_false_iff_ne];intro h;rw [h] at he1;cases he1
 have xc0:w3.cell? ⟨w.heap.size,0,none⟩=some (.int .i64 4):=k3.cell 0
 have xc1:w3.cell? ⟨w.heap.size,1,none⟩=some (.string n):=k3.cell 1
 have xc2:w3.cell? ⟨w.heap.size,2,none⟩=some (.int .i64 a):=k3.cell 2
 have xc3:w3.cell? ⟨w.heap.size,3,none⟩=some (.int .i64 b):=k3.cell 3
 have xc4:w3.cell? ⟨w.heap.size,4,none⟩=some (.int .i64 c):=k3.cell 4
 have xc5:w3.cell? ⟨w.heap.size,5,none⟩=some (.string o):=k3.cell 5
 have xc6:w3.cell? ⟨w.heap.size,6,none⟩=some (.slice ra rn rc):=k3.cell 6
 have HB:=Lib.hid hb3
 clear k3 hb3
 go_wp2
 go_ret
 exact ⟨rfl,HB.out⟩
theorem chk_packR (n:ByteArray) (a b c:Int) (ra:Option Addr) (rn rc:Nat) (w:World) (hn:NameOk n) (hr:0<rn) :
  Calls Tryz.prog 263 #[.agg #[.int .i64 1,.string n,.int .i64 a,.int .i64 b,.int .i64 c,.string ⟨#[]⟩,.slice ra rn rc]] w fun e w'=>e=.returned (.int .i64 1)/\Below w.heap.size w w':=by
 have k0:=Blk.new w 130 #[.int .i64 1,.string n,.int .i64 a,.int .i64 b,.int .i64 c,.string ⟨#[]⟩,.slice ra rn rc]
 have hb0:Below w.heap.size w (w.alloc (.cells #[.int .i64 1,.string n,.int .i64 a,.int .i64 b,.int .i64 c,.string ⟨#[]⟩,.slice ra rn rc] 130)):=(Below.refl _ w).alloc (Nat.le_refl _) _
 go_enter Tryz.func263,Tryz.ntmps263
 go_upto_region 1 with fail
 generalize w.alloc (.cells #[.int .i64 1,.string n,.int .i64 a,.int .i64 b,.int .i64 c,.string ⟨#[]⟩,.slice ra rn rc] 130)=W0 at *
 have xc0:W0.cell? ⟨w.heap.size,0,none⟩=some (.int .i64 1):=k0.cell 0
 have xc1:W0.cell? ⟨w.heap.size,1,none⟩=some (.string n):=k0.cell 1
 have xc2:W0.cell? ⟨w.heap.size,2,none⟩=some (.int .i64 a):=k0.cell 2
 have xc3:W0.cell? ⟨w.heap.size,3,none⟩=some (.int .i64 b):=k0.cell 3
 have xc4:W0.cell? ⟨w.heap.size,4,none⟩=some (.int .i64 c):=k0.cell 4
 have xc5:W0.cell? ⟨w.heap.size,5,none⟩=some (.string ⟨#[]⟩):=k0.cell 5
 have xc6:W0.cell? ⟨w.heap.size,6,none⟩=some (.slice ra rn rc):=k0.cell 6
 go_wp2_with fail
 clear xc0 xc1 xc2 xc3 xc4 xc5 xc6
 refine (name_yes n W0 hn).mono ?_
 rintro e w1 ⟨rfl,hwx⟩
 subst hwx
 have xc0:W0.cell? ⟨w.heap.size,0,none⟩=some (.int .i64 1):=k0.cell 0
 have xc1:W0.cell? ⟨w.heap.size,1,none⟩=some (.string n):=k0.cell 1
 have xc2:W0.cell? ⟨w.heap.size,2,none⟩=some (.int .i64 a):=k0.cell 2
 have xc3:W0.cell? ⟨w.heap.size,3,none⟩=some (.int .i64 b):=k0.cell 3
 have xc4:W0.cell? ⟨w.heap.size,4,none⟩=some (.int .i64 c):=k0.cell 4
 have xc5:W0.cell? ⟨w.heap.size,5,none⟩=some (.string ⟨#[]⟩):=k0.cell 5
 have xc6:W0.cell? ⟨w.heap.size,6,none⟩=some (.slice ra rn rc):=k0.cell 6
 go_wp2_with fail
 clear xc0 xc1 xc2 xc3 xc4 xc5 xc6
 have HP1:Hid (Calls Tryz.prog 135 #[.agg #[.int .i64 1,.string n,.int .i64 a,.int .i64 b,.int .i64 c,.string ⟨#[]⟩,.slice ra rn rc]] W0 fun e w'=>e=.returned (.bool false)/\w'=W0.alloc (.cells #[.int .i64 1,.string n,.int .i64 a,.int .i64 b,.int .i64 c,.string ⟨#[]⟩,.slice ra rn rc] 130)):=pair_any ⟨1,n,a,b,c,⟨#[]⟩,[]⟩ (.slice ra rn rc) W0
 refine HP1.out.mono ?_
 rintro e w1 ⟨rfl,hwx⟩
 have hbx:Below W0.heap.size W0 w1:=by rw [hwx];exact (Below.refl _ _).alloc (Nat.le_refl _) _
 have k1:=k0.below hbx k0.lt
 have hb1:Below w.heap.size w w1:=hb0.trans (hbx.mono hb0.size)
 clear HP1 hwx hbx k0 hb0
 have xc0:w1.cell? ⟨w.heap.size,0,none⟩=some (.int .i64 1):=k1.cell 0
 have xc1:w1.cell? ⟨w.heap.size,1,none⟩=some (.string n):=k1.cell 1
 have xc2:w1.cell? ⟨w.heap.size,2,none⟩=some (.int .i64 a):=k1.cell 2
 have xc3:w1.cell? ⟨w.heap.size,3,none⟩=some (.int .i64 b):=k1.cell 3
 have xc4:w1.cell? ⟨w.heap.size,4,none⟩=some (.int .i64 c):=k1.cell 4
 have xc5:w1.cell? ⟨w.heap.size,5,none⟩=some (.string ⟨#[]⟩):=k1.cell 5
 have xc6:w1.cell? ⟨w.heap.size,6,none⟩=some (.slice ra rn rc):=k1.cell 6
 go_wp2_with fail
 clear xc0 xc1 xc2 xc3 xc4 xc5 xc6
 have HP2:Hid (Calls Tryz.prog 135 #[.agg #[.int .i64 1,.string n,.int .i64 a,.int .i64 b,.int .i64 c,.string ⟨#[]⟩,.slice ra rn rc]] w1 fun e w'=>e=.returned (.bool false)/\w'=w1.alloc (.cells #[.int .i64 1,.string n,.int .i64 a,.int .i64 b,.int .i64 c,.string ⟨#[]⟩,.slice ra rn rc] 130)):=pair_any ⟨1,n,a,b,c,⟨#[]⟩,[]⟩ (.slice ra rn rc) w1
 refine HP2.out.mono ?_
 rintro e w3 ⟨rfl,hwx⟩
 have hbx:Below w1.heap.size w1 w3:=by rw [hwx];exact (Below.refl _ _).alloc (Nat.le_refl _) _
 have k3:=k1.below hbx k1.lt
 have hb3:Below w.heap.size w w3:=hb1.trans (hbx.mono hb1.size)
 clear HP2 hwx hbx k1 hb1
 have xc0:w3.cell? ⟨w.heap.size,0,none⟩=some (.int .i64 1):=k3.cell 0
 have xc1:w3.cell? ⟨w.heap.size,1,none⟩=some (.string n):=k3.cell 1
 have xc2:w3.cell? ⟨w.heap.size,2,none⟩=some (.int .i64 a):=k3.cell 2
 have xc3:w3.cell? ⟨w.heap.size,3,none⟩=some (.int .i64 b):=k3.cell 3
 have xc4:w3.cell? ⟨w.heap.size,4,none⟩=some (.int .i64 c):=k3.cell 4
 have xc5:w3.cell? ⟨w.heap.size,5,none⟩=some (.string ⟨#[]⟩):=k3.cell 5
 have xc6:w3.cell? ⟨w.heap.size,6,none⟩=some (.slice ra rn rc):=k3.cell 6
 go_wp2_with fail
 clear xc0 xc1 xc2 xc3 xc4 xc5 xc6
 have HE:Hid (Calls Tryz.prog 276 #[.agg #[.slice ra rn rc]] w3 fun e w'=>e=.returned (.bool false)/\Below w3.heap.size w3 w'):=empty_no ra rn rc w3 hr
 refine HE.out.mono ?_
 rintro e w4 ⟨rfl,hbx⟩
 have k4:=k3.below hbx k3.lt
 have hb4:Below w.heap.size w w4:=hb3.trans (hbx.mono hb3.size)
 clear HE hbx k3 hb3
 have xc0:w4.cell? ⟨w.heap.size,0,none⟩=some (.int .i64 1):=k4.cell 0
 have xc1:w4.cell? ⟨w.heap.size,1,none⟩=some (.string n):=k4.cell 1
 have xc2:w4.cell? ⟨w.heap.size,2,none⟩=some (.int .i64 a):=k4.cell 2
 have xc3:w4.cell? ⟨w.heap.size,3,none⟩=some (.int .i64 b):=k4.cell 3
 have xc4:w4.cell? ⟨w.heap.size,4,none⟩=some (.int .i64 c):=k4.cell 4
 have xc5:w4.cell? ⟨w.heap.size,5,none⟩=some (.string ⟨#[]⟩):=k4.cell 5
 have xc6:w4.cell? ⟨w.heap.size,6,none⟩=some (.slice ra rn rc):=k4.cell 6
 have HB:=Lib.hid hb4
 clear k4 hb4
 go_wp2
 go_ret
 exact ⟨rfl,HB.out⟩
theorem chk_pack (n:ByteArray) (a b c:Int) (ra:Option Addr) (rc:Nat) (w:World) (hn:NameOk n) :
  Calls Tryz.prog 263 #[.agg #[.int .i64 1,.string n,.int .i64 a,.int .i64 b,.int .i64 c,.string ⟨#[]⟩,.slice ra 0 rc]] w fun e w'=>e=.returned (.int .i64 (if InV a b c then (0:Int) else 2))/\Below w.heap.size w w':=by
 obtain ⟨Z,hZ⟩:∃ Z:Int,(if InV a b c then (0:Int) else 2)=Z:=⟨_,rfl⟩
 rw [hZ]
 have HZ:=Lib.hid hZ
 clear hZ
 have k0:=Blk.new w 130 #[.int .i64 1,.string n,.int .i64 a,.int .i64 b,.int .i64 c,.string ⟨#[]⟩,.slice ra 0 rc]
 have hb0:Below w.heap.size w (w.alloc (.cells #[.int .i64 1,.string n,.int .i64 a,.int .i64 b,.int .i64 c,.string ⟨#[]⟩,.slice ra 0 rc] 130)):=(Below.refl _ w).alloc (Nat.le_refl _) _
 go_enter Tryz.func263,Tryz.ntmps263
 go_upto_region 1 with fail
 generalize w.alloc (.cells #[.int .i64 1,.string n,.int .i64 a,.int .i64 b,.int .i64 c,.string ⟨#[]⟩,.slice ra 0 rc] 130)=W0 at *
 have xc0:W0.cell? ⟨w.heap.size,0,none⟩=some (.int .i64 1):=k0.cell 0
 have xc1:W0.cell? ⟨w.heap.size,1,none⟩=some (.string n):=k0.cell 1
 have xc2:W0.cell? ⟨w.heap.size,2,none⟩=some (.int .i64 a):=k0.cell 2
 have xc3:W0.cell? ⟨w.heap.size,3,none⟩=some (.int .i64 b):=k0.cell 3
 have xc4:W0.cell? ⟨w.heap.size,4,none⟩=some (.int .i64 c):=k0.cell 4
 have xc5:W0.cell? ⟨w.heap.size,5,none⟩=some (.string ⟨#[]⟩):=k0.cell 5
 have xc6:W0.cell? ⟨w.heap.size,6,none⟩=some (.slice ra 0 rc):=k0.cell 6
 go_wp2_with fail
 clear xc0 xc1 xc2 xc3 xc4 xc5 xc6
 refine (name_yes n W0 hn).mono ?_
 rintro e w1 ⟨rfl,hwx⟩
 subst hwx
 have xc0:W0.cell? ⟨w.heap.size,0,none⟩=some (.int .i64 1):=k0.cell 0
 have xc1:W0.cell? ⟨w.heap.size,1,none⟩=some (.string n):=k0.cell 1
 have xc2:W0.cell? ⟨w.heap.size,2,none⟩=some (.int .i64 a):=k0.cell 2
 have xc3:W0.cell? ⟨w.heap.size,3,none⟩=some (.int .i64 b):=k0.cell 3
 have xc4:W0.cell? ⟨w.heap.size,4,none⟩=some (.int .i64 c):=k0.cell 4
 have xc5:W0.cell? ⟨w.heap.size,5,none⟩=some (.string ⟨#[]⟩):=k0.cell 5
 have xc6:W0.cell? ⟨w.heap.size,6,none⟩=some (.slice ra 0 rc):=k0.cell 6
 go_wp2_with fail
 clear xc0 xc1 xc2 xc3 xc4 xc5 xc6
 have HP1:Hid (Calls Tryz.prog 135 #[.agg #[.int .i64 1,.string n,.int .i64 a,.int .i64 b,.int .i64 c,.string ⟨#[]⟩,.slice ra 0 rc]] W0 fun e w'=>e=.returned (.bool false)/\w'=W0.alloc (.cells #[.int .i64 1,.string n,.int .i64 a,.int .i64 b,.int .i64 c,.string ⟨#[]⟩,.slice ra 0 rc] 130)):=pair_any ⟨1,n,a,b,c,⟨#[]⟩,[]⟩ (.slice ra 0 rc) W0
 refine HP1.out.mono ?_
 rintro e w1 ⟨rfl,hwx⟩
 have hbx:Below W0.heap.size W0 w1:=by rw [hwx];exact (Below.refl _ _).alloc (Nat.le_refl _) _
 have k1:=k0.below hbx k0.lt
 have hb1:Below w.heap.size w w1:=hb0.trans (hbx.mono hb0.size)
 clear HP1 hwx hbx k0 hb0
 have xc0:w1.cell? ⟨w.heap.size,0,none⟩=some (.int .i64 1):=k1.cell 0
 have xc1:w1.cell? ⟨w.heap.size,1,none⟩=some (.string n):=k1.cell 1
 have xc2:w1.cell? ⟨w.heap.size,2,none⟩=some (.int .i64 a):=k1.cell 2
 have xc3:w1.cell? ⟨w.heap.size,3,none⟩=some (.int .i64 b):=k1.cell 3
 have xc4:w1.cell? ⟨w.heap.size,4,none⟩=some (.int .i64 c):=k1.cell 4
 have xc5:w1.cell? ⟨w.heap.size,5,none⟩=some (.string ⟨#[]⟩):=k1.cell 5
 have xc6:w1.cell? ⟨w.heap.size,6,none⟩=some (.slice ra 0 rc):=k1.cell 6
 go_wp2_with fail
 clear xc0 xc1 xc2 xc3 xc4 xc5 xc6
 have HP2:Hid (Calls Tryz.prog 135 #[.agg #[.int .i64 1,.string n,.int .i64 a,.int .i64 b,.int .i64 c,.string ⟨#[]⟩,.slice ra 0 rc]] w1 fun e w'=>e=.returned (.bool false)/\w'=w1.alloc (.cells #[.int .i64 1,.string n,.int .i64 a,.int .i64 b,.int .i64 c,.string ⟨#[]⟩,.slice ra 0 rc] 130)):=pair_any ⟨1,n,a,b,c,⟨#[]⟩,[]⟩ (.slice ra 0 rc) w1
 refine HP2.out.mono ?_
 rintro e w3 ⟨rfl,hwx⟩
 have hbx:Below w1.heap.size w1 w3:=by rw [hwx];exact (Below.refl _ _).alloc (Nat.le_refl _) _
 have k3:=k1.below hbx k1.lt
 have hb3:Below w.heap.size w w3:=hb1.trans (hbx.mono hb1.size)
 clear HP2 hwx hbx k1 hb1
 have xc0:w3.cell? ⟨w.heap.size,0,none⟩=some (.int .i64 1):=k3.cell 0
 have xc1:w3.cell? ⟨w.heap.size,1,none⟩=some (.string n):=k3.cell 1
 have xc2:w3.cell? ⟨w.heap.size,2,none⟩=some (.int .i64 a):=k3.cell 2
 have xc3:w3.cell? ⟨w.heap.size,3,none⟩=some (.int .i64 b):=k3.cell 3
 have xc4:w3.cell? ⟨w.heap.size,4,none⟩=some (.int .i64 c):=k3.cell 4
 have xc5:w3.cell? ⟨w.heap.size,5,none⟩=some (.string ⟨#[]⟩):=k3.cell 5
 have xc6:w3.cell? ⟨w.heap.size,6,none⟩=some (.slice ra 0 rc):=k3.cell 6
 go_wp2_with fail
 clear xc0 xc1 xc2 xc3 xc4 xc5 xc6
 have HE:Hid (Calls Tryz.prog 276 #[.agg #[.slice ra 0 rc]] w3 fun e w'=>e=.returned (.bool true)/\Below w3.heap.size w3 w'):=empty_yes ra rc w3
 refine HE.out.mono ?_
 rintro e w4 ⟨rfl,hbx⟩
 have k4:=k3.below hbx k3.lt
 have hb4:Below w.heap.size w w4:=hb3.trans (hbx.mono hb3.size)
 clear HE hbx k3 hb3
 have xc0:w4.cell? ⟨w.heap.size,0,none⟩=some (.int .i64 1):=k4.cell 0
 have xc1:w4.cell? ⟨w.heap.size,1,none⟩=some (.string n):=k4.cell 1
 have xc2:w4.cell? ⟨w.heap.size,2,none⟩=some (.int .i64 a):=k4.cell 2
 have xc3:w4.cell? ⟨w.heap.size,3,none⟩=some (.int .i64 b):=k4.cell 3
 have xc4:w4.cell? ⟨w.heap.size,4,none⟩=some (.int .i64 c):=k4.cell 4
 have xc5:w4.cell? ⟨w.heap.size,5,none⟩=some (.string ⟨#[]⟩):=k4.cell 5
 have xc6:w4.cell? ⟨w.heap.size,6,none⟩=some (.slice ra 0 rc):=k4.cell 6
 go_upto_region 11 with fail
 clear xc0 xc1 xc2 xc3 xc4 xc5 xc6
 obtain ⟨q,hq⟩:∃ q,decide (InV a b c)=q:=⟨_,rfl⟩
 have HANY:Hid (∀ W',Calls Tryz.prog 259 #[] W' fun e w'=>∃ a' c',e=.returned (.agg #[.slice a' anyF.length c'])/\SpAt w' (.slice a' anyF.length c') anyF/\Below W'.heap.size W' w'):=fun W'=>(any_any W').mono fun e w' ⟨v',he,hs,hn,hb⟩=>by obtain ⟨a',c',rfl⟩:=hs.form;exact ⟨a',c',he,hs,hb⟩
 have HHAS:Hid (∀ va vc W',SpAt W' (.slice va anyF.length vc) anyF->Calls Tryz.prog 218 #[.agg #[.slice va anyF.length vc],.agg #[.int .i64 a,.int .i64 b,.int .i64 c]] W' fun e w'=>e=.returned (.bool q)/\Below W'.heap.size W' w'):=fun va vc W' h=>by rw [<- hq];exact anyhas va vc a b c W' h
 have HQ:=Lib.hid hq
 clear hq
 have hxl:=k4.lt
 have SC:Hid (∀ W',Below w4.heap.size w4 W'->W'.cell? ⟨w.heap.size,2,none⟩=some (.int .i64 a)/\W'.cell? ⟨w.heap.size,3,none⟩=some (.int .i64 b)/\W'.cell? ⟨w.heap.size,4,none⟩=some (.int .i64 c)):=fun W' h=>⟨(k4.below h hxl).cell 2,(k4.below h hxl).cell 3,(k4.below h hxl).cell 4⟩
 have HB0:=Lib.hid hb4
 clear k4 hb4 hxl
 have D0:Below w4.heap.size w4 w4.drew:=(Below.refl _ _).drew
 go_region_held3 (fun W'=>W'.cell? ⟨w.heap.size,2,none⟩=some (.int .i64 a)/\W'.cell? ⟨w.heap.size,3,none⟩=some (.int .i64 b)/\W'.cell? ⟨w.heap.size,4,none⟩=some (.int .i64 c)) (first | exact SC.out _ D0 | exact SC.out _ D1 | exact SC.out _ D2)
  (first
   | ((with_reducible refine (HANY.out _).mono ?_);rintro e x1 ⟨va,vc,rfl,hs1,hb1⟩;have D1:Below w4.heap.size w4 x1:=D0.trans (hb1.mono D0.size);clear HANY D0 hb1)
   | ((with_reducible refine (HHAS.out _ _ _ hs1).mono ?_);rintro e x2 ⟨rfl,hb2⟩;have D2:Below w4.heap.size w4 x2:=D1.trans (hb2.mono D1.size);clear HHAS D1 hb2 hs1))
 have HB:Hid (Below w.heap.size w x2):=HB0.out.trans (D2.mono HB0.out.size)
 clear D2 HB0 SC
 cases q with
 | true =>
  have HC:Hid (Z=0):=by have h:=HQ.out;show _=_;rw [<- HZ.out];exact if_pos (by simpa using h)
  go_wp2
  go_ret
  exact ⟨by rw [HC.out];rfl,HB.out⟩
 | false =>
  have HC:Hid (Z=2):=by have h:=HQ.out;show _=_;rw [<- HZ.out];exact if_neg (by simpa using h)
  go_wp2
  go_ret
  exact ⟨by rw [HC.out];rfl,HB.out⟩
theorem chk_rootV (n:ByteArray) (a b c:Int) (ra:Option Addr) (rn rc:Nat) (w:World) (hn:NameOk n) (hz:(a == 0 && (b == 0 && c == 0))=false) :
  Calls Tryz.prog 263 #[.agg #[.int .i64 4,.string n,.int .i64 a,.int .i64 b,.int .i64 c,.string ⟨#[]⟩,.slice ra rn rc]] w fun e w'=>e=.returned (.int .i64 1)/\Below w.heap.size w w':=by
 have k0:=Blk.new w 130 #[.int .i64 4,.string n,.int .i64 a,.int .i64 b,.int .i64 c,.string ⟨#[]⟩,.slice ra rn rc]
 have hb0:Below w.heap.size w (w.alloc (.cells #[.int .i64 4,.string n,.int .i64 a,.int .i64 b,.int .i64 c,.string ⟨#[]⟩,.slice ra rn rc] 130)):=(Below.refl _ w).alloc (Nat.le_refl _) _
 go_enter Tryz.func263,Tryz.ntmps263
 go_upto_region 1 with fail
 generalize w.alloc (.cells #[.int .i64 4,.string n,.int .i64 a,.int .i64 b,.int .i64 c,.string ⟨#[]⟩,.slice ra rn rc] 130)=W0 at *
 have xc0:W0.cell? ⟨w.heap.size,0,none⟩=some (.int .i64 4):=k0.cell 0
 have xc1:W0.cell? ⟨w.heap.size,1,none⟩=some (.string n):=k0.cell 1
 have xc2:W0.cell? ⟨w.heap.size,2,none⟩=some (.int .i64 a):=k0.cell 2
 have xc3:W0.cell? ⟨w.heap.size,3,none⟩=some (.int .i64 b):=k0.cell 3
 have xc4:W0.cell? ⟨w.heap.size,4,none⟩=some (.int .i64 c):=k0.cell 4
 have xc5:W0.cell? ⟨w.heap.size,5,none⟩=some (.string ⟨#[]⟩):=k0.cell 5
 have xc6:W0.cell? ⟨w.heap.size,6,none⟩=some (.slice ra rn rc):=k0.cell 6
 go_wp2_with fail
 clear xc0 xc1 xc2 xc3 xc4 xc5 xc6
 refine (name_yes n W0 hn).mono ?_
 rintro e w1 ⟨rfl,hwx⟩
 subst hwx
 have xc0:W0.cell? ⟨w.heap.size,0,none⟩=some (.int .i64 4):=k0.cell 0
 have xc1:W0.cell? ⟨w.heap.size,1,none⟩=some (.string n):=k0.cell 1
 have xc2:W0.cell? ⟨w.heap.size,2,none⟩=some (.int .i64 a):=k0.cell 2
 have xc3:W0.cell? ⟨w.heap.size,3,none⟩=some (.int .i64 b):=k0.cell 3
 have xc4:W0.cell? ⟨w.heap.size,4,none⟩=some (.int .i64 c):=k0.cell 4
 have xc5:W0.cell? ⟨w.heap.size,5,none⟩=some (.string ⟨#[]⟩):=k0.cell 5
 have xc6:W0.cell? ⟨w.heap.size,6,none⟩=some (.slice ra rn rc):=k0.cell 6
 go_wp2_with fail
 clear xc0 xc1 xc2 xc3 xc4 xc5 xc6
 have HP1:Hid (Calls Tryz.prog 135 #[.agg #[.int .i64 4,.string n,.int .i64 a,.int .i64 b,.int .i64 c,.string ⟨#[]⟩,.slice ra rn rc]] W0 fun e w'=>e=.returned (.bool false)/\w'=W0.alloc (.cells #[.int .i64 4,.string n,.int .i64 a,.int .i64 b,.int .i64 c,.string ⟨#[]⟩,.slice ra rn rc] 130)):=pair_any ⟨4,n,a,b,c,⟨#[]⟩,[]⟩ (.slice ra rn rc) W0
 refine HP1.out.mono ?_
 rintro e w1 ⟨rfl,hwx⟩
 have hbx:Below W0.heap.size W0 w1:=by rw [hwx];exact (Below.refl _ _).alloc (Nat.le_refl _) _
 have k1:=k0.below hbx k0.lt
 have hb1:Below w.heap.size w w1:=hb0.trans (hbx.mono hb0.size)
 clear HP1 hwx hbx k0 hb0
 have xc0:w1.cell? ⟨w.heap.size,0,none⟩=some (.int .i64 4):=k1.cell 0
 have xc1:w1.cell? ⟨w.heap.size,1,none⟩=some (.string n):=k1.cell 1
 have xc2:w1.cell? ⟨w.heap.size,2,none⟩=some (.int .i64 a):=k1.cell 2
 have xc3:w1.cell? ⟨w.heap.size,3,none⟩=some (.int .i64 b):=k1.cell 3
 have xc4:w1.cell? ⟨w.heap.size,4,none⟩=some (.int .i64 c):=k1.cell 4
 have xc5:w1.cell? ⟨w.heap.size,5,none⟩=some (.string ⟨#[]⟩):=k1.cell 5
 have xc6:w1.cell? ⟨w.heap.size,6,none⟩=some (.slice ra rn rc):=k1.cell 6
 go_wp2_with fail
 clear xc0 xc1 xc2 xc3 xc4 xc5 xc6
 have HP2:Hid (Calls Tryz.prog 135 #[.agg #[.int .i64 4,.string n,.int .i64 a,.int .i64 b,.int .i64 c,.string ⟨#[]⟩,.slice ra rn rc]] w1 fun e w'=>e=.returned (.bool false)/\w'=w1.alloc (.cells #[.int .i64 4,.string n,.int .i64 a,.int .i64 b,.int .i64 c,.string ⟨#[]⟩,.slice ra rn rc] 130)):=pair_any ⟨4,n,a,b,c,⟨#[]⟩,[]⟩ (.slice ra rn rc) w1
 refine HP2.out.mono ?_
 rintro e w3 ⟨rfl,hwx⟩
 have hbx:Below w1.heap.size w1 w3:=by rw [hwx];exact (Below.refl _ _).alloc (Nat.le_refl _) _
 have k3:=k1.below hbx k1.lt
 have hb3:Below w.heap.size w w3:=hb1.trans (hbx.mono hb1.size)
 clear HP2 hwx hbx k1 hb1
 have h3:=eq3t a b c 0 0 0
 rw [hz] at h3
 have xc0:w3.cell? ⟨w.heap.size,0,none⟩=some (.int .i64 4):=k3.cell 0
 have xc1:w3.cell? ⟨w.heap.size,1,none⟩=some (.string n):=k3.cell 1
 have xc2:w3.cell? ⟨w.heap.size,2,none⟩=some (.int .i64 a):=k3.cell 2
 have xc3:w3.cell? ⟨w.heap.size,3,none⟩=some (.int .i64 b):=k3.cell 3
 have xc4:w3.cell? ⟨w.heap.size,4,none⟩=some (.int .i64 c):=k3.cell 4
 have xc5:w3.cell? ⟨w.heap.size,5,none⟩=some (.string ⟨#[]⟩):=k3.cell 5
 have xc6:w3.cell? ⟨w.heap.size,6,none⟩=some (.slice ra rn rc):=k3.cell 6
 have HB:=Lib.hid hb3
 clear k3 hb3
 go_wp2
 go_ret
 exact ⟨rfl,HB.out⟩
theorem chk_root (n:ByteArray) (ra:Option Addr) (rn rc:Nat) (w:World) (hn:NameOk n) :
  Calls Tryz.prog 263 #[.agg #[.int .i64 4,.string n,.int .i64 0,.int .i64 0,.int .i64 0,.string ⟨#[]⟩,.slice ra rn rc]] w fun e w'=>e=.returned (.int .i64 0)/\Below w.heap.size w w':=by
 have k0:=Blk.new w 130 #[.int .i64 4,.string n,.int .i64 0,.int .i64 0,.int .i64 0,.string ⟨#[]⟩,.slice ra rn rc]
 have hb0:Below w.heap.size w (w.alloc (.cells #[.int .i64 4,.string n,.int .i64 0,.int .i64 0,.int .i64 0,.string ⟨#[]⟩,.slice ra rn rc] 130)):=(Below.refl _ w).alloc (Nat.le_refl _) _
 go_enter Tryz.func263,Tryz.ntmps263
 go_upto_region 1 with fail
 generalize w.alloc (.cells #[.int .i64 4,.string n,.int .i64 0,.int .i64 0,.int .i64 0,.string ⟨#[]⟩,.slice ra rn rc] 130)=W0 at *
 have xc0:W0.cell? ⟨w.heap.size,0,none⟩=some (.int .i64 4):=k0.cell 0
 have xc1:W0.cell? ⟨w.heap.size,1,none⟩=some (.string n):=k0.cell 1
 have xc2:W0.cell? ⟨w.heap.size,2,none⟩=some (.int .i64 0):=k0.cell 2
 have xc3:W0.cell? ⟨w.heap.size,3,none⟩=some (.int .i64 0):=k0.cell 3
 have xc4:W0.cell? ⟨w.heap.size,4,none⟩=some (.int .i64 0):=k0.cell 4
 have xc5:W0.cell? ⟨w.heap.size,5,none⟩=some (.string ⟨#[]⟩):=k0.cell 5
 have xc6:W0.cell? ⟨w.heap.size,6,none⟩=some (.slice ra rn rc):=k0.cell 6
 go_wp2_with fail
 clear xc0 xc1 xc2 xc3 xc4 xc5 xc6
 refine (name_yes n W0 hn).mono ?_
 rintro e w1 ⟨rfl,hwx⟩
 subst hwx
 have xc0:W0.cell? ⟨w.heap.size,0,none⟩=some (.int .i64 4):=k0.cell 0
 have xc1:W0.cell? ⟨w.heap.size,1,none⟩=some (.string n):=k0.cell 1
 have xc2:W0.cell? ⟨w.heap.size,2,none⟩=some (.int .i64 0):=k0.cell 2
 have xc3:W0.cell? ⟨w.heap.size,3,none⟩=some (.int .i64 0):=k0.cell 3
 have xc4:W0.cell? ⟨w.heap.size,4,none⟩=some (.int .i64 0):=k0.cell 4
 have xc5:W0.cell? ⟨w.heap.size,5,none⟩=some (.string ⟨#[]⟩):=k0.cell 5
 have xc6:W0.cell? ⟨w.heap.size,6,none⟩=some (.slice ra rn rc):=k0.cell 6
 go_wp2_with fail
 clear xc0 xc1 xc2 xc3 xc4 xc5 xc6
 have HP1:Hid (Calls Tryz.prog 135 #[.agg #[.int .i64 4,.string n,.int .i64 0,.int .i64 0,.int .i64 0,.string ⟨#[]⟩,.slice ra rn rc]] W0 fun e w'=>e=.returned (.bool false)/\w'=W0.alloc (.cells #[.int .i64 4,.string n,.int .i64 0,.int .i64 0,.int .i64 0,.string ⟨#[]⟩,.slice ra rn rc] 130)):=pair_any ⟨4,n,0,0,0,⟨#[]⟩,[]⟩ (.slice ra rn rc) W0
 refine HP1.out.mono ?_
 rintro e w1 ⟨rfl,hwx⟩
 have hbx:Below W0.heap.size W0 w1:=by rw [hwx];exact (Below.refl _ _).alloc (Nat.le_refl _) _
 have k1:=k0.below hbx k0.lt
 have hb1:Below w.heap.size w w1:=hb0.trans (hbx.mono hb0.size)
 clear HP1 hwx hbx k0 hb0
 have xc0:w1.cell? ⟨w.heap.size,0,none⟩=some (.int .i64 4):=k1.cell 0
 have xc1:w1.cell? ⟨w.heap.size,1,none⟩=some (.string n):=k1.cell 1
 have xc2:w1.cell? ⟨w.heap.size,2,none⟩=some (.int .i64 0):=k1.cell 2
 have xc3:w1.cell? ⟨w.heap.size,3,none⟩=some (.int .i64 0):=k1.cell 3
 have xc4:w1.cell? ⟨w.heap.size,4,none⟩=some (.int .i64 0):=k1.cell 4
 have xc5:w1.cell? ⟨w.heap.size,5,none⟩=some (.string ⟨#[]⟩):=k1.cell 5
 have xc6:w1.cell? ⟨w.heap.size,6,none⟩=some (.slice ra rn rc):=k1.cell 6
 go_wp2_with fail
 clear xc0 xc1 xc2 xc3 xc4 xc5 xc6
 have HP2:Hid (Calls Tryz.prog 135 #[.agg #[.int .i64 4,.string n,.int .i64 0,.int .i64 0,.int .i64 0,.string ⟨#[]⟩,.slice ra rn rc]] w1 fun e w'=>e=.returned (.bool false)/\w'=w1.alloc (.cells #[.int .i64 4,.string n,.int .i64 0,.int .i64 0,.int .i64 0,.string ⟨#[]⟩,.slice ra rn rc] 130)):=pair_any ⟨4,n,0,0,0,⟨#[]⟩,[]⟩ (.slice ra rn rc) w1
 refine HP2.out.mono ?_
 rintro e w3 ⟨rfl,hwx⟩
 have hbx:Below w1.heap.size w1 w3:=by rw [hwx];exact (Below.refl _ _).alloc (Nat.le_refl _) _
 have k3:=k1.below hbx k1.lt
 have hb3:Below w.heap.size w w3:=hb1.trans (hbx.mono hb1.size)
 clear HP2 hwx hbx k1 hb1
 have h3:=eq3t 0 0 0 0 0 0
 have xc0:w3.cell? ⟨w.heap.size,0,none⟩=some (.int .i64 4):=k3.cell 0
 have xc1:w3.cell? ⟨w.heap.size,1,none⟩=some (.string n):=k3.cell 1
 have xc2:w3.cell? ⟨w.heap.size,2,none⟩=some (.int .i64 0):=k3.cell 2
 have xc3:w3.cell? ⟨w.heap.size,3,none⟩=some (.int .i64 0):=k3.cell 3
 have xc4:w3.cell? ⟨w.heap.size,4,none⟩=some (.int .i64 0):=k3.cell 4
 have xc5:w3.cell? ⟨w.heap.size,5,none⟩=some (.string ⟨#[]⟩):=k3.cell 5
 have xc6:w3.cell? ⟨w.heap.size,6,none⟩=some (.slice ra rn rc):=k3.cell 6
 go_upto_region 11 with fail
 clear xc0 xc1 xc2 xc3 xc4 xc5 xc6
 clear h3
 obtain ⟨q,hq⟩:∃ q,decide (InV 0 0 0)=q:=⟨_,rfl⟩
 have HANY:Hid (∀ W',Calls Tryz.prog 259 #[] W' fun e w'=>∃ a' c',e=.returned (.agg #[.slice a' anyF.length c'])/\SpAt w' (.slice a' anyF.length c') anyF/\Below W'.heap.size W' w'):=fun W'=>(any_any W').mono fun e w' ⟨v',he,hs,hn,hb⟩=>by obtain ⟨a',c',rfl⟩:=hs.form;exact ⟨a',c',he,hs,hb⟩
 have HHAS:Hid (∀ va vc W',SpAt W' (.slice va anyF.length vc) anyF->Calls Tryz.prog 218 #[.agg #[.slice va anyF.length vc],.agg #[.int .i64 0,.int .i64 0,.int .i64 0]] W' fun e w'=>e=.returned (.bool q)/\Below W'.heap.size W' w'):=fun va vc W' h=>by rw [<- hq];exact anyhas va vc 0 0 0 W' h
 have HQ:=Lib.hid hq
 clear hq
 have hxl:=k3.lt
 have SC:Hid (∀ W',Below w3.heap.size w3 W'->W'.cell? ⟨w.heap.size,2,none⟩=some (.int .i64 0)/\W'.cell? ⟨w.heap.size,3,none⟩=some (.int .i64 0)/\W'.cell? ⟨w.heap.size,4,none⟩=some (.int .i64 0)):=fun W' h=>⟨(k3.below h hxl).cell 2,(k3.below h hxl).cell 3,(k3.below h hxl).cell 4⟩
 have HB0:=Lib.hid hb3
 clear k3 hb3 hxl
 have D0:Below w3.heap.size w3 w3.drew:=(Below.refl _ _).drew
 go_region_held3 (fun W'=>W'.cell? ⟨w.heap.size,2,none⟩=some (.int .i64 0)/\W'.cell? ⟨w.heap.size,3,none⟩=some (.int .i64 0)/\W'.cell? ⟨w.heap.size,4,none⟩=some (.int .i64 0)) (first | exact SC.out _ D0 | exact SC.out _ D1 | exact SC.out _ D2)
  (first
   | ((with_reducible refine (HANY.out _).mono ?_);rintro e x1 ⟨va,vc,rfl,hs1,hb1⟩;have D1:Below w3.heap.size w3 x1:=D0.trans (hb1.mono D0.size);clear HANY D0 hb1)
   | ((with_reducible refine (HHAS.out _ _ _ hs1).mono ?_);rintro e x2 ⟨rfl,hb2⟩;have D2:Below w3.heap.size w3 x2:=D1.trans (hb2.mono D1.size);clear HHAS D1 hb2 hs1))
 have HB:Hid (Below w.heap.size w x2):=HB0.out.trans (D2.mono HB0.out.size)
 clear D2 HB0 SC
 obtain rfl:q=true:=by rw [<- HQ.out];decide
 go_wp2
 go_ret
 exact ⟨rfl,HB.out⟩
end Go.Proofs.YtiihalknffbjpaaGreatDoor
