/- check: what it asks. -/
import Derived.Test.YtiihalknffbjpaaGreatDoorCtSmall
import Derived.Test.YtiihalknffbjpaaGreatDoorSvOut
set_option maxRecDepth 100000
namespace Go.Proofs.YtiihalknffbjpaaGreatDoor
open Go.RowKit Sv
theorem name_yes (s:ByteArray) (w:World) (h:NameOk s):Calls Tryz.prog 305 #[.string s] w fun e w'=>e=.returned (.bool true)/\w=w':=(name_any s w).mono fun _ _ ⟨h1,h2⟩=>⟨h1.1 h,h2⟩
theorem name_no (s:ByteArray) (w:World) (h:¬ NameOk s):Calls Tryz.prog 305 #[.string s] w fun e w'=>e=.returned (.bool false)/\w=w':=(name_any s w).mono fun _ _ ⟨h1,h2⟩=>⟨h1.2 h,h2⟩
open Classical in
theorem hasv (l:List Span) (hl:Rg l) (va:Option Addr) (vc:Nat) (x:It) (w:World) (hv:SpAt w (.slice va l.length vc) l) :
  Calls Tryz.prog 218 #[.agg #[.slice va l.length vc],.agg #[.int .i64 x.a,.int .i64 x.b,.int .i64 x.c]] w fun e w'=>e=.returned (.bool (decide (hasF l x)))/\Below w.heap.size w w':=by
 by_cases h:InV x.a x.b x.c
 ·obtain ⟨n,a,b,c⟩:=x
  obtain ⟨a',rfl⟩:∃ a':Nat,a=(a':Int):=⟨a.toNat,by have:=h.1;simp only at this;omega⟩
  obtain ⟨b',rfl⟩:∃ b':Nat,b=(b':Int):=⟨b.toNat,by have:=h.2.1;simp only at this;omega⟩
  obtain ⟨c',rfl⟩:∃ c':Nat,c=(c':Int):=⟨c.toNat,by have:=h.2.2;simp only at this;omega⟩
  have h1:=h.1;have h2:=h.2.1;have h3:=h.2.2
  simp only at h1 h2 h3
  refine (has_any l hl (.slice va l.length vc) a' b' c' (by omega) (by omega) (by omega) w hv).mono fun e w' ⟨B,he,hB,hb⟩=>⟨?_,hb⟩
  rw [he]
  congr 2
  rw [Bool.eq_iff_iff,hB,decide_eq_true_eq]
  unfold hasF
  simp only [Int.toNat_natCast]
  exact ⟨fun h'=>⟨h,h'⟩,fun h'=>h'.2⟩
 ·refine (has_out va l.length vc x.a x.b x.c h w).mono fun e w' ⟨he,hb⟩=>⟨?_,hb⟩
  rw [he]
  congr 2
  symm
  rw [decide_eq_false_iff_not]
  exact fun h'=>h h'.1
theorem anyhas (va:Option Addr) (vc:Nat) (a b c:Int) (w:World) (hv:SpAt w (.slice va anyF.length vc) anyF) :
  Calls Tryz.prog 218 #[.agg #[.slice va anyF.length vc],.agg #[.int .i64 a,.int .i64 b,.int .i64 c]] w fun e w'=>e=.returned (.bool (decide (InV a b c)))/\Below w.heap.size w w':=by
 refine (hasv anyF rg_any va vc ⟨⟨#[]⟩,a,b,c⟩ w hv).mono fun e w' ⟨he,hb⟩=>⟨?_,hb⟩
 rw [he]
 congr 2
 rw [Bool.eq_iff_iff]
 simp only [decide_eq_true_eq]
 unfold hasF
 constructor
 ·exact fun h=>h.1
 ·intro h
  refine ⟨h,mem_any.2 ?_⟩
  obtain ⟨h1,h2,h3⟩:=h
  simp only
  unfold numV ALL
  omega
theorem empty_yes (ra:Option Addr) (rc:Nat) (w:World):Calls Tryz.prog 276 #[.agg #[.slice ra 0 rc]] w fun e w'=>e=.returned (.bool true)/\Below w.heap.size w w':=by
 have hB:Hid (Below w.heap.size w (w.alloc (.cells #[.slice ra 0 rc] 128))):=(Below.refl _ w).alloc (Nat.le_refl _) _
 go_enter Tryz.func276,Tryz.ntmps276
 go_wp2
 go_ret
 exact ⟨rfl,hB.out⟩
theorem empty_no (ra:Option Addr) (rn rc:Nat) (w:World) (h:0<rn):Calls Tryz.prog 276 #[.agg #[.slice ra rn rc]] w fun e w'=>e=.returned (.bool false)/\Below w.heap.size w w':=by
 have hB:Hid (Below w.heap.size w (w.alloc (.cells #[.slice ra rn rc] 128))):=(Below.refl _ w).alloc (Nat.le_refl _) _
 have hz:((rn:Int) == 0)=false:=by rw [beq_eq_false_iff_ne];omega
 go_enter Tryz.func276,Tryz.ntmps276
 go_wp2
 go_ret
 exact ⟨rfl,hB.out⟩
theorem eq3t (a b c a' b' c':Int) (w:World):(Op.equalIn 10000 84 (.agg #[.int .i64 a,.int .i64 b,.int .i64 c]) (.agg #[.int .i64 a',.int .i64 b',.int .i64 c'])).run Tryz.prog w=.ok (a == a' && (b == b' && c == c')) w:=by
 have u3:=Tryz.underlying3
 have a3:=Tryz.isAgg3
 have z3:=Tryz.sizeOf3
 rw [show (10000:Nat)=9999 + 1 from rfl,Op.equalIn]
 simp only [Sem.run_bind,run_underlying Tryz.underlying84,Result.andThen_ok]
 simp only [Std.Legacy.Range.forIn_eq_forIn_range',Std.Legacy.Range.size,Nat.sub_zero,Nat.add_sub_cancel,Nat.div_one,List.range'_succ,List.range'_zero,List.forIn_cons,List.forIn_nil]
 by_cases h1:a=a'
 ·by_cases h2:b=b'
  ·by_cases h3:c=c'
   ·subst h1 h2 h3;go_simp
   ·have e3:(c == c')=false:=by simpa using h3
    subst h1 h2;go_simp
  ·have e2:(b == b')=false:=by simpa using h2
   subst h1;go_simp
 ·have e1:(a == a')=false:=by simpa using h1
  go_simp
end Go.Proofs.YtiihalknffbjpaaGreatDoor
