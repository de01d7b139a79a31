/- check, whole. -/
import Derived.Test.YtljeigdkbnichaaGreatDoorCtSmall
import Derived.Test.YtljeigdkbnichaaGreatDoorCtItem
import Derived.Test.YtljeigdkbnichaaGreatDoorSvOut
namespace Go.Proofs.YtljeigdkbnichaaGreatDoor
open Go.RowKit Sv

theorem name_yes (s : ByteArray) (w : World) (h : NameOk s) : Calls Tryz.prog 153 #[.string s] w fun e w' => e = .returned (.bool true) ∧ w = w' := (name_any s w).mono fun _ _ ⟨h1, h2⟩ => ⟨h1.1 h, h2⟩
theorem name_no (s : ByteArray) (w : World) (h : ¬ NameOk s) : Calls Tryz.prog 153 #[.string s] w fun e w' => e = .returned (.bool false) ∧ w = w' := (name_any s w).mono fun _ _ ⟨h1, h2⟩ => ⟨h1.2 h, h2⟩
open Classical in
/-- Has, of any version. -/
theorem hasv (l : List Span) (hl : Rg l) (va : Option Addr) (vc : Nat) (x : It) (w : World) (hv : SpAt w (.slice va l.length vc) l) :
    Calls Tryz.prog 25 #[.agg #[.slice va l.length vc], .agg #[.int .i64 x.a, .int .i64 x.b, .int .i64 x.c]] w fun e w' => e = .returned (.bool (decide (hasF l x))) ∧ Below w.heap.size w w' := by
  by_cases h : InV x.a x.b x.c
  · obtain ⟨n, a, b, c⟩ := x
    obtain ⟨a', rfl⟩ : ∃ a' : Nat, a = (a' : Int) := ⟨a.toNat, by have := h.1; simp only at this; omega⟩
    obtain ⟨b', rfl⟩ : ∃ b' : Nat, b = (b' : Int) := ⟨b.toNat, by have := h.2.1; simp only at this; omega⟩
    obtain ⟨c', rfl⟩ : ∃ c' : Nat, c = (c' : Int) := ⟨c.toNat, by have := h.2.2; simp only at this; omega⟩
    have h1 := h.1; have h2 := h.2.1; have h3 := h.2.2
    simp only at h1 h2 h3
    refine (has_any l hl (.slice va l.length vc) a' b' c' (by omega) (by omega) (by omega) w hv).mono fun e w' ⟨B, he, hB, hb⟩ => ⟨?_, hb⟩
    rw [he]
    congr 2
    rw [Bool.eq_iff_iff, hB, decide_eq_true_eq]
    unfold hasF
    simp only [Int.toNat_natCast]
    exact ⟨fun h' => ⟨h, h'⟩, fun h' => h'.2⟩
  · refine (has_out va l.length vc x.a x.b x.c h w).mono fun e w' ⟨he, hb⟩ => ⟨?_, hb⟩
    rw [he]
    congr 2
    symm
    rw [decide_eq_false_iff_not]
    exact fun h' => h h'.1
theorem anyhas (va : Option Addr) (vc : Nat) (a b c : Int) (w : World) (hv : SpAt w (.slice va anyF.length vc) anyF) :
    Calls Tryz.prog 25 #[.agg #[.slice va anyF.length vc], .agg #[.int .i64 a, .int .i64 b, .int .i64 c]] w fun e w' => e = .returned (.bool (decide (InV a b c))) ∧ Below w.heap.size w w' := by
  refine (hasv anyF rg_any va vc ⟨⟨#[]⟩, a, b, c⟩ w hv).mono fun e w' ⟨he, hb⟩ => ⟨?_, hb⟩
  rw [he]
  congr 2
  rw [Bool.eq_iff_iff]
  simp only [decide_eq_true_eq]
  unfold hasF
  constructor
  · exact fun h => h.1
  · intro h
    refine ⟨h, mem_any.2 ?_⟩
    obtain ⟨h1, h2, h3⟩ := h
    simp only
    unfold numV ALL
    omega
theorem empty_yes (ra : Option Addr) (rc : Nat) (w : World) : Calls Tryz.prog 15 #[.agg #[.slice ra 0 rc]] w fun e w' => e = .returned (.bool true) ∧ Below w.heap.size w w' := by
  have hB : Hid (Below w.heap.size w (w.alloc (.cells #[.slice ra 0 rc] 31))) := (Below.refl _ w).alloc (Nat.le_refl _) _
  go_enter Tryz.func15, Tryz.ntmps15
  go_wp2
  go_ret
  exact ⟨rfl, hB.out⟩
theorem empty_no (ra : Option Addr) (rn rc : Nat) (w : World) (h : 0 < rn) : Calls Tryz.prog 15 #[.agg #[.slice ra rn rc]] w fun e w' => e = .returned (.bool false) ∧ Below w.heap.size w w' := by
  have hB : Hid (Below w.heap.size w (w.alloc (.cells #[.slice ra rn rc] 31))) := (Below.refl _ w).alloc (Nat.le_refl _) _
  have hz : ((rn : Int) == 0) = false := by rw [beq_eq_false_iff_ne]; omega
  go_enter Tryz.func15, Tryz.ntmps15
  go_wp2
  go_ret
  exact ⟨rfl, hB.out⟩
set_option maxRecDepth 100000 in
theorem eq3t (a b c a' b' c' : Int) (w : World) : (Op.equalIn 10000 42 (.agg #[.int .i64 a, .int .i64 b, .int .i64 c]) (.agg #[.int .i64 a', .int .i64 b', .int .i64 c'])).run Tryz.prog w = .ok (a == a' && (b == b' && c == c')) w := by
  have u3 := Tryz.underlying3
  have a3 := Tryz.isAgg3
  have z3 := Tryz.sizeOf3
  rw [show (10000 : Nat) = 9999 + 1 from rfl, Op.equalIn]
  simp only [Sem.run_bind, run_underlying Tryz.underlying42, Result.andThen_ok]
  simp only [Std.Legacy.Range.forIn_eq_forIn_range', Std.Legacy.Range.size, Nat.sub_zero, Nat.add_sub_cancel, Nat.div_one, List.range'_succ, List.range'_zero, List.forIn_cons, List.forIn_nil]
  by_cases h1 : a = a'
  · by_cases h2 : b = b'
    · by_cases h3 : c = c'
      · subst h1 h2 h3; go_simp
      · have e3 : (c == c') = false := by simpa using h3
        subst h1 h2; go_simp
    · have e2 : (b == b') = false := by simpa using h2
      subst h1; go_simp
  · have e1 : (a == a') = false := by simpa using h1
    go_simp
end Go.Proofs.YtljeigdkbnichaaGreatDoor

namespace Go.Proofs.YtljeigdkbnichaaGreatDoor
open Go.RowKit Sv

set_option maxRecDepth 100000 in
set_option maxHeartbeats 2000000 in
theorem chk_low (k : Int) (n o : ByteArray) (a b c : Int) (ra : Option Addr) (rn rc : Nat) (w : World) (hk : k < 1) :
    Calls Tryz.prog 122 #[.agg #[.int .i64 k, .string n, .int .i64 a, .int .i64 b, .int .i64 c, .string o, .slice ra rn rc]] w fun e w' => e = .returned (.int .i64 1) ∧ Below w.heap.size w w' := by
  have k0 := Blk.new w 76 #[.int .i64 k, .string n, .int .i64 a, .int .i64 b, .int .i64 c, .string o, .slice ra rn rc]
  have hb0 : Below w.heap.size w (w.alloc (.cells #[.int .i64 k, .string n, .int .i64 a, .int .i64 b, .int .i64 c, .string o, .slice ra rn rc] 76)) := (Below.refl _ w).alloc (Nat.le_refl _) _
  go_enter Tryz.func122, Tryz.ntmps122
  go_upto_region 1 with fail
  generalize w.alloc (.cells #[.int .i64 k, .string n, .int .i64 a, .int .i64 b, .int .i64 c, .string o, .slice ra rn rc] 76) = W0 at *
  have hk2 : ¬ (4 : Int) < k := by omega
  have xc0 : W0.cell? ⟨w.heap.size, 0, none⟩ = some (.int .i64 k) := k0.cell 0
  have xc1 : W0.cell? ⟨w.heap.size, 1, none⟩ = some (.string n) := k0.cell 1
  have xc2 : W0.cell? ⟨w.heap.size, 2, none⟩ = some (.int .i64 a) := k0.cell 2
  have xc3 : W0.cell? ⟨w.heap.size, 3, none⟩ = some (.int .i64 b) := k0.cell 3
  have xc4 : W0.cell? ⟨w.heap.size, 4, none⟩ = some (.int .i64 c) := k0.cell 4
  have xc5 : W0.cell? ⟨w.heap.size, 5, none⟩ = some (.string o) := k0.cell 5
  have xc6 : W0.cell? ⟨w.heap.size, 6, none⟩ = some (.slice ra rn rc) := k0.cell 6
  have HB := Lib.hid hb0
  clear k0 hb0
  go_wp2
  go_ret
  exact ⟨rfl, HB.out⟩

set_option maxRecDepth 100000 in
set_option maxHeartbeats 2000000 in
theorem chk_high (k : Int) (n o : ByteArray) (a b c : Int) (ra : Option Addr) (rn rc : Nat) (w : World) (hk : 4 < k) :
    Calls Tryz.prog 122 #[.agg #[.int .i64 k, .string n, .int .i64 a, .int .i64 b, .int .i64 c, .string o, .slice ra rn rc]] w fun e w' => e = .returned (.int .i64 1) ∧ Below w.heap.size w w' := by
  have k0 := Blk.new w 76 #[.int .i64 k, .string n, .int .i64 a, .int .i64 b, .int .i64 c, .string o, .slice ra rn rc]
  have hb0 : Below w.heap.size w (w.alloc (.cells #[.int .i64 k, .string n, .int .i64 a, .int .i64 b, .int .i64 c, .string o, .slice ra rn rc] 76)) := (Below.refl _ w).alloc (Nat.le_refl _) _
  go_enter Tryz.func122, Tryz.ntmps122
  go_upto_region 1 with fail
  generalize w.alloc (.cells #[.int .i64 k, .string n, .int .i64 a, .int .i64 b, .int .i64 c, .string o, .slice ra rn rc] 76) = W0 at *
  have hk2 : ¬ k < (1 : Int) := by omega
  have xc0 : W0.cell? ⟨w.heap.size, 0, none⟩ = some (.int .i64 k) := k0.cell 0
  have xc1 : W0.cell? ⟨w.heap.size, 1, none⟩ = some (.string n) := k0.cell 1
  have xc2 : W0.cell? ⟨w.heap.size, 2, none⟩ = some (.int .i64 a) := k0.cell 2
  have xc3 : W0.cell? ⟨w.heap.size, 3, none⟩ = some (.int .i64 b) := k0.cell 3
  have xc4 : W0.cell? ⟨w.heap.size, 4, none⟩ = some (.int .i64 c) := k0.cell 4
  have xc5 : W0.cell? ⟨w.heap.size, 5, none⟩ = some (.string o) := k0.cell 5
  have xc6 : W0.cell? ⟨w.heap.size, 6, none⟩ = some (.slice ra rn rc) := k0.cell 6
  have HB := Lib.hid hb0
  clear k0 hb0
  go_wp2
  go_ret
  exact ⟨rfl, HB.out⟩

set_option maxRecDepth 100000 in
set_option maxHeartbeats 2000000 in
theorem chk_name1 (n o : ByteArray) (a b c : Int) (ra : Option Addr) (rn rc : Nat) (w : World) (hn : ¬ NameOk n) :
    Calls Tryz.prog 122 #[.agg #[.int .i64 1, .string n, .int .i64 a, .int .i64 b, .int .i64 c, .string o, .slice ra rn rc]] w fun e w' => e = .returned (.int .i64 5) ∧ Below w.heap.size w w' := by
  have k0 := Blk.new w 76 #[.int .i64 1, .string n, .int .i64 a, .int .i64 b, .int .i64 c, .string o, .slice ra rn rc]
  have hb0 : Below w.heap.size w (w.alloc (.cells #[.int .i64 1, .string n, .int .i64 a, .int .i64 b, .int .i64 c, .string o, .slice ra rn rc] 76)) := (Below.refl _ w).alloc (Nat.le_refl _) _
  go_enter Tryz.func122, Tryz.ntmps122
  go_upto_region 1 with fail
  generalize w.alloc (.cells #[.int .i64 1, .string n, .int .i64 a, .int .i64 b, .int .i64 c, .string o, .slice ra rn rc] 76) = W0 at *
  have xc0 : W0.cell? ⟨w.heap.size, 0, none⟩ = some (.int .i64 1) := k0.cell 0
  have xc1 : W0.cell? ⟨w.heap.size, 1, none⟩ = some (.string n) := k0.cell 1
  have xc2 : W0.cell? ⟨w.heap.size, 2, none⟩ = some (.int .i64 a) := k0.cell 2
  have xc3 : W0.cell? ⟨w.heap.size, 3, none⟩ = some (.int .i64 b) := k0.cell 3
  have xc4 : W0.cell? ⟨w.heap.size, 4, none⟩ = some (.int .i64 c) := k0.cell 4
  have xc5 : W0.cell? ⟨w.heap.size, 5, none⟩ = some (.string o) := k0.cell 5
  have xc6 : W0.cell? ⟨w.heap.size, 6, none⟩ = some (.slice ra rn rc) := k0.cell 6
  go_wp2_with fail
  clear xc0 xc1 xc2 xc3 xc4 xc5 xc6
  refine (name_no n W0 hn).mono ?_
  rintro e w1 ⟨rfl, hwx⟩
  subst hwx
  have HB := Lib.hid hb0
  clear k0 hb0
  go_wp2
  go_ret
  exact ⟨rfl, HB.out⟩

set_option maxRecDepth 100000 in
set_option maxHeartbeats 2000000 in
theorem chk_name2 (n o : ByteArray) (a b c : Int) (ra : Option Addr) (rn rc : Nat) (w : World) (hn : ¬ NameOk n) :
    Calls Tryz.prog 122 #[.agg #[.int .i64 2, .string n, .int .i64 a, .int .i64 b, .int .i64 c, .string o, .slice ra rn rc]] w fun e w' => e = .returned (.int .i64 5) ∧ Below w.heap.size w w' := by
  have k0 := Blk.new w 76 #[.int .i64 2, .string n, .int .i64 a, .int .i64 b, .int .i64 c, .string o, .slice ra rn rc]
  have hb0 : Below w.heap.size w (w.alloc (.cells #[.int .i64 2, .string n, .int .i64 a, .int .i64 b, .int .i64 c, .string o, .slice ra rn rc] 76)) := (Below.refl _ w).alloc (Nat.le_refl _) _
  go_enter Tryz.func122, Tryz.ntmps122
  go_upto_region 1 with fail
  generalize w.alloc (.cells #[.int .i64 2, .string n, .int .i64 a, .int .i64 b, .int .i64 c, .string o, .slice ra rn rc] 76) = W0 at *
  have xc0 : W0.cell? ⟨w.heap.size, 0, none⟩ = some (.int .i64 2) := k0.cell 0
  have xc1 : W0.cell? ⟨w.heap.size, 1, none⟩ = some (.string n) := k0.cell 1
  have xc2 : W0.cell? ⟨w.heap.size, 2, none⟩ = some (.int .i64 a) := k0.cell 2
  have xc3 : W0.cell? ⟨w.heap.size, 3, none⟩ = some (.int .i64 b) := k0.cell 3
  have xc4 : W0.cell? ⟨w.heap.size, 4, none⟩ = some (.int .i64 c) := k0.cell 4
  have xc5 : W0.cell? ⟨w.heap.size, 5, none⟩ = some (.string o) := k0.cell 5
  have xc6 : W0.cell? ⟨w.heap.size, 6, none⟩ = some (.slice ra rn rc) := k0.cell 6
  go_wp2_with fail
  clear xc0 xc1 xc2 xc3 xc4 xc5 xc6
  refine (name_no n W0 hn).mono ?_
  rintro e w1 ⟨rfl, hwx⟩
  subst hwx
  have HB := Lib.hid hb0
  clear k0 hb0
  go_wp2
  go_ret
  exact ⟨rfl, HB.out⟩

set_option maxRecDepth 100000 in
set_option maxHeartbeats 2000000 in
theorem chk_name3 (n o : ByteArray) (a b c : Int) (ra : Option Addr) (rn rc : Nat) (w : World) (hn : ¬ NameOk n) :
    Calls Tryz.prog 122 #[.agg #[.int .i64 3, .string n, .int .i64 a, .int .i64 b, .int .i64 c, .string o, .slice ra rn rc]] w fun e w' => e = .returned (.int .i64 5) ∧ Below w.heap.size w w' := by
  have k0 := Blk.new w 76 #[.int .i64 3, .string n, .int .i64 a, .int .i64 b, .int .i64 c, .string o, .slice ra rn rc]
  have hb0 : Below w.heap.size w (w.alloc (.cells #[.int .i64 3, .string n, .int .i64 a, .int .i64 b, .int .i64 c, .string o, .slice ra rn rc] 76)) := (Below.refl _ w).alloc (Nat.le_refl _) _
  go_enter Tryz.func122, Tryz.ntmps122
  go_upto_region 1 with fail
  generalize w.alloc (.cells #[.int .i64 3, .string n, .int .i64 a, .int .i64 b, .int .i64 c, .string o, .slice ra rn rc] 76) = W0 at *
  have xc0 : W0.cell? ⟨w.heap.size, 0, none⟩ = some (.int .i64 3) := k0.cell 0
  have xc1 : W0.cell? ⟨w.heap.size, 1, none⟩ = some (.string n) := k0.cell 1
  have xc2 : W0.cell? ⟨w.heap.size, 2, none⟩ = some (.int .i64 a) := k0.cell 2
  have xc3 : W0.cell? ⟨w.heap.size, 3, none⟩ = some (.int .i64 b) := k0.cell 3
  have xc4 : W0.cell? ⟨w.heap.size, 4, none⟩ = some (.int .i64 c) := k0.cell 4
  have xc5 : W0.cell? ⟨w.heap.size, 5, none⟩ = some (.string o) := k0.cell 5
  have xc6 : W0.cell? ⟨w.heap.size, 6, none⟩ = some (.slice ra rn rc) := k0.cell 6
  go_wp2_with fail
  clear xc0 xc1 xc2 xc3 xc4 xc5 xc6
  refine (name_no n W0 hn).mono ?_
  rintro e w1 ⟨rfl, hwx⟩
  subst hwx
  have HB := Lib.hid hb0
  clear k0 hb0
  go_wp2
  go_ret
  exact ⟨rfl, HB.out⟩

set_option maxRecDepth 100000 in
set_option maxHeartbeats 2000000 in
theorem chk_name4 (n o : ByteArray) (a b c : Int) (ra : Option Addr) (rn rc : Nat) (w : World) (hn : ¬ NameOk n) :
    Calls Tryz.prog 122 #[.agg #[.int .i64 4, .string n, .int .i64 a, .int .i64 b, .int .i64 c, .string o, .slice ra rn rc]] w fun e w' => e = .returned (.int .i64 5) ∧ Below w.heap.size w w' := by
  have k0 := Blk.new w 76 #[.int .i64 4, .string n, .int .i64 a, .int .i64 b, .int .i64 c, .string o, .slice ra rn rc]
  have hb0 : Below w.heap.size w (w.alloc (.cells #[.int .i64 4, .string n, .int .i64 a, .int .i64 b, .int .i64 c, .string o, .slice ra rn rc] 76)) := (Below.refl _ w).alloc (Nat.le_refl _) _
  go_enter Tryz.func122, Tryz.ntmps122
  go_upto_region 1 with fail
  generalize w.alloc (.cells #[.int .i64 4, .string n, .int .i64 a, .int .i64 b, .int .i64 c, .string o, .slice ra rn rc] 76) = W0 at *
  have xc0 : W0.cell? ⟨w.heap.size, 0, none⟩ = some (.int .i64 4) := k0.cell 0
  have xc1 : W0.cell? ⟨w.heap.size, 1, none⟩ = some (.string n) := k0.cell 1
  have xc2 : W0.cell? ⟨w.heap.size, 2, none⟩ = some (.int .i64 a) := k0.cell 2
  have xc3 : W0.cell? ⟨w.heap.size, 3, none⟩ = some (.int .i64 b) := k0.cell 3
  have xc4 : W0.cell? ⟨w.heap.size, 4, none⟩ = some (.int .i64 c) := k0.cell 4
  have xc5 : W0.cell? ⟨w.heap.size, 5, none⟩ = some (.string o) := k0.cell 5
  have xc6 : W0.cell? ⟨w.heap.size, 6, none⟩ = some (.slice ra rn rc) := k0.cell 6
  go_wp2_with fail
  clear xc0 xc1 xc2 xc3 xc4 xc5 xc6
  refine (name_no n W0 hn).mono ?_
  rintro e w1 ⟨rfl, hwx⟩
  subst hwx
  have HB := Lib.hid hb0
  clear k0 hb0
  go_wp2
  go_ret
  exact ⟨rfl, HB.out⟩

set_option maxRecDepth 100000 in
set_option maxHeartbeats 2000000 in
theorem chk_other2 (n o : ByteArray) (a b c : Int) (ra : Option Addr) (rn rc : Nat) (w : World) (hn : NameOk n) (ho : ¬ NameOk o) :
    Calls Tryz.prog 122 #[.agg #[.int .i64 2, .string n, .int .i64 a, .int .i64 b, .int .i64 c, .string o, .slice ra rn rc]] w fun e w' => e = .returned (.int .i64 5) ∧ Below w.heap.size w w' := by
  have k0 := Blk.new w 76 #[.int .i64 2, .string n, .int .i64 a, .int .i64 b, .int .i64 c, .string o, .slice ra rn rc]
  have hb0 : Below w.heap.size w (w.alloc (.cells #[.int .i64 2, .string n, .int .i64 a, .int .i64 b, .int .i64 c, .string o, .slice ra rn rc] 76)) := (Below.refl _ w).alloc (Nat.le_refl _) _
  go_enter Tryz.func122, Tryz.ntmps122
  go_upto_region 1 with fail
  generalize w.alloc (.cells #[.int .i64 2, .string n, .int .i64 a, .int .i64 b, .int .i64 c, .string o, .slice ra rn rc] 76) = W0 at *
  have xc0 : W0.cell? ⟨w.heap.size, 0, none⟩ = some (.int .i64 2) := k0.cell 0
  have xc1 : W0.cell? ⟨w.heap.size, 1, none⟩ = some (.string n) := k0.cell 1
  have xc2 : W0.cell? ⟨w.heap.size, 2, none⟩ = some (.int .i64 a) := k0.cell 2
  have xc3 : W0.cell? ⟨w.heap.size, 3, none⟩ = some (.int .i64 b) := k0.cell 3
  have xc4 : W0.cell? ⟨w.heap.size, 4, none⟩ = some (.int .i64 c) := k0.cell 4
  have xc5 : W0.cell? ⟨w.heap.size, 5, none⟩ = some (.string o) := k0.cell 5
  have xc6 : W0.cell? ⟨w.heap.size, 6, none⟩ = some (.slice ra rn rc) := k0.cell 6
  go_wp2_with fail
  clear xc0 xc1 xc2 xc3 xc4 xc5 xc6
  refine (name_yes n W0 hn).mono ?_
  rintro e w1 ⟨rfl, hwx⟩
  subst hwx
  have xc0 : W0.cell? ⟨w.heap.size, 0, none⟩ = some (.int .i64 2) := k0.cell 0
  have xc1 : W0.cell? ⟨w.heap.size, 1, none⟩ = some (.string n) := k0.cell 1
  have xc2 : W0.cell? ⟨w.heap.size, 2, none⟩ = some (.int .i64 a) := k0.cell 2
  have xc3 : W0.cell? ⟨w.heap.size, 3, none⟩ = some (.int .i64 b) := k0.cell 3
  have xc4 : W0.cell? ⟨w.heap.size, 4, none⟩ = some (.int .i64 c) := k0.cell 4
  have xc5 : W0.cell? ⟨w.heap.size, 5, none⟩ = some (.string o) := k0.cell 5
  have xc6 : W0.cell? ⟨w.heap.size, 6, none⟩ = some (.slice ra rn rc) := k0.cell 6
  go_wp2_with fail
  clear xc0 xc1 xc2 xc3 xc4 xc5 xc6
  have HP1 : Hid (Calls Tryz.prog 87 #[.agg #[.int .i64 2, .string n, .int .i64 a, .int .i64 b, .int .i64 c, .string o, .slice ra rn rc]] W0 fun e w' => e = .returned (.bool true) ∧ w' = W0.alloc (.cells #[.int .i64 2, .string n, .int .i64 a, .int .i64 b, .int .i64 c, .string o, .slice ra rn rc] 76)) := pair_any ⟨2, n, a, b, c, o, []⟩ (.slice ra rn rc) W0
  refine HP1.out.mono ?_
  rintro e w1 ⟨rfl, hwx⟩
  have hbx : Below W0.heap.size W0 w1 := by rw [hwx]; exact (Below.refl _ _).alloc (Nat.le_refl _) _
  have k1 := k0.below hbx k0.lt
  have hb1 : Below w.heap.size w w1 := hb0.trans (hbx.mono hb0.size)
  clear HP1 hwx hbx k0 hb0
  have xc0 : w1.cell? ⟨w.heap.size, 0, none⟩ = some (.int .i64 2) := k1.cell 0
  have xc1 : w1.cell? ⟨w.heap.size, 1, none⟩ = some (.string n) := k1.cell 1
  have xc2 : w1.cell? ⟨w.heap.size, 2, none⟩ = some (.int .i64 a) := k1.cell 2
  have xc3 : w1.cell? ⟨w.heap.size, 3, none⟩ = some (.int .i64 b) := k1.cell 3
  have xc4 : w1.cell? ⟨w.heap.size, 4, none⟩ = some (.int .i64 c) := k1.cell 4
  have xc5 : w1.cell? ⟨w.heap.size, 5, none⟩ = some (.string o) := k1.cell 5
  have xc6 : w1.cell? ⟨w.heap.size, 6, none⟩ = some (.slice ra rn rc) := k1.cell 6
  go_wp2_with fail
  clear xc0 xc1 xc2 xc3 xc4 xc5 xc6
  refine (name_no o w1 ho).mono ?_
  rintro e w2 ⟨rfl, hwx⟩
  subst hwx
  have HB := Lib.hid hb1
  clear k1 hb1
  go_wp2
  go_ret
  exact ⟨rfl, HB.out⟩

set_option maxRecDepth 100000 in
set_option maxHeartbeats 2000000 in
theorem chk_other3 (n o : ByteArray) (a b c : Int) (ra : Option Addr) (rn rc : Nat) (w : World) (hn : NameOk n) (ho : ¬ NameOk o) :
    Calls Tryz.prog 122 #[.agg #[.int .i64 3, .string n, .int .i64 a, .int .i64 b, .int .i64 c, .string o, .slice ra rn rc]] w fun e w' => e = .returned (.int .i64 5) ∧ Below w.heap.size w w' := by
  have k0 := Blk.new w 76 #[.int .i64 3, .string n, .int .i64 a, .int .i64 b, .int .i64 c, .string o, .slice ra rn rc]
  have hb0 : Below w.heap.size w (w.alloc (.cells #[.int .i64 3, .string n, .int .i64 a, .int .i64 b, .int .i64 c, .string o, .slice ra rn rc] 76)) := (Below.refl _ w).alloc (Nat.le_refl _) _
  go_enter Tryz.func122, Tryz.ntmps122
  go_upto_region 1 with fail
  generalize w.alloc (.cells #[.int .i64 3, .string n, .int .i64 a, .int .i64 b, .int .i64 c, .string o, .slice ra rn rc] 76) = W0 at *
  have xc0 : W0.cell? ⟨w.heap.size, 0, none⟩ = some (.int .i64 3) := k0.cell 0
  have xc1 : W0.cell? ⟨w.heap.size, 1, none⟩ = some (.string n) := k0.cell 1
  have xc2 : W0.cell? ⟨w.heap.size, 2, none⟩ = some (.int .i64 a) := k0.cell 2
  have xc3 : W0.cell? ⟨w.heap.size, 3, none⟩ = some (.int .i64 b) := k0.cell 3
  have xc4 : W0.cell? ⟨w.heap.size, 4, none⟩ = some (.int .i64 c) := k0.cell 4
  have xc5 : W0.cell? ⟨w.heap.size, 5, none⟩ = some (.string o) := k0.cell 5
  have xc6 : W0.cell? ⟨w.heap.size, 6, none⟩ = some (.slice ra rn rc) := k0.cell 6
  go_wp2_with fail
  clear xc0 xc1 xc2 xc3 xc4 xc5 xc6
  refine (name_yes n W0 hn).mono ?_
  rintro e w1 ⟨rfl, hwx⟩
  subst hwx
  have xc0 : W0.cell? ⟨w.heap.size, 0, none⟩ = some (.int .i64 3) := k0.cell 0
  have xc1 : W0.cell? ⟨w.heap.size, 1, none⟩ = some (.string n) := k0.cell 1
  have xc2 : W0.cell? ⟨w.heap.size, 2, none⟩ = some (.int .i64 a) := k0.cell 2
  have xc3 : W0.cell? ⟨w.heap.size, 3, none⟩ = some (.int .i64 b) := k0.cell 3
  have xc4 : W0.cell? ⟨w.heap.size, 4, none⟩ = some (.int .i64 c) := k0.cell 4
  have xc5 : W0.cell? ⟨w.heap.size, 5, none⟩ = some (.string o) := k0.cell 5
  have xc6 : W0.cell? ⟨w.heap.size, 6, none⟩ = some (.slice ra rn rc) := k0.cell 6
  go_wp2_with fail
  clear xc0 xc1 xc2 xc3 xc4 xc5 xc6
  have HP1 : Hid (Calls Tryz.prog 87 #[.agg #[.int .i64 3, .string n, .int .i64 a, .int .i64 b, .int .i64 c, .string o, .slice ra rn rc]] W0 fun e w' => e = .returned (.bool true) ∧ w' = W0.alloc (.cells #[.int .i64 3, .string n, .int .i64 a, .int .i64 b, .int .i64 c, .string o, .slice ra rn rc] 76)) := pair_any ⟨3, n, a, b, c, o, []⟩ (.slice ra rn rc) W0
  refine HP1.out.mono ?_
  rintro e w1 ⟨rfl, hwx⟩
  have hbx : Below W0.heap.size W0 w1 := by rw [hwx]; exact (Below.refl _ _).alloc (Nat.le_refl _) _
  have k1 := k0.below hbx k0.lt
  have hb1 : Below w.heap.size w w1 := hb0.trans (hbx.mono hb0.size)
  clear HP1 hwx hbx k0 hb0
  have xc0 : w1.cell? ⟨w.heap.size, 0, none⟩ = some (.int .i64 3) := k1.cell 0
  have xc1 : w1.cell? ⟨w.heap.size, 1, none⟩ = some (.string n) := k1.cell 1
  have xc2 : w1.cell? ⟨w.heap.size, 2, none⟩ = some (.int .i64 a) := k1.cell 2
  have xc3 : w1.cell? ⟨w.heap.size, 3, none⟩ = some (.int .i64 b) := k1.cell 3
  have xc4 : w1.cell? ⟨w.heap.size, 4, none⟩ = some (.int .i64 c) := k1.cell 4
  have xc5 : w1.cell? ⟨w.heap.size, 5, none⟩ = some (.string o) := k1.cell 5
  have xc6 : w1.cell? ⟨w.heap.size, 6, none⟩ = some (.slice ra rn rc) := k1.cell 6
  go_wp2_with fail
  clear xc0 xc1 xc2 xc3 xc4 xc5 xc6
  refine (name_no o w1 ho).mono ?_
  rintro e w2 ⟨rfl, hwx⟩
  subst hwx
  have HB := Lib.hid hb1
  clear k1 hb1
  go_wp2
  go_ret
  exact ⟨rfl, HB.out⟩

set_option maxRecDepth 100000 in
set_option maxHeartbeats 2000000 in
theorem chk_pair2 (n o : ByteArray) (a b c : Int) (ra : Option Addr) (rn rc : Nat) (w : World) (hn : NameOk n) (ho : NameOk o) :
    Calls Tryz.prog 122 #[.agg #[.int .i64 2, .string n, .int .i64 a, .int .i64 b, .int .i64 c, .string o, .slice ra rn rc]] w fun e w' => e = .returned (.int .i64 (if InV a b c then (0 : Int) else 2)) ∧ Below w.heap.size w w' := by
  obtain ⟨Z, hZ⟩ : ∃ Z : Int, (if InV a b c then (0 : Int) else 2) = Z := ⟨_, rfl⟩
  rw [hZ]
  have HZ := Lib.hid hZ
  clear hZ
  have k0 := Blk.new w 76 #[.int .i64 2, .string n, .int .i64 a, .int .i64 b, .int .i64 c, .string o, .slice ra rn rc]
  have hb0 : Below w.heap.size w (w.alloc (.cells #[.int .i64 2, .string n, .int .i64 a, .int .i64 b, .int .i64 c, .string o, .slice ra rn rc] 76)) := (Below.refl _ w).alloc (Nat.le_refl _) _
  go_enter Tryz.func122, Tryz.ntmps122
  go_upto_region 1 with fail
  generalize w.alloc (.cells #[.int .i64 2, .string n, .int .i64 a, .int .i64 b, .int .i64 c, .string o, .slice ra rn rc] 76) = W0 at *
  have xc0 : W0.cell? ⟨w.heap.size, 0, none⟩ = some (.int .i64 2) := k0.cell 0
  have xc1 : W0.cell? ⟨w.heap.size, 1, none⟩ = some (.string n) := k0.cell 1
  have xc2 : W0.cell? ⟨w.heap.size, 2, none⟩ = some (.int .i64 a) := k0.cell 2
  have xc3 : W0.cell? ⟨w.heap.size, 3, none⟩ = some (.int .i64 b) := k0.cell 3
  have xc4 : W0.cell? ⟨w.heap.size, 4, none⟩ = some (.int .i64 c) := k0.cell 4
  have xc5 : W0.cell? ⟨w.heap.size, 5, none⟩ = some (.string o) := k0.cell 5
  have xc6 : W0.cell? ⟨w.heap.size, 6, none⟩ = some (.slice ra rn rc) := k0.cell 6
  go_wp2_with fail
  clear xc0 xc1 xc2 xc3 xc4 xc5 xc6
  refine (name_yes n W0 hn).mono ?_
  rintro e w1 ⟨rfl, hwx⟩
  subst hwx
  have xc0 : W0.cell? ⟨w.heap.size, 0, none⟩ = some (.int .i64 2) := k0.cell 0
  have xc1 : W0.cell? ⟨w.heap.size, 1, none⟩ = some (.string n) := k0.cell 1
  have xc2 : W0.cell? ⟨w.heap.size, 2, none⟩ = some (.int .i64 a) := k0.cell 2
  have xc3 : W0.cell? ⟨w.heap.size, 3, none⟩ = some (.int .i64 b) := k0.cell 3
  have xc4 : W0.cell? ⟨w.heap.size, 4, none⟩ = some (.int .i64 c) := k0.cell 4
  have xc5 : W0.cell? ⟨w.heap.size, 5, none⟩ = some (.string o) := k0.cell 5
  have xc6 : W0.cell? ⟨w.heap.size, 6, none⟩ = some (.slice ra rn rc) := k0.cell 6
  go_wp2_with fail
  clear xc0 xc1 xc2 xc3 xc4 xc5 xc6
  have HP1 : Hid (Calls Tryz.prog 87 #[.agg #[.int .i64 2, .string n, .int .i64 a, .int .i64 b, .int .i64 c, .string o, .slice ra rn rc]] W0 fun e w' => e = .returned (.bool true) ∧ w' = W0.alloc (.cells #[.int .i64 2, .string n, .int .i64 a, .int .i64 b, .int .i64 c, .string o, .slice ra rn rc] 76)) := pair_any ⟨2, n, a, b, c, o, []⟩ (.slice ra rn rc) W0
  refine HP1.out.mono ?_
  rintro e w1 ⟨rfl, hwx⟩
  have hbx : Below W0.heap.size W0 w1 := by rw [hwx]; exact (Below.refl _ _).alloc (Nat.le_refl _) _
  have k1 := k0.below hbx k0.lt
  have hb1 : Below w.heap.size w w1 := hb0.trans (hbx.mono hb0.size)
  clear HP1 hwx hbx k0 hb0
  have xc0 : w1.cell? ⟨w.heap.size, 0, none⟩ = some (.int .i64 2) := k1.cell 0
  have xc1 : w1.cell? ⟨w.heap.size, 1, none⟩ = some (.string n) := k1.cell 1
  have xc2 : w1.cell? ⟨w.heap.size, 2, none⟩ = some (.int .i64 a) := k1.cell 2
  have xc3 : w1.cell? ⟨w.heap.size, 3, none⟩ = some (.int .i64 b) := k1.cell 3
  have xc4 : w1.cell? ⟨w.heap.size, 4, none⟩ = some (.int .i64 c) := k1.cell 4
  have xc5 : w1.cell? ⟨w.heap.size, 5, none⟩ = some (.string o) := k1.cell 5
  have xc6 : w1.cell? ⟨w.heap.size, 6, none⟩ = some (.slice ra rn rc) := k1.cell 6
  go_wp2_with fail
  clear xc0 xc1 xc2 xc3 xc4 xc5 xc6
  refine (name_yes o w1 ho).mono ?_
  rintro e w2 ⟨rfl, hwx⟩
  subst hwx
  have xc0 : w1.cell? ⟨w.heap.size, 0, none⟩ = some (.int .i64 2) := k1.cell 0
  have xc1 : w1.cell? ⟨w.heap.size, 1, none⟩ = some (.string n) := k1.cell 1
  have xc2 : w1.cell? ⟨w.heap.size, 2, none⟩ = some (.int .i64 a) := k1.cell 2
  have xc3 : w1.cell? ⟨w.heap.size, 3, none⟩ = some (.int .i64 b) := k1.cell 3
  have xc4 : w1.cell? ⟨w.heap.size, 4, none⟩ = some (.int .i64 c) := k1.cell 4
  have xc5 : w1.cell? ⟨w.heap.size, 5, none⟩ = some (.string o) := k1.cell 5
  have xc6 : w1.cell? ⟨w.heap.size, 6, none⟩ = some (.slice ra rn rc) := k1.cell 6
  go_wp2_with fail
  clear xc0 xc1 xc2 xc3 xc4 xc5 xc6
  have HP2 : Hid (Calls Tryz.prog 87 #[.agg #[.int .i64 2, .string n, .int .i64 a, .int .i64 b, .int .i64 c, .string o, .slice ra rn rc]] w1 fun e w' => e = .returned (.bool true) ∧ w' = w1.alloc (.cells #[.int .i64 2, .string n, .int .i64 a, .int .i64 b, .int .i64 c, .string o, .slice ra rn rc] 76)) := pair_any ⟨2, n, a, b, c, o, []⟩ (.slice ra rn rc) w1
  refine HP2.out.mono ?_
  rintro e w3 ⟨rfl, hwx⟩
  have hbx : Below w1.heap.size w1 w3 := by rw [hwx]; exact (Below.refl _ _).alloc (Nat.le_refl _) _
  have k3 := k1.below hbx k1.lt
  have hb3 : Below w.heap.size w w3 := hb1.trans (hbx.mono hb1.size)
  clear HP2 hwx hbx k1 hb1
  have xc0 : w3.cell? ⟨w.heap.size, 0, none⟩ = some (.int .i64 2) := k3.cell 0
  have xc1 : w3.cell? ⟨w.heap.size, 1, none⟩ = some (.string n) := k3.cell 1
  have xc2 : w3.cell? ⟨w.heap.size, 2, none⟩ = some (.int .i64 a) := k3.cell 2
  have xc3 : w3.cell? ⟨w.heap.size, 3, none⟩ = some (.int .i64 b) := k3.cell 3
  have xc4 : w3.cell? ⟨w.heap.size, 4, none⟩ = some (.int .i64 c) := k3.cell 4
  have xc5 : w3.cell? ⟨w.heap.size, 5, none⟩ = some (.string o) := k3.cell 5
  have xc6 : w3.cell? ⟨w.heap.size, 6, none⟩ = some (.slice ra rn rc) := k3.cell 6
  go_upto_region 11 with fail
  clear xc0 xc1 xc2 xc3 xc4 xc5 xc6
  obtain ⟨q, hq⟩ : ∃ q, decide (InV a b c) = q := ⟨_, rfl⟩
  have HANY : Hid (∀ W', Calls Tryz.prog 27 #[] W' fun e w' => ∃ a' c', e = .returned (.agg #[.slice a' anyF.length c']) ∧ SpAt w' (.slice a' anyF.length c') anyF ∧ Below W'.heap.size W' w') := fun W' => (any_any W').mono fun e w' ⟨v', he, hs, hn, hb⟩ => by obtain ⟨a', c', rfl⟩ := hs.form; exact ⟨a', c', he, hs, hb⟩
  have HHAS : Hid (∀ va vc W', SpAt W' (.slice va anyF.length vc) anyF → Calls Tryz.prog 25 #[.agg #[.slice va anyF.length vc], .agg #[.int .i64 a, .int .i64 b, .int .i64 c]] W' fun e w' => e = .returned (.bool q) ∧ Below W'.heap.size W' w') := fun va vc W' h => by rw [← hq]; exact anyhas va vc a b c W' h
  have HQ := Lib.hid hq
  clear hq
  have hxl := k3.lt
  have SC : Hid (∀ W', Below w3.heap.size w3 W' → W'.cell? ⟨w.heap.size, 2, none⟩ = some (.int .i64 a) ∧ W'.cell? ⟨w.heap.size, 3, none⟩ = some (.int .i64 b) ∧ W'.cell? ⟨w.heap.size, 4, none⟩ = some (.int .i64 c)) := fun W' h => ⟨(k3.below h hxl).cell 2, (k3.below h hxl).cell 3, (k3.below h hxl).cell 4⟩
  have HB0 := Lib.hid hb3
  clear k3 hb3 hxl
  have D0 : Below w3.heap.size w3 w3.drew := (Below.refl _ _).drew
  go_region_held3 (fun W' => W'.cell? ⟨w.heap.size, 2, none⟩ = some (.int .i64 a) ∧ W'.cell? ⟨w.heap.size, 3, none⟩ = some (.int .i64 b) ∧ W'.cell? ⟨w.heap.size, 4, none⟩ = some (.int .i64 c)) (first | exact SC.out _ D0 | exact SC.out _ D1 | exact SC.out _ D2)
    (first
      | ((with_reducible refine (HANY.out _).mono ?_); rintro e x1 ⟨va, vc, rfl, hs1, hb1⟩; have D1 : Below w3.heap.size w3 x1 := D0.trans (hb1.mono D0.size); clear HANY D0 hb1)
      | ((with_reducible refine (HHAS.out _ _ _ hs1).mono ?_); rintro e x2 ⟨rfl, hb2⟩; have D2 : Below w3.heap.size w3 x2 := D1.trans (hb2.mono D1.size); clear HHAS D1 hb2 hs1))
  have HB : Hid (Below w.heap.size w x2) := HB0.out.trans (D2.mono HB0.out.size)
  clear D2 HB0 SC
  cases q with
  | true =>
    have HC : Hid (Z = 0) := by have h := HQ.out; show _ = _; rw [← HZ.out]; exact if_pos (by simpa using h)
    go_wp2
    go_ret
    exact ⟨by rw [HC.out]; rfl, HB.out⟩
  | false =>
    have HC : Hid (Z = 2) := by have h := HQ.out; show _ = _; rw [← HZ.out]; exact if_neg (by simpa using h)
    go_wp2
    go_ret
    exact ⟨by rw [HC.out]; rfl, HB.out⟩

set_option maxRecDepth 100000 in
set_option maxHeartbeats 2000000 in
theorem chk_pair3 (n o : ByteArray) (a b c : Int) (ra : Option Addr) (rn rc : Nat) (w : World) (hn : NameOk n) (ho : NameOk o) :
    Calls Tryz.prog 122 #[.agg #[.int .i64 3, .string n, .int .i64 a, .int .i64 b, .int .i64 c, .string o, .slice ra rn rc]] w fun e w' => e = .returned (.int .i64 (if InV a b c then (0 : Int) else 2)) ∧ Below w.heap.size w w' := by
  obtain ⟨Z, hZ⟩ : ∃ Z : Int, (if InV a b c then (0 : Int) else 2) = Z := ⟨_, rfl⟩
  rw [hZ]
  have HZ := Lib.hid hZ
  clear hZ
  have k0 := Blk.new w 76 #[.int .i64 3, .string n, .int .i64 a, .int .i64 b, .int .i64 c, .string o, .slice ra rn rc]
  have hb0 : Below w.heap.size w (w.alloc (.cells #[.int .i64 3, .string n, .int .i64 a, .int .i64 b, .int .i64 c, .string o, .slice ra rn rc] 76)) := (Below.refl _ w).alloc (Nat.le_refl _) _
  go_enter Tryz.func122, Tryz.ntmps122
  go_upto_region 1 with fail
  generalize w.alloc (.cells #[.int .i64 3, .string n, .int .i64 a, .int .i64 b, .int .i64 c, .string o, .slice ra rn rc] 76) = W0 at *
  have xc0 : W0.cell? ⟨w.heap.size, 0, none⟩ = some (.int .i64 3) := k0.cell 0
  have xc1 : W0.cell? ⟨w.heap.size, 1, none⟩ = some (.string n) := k0.cell 1
  have xc2 : W0.cell? ⟨w.heap.size, 2, none⟩ = some (.int .i64 a) := k0.cell 2
  have xc3 : W0.cell? ⟨w.heap.size, 3, none⟩ = some (.int .i64 b) := k0.cell 3
  have xc4 : W0.cell? ⟨w.heap.size, 4, none⟩ = some (.int .i64 c) := k0.cell 4
  have xc5 : W0.cell? ⟨w.heap.size, 5, none⟩ = some (.string o) := k0.cell 5
  have xc6 : W0.cell? ⟨w.heap.size, 6, none⟩ = some (.slice ra rn rc) := k0.cell 6
  go_wp2_with fail
  clear xc0 xc1 xc2 xc3 xc4 xc5 xc6
  refine (name_yes n W0 hn).mono ?_
  rintro e w1 ⟨rfl, hwx⟩
  subst hwx
  have xc0 : W0.cell? ⟨w.heap.size, 0, none⟩ = some (.int .i64 3) := k0.cell 0
  have xc1 : W0.cell? ⟨w.heap.size, 1, none⟩ = some (.string n) := k0.cell 1
  have xc2 : W0.cell? ⟨w.heap.size, 2, none⟩ = some (.int .i64 a) := k0.cell 2
  have xc3 : W0.cell? ⟨w.heap.size, 3, none⟩ = some (.int .i64 b) := k0.cell 3
  have xc4 : W0.cell? ⟨w.heap.size, 4, none⟩ = some (.int .i64 c) := k0.cell 4
  have xc5 : W0.cell? ⟨w.heap.size, 5, none⟩ = some (.string o) := k0.cell 5
  have xc6 : W0.cell? ⟨w.heap.size, 6, none⟩ = some (.slice ra rn rc) := k0.cell 6
  go_wp2_with fail
  clear xc0 xc1 xc2 xc3 xc4 xc5 xc6
  have HP1 : Hid (Calls Tryz.prog 87 #[.agg #[.int .i64 3, .string n, .int .i64 a, .int .i64 b, .int .i64 c, .string o, .slice ra rn rc]] W0 fun e w' => e = .returned (.bool true) ∧ w' = W0.alloc (.cells #[.int .i64 3, .string n, .int .i64 a, .int .i64 b, .int .i64 c, .string o, .slice ra rn rc] 76)) := pair_any ⟨3, n, a, b, c, o, []⟩ (.slice ra rn rc) W0
  refine HP1.out.mono ?_
  rintro e w1 ⟨rfl, hwx⟩
  have hbx : Below W0.heap.size W0 w1 := by rw [hwx]; exact (Below.refl _ _).alloc (Nat.le_refl _) _
  have k1 := k0.below hbx k0.lt
  have hb1 : Below w.heap.size w w1 := hb0.trans (hbx.mono hb0.size)
  clear HP1 hwx hbx k0 hb0
  have xc0 : w1.cell? ⟨w.heap.size, 0, none⟩ = some (.int .i64 3) := k1.cell 0
  have xc1 : w1.cell? ⟨w.heap.size, 1, none⟩ = some (.string n) := k1.cell 1
  have xc2 : w1.cell? ⟨w.heap.size, 2, none⟩ = some (.int .i64 a) := k1.cell 2
  have xc3 : w1.cell? ⟨w.heap.size, 3, none⟩ = some (.int .i64 b) := k1.cell 3
  have xc4 : w1.cell? ⟨w.heap.size, 4, none⟩ = some (.int .i64 c) := k1.cell 4
  have xc5 : w1.cell? ⟨w.heap.size, 5, none⟩ = some (.string o) := k1.cell 5
  have xc6 : w1.cell? ⟨w.heap.size, 6, none⟩ = some (.slice ra rn rc) := k1.cell 6
  go_wp2_with fail
  clear xc0 xc1 xc2 xc3 xc4 xc5 xc6
  refine (name_yes o w1 ho).mono ?_
  rintro e w2 ⟨rfl, hwx⟩
  subst hwx
  have xc0 : w1.cell? ⟨w.heap.size, 0, none⟩ = some (.int .i64 3) := k1.cell 0
  have xc1 : w1.cell? ⟨w.heap.size, 1, none⟩ = some (.string n) := k1.cell 1
  have xc2 : w1.cell? ⟨w.heap.size, 2, none⟩ = some (.int .i64 a) := k1.cell 2
  have xc3 : w1.cell? ⟨w.heap.size, 3, none⟩ = some (.int .i64 b) := k1.cell 3
  have xc4 : w1.cell? ⟨w.heap.size, 4, none⟩ = some (.int .i64 c) := k1.cell 4
  have xc5 : w1.cell? ⟨w.heap.size, 5, none⟩ = some (.string o) := k1.cell 5
  have xc6 : w1.cell? ⟨w.heap.size, 6, none⟩ = some (.slice ra rn rc) := k1.cell 6
  go_wp2_with fail
  clear xc0 xc1 xc2 xc3 xc4 xc5 xc6
  have HP2 : Hid (Calls Tryz.prog 87 #[.agg #[.int .i64 3, .string n, .int .i64 a, .int .i64 b, .int .i64 c, .string o, .slice ra rn rc]] w1 fun e w' => e = .returned (.bool true) ∧ w' = w1.alloc (.cells #[.int .i64 3, .string n, .int .i64 a, .int .i64 b, .int .i64 c, .string o, .slice ra rn rc] 76)) := pair_any ⟨3, n, a, b, c, o, []⟩ (.slice ra rn rc) w1
  refine HP2.out.mono ?_
  rintro e w3 ⟨rfl, hwx⟩
  have hbx : Below w1.heap.size w1 w3 := by rw [hwx]; exact (Below.refl _ _).alloc (Nat.le_refl _) _
  have k3 := k1.below hbx k1.lt
  have hb3 : Below w.heap.size w w3 := hb1.trans (hbx.mono hb1.size)
  clear HP2 hwx hbx k1 hb1
  have xc0 : w3.cell? ⟨w.heap.size, 0, none⟩ = some (.int .i64 3) := k3.cell 0
  have xc1 : w3.cell? ⟨w.heap.size, 1, none⟩ = some (.string n) := k3.cell 1
  have xc2 : w3.cell? ⟨w.heap.size, 2, none⟩ = some (.int .i64 a) := k3.cell 2
  have xc3 : w3.cell? ⟨w.heap.size, 3, none⟩ = some (.int .i64 b) := k3.cell 3
  have xc4 : w3.cell? ⟨w.heap.size, 4, none⟩ = some (.int .i64 c) := k3.cell 4
  have xc5 : w3.cell? ⟨w.heap.size, 5, none⟩ = some (.string o) := k3.cell 5
  have xc6 : w3.cell? ⟨w.heap.size, 6, none⟩ = some (.slice ra rn rc) := k3.cell 6
  go_upto_region 11 with fail
  clear xc0 xc1 xc2 xc3 xc4 xc5 xc6
  obtain ⟨q, hq⟩ : ∃ q, decide (InV a b c) = q := ⟨_, rfl⟩
  have HANY : Hid (∀ W', Calls Tryz.prog 27 #[] W' fun e w' => ∃ a' c', e = .returned (.agg #[.slice a' anyF.length c']) ∧ SpAt w' (.slice a' anyF.length c') anyF ∧ Below W'.heap.size W' w') := fun W' => (any_any W').mono fun e w' ⟨v', he, hs, hn, hb⟩ => by obtain ⟨a', c', rfl⟩ := hs.form; exact ⟨a', c', he, hs, hb⟩
  have HHAS : Hid (∀ va vc W', SpAt W' (.slice va anyF.length vc) anyF → Calls Tryz.prog 25 #[.agg #[.slice va anyF.length vc], .agg #[.int .i64 a, .int .i64 b, .int .i64 c]] W' fun e w' => e = .returned (.bool q) ∧ Below W'.heap.size W' w') := fun va vc W' h => by rw [← hq]; exact anyhas va vc a b c W' h
  have HQ := Lib.hid hq
  clear hq
  have hxl := k3.lt
  have SC : Hid (∀ W', Below w3.heap.size w3 W' → W'.cell? ⟨w.heap.size, 2, none⟩ = some (.int .i64 a) ∧ W'.cell? ⟨w.heap.size, 3, none⟩ = some (.int .i64 b) ∧ W'.cell? ⟨w.heap.size, 4, none⟩ = some (.int .i64 c)) := fun W' h => ⟨(k3.below h hxl).cell 2, (k3.below h hxl).cell 3, (k3.below h hxl).cell 4⟩
  have HB0 := Lib.hid hb3
  clear k3 hb3 hxl
  have D0 : Below w3.heap.size w3 w3.drew := (Below.refl _ _).drew
  go_region_held3 (fun W' => W'.cell? ⟨w.heap.size, 2, none⟩ = some (.int .i64 a) ∧ W'.cell? ⟨w.heap.size, 3, none⟩ = some (.int .i64 b) ∧ W'.cell? ⟨w.heap.size, 4, none⟩ = some (.int .i64 c)) (first | exact SC.out _ D0 | exact SC.out _ D1 | exact SC.out _ D2)
    (first
      | ((with_reducible refine (HANY.out _).mono ?_); rintro e x1 ⟨va, vc, rfl, hs1, hb1⟩; have D1 : Below w3.heap.size w3 x1 := D0.trans (hb1.mono D0.size); clear HANY D0 hb1)
      | ((with_reducible refine (HHAS.out _ _ _ hs1).mono ?_); rintro e x2 ⟨rfl, hb2⟩; have D2 : Below w3.heap.size w3 x2 := D1.trans (hb2.mono D1.size); clear HHAS D1 hb2 hs1))
  have HB : Hid (Below w.heap.size w x2) := HB0.out.trans (D2.mono HB0.out.size)
  clear D2 HB0 SC
  cases q with
  | true =>
    have HC : Hid (Z = 0) := by have h := HQ.out; show _ = _; rw [← HZ.out]; exact if_pos (by simpa using h)
    go_wp2
    go_ret
    exact ⟨by rw [HC.out]; rfl, HB.out⟩
  | false =>
    have HC : Hid (Z = 2) := by have h := HQ.out; show _ = _; rw [← HZ.out]; exact if_neg (by simpa using h)
    go_wp2
    go_ret
    exact ⟨by rw [HC.out]; rfl, HB.out⟩

set_option maxRecDepth 100000 in
set_option maxHeartbeats 2000000 in
theorem chk_not1 (n o : ByteArray) (a b c : Int) (ra : Option Addr) (rn rc : Nat) (w : World) (hn : NameOk n) (ho : 0 < o.size) :
    Calls Tryz.prog 122 #[.agg #[.int .i64 1, .string n, .int .i64 a, .int .i64 b, .int .i64 c, .string o, .slice ra rn rc]] w fun e w' => e = .returned (.int .i64 1) ∧ Below w.heap.size w w' := by
  have k0 := Blk.new w 76 #[.int .i64 1, .string n, .int .i64 a, .int .i64 b, .int .i64 c, .string o, .slice ra rn rc]
  have hb0 : Below w.heap.size w (w.alloc (.cells #[.int .i64 1, .string n, .int .i64 a, .int .i64 b, .int .i64 c, .string o, .slice ra rn rc] 76)) := (Below.refl _ w).alloc (Nat.le_refl _) _
  go_enter Tryz.func122, Tryz.ntmps122
  go_upto_region 1 with fail
  generalize w.alloc (.cells #[.int .i64 1, .string n, .int .i64 a, .int .i64 b, .int .i64 c, .string o, .slice ra rn rc] 76) = W0 at *
  have xc0 : W0.cell? ⟨w.heap.size, 0, none⟩ = some (.int .i64 1) := k0.cell 0
  have xc1 : W0.cell? ⟨w.heap.size, 1, none⟩ = some (.string n) := k0.cell 1
  have xc2 : W0.cell? ⟨w.heap.size, 2, none⟩ = some (.int .i64 a) := k0.cell 2
  have xc3 : W0.cell? ⟨w.heap.size, 3, none⟩ = some (.int .i64 b) := k0.cell 3
  have xc4 : W0.cell? ⟨w.heap.size, 4, none⟩ = some (.int .i64 c) := k0.cell 4
  have xc5 : W0.cell? ⟨w.heap.size, 5, none⟩ = some (.string o) := k0.cell 5
  have xc6 : W0.cell? ⟨w.heap.size, 6, none⟩ = some (.slice ra rn rc) := k0.cell 6
  go_wp2_with fail
  clear xc0 xc1 xc2 xc3 xc4 xc5 xc6
  refine (name_yes n W0 hn).mono ?_
  rintro e w1 ⟨rfl, hwx⟩
  subst hwx
  have xc0 : W0.cell? ⟨w.heap.size, 0, none⟩ = some (.int .i64 1) := k0.cell 0
  have xc1 : W0.cell? ⟨w.heap.size, 1, none⟩ = some (.string n) := k0.cell 1
  have xc2 : W0.cell? ⟨w.heap.size, 2, none⟩ = some (.int .i64 a) := k0.cell 2
  have xc3 : W0.cell? ⟨w.heap.size, 3, none⟩ = some (.int .i64 b) := k0.cell 3
  have xc4 : W0.cell? ⟨w.heap.size, 4, none⟩ = some (.int .i64 c) := k0.cell 4
  have xc5 : W0.cell? ⟨w.heap.size, 5, none⟩ = some (.string o) := k0.cell 5
  have xc6 : W0.cell? ⟨w.heap.size, 6, none⟩ = some (.slice ra rn rc) := k0.cell 6
  go_wp2_with fail
  clear xc0 xc1 xc2 xc3 xc4 xc5 xc6
  have HP1 : Hid (Calls Tryz.prog 87 #[.agg #[.int .i64 1, .string n, .int .i64 a, .int .i64 b, .int .i64 c, .string o, .slice ra rn rc]] W0 fun e w' => e = .returned (.bool false) ∧ w' = W0.alloc (.cells #[.int .i64 1, .string n, .int .i64 a, .int .i64 b, .int .i64 c, .string o, .slice ra rn rc] 76)) := pair_any ⟨1, n, a, b, c, o, []⟩ (.slice ra rn rc) W0
  refine HP1.out.mono ?_
  rintro e w1 ⟨rfl, hwx⟩
  have hbx : Below W0.heap.size W0 w1 := by rw [hwx]; exact (Below.refl _ _).alloc (Nat.le_refl _) _
  have k1 := k0.below hbx k0.lt
  have hb1 : Below w.heap.size w w1 := hb0.trans (hbx.mono hb0.size)
  clear HP1 hwx hbx k0 hb0
  have xc0 : w1.cell? ⟨w.heap.size, 0, none⟩ = some (.int .i64 1) := k1.cell 0
  have xc1 : w1.cell? ⟨w.heap.size, 1, none⟩ = some (.string n) := k1.cell 1
  have xc2 : w1.cell? ⟨w.heap.size, 2, none⟩ = some (.int .i64 a) := k1.cell 2
  have xc3 : w1.cell? ⟨w.heap.size, 3, none⟩ = some (.int .i64 b) := k1.cell 3
  have xc4 : w1.cell? ⟨w.heap.size, 4, none⟩ = some (.int .i64 c) := k1.cell 4
  have xc5 : w1.cell? ⟨w.heap.size, 5, none⟩ = some (.string o) := k1.cell 5
  have xc6 : w1.cell? ⟨w.heap.size, 6, none⟩ = some (.slice ra rn rc) := k1.cell 6
  go_wp2_with fail
  clear xc0 xc1 xc2 xc3 xc4 xc5 xc6
  have HP2 : Hid (Calls Tryz.prog 87 #[.agg #[.int .i64 1, .string n, .int .i64 a, .int .i64 b, .int .i64 c, .string o, .slice ra rn rc]] w1 fun e w' => e = .returned (.bool false) ∧ w' = w1.alloc (.cells #[.int .i64 1, .string n, .int .i64 a, .int .i64 b, .int .i64 c, .string o, .slice ra rn rc] 76)) := pair_any ⟨1, n, a, b, c, o, []⟩ (.slice ra rn rc) w1
  refine HP2.out.mono ?_
  rintro e w3 ⟨rfl, hwx⟩
  have hbx : Below w1.heap.size w1 w3 := by rw [hwx]; exact (Below.refl _ _).alloc (Nat.le_refl _) _
  have k3 := k1.below hbx k1.lt
  have hb3 : Below w.heap.size w w3 := hb1.trans (hbx.mono hb1.size)
  clear HP2 hwx hbx k1 hb1
  have he1 : o.toList.isEmpty = false := bytes_not_empty ho
  have he2 : (o.toList == []) = false := by rw [beq_eq_false_iff_ne]; intro h; rw [h] at he1; cases he1
  have xc0 : w3.cell? ⟨w.heap.size, 0, none⟩ = some (.int .i64 1) := k3.cell 0
  have xc1 : w3.cell? ⟨w.heap.size, 1, none⟩ = some (.string n) := k3.cell 1
  have xc2 : w3.cell? ⟨w.heap.size, 2, none⟩ = some (.int .i64 a) := k3.cell 2
  have xc3 : w3.cell? ⟨w.heap.size, 3, none⟩ = some (.int .i64 b) := k3.cell 3
  have xc4 : w3.cell? ⟨w.heap.size, 4, none⟩ = some (.int .i64 c) := k3.cell 4
  have xc5 : w3.cell? ⟨w.heap.size, 5, none⟩ = some (.string o) := k3.cell 5
  have xc6 : w3.cell? ⟨w.heap.size, 6, none⟩ = some (.slice ra rn rc) := k3.cell 6
  have HB := Lib.hid hb3
  clear k3 hb3
  go_wp2
  go_ret
  exact ⟨rfl, HB.out⟩

set_option maxRecDepth 100000 in
set_option maxHeartbeats 2000000 in
theorem chk_not4 (n o : ByteArray) (a b c : Int) (ra : Option Addr) (rn rc : Nat) (w : World) (hn : NameOk n) (ho : 0 < o.size) :
    Calls Tryz.prog 122 #[.agg #[.int .i64 4, .string n, .int .i64 a, .int .i64 b, .int .i64 c, .string o, .slice ra rn rc]] w fun e w' => e = .returned (.int .i64 1) ∧ Below w.heap.size w w' := by
  have k0 := Blk.new w 76 #[.int .i64 4, .string n, .int .i64 a, .int .i64 b, .int .i64 c, .string o, .slice ra rn rc]
  have hb0 : Below w.heap.size w (w.alloc (.cells #[.int .i64 4, .string n, .int .i64 a, .int .i64 b, .int .i64 c, .string o, .slice ra rn rc] 76)) := (Below.refl _ w).alloc (Nat.le_refl _) _
  go_enter Tryz.func122, Tryz.ntmps122
  go_upto_region 1 with fail
  generalize w.alloc (.cells #[.int .i64 4, .string n, .int .i64 a, .int .i64 b, .int .i64 c, .string o, .slice ra rn rc] 76) = W0 at *
  have xc0 : W0.cell? ⟨w.heap.size, 0, none⟩ = some (.int .i64 4) := k0.cell 0
  have xc1 : W0.cell? ⟨w.heap.size, 1, none⟩ = some (.string n) := k0.cell 1
  have xc2 : W0.cell? ⟨w.heap.size, 2, none⟩ = some (.int .i64 a) := k0.cell 2
  have xc3 : W0.cell? ⟨w.heap.size, 3, none⟩ = some (.int .i64 b) := k0.cell 3
  have xc4 : W0.cell? ⟨w.heap.size, 4, none⟩ = some (.int .i64 c) := k0.cell 4
  have xc5 : W0.cell? ⟨w.heap.size, 5, none⟩ = some (.string o) := k0.cell 5
  have xc6 : W0.cell? ⟨w.heap.size, 6, none⟩ = some (.slice ra rn rc) := k0.cell 6
  go_wp2_with fail
  clear xc0 xc1 xc2 xc3 xc4 xc5 xc6
  refine (name_yes n W0 hn).mono ?_
  rintro e w1 ⟨rfl, hwx⟩
  subst hwx
  have xc0 : W0.cell? ⟨w.heap.size, 0, none⟩ = some (.int .i64 4) := k0.cell 0
  have xc1 : W0.cell? ⟨w.heap.size, 1, none⟩ = some (.string n) := k0.cell 1
  have xc2 : W0.cell? ⟨w.heap.size, 2, none⟩ = some (.int .i64 a) := k0.cell 2
  have xc3 : W0.cell? ⟨w.heap.size, 3, none⟩ = some (.int .i64 b) := k0.cell 3
  have xc4 : W0.cell? ⟨w.heap.size, 4, none⟩ = some (.int .i64 c) := k0.cell 4
  have xc5 : W0.cell? ⟨w.heap.size, 5, none⟩ = some (.string o) := k0.cell 5
  have xc6 : W0.cell? ⟨w.heap.size, 6, none⟩ = some (.slice ra rn rc) := k0.cell 6
  go_wp2_with fail
  clear xc0 xc1 xc2 xc3 xc4 xc5 xc6
  have HP1 : Hid (Calls Tryz.prog 87 #[.agg #[.int .i64 4, .string n, .int .i64 a, .int .i64 b, .int .i64 c, .string o, .slice ra rn rc]] W0 fun e w' => e = .returned (.bool false) ∧ w' = W0.alloc (.cells #[.int .i64 4, .string n, .int .i64 a, .int .i64 b, .int .i64 c, .string o, .slice ra rn rc] 76)) := pair_any ⟨4, n, a, b, c, o, []⟩ (.slice ra rn rc) W0
  refine HP1.out.mono ?_
  rintro e w1 ⟨rfl, hwx⟩
  have hbx : Below W0.heap.size W0 w1 := by rw [hwx]; exact (Below.refl _ _).alloc (Nat.le_refl _) _
  have k1 := k0.below hbx k0.lt
  have hb1 : Below w.heap.size w w1 := hb0.trans (hbx.mono hb0.size)
  clear HP1 hwx hbx k0 hb0
  have xc0 : w1.cell? ⟨w.heap.size, 0, none⟩ = some (.int .i64 4) := k1.cell 0
  have xc1 : w1.cell? ⟨w.heap.size, 1, none⟩ = some (.string n) := k1.cell 1
  have xc2 : w1.cell? ⟨w.heap.size, 2, none⟩ = some (.int .i64 a) := k1.cell 2
  have xc3 : w1.cell? ⟨w.heap.size, 3, none⟩ = some (.int .i64 b) := k1.cell 3
  have xc4 : w1.cell? ⟨w.heap.size, 4, none⟩ = some (.int .i64 c) := k1.cell 4
  have xc5 : w1.cell? ⟨w.heap.size, 5, none⟩ = some (.string o) := k1.cell 5
  have xc6 : w1.cell? ⟨w.heap.size, 6, none⟩ = some (.slice ra rn rc) := k1.cell 6
  go_wp2_with fail
  clear xc0 xc1 xc2 xc3 xc4 xc5 xc6
  have HP2 : Hid (Calls Tryz.prog 87 #[.agg #[.int .i64 4, .string n, .int .i64 a, .int .i64 b, .int .i64 c, .string o, .slice ra rn rc]] w1 fun e w' => e = .returned (.bool false) ∧ w' = w1.alloc (.cells #[.int .i64 4, .string n, .int .i64 a, .int .i64 b, .int .i64 c, .string o, .slice ra rn rc] 76)) := pair_any ⟨4, n, a, b, c, o, []⟩ (.slice ra rn rc) w1
  refine HP2.out.mono ?_
  rintro e w3 ⟨rfl, hwx⟩
  have hbx : Below w1.heap.size w1 w3 := by rw [hwx]; exact (Below.refl _ _).alloc (Nat.le_refl _) _
  have k3 := k1.below hbx k1.lt
  have hb3 : Below w.heap.size w w3 := hb1.trans (hbx.mono hb1.size)
  clear HP2 hwx hbx k1 hb1
  have he1 : o.toList.isEmpty = false := bytes_not_empty ho
  have he2 : (o.toList == []) = false := by rw [beq_eq_false_iff_ne]; intro h; rw [h] at he1; cases he1
  have xc0 : w3.cell? ⟨w.heap.size, 0, none⟩ = some (.int .i64 4) := k3.cell 0
  have xc1 : w3.cell? ⟨w.heap.size, 1, none⟩ = some (.string n) := k3.cell 1
  have xc2 : w3.cell? ⟨w.heap.size, 2, none⟩ = some (.int .i64 a) := k3.cell 2
  have xc3 : w3.cell? ⟨w.heap.size, 3, none⟩ = some (.int .i64 b) := k3.cell 3
  have xc4 : w3.cell? ⟨w.heap.size, 4, none⟩ = some (.int .i64 c) := k3.cell 4
  have xc5 : w3.cell? ⟨w.heap.size, 5, none⟩ = some (.string o) := k3.cell 5
  have xc6 : w3.cell? ⟨w.heap.size, 6, none⟩ = some (.slice ra rn rc) := k3.cell 6
  have HB := Lib.hid hb3
  clear k3 hb3
  go_wp2
  go_ret
  exact ⟨rfl, HB.out⟩

set_option maxRecDepth 100000 in
set_option maxHeartbeats 2000000 in
theorem chk_packR (n : ByteArray) (a b c : Int) (ra : Option Addr) (rn rc : Nat) (w : World) (hn : NameOk n) (hr : 0 < rn) :
    Calls Tryz.prog 122 #[.agg #[.int .i64 1, .string n, .int .i64 a, .int .i64 b, .int .i64 c, .string ⟨#[]⟩, .slice ra rn rc]] w fun e w' => e = .returned (.int .i64 1) ∧ Below w.heap.size w w' := by
  have k0 := Blk.new w 76 #[.int .i64 1, .string n, .int .i64 a, .int .i64 b, .int .i64 c, .string ⟨#[]⟩, .slice ra rn rc]
  have hb0 : Below w.heap.size w (w.alloc (.cells #[.int .i64 1, .string n, .int .i64 a, .int .i64 b, .int .i64 c, .string ⟨#[]⟩, .slice ra rn rc] 76)) := (Below.refl _ w).alloc (Nat.le_refl _) _
  go_enter Tryz.func122, Tryz.ntmps122
  go_upto_region 1 with fail
  generalize w.alloc (.cells #[.int .i64 1, .string n, .int .i64 a, .int .i64 b, .int .i64 c, .string ⟨#[]⟩, .slice ra rn rc] 76) = W0 at *
  have xc0 : W0.cell? ⟨w.heap.size, 0, none⟩ = some (.int .i64 1) := k0.cell 0
  have xc1 : W0.cell? ⟨w.heap.size, 1, none⟩ = some (.string n) := k0.cell 1
  have xc2 : W0.cell? ⟨w.heap.size, 2, none⟩ = some (.int .i64 a) := k0.cell 2
  have xc3 : W0.cell? ⟨w.heap.size, 3, none⟩ = some (.int .i64 b) := k0.cell 3
  have xc4 : W0.cell? ⟨w.heap.size, 4, none⟩ = some (.int .i64 c) := k0.cell 4
  have xc5 : W0.cell? ⟨w.heap.size, 5, none⟩ = some (.string ⟨#[]⟩) := k0.cell 5
  have xc6 : W0.cell? ⟨w.heap.size, 6, none⟩ = some (.slice ra rn rc) := k0.cell 6
  go_wp2_with fail
  clear xc0 xc1 xc2 xc3 xc4 xc5 xc6
  refine (name_yes n W0 hn).mono ?_
  rintro e w1 ⟨rfl, hwx⟩
  subst hwx
  have xc0 : W0.cell? ⟨w.heap.size, 0, none⟩ = some (.int .i64 1) := k0.cell 0
  have xc1 : W0.cell? ⟨w.heap.size, 1, none⟩ = some (.string n) := k0.cell 1
  have xc2 : W0.cell? ⟨w.heap.size, 2, none⟩ = some (.int .i64 a) := k0.cell 2
  have xc3 : W0.cell? ⟨w.heap.size, 3, none⟩ = some (.int .i64 b) := k0.cell 3
  have xc4 : W0.cell? ⟨w.heap.size, 4, none⟩ = some (.int .i64 c) := k0.cell 4
  have xc5 : W0.cell? ⟨w.heap.size, 5, none⟩ = some (.string ⟨#[]⟩) := k0.cell 5
  have xc6 : W0.cell? ⟨w.heap.size, 6, none⟩ = some (.slice ra rn rc) := k0.cell 6
  go_wp2_with fail
  clear xc0 xc1 xc2 xc3 xc4 xc5 xc6
  have HP1 : Hid (Calls Tryz.prog 87 #[.agg #[.int .i64 1, .string n, .int .i64 a, .int .i64 b, .int .i64 c, .string ⟨#[]⟩, .slice ra rn rc]] W0 fun e w' => e = .returned (.bool false) ∧ w' = W0.alloc (.cells #[.int .i64 1, .string n, .int .i64 a, .int .i64 b, .int .i64 c, .string ⟨#[]⟩, .slice ra rn rc] 76)) := pair_any ⟨1, n, a, b, c, ⟨#[]⟩, []⟩ (.slice ra rn rc) W0
  refine HP1.out.mono ?_
  rintro e w1 ⟨rfl, hwx⟩
  have hbx : Below W0.heap.size W0 w1 := by rw [hwx]; exact (Below.refl _ _).alloc (Nat.le_refl _) _
  have k1 := k0.below hbx k0.lt
  have hb1 : Below w.heap.size w w1 := hb0.trans (hbx.mono hb0.size)
  clear HP1 hwx hbx k0 hb0
  have xc0 : w1.cell? ⟨w.heap.size, 0, none⟩ = some (.int .i64 1) := k1.cell 0
  have xc1 : w1.cell? ⟨w.heap.size, 1, none⟩ = some (.string n) := k1.cell 1
  have xc2 : w1.cell? ⟨w.heap.size, 2, none⟩ = some (.int .i64 a) := k1.cell 2
  have xc3 : w1.cell? ⟨w.heap.size, 3, none⟩ = some (.int .i64 b) := k1.cell 3
  have xc4 : w1.cell? ⟨w.heap.size, 4, none⟩ = some (.int .i64 c) := k1.cell 4
  have xc5 : w1.cell? ⟨w.heap.size, 5, none⟩ = some (.string ⟨#[]⟩) := k1.cell 5
  have xc6 : w1.cell? ⟨w.heap.size, 6, none⟩ = some (.slice ra rn rc) := k1.cell 6
  go_wp2_with fail
  clear xc0 xc1 xc2 xc3 xc4 xc5 xc6
  have HP2 : Hid (Calls Tryz.prog 87 #[.agg #[.int .i64 1, .string n, .int .i64 a, .int .i64 b, .int .i64 c, .string ⟨#[]⟩, .slice ra rn rc]] w1 fun e w' => e = .returned (.bool false) ∧ w' = w1.alloc (.cells #[.int .i64 1, .string n, .int .i64 a, .int .i64 b, .int .i64 c, .string ⟨#[]⟩, .slice ra rn rc] 76)) := pair_any ⟨1, n, a, b, c, ⟨#[]⟩, []⟩ (.slice ra rn rc) w1
  refine HP2.out.mono ?_
  rintro e w3 ⟨rfl, hwx⟩
  have hbx : Below w1.heap.size w1 w3 := by rw [hwx]; exact (Below.refl _ _).alloc (Nat.le_refl _) _
  have k3 := k1.below hbx k1.lt
  have hb3 : Below w.heap.size w w3 := hb1.trans (hbx.mono hb1.size)
  clear HP2 hwx hbx k1 hb1
  have xc0 : w3.cell? ⟨w.heap.size, 0, none⟩ = some (.int .i64 1) := k3.cell 0
  have xc1 : w3.cell? ⟨w.heap.size, 1, none⟩ = some (.string n) := k3.cell 1
  have xc2 : w3.cell? ⟨w.heap.size, 2, none⟩ = some (.int .i64 a) := k3.cell 2
  have xc3 : w3.cell? ⟨w.heap.size, 3, none⟩ = some (.int .i64 b) := k3.cell 3
  have xc4 : w3.cell? ⟨w.heap.size, 4, none⟩ = some (.int .i64 c) := k3.cell 4
  have xc5 : w3.cell? ⟨w.heap.size, 5, none⟩ = some (.string ⟨#[]⟩) := k3.cell 5
  have xc6 : w3.cell? ⟨w.heap.size, 6, none⟩ = some (.slice ra rn rc) := k3.cell 6
  go_wp2_with fail
  clear xc0 xc1 xc2 xc3 xc4 xc5 xc6
  have HE : Hid (Calls Tryz.prog 15 #[.agg #[.slice ra rn rc]] w3 fun e w' => e = .returned (.bool false) ∧ Below w3.heap.size w3 w') := empty_no ra rn rc w3 hr
  refine HE.out.mono ?_
  rintro e w4 ⟨rfl, hbx⟩
  have k4 := k3.below hbx k3.lt
  have hb4 : Below w.heap.size w w4 := hb3.trans (hbx.mono hb3.size)
  clear HE hbx k3 hb3
  have xc0 : w4.cell? ⟨w.heap.size, 0, none⟩ = some (.int .i64 1) := k4.cell 0
  have xc1 : w4.cell? ⟨w.heap.size, 1, none⟩ = some (.string n) := k4.cell 1
  have xc2 : w4.cell? ⟨w.heap.size, 2, none⟩ = some (.int .i64 a) := k4.cell 2
  have xc3 : w4.cell? ⟨w.heap.size, 3, none⟩ = some (.int .i64 b) := k4.cell 3
  have xc4 : w4.cell? ⟨w.heap.size, 4, none⟩ = some (.int .i64 c) := k4.cell 4
  have xc5 : w4.cell? ⟨w.heap.size, 5, none⟩ = some (.string ⟨#[]⟩) := k4.cell 5
  have xc6 : w4.cell? ⟨w.heap.size, 6, none⟩ = some (.slice ra rn rc) := k4.cell 6
  have HB := Lib.hid hb4
  clear k4 hb4
  go_wp2
  go_ret
  exact ⟨rfl, HB.out⟩

set_option maxRecDepth 100000 in
set_option maxHeartbeats 2000000 in
theorem chk_pack (n : ByteArray) (a b c : Int) (ra : Option Addr) (rc : Nat) (w : World) (hn : NameOk n) :
    Calls Tryz.prog 122 #[.agg #[.int .i64 1, .string n, .int .i64 a, .int .i64 b, .int .i64 c, .string ⟨#[]⟩, .slice ra 0 rc]] w fun e w' => e = .returned (.int .i64 (if InV a b c then (0 : Int) else 2)) ∧ Below w.heap.size w w' := by
  obtain ⟨Z, hZ⟩ : ∃ Z : Int, (if InV a b c then (0 : Int) else 2) = Z := ⟨_, rfl⟩
  rw [hZ]
  have HZ := Lib.hid hZ
  clear hZ
  have k0 := Blk.new w 76 #[.int .i64 1, .string n, .int .i64 a, .int .i64 b, .int .i64 c, .string ⟨#[]⟩, .slice ra 0 rc]
  have hb0 : Below w.heap.size w (w.alloc (.cells #[.int .i64 1, .string n, .int .i64 a, .int .i64 b, .int .i64 c, .string ⟨#[]⟩, .slice ra 0 rc] 76)) := (Below.refl _ w).alloc (Nat.le_refl _) _
  go_enter Tryz.func122, Tryz.ntmps122
  go_upto_region 1 with fail
  generalize w.alloc (.cells #[.int .i64 1, .string n, .int .i64 a, .int .i64 b, .int .i64 c, .string ⟨#[]⟩, .slice ra 0 rc] 76) = W0 at *
  have xc0 : W0.cell? ⟨w.heap.size, 0, none⟩ = some (.int .i64 1) := k0.cell 0
  have xc1 : W0.cell? ⟨w.heap.size, 1, none⟩ = some (.string n) := k0.cell 1
  have xc2 : W0.cell? ⟨w.heap.size, 2, none⟩ = some (.int .i64 a) := k0.cell 2
  have xc3 : W0.cell? ⟨w.heap.size, 3, none⟩ = some (.int .i64 b) := k0.cell 3
  have xc4 : W0.cell? ⟨w.heap.size, 4, none⟩ = some (.int .i64 c) := k0.cell 4
  have xc5 : W0.cell? ⟨w.heap.size, 5, none⟩ = some (.string ⟨#[]⟩) := k0.cell 5
  have xc6 : W0.cell? ⟨w.heap.size, 6, none⟩ = some (.slice ra 0 rc) := k0.cell 6
  go_wp2_with fail
  clear xc0 xc1 xc2 xc3 xc4 xc5 xc6
  refine (name_yes n W0 hn).mono ?_
  rintro e w1 ⟨rfl, hwx⟩
  subst hwx
  have xc0 : W0.cell? ⟨w.heap.size, 0, none⟩ = some (.int .i64 1) := k0.cell 0
  have xc1 : W0.cell? ⟨w.heap.size, 1, none⟩ = some (.string n) := k0.cell 1
  have xc2 : W0.cell? ⟨w.heap.size, 2, none⟩ = some (.int .i64 a) := k0.cell 2
  have xc3 : W0.cell? ⟨w.heap.size, 3, none⟩ = some (.int .i64 b) := k0.cell 3
  have xc4 : W0.cell? ⟨w.heap.size, 4, none⟩ = some (.int .i64 c) := k0.cell 4
  have xc5 : W0.cell? ⟨w.heap.size, 5, none⟩ = some (.string ⟨#[]⟩) := k0.cell 5
  have xc6 : W0.cell? ⟨w.heap.size, 6, none⟩ = some (.slice ra 0 rc) := k0.cell 6
  go_wp2_with fail
  clear xc0 xc1 xc2 xc3 xc4 xc5 xc6
  have HP1 : Hid (Calls Tryz.prog 87 #[.agg #[.int .i64 1, .string n, .int .i64 a, .int .i64 b, .int .i64 c, .string ⟨#[]⟩, .slice ra 0 rc]] W0 fun e w' => e = .returned (.bool false) ∧ w' = W0.alloc (.cells #[.int .i64 1, .string n, .int .i64 a, .int .i64 b, .int .i64 c, .string ⟨#[]⟩, .slice ra 0 rc] 76)) := pair_any ⟨1, n, a, b, c, ⟨#[]⟩, []⟩ (.slice ra 0 rc) W0
  refine HP1.out.mono ?_
  rintro e w1 ⟨rfl, hwx⟩
  have hbx : Below W0.heap.size W0 w1 := by rw [hwx]; exact (Below.refl _ _).alloc (Nat.le_refl _) _
  have k1 := k0.below hbx k0.lt
  have hb1 : Below w.heap.size w w1 := hb0.trans (hbx.mono hb0.size)
  clear HP1 hwx hbx k0 hb0
  have xc0 : w1.cell? ⟨w.heap.size, 0, none⟩ = some (.int .i64 1) := k1.cell 0
  have xc1 : w1.cell? ⟨w.heap.size, 1, none⟩ = some (.string n) := k1.cell 1
  have xc2 : w1.cell? ⟨w.heap.size, 2, none⟩ = some (.int .i64 a) := k1.cell 2
  have xc3 : w1.cell? ⟨w.heap.size, 3, none⟩ = some (.int .i64 b) := k1.cell 3
  have xc4 : w1.cell? ⟨w.heap.size, 4, none⟩ = some (.int .i64 c) := k1.cell 4
  have xc5 : w1.cell? ⟨w.heap.size, 5, none⟩ = some (.string ⟨#[]⟩) := k1.cell 5
  have xc6 : w1.cell? ⟨w.heap.size, 6, none⟩ = some (.slice ra 0 rc) := k1.cell 6
  go_wp2_with fail
  clear xc0 xc1 xc2 xc3 xc4 xc5 xc6
  have HP2 : Hid (Calls Tryz.prog 87 #[.agg #[.int .i64 1, .string n, .int .i64 a, .int .i64 b, .int .i64 c, .string ⟨#[]⟩, .slice ra 0 rc]] w1 fun e w' => e = .returned (.bool false) ∧ w' = w1.alloc (.cells #[.int .i64 1, .string n, .int .i64 a, .int .i64 b, .int .i64 c, .string ⟨#[]⟩, .slice ra 0 rc] 76)) := pair_any ⟨1, n, a, b, c, ⟨#[]⟩, []⟩ (.slice ra 0 rc) w1
  refine HP2.out.mono ?_
  rintro e w3 ⟨rfl, hwx⟩
  have hbx : Below w1.heap.size w1 w3 := by rw [hwx]; exact (Below.refl _ _).alloc (Nat.le_refl _) _
  have k3 := k1.below hbx k1.lt
  have hb3 : Below w.heap.size w w3 := hb1.trans (hbx.mono hb1.size)
  clear HP2 hwx hbx k1 hb1
  have xc0 : w3.cell? ⟨w.heap.size, 0, none⟩ = some (.int .i64 1) := k3.cell 0
  have xc1 : w3.cell? ⟨w.heap.size, 1, none⟩ = some (.string n) := k3.cell 1
  have xc2 : w3.cell? ⟨w.heap.size, 2, none⟩ = some (.int .i64 a) := k3.cell 2
  have xc3 : w3.cell? ⟨w.heap.size, 3, none⟩ = some (.int .i64 b) := k3.cell 3
  have xc4 : w3.cell? ⟨w.heap.size, 4, none⟩ = some (.int .i64 c) := k3.cell 4
  have xc5 : w3.cell? ⟨w.heap.size, 5, none⟩ = some (.string ⟨#[]⟩) := k3.cell 5
  have xc6 : w3.cell? ⟨w.heap.size, 6, none⟩ = some (.slice ra 0 rc) := k3.cell 6
  go_wp2_with fail
  clear xc0 xc1 xc2 xc3 xc4 xc5 xc6
  have HE : Hid (Calls Tryz.prog 15 #[.agg #[.slice ra 0 rc]] w3 fun e w' => e = .returned (.bool true) ∧ Below w3.heap.size w3 w') := empty_yes ra rc w3
  refine HE.out.mono ?_
  rintro e w4 ⟨rfl, hbx⟩
  have k4 := k3.below hbx k3.lt
  have hb4 : Below w.heap.size w w4 := hb3.trans (hbx.mono hb3.size)
  clear HE hbx k3 hb3
  have xc0 : w4.cell? ⟨w.heap.size, 0, none⟩ = some (.int .i64 1) := k4.cell 0
  have xc1 : w4.cell? ⟨w.heap.size, 1, none⟩ = some (.string n) := k4.cell 1
  have xc2 : w4.cell? ⟨w.heap.size, 2, none⟩ = some (.int .i64 a) := k4.cell 2
  have xc3 : w4.cell? ⟨w.heap.size, 3, none⟩ = some (.int .i64 b) := k4.cell 3
  have xc4 : w4.cell? ⟨w.heap.size, 4, none⟩ = some (.int .i64 c) := k4.cell 4
  have xc5 : w4.cell? ⟨w.heap.size, 5, none⟩ = some (.string ⟨#[]⟩) := k4.cell 5
  have xc6 : w4.cell? ⟨w.heap.size, 6, none⟩ = some (.slice ra 0 rc) := k4.cell 6
  go_upto_region 11 with fail
  clear xc0 xc1 xc2 xc3 xc4 xc5 xc6
  obtain ⟨q, hq⟩ : ∃ q, decide (InV a b c) = q := ⟨_, rfl⟩
  have HANY : Hid (∀ W', Calls Tryz.prog 27 #[] W' fun e w' => ∃ a' c', e = .returned (.agg #[.slice a' anyF.length c']) ∧ SpAt w' (.slice a' anyF.length c') anyF ∧ Below W'.heap.size W' w') := fun W' => (any_any W').mono fun e w' ⟨v', he, hs, hn, hb⟩ => by obtain ⟨a', c', rfl⟩ := hs.form; exact ⟨a', c', he, hs, hb⟩
  have HHAS : Hid (∀ va vc W', SpAt W' (.slice va anyF.length vc) anyF → Calls Tryz.prog 25 #[.agg #[.slice va anyF.length vc], .agg #[.int .i64 a, .int .i64 b, .int .i64 c]] W' fun e w' => e = .returned (.bool q) ∧ Below W'.heap.size W' w') := fun va vc W' h => by rw [← hq]; exact anyhas va vc a b c W' h
  have HQ := Lib.hid hq
  clear hq
  have hxl := k4.lt
  have SC : Hid (∀ W', Below w4.heap.size w4 W' → W'.cell? ⟨w.heap.size, 2, none⟩ = some (.int .i64 a) ∧ W'.cell? ⟨w.heap.size, 3, none⟩ = some (.int .i64 b) ∧ W'.cell? ⟨w.heap.size, 4, none⟩ = some (.int .i64 c)) := fun W' h => ⟨(k4.below h hxl).cell 2, (k4.below h hxl).cell 3, (k4.below h hxl).cell 4⟩
  have HB0 := Lib.hid hb4
  clear k4 hb4 hxl
  have D0 : Below w4.heap.size w4 w4.drew := (Below.refl _ _).drew
  go_region_held3 (fun W' => W'.cell? ⟨w.heap.size, 2, none⟩ = some (.int .i64 a) ∧ W'.cell? ⟨w.heap.size, 3, none⟩ = some (.int .i64 b) ∧ W'.cell? ⟨w.heap.size, 4, none⟩ = some (.int .i64 c)) (first | exact SC.out _ D0 | exact SC.out _ D1 | exact SC.out _ D2)
    (first
      | ((with_reducible refine (HANY.out _).mono ?_); rintro e x1 ⟨va, vc, rfl, hs1, hb1⟩; have D1 : Below w4.heap.size w4 x1 := D0.trans (hb1.mono D0.size); clear HANY D0 hb1)
      | ((with_reducible refine (HHAS.out _ _ _ hs1).mono ?_); rintro e x2 ⟨rfl, hb2⟩; have D2 : Below w4.heap.size w4 x2 := D1.trans (hb2.mono D1.size); clear HHAS D1 hb2 hs1))
  have HB : Hid (Below w.heap.size w x2) := HB0.out.trans (D2.mono HB0.out.size)
  clear D2 HB0 SC
  cases q with
  | true =>
    have HC : Hid (Z = 0) := by have h := HQ.out; show _ = _; rw [← HZ.out]; exact if_pos (by simpa using h)
    go_wp2
    go_ret
    exact ⟨by rw [HC.out]; rfl, HB.out⟩
  | false =>
    have HC : Hid (Z = 2) := by have h := HQ.out; show _ = _; rw [← HZ.out]; exact if_neg (by simpa using h)
    go_wp2
    go_ret
    exact ⟨by rw [HC.out]; rfl, HB.out⟩

set_option maxRecDepth 100000 in
set_option maxHeartbeats 2000000 in
theorem chk_rootV (n : ByteArray) (a b c : Int) (ra : Option Addr) (rn rc : Nat) (w : World) (hn : NameOk n) (hz : (a == 0 && (b == 0 && c == 0)) = false) :
    Calls Tryz.prog 122 #[.agg #[.int .i64 4, .string n, .int .i64 a, .int .i64 b, .int .i64 c, .string ⟨#[]⟩, .slice ra rn rc]] w fun e w' => e = .returned (.int .i64 1) ∧ Below w.heap.size w w' := by
  have k0 := Blk.new w 76 #[.int .i64 4, .string n, .int .i64 a, .int .i64 b, .int .i64 c, .string ⟨#[]⟩, .slice ra rn rc]
  have hb0 : Below w.heap.size w (w.alloc (.cells #[.int .i64 4, .string n, .int .i64 a, .int .i64 b, .int .i64 c, .string ⟨#[]⟩, .slice ra rn rc] 76)) := (Below.refl _ w).alloc (Nat.le_refl _) _
  go_enter Tryz.func122, Tryz.ntmps122
  go_upto_region 1 with fail
  generalize w.alloc (.cells #[.int .i64 4, .string n, .int .i64 a, .int .i64 b, .int .i64 c, .string ⟨#[]⟩, .slice ra rn rc] 76) = W0 at *
  have xc0 : W0.cell? ⟨w.heap.size, 0, none⟩ = some (.int .i64 4) := k0.cell 0
  have xc1 : W0.cell? ⟨w.heap.size, 1, none⟩ = some (.string n) := k0.cell 1
  have xc2 : W0.cell? ⟨w.heap.size, 2, none⟩ = some (.int .i64 a) := k0.cell 2
  have xc3 : W0.cell? ⟨w.heap.size, 3, none⟩ = some (.int .i64 b) := k0.cell 3
  have xc4 : W0.cell? ⟨w.heap.size, 4, none⟩ = some (.int .i64 c) := k0.cell 4
  have xc5 : W0.cell? ⟨w.heap.size, 5, none⟩ = some (.string ⟨#[]⟩) := k0.cell 5
  have xc6 : W0.cell? ⟨w.heap.size, 6, none⟩ = some (.slice ra rn rc) := k0.cell 6
  go_wp2_with fail
  clear xc0 xc1 xc2 xc3 xc4 xc5 xc6
  refine (name_yes n W0 hn).mono ?_
  rintro e w1 ⟨rfl, hwx⟩
  subst hwx
  have xc0 : W0.cell? ⟨w.heap.size, 0, none⟩ = some (.int .i64 4) := k0.cell 0
  have xc1 : W0.cell? ⟨w.heap.size, 1, none⟩ = some (.string n) := k0.cell 1
  have xc2 : W0.cell? ⟨w.heap.size, 2, none⟩ = some (.int .i64 a) := k0.cell 2
  have xc3 : W0.cell? ⟨w.heap.size, 3, none⟩ = some (.int .i64 b) := k0.cell 3
  have xc4 : W0.cell? ⟨w.heap.size, 4, none⟩ = some (.int .i64 c) := k0.cell 4
  have xc5 : W0.cell? ⟨w.heap.size, 5, none⟩ = some (.string ⟨#[]⟩) := k0.cell 5
  have xc6 : W0.cell? ⟨w.heap.size, 6, none⟩ = some (.slice ra rn rc) := k0.cell 6
  go_wp2_with fail
  clear xc0 xc1 xc2 xc3 xc4 xc5 xc6
  have HP1 : Hid (Calls Tryz.prog 87 #[.agg #[.int .i64 4, .string n, .int .i64 a, .int .i64 b, .int .i64 c, .string ⟨#[]⟩, .slice ra rn rc]] W0 fun e w' => e = .returned (.bool false) ∧ w' = W0.alloc (.cells #[.int .i64 4, .string n, .int .i64 a, .int .i64 b, .int .i64 c, .string ⟨#[]⟩, .slice ra rn rc] 76)) := pair_any ⟨4, n, a, b, c, ⟨#[]⟩, []⟩ (.slice ra rn rc) W0
  refine HP1.out.mono ?_
  rintro e w1 ⟨rfl, hwx⟩
  have hbx : Below W0.heap.size W0 w1 := by rw [hwx]; exact (Below.refl _ _).alloc (Nat.le_refl _) _
  have k1 := k0.below hbx k0.lt
  have hb1 : Below w.heap.size w w1 := hb0.trans (hbx.mono hb0.size)
  clear HP1 hwx hbx k0 hb0
  have xc0 : w1.cell? ⟨w.heap.size, 0, none⟩ = some (.int .i64 4) := k1.cell 0
  have xc1 : w1.cell? ⟨w.heap.size, 1, none⟩ = some (.string n) := k1.cell 1
  have xc2 : w1.cell? ⟨w.heap.size, 2, none⟩ = some (.int .i64 a) := k1.cell 2
  have xc3 : w1.cell? ⟨w.heap.size, 3, none⟩ = some (.int .i64 b) := k1.cell 3
  have xc4 : w1.cell? ⟨w.heap.size, 4, none⟩ = some (.int .i64 c) := k1.cell 4
  have xc5 : w1.cell? ⟨w.heap.size, 5, none⟩ = some (.string ⟨#[]⟩) := k1.cell 5
  have xc6 : w1.cell? ⟨w.heap.size, 6, none⟩ = some (.slice ra rn rc) := k1.cell 6
  go_wp2_with fail
  clear xc0 xc1 xc2 xc3 xc4 xc5 xc6
  have HP2 : Hid (Calls Tryz.prog 87 #[.agg #[.int .i64 4, .string n, .int .i64 a, .int .i64 b, .int .i64 c, .string ⟨#[]⟩, .slice ra rn rc]] w1 fun e w' => e = .returned (.bool false) ∧ w' = w1.alloc (.cells #[.int .i64 4, .string n, .int .i64 a, .int .i64 b, .int .i64 c, .string ⟨#[]⟩, .slice ra rn rc] 76)) := pair_any ⟨4, n, a, b, c, ⟨#[]⟩, []⟩ (.slice ra rn rc) w1
  refine HP2.out.mono ?_
  rintro e w3 ⟨rfl, hwx⟩
  have hbx : Below w1.heap.size w1 w3 := by rw [hwx]; exact (Below.refl _ _).alloc (Nat.le_refl _) _
  have k3 := k1.below hbx k1.lt
  have hb3 : Below w.heap.size w w3 := hb1.trans (hbx.mono hb1.size)
  clear HP2 hwx hbx k1 hb1
  have h3 := eq3t a b c 0 0 0
  rw [hz] at h3
  have xc0 : w3.cell? ⟨w.heap.size, 0, none⟩ = some (.int .i64 4) := k3.cell 0
  have xc1 : w3.cell? ⟨w.heap.size, 1, none⟩ = some (.string n) := k3.cell 1
  have xc2 : w3.cell? ⟨w.heap.size, 2, none⟩ = some (.int .i64 a) := k3.cell 2
  have xc3 : w3.cell? ⟨w.heap.size, 3, none⟩ = some (.int .i64 b) := k3.cell 3
  have xc4 : w3.cell? ⟨w.heap.size, 4, none⟩ = some (.int .i64 c) := k3.cell 4
  have xc5 : w3.cell? ⟨w.heap.size, 5, none⟩ = some (.string ⟨#[]⟩) := k3.cell 5
  have xc6 : w3.cell? ⟨w.heap.size, 6, none⟩ = some (.slice ra rn rc) := k3.cell 6
  have HB := Lib.hid hb3
  clear k3 hb3
  go_wp2
  go_ret
  exact ⟨rfl, HB.out⟩

set_option maxRecDepth 100000 in
set_option maxHeartbeats 2000000 in
theorem chk_root (n : ByteArray) (ra : Option Addr) (rn rc : Nat) (w : World) (hn : NameOk n) :
    Calls Tryz.prog 122 #[.agg #[.int .i64 4, .string n, .int .i64 0, .int .i64 0, .int .i64 0, .string ⟨#[]⟩, .slice ra rn rc]] w fun e w' => e = .returned (.int .i64 0) ∧ Below w.heap.size w w' := by
  have k0 := Blk.new w 76 #[.int .i64 4, .string n, .int .i64 0, .int .i64 0, .int .i64 0, .string ⟨#[]⟩, .slice ra rn rc]
  have hb0 : Below w.heap.size w (w.alloc (.cells #[.int .i64 4, .string n, .int .i64 0, .int .i64 0, .int .i64 0, .string ⟨#[]⟩, .slice ra rn rc] 76)) := (Below.refl _ w).alloc (Nat.le_refl _) _
  go_enter Tryz.func122, Tryz.ntmps122
  go_upto_region 1 with fail
  generalize w.alloc (.cells #[.int .i64 4, .string n, .int .i64 0, .int .i64 0, .int .i64 0, .string ⟨#[]⟩, .slice ra rn rc] 76) = W0 at *
  have xc0 : W0.cell? ⟨w.heap.size, 0, none⟩ = some (.int .i64 4) := k0.cell 0
  have xc1 : W0.cell? ⟨w.heap.size, 1, none⟩ = some (.string n) := k0.cell 1
  have xc2 : W0.cell? ⟨w.heap.size, 2, none⟩ = some (.int .i64 0) := k0.cell 2
  have xc3 : W0.cell? ⟨w.heap.size, 3, none⟩ = some (.int .i64 0) := k0.cell 3
  have xc4 : W0.cell? ⟨w.heap.size, 4, none⟩ = some (.int .i64 0) := k0.cell 4
  have xc5 : W0.cell? ⟨w.heap.size, 5, none⟩ = some (.string ⟨#[]⟩) := k0.cell 5
  have xc6 : W0.cell? ⟨w.heap.size, 6, none⟩ = some (.slice ra rn rc) := k0.cell 6
  go_wp2_with fail
  clear xc0 xc1 xc2 xc3 xc4 xc5 xc6
  refine (name_yes n W0 hn).mono ?_
  rintro e w1 ⟨rfl, hwx⟩
  subst hwx
  have xc0 : W0.cell? ⟨w.heap.size, 0, none⟩ = some (.int .i64 4) := k0.cell 0
  have xc1 : W0.cell? ⟨w.heap.size, 1, none⟩ = some (.string n) := k0.cell 1
  have xc2 : W0.cell? ⟨w.heap.size, 2, none⟩ = some (.int .i64 0) := k0.cell 2
  have xc3 : W0.cell? ⟨w.heap.size, 3, none⟩ = some (.int .i64 0) := k0.cell 3
  have xc4 : W0.cell? ⟨w.heap.size, 4, none⟩ = some (.int .i64 0) := k0.cell 4
  have xc5 : W0.cell? ⟨w.heap.size, 5, none⟩ = some (.string ⟨#[]⟩) := k0.cell 5
  have xc6 : W0.cell? ⟨w.heap.size, 6, none⟩ = some (.slice ra rn rc) := k0.cell 6
  go_wp2_with fail
  clear xc0 xc1 xc2 xc3 xc4 xc5 xc6
  have HP1 : Hid (Calls Tryz.prog 87 #[.agg #[.int .i64 4, .string n, .int .i64 0, .int .i64 0, .int .i64 0, .string ⟨#[]⟩, .slice ra rn rc]] W0 fun e w' => e = .returned (.bool false) ∧ w' = W0.alloc (.cells #[.int .i64 4, .string n, .int .i64 0, .int .i64 0, .int .i64 0, .string ⟨#[]⟩, .slice ra rn rc] 76)) := pair_any ⟨4, n, 0, 0, 0, ⟨#[]⟩, []⟩ (.slice ra rn rc) W0
  refine HP1.out.mono ?_
  rintro e w1 ⟨rfl, hwx⟩
  have hbx : Below W0.heap.size W0 w1 := by rw [hwx]; exact (Below.refl _ _).alloc (Nat.le_refl _) _
  have k1 := k0.below hbx k0.lt
  have hb1 : Below w.heap.size w w1 := hb0.trans (hbx.mono hb0.size)
  clear HP1 hwx hbx k0 hb0
  have xc0 : w1.cell? ⟨w.heap.size, 0, none⟩ = some (.int .i64 4) := k1.cell 0
  have xc1 : w1.cell? ⟨w.heap.size, 1, none⟩ = some (.string n) := k1.cell 1
  have xc2 : w1.cell? ⟨w.heap.size, 2, none⟩ = some (.int .i64 0) := k1.cell 2
  have xc3 : w1.cell? ⟨w.heap.size, 3, none⟩ = some (.int .i64 0) := k1.cell 3
  have xc4 : w1.cell? ⟨w.heap.size, 4, none⟩ = some (.int .i64 0) := k1.cell 4
  have xc5 : w1.cell? ⟨w.heap.size, 5, none⟩ = some (.string ⟨#[]⟩) := k1.cell 5
  have xc6 : w1.cell? ⟨w.heap.size, 6, none⟩ = some (.slice ra rn rc) := k1.cell 6
  go_wp2_with fail
  clear xc0 xc1 xc2 xc3 xc4 xc5 xc6
  have HP2 : Hid (Calls Tryz.prog 87 #[.agg #[.int .i64 4, .string n, .int .i64 0, .int .i64 0, .int .i64 0, .string ⟨#[]⟩, .slice ra rn rc]] w1 fun e w' => e = .returned (.bool false) ∧ w' = w1.alloc (.cells #[.int .i64 4, .string n, .int .i64 0, .int .i64 0, .int .i64 0, .string ⟨#[]⟩, .slice ra rn rc] 76)) := pair_any ⟨4, n, 0, 0, 0, ⟨#[]⟩, []⟩ (.slice ra rn rc) w1
  refine HP2.out.mono ?_
  rintro e w3 ⟨rfl, hwx⟩
  have hbx : Below w1.heap.size w1 w3 := by rw [hwx]; exact (Below.refl _ _).alloc (Nat.le_refl _) _
  have k3 := k1.below hbx k1.lt
  have hb3 : Below w.heap.size w w3 := hb1.trans (hbx.mono hb1.size)
  clear HP2 hwx hbx k1 hb1
  have h3 := eq3t 0 0 0 0 0 0
  have xc0 : w3.cell? ⟨w.heap.size, 0, none⟩ = some (.int .i64 4) := k3.cell 0
  have xc1 : w3.cell? ⟨w.heap.size, 1, none⟩ = some (.string n) := k3.cell 1
  have xc2 : w3.cell? ⟨w.heap.size, 2, none⟩ = some (.int .i64 0) := k3.cell 2
  have xc3 : w3.cell? ⟨w.heap.size, 3, none⟩ = some (.int .i64 0) := k3.cell 3
  have xc4 : w3.cell? ⟨w.heap.size, 4, none⟩ = some (.int .i64 0) := k3.cell 4
  have xc5 : w3.cell? ⟨w.heap.size, 5, none⟩ = some (.string ⟨#[]⟩) := k3.cell 5
  have xc6 : w3.cell? ⟨w.heap.size, 6, none⟩ = some (.slice ra rn rc) := k3.cell 6
  go_upto_region 11 with fail
  clear xc0 xc1 xc2 xc3 xc4 xc5 xc6
  clear h3
  obtain ⟨q, hq⟩ : ∃ q, decide (InV 0 0 0) = q := ⟨_, rfl⟩
  have HANY : Hid (∀ W', Calls Tryz.prog 27 #[] W' fun e w' => ∃ a' c', e = .returned (.agg #[.slice a' anyF.length c']) ∧ SpAt w' (.slice a' anyF.length c') anyF ∧ Below W'.heap.size W' w') := fun W' => (any_any W').mono fun e w' ⟨v', he, hs, hn, hb⟩ => by obtain ⟨a', c', rfl⟩ := hs.form; exact ⟨a', c', he, hs, hb⟩
  have HHAS : Hid (∀ va vc W', SpAt W' (.slice va anyF.length vc) anyF → Calls Tryz.prog 25 #[.agg #[.slice va anyF.length vc], .agg #[.int .i64 0, .int .i64 0, .int .i64 0]] W' fun e w' => e = .returned (.bool q) ∧ Below W'.heap.size W' w') := fun va vc W' h => by rw [← hq]; exact anyhas va vc 0 0 0 W' h
  have HQ := Lib.hid hq
  clear hq
  have hxl := k3.lt
  have SC : Hid (∀ W', Below w3.heap.size w3 W' → W'.cell? ⟨w.heap.size, 2, none⟩ = some (.int .i64 0) ∧ W'.cell? ⟨w.heap.size, 3, none⟩ = some (.int .i64 0) ∧ W'.cell? ⟨w.heap.size, 4, none⟩ = some (.int .i64 0)) := fun W' h => ⟨(k3.below h hxl).cell 2, (k3.below h hxl).cell 3, (k3.below h hxl).cell 4⟩
  have HB0 := Lib.hid hb3
  clear k3 hb3 hxl
  have D0 : Below w3.heap.size w3 w3.drew := (Below.refl _ _).drew
  go_region_held3 (fun W' => W'.cell? ⟨w.heap.size, 2, none⟩ = some (.int .i64 0) ∧ W'.cell? ⟨w.heap.size, 3, none⟩ = some (.int .i64 0) ∧ W'.cell? ⟨w.heap.size, 4, none⟩ = some (.int .i64 0)) (first | exact SC.out _ D0 | exact SC.out _ D1 | exact SC.out _ D2)
    (first
      | ((with_reducible refine (HANY.out _).mono ?_); rintro e x1 ⟨va, vc, rfl, hs1, hb1⟩; have D1 : Below w3.heap.size w3 x1 := D0.trans (hb1.mono D0.size); clear HANY D0 hb1)
      | ((with_reducible refine (HHAS.out _ _ _ hs1).mono ?_); rintro e x2 ⟨rfl, hb2⟩; have D2 : Below w3.heap.size w3 x2 := D1.trans (hb2.mono D1.size); clear HHAS D1 hb2 hs1))
  have HB : Hid (Below w.heap.size w x2) := HB0.out.trans (D2.mono HB0.out.size)
  clear D2 HB0 SC
  obtain rfl : q = true := by rw [← HQ.out]; decide
  go_wp2
  go_ret
  exact ⟨rfl, HB.out⟩

end Go.Proofs.YtljeigdkbnichaaGreatDoor

namespace Go.Proofs.YtljeigdkbnichaaGreatDoor
open Go.RowKit Sv

theorem chk_any (x : Ln) (v : Value) (w : World) (hv : SpAt w v x.rng) :
    Calls Tryz.prog 122 #[.agg #[.int .i64 x.kind, .string x.name, .int .i64 x.a, .int .i64 x.b, .int .i64 x.c, .string x.other, v]] w fun e w' => e = .returned (.int .i64 (ctCheck x)) ∧ Below w.heap.size w w' := by
  obtain ⟨ra, rc, rfl⟩ := hv.form
  clear hv
  obtain ⟨k, n, a, b, c, o, r⟩ := x
  unfold ctCheck Ln.pair
  simp only
  by_cases hk : k < 1 ∨ 4 < k
  · rw [if_pos hk]
    rcases hk with hk | hk
    · exact chk_low k n o a b c ra r.length rc w hk
    · exact chk_high k n o a b c ra r.length rc w hk
  rw [if_neg hk]
  have hk4 : k = 1 ∨ k = 2 ∨ k = 3 ∨ k = 4 := by omega
  by_cases hn : NameOk n
  · rcases hk4 with rfl | rfl | rfl | rfl
    · have h1 : ¬ (¬ NameOk n ∨ (((1 : Int) = 2 ∨ (1 : Int) = 3) ∧ ¬ NameOk o)) := by
        rintro (h | ⟨h, _⟩)
        · exact h hn
        · omega
      rw [if_neg h1]
      by_cases ho : o.size ≠ 0
      · rw [if_pos ⟨by omega, ho⟩]
        exact chk_not1 n o a b c ra r.length rc w hn (by omega)
      · rw [if_neg (fun h => ho h.2)]
        obtain rfl := bytes_empty (s := o) (by omega)
        cases r with
        | nil =>
          rw [if_neg (fun h => h.2 rfl), if_neg (by omega)]
          refine (chk_pack n a b c ra rc w hn).mono fun e w' ⟨h1, h2⟩ => ⟨?_, h2⟩
          rw [h1]
          by_cases hi : InV a b c
          · rw [if_pos hi, if_neg (fun h => h hi)]
          · rw [if_neg hi, if_pos hi]
        | cons s r =>
          rw [if_pos ⟨rfl, by simp⟩]
          exact chk_packR n a b c ra (s :: r).length rc w hn (by simp)
    · by_cases ho : NameOk o
      · have h1 : ¬ (¬ NameOk n ∨ (((2 : Int) = 2 ∨ (2 : Int) = 3) ∧ ¬ NameOk o)) := by
          rintro (h | ⟨_, h⟩)
          · exact h hn
          · exact h ho
        rw [if_neg h1, if_neg (fun h => h.1 (Or.inl rfl)), if_neg (by omega), if_neg (by omega)]
        refine (chk_pair2 n o a b c ra r.length rc w hn ho).mono fun e w' ⟨h1, h2⟩ => ⟨?_, h2⟩
        rw [h1]
        by_cases hi : InV a b c
        · rw [if_pos hi, if_neg (fun h => h hi)]
        · rw [if_neg hi, if_pos hi]
      · rw [if_pos (Or.inr ⟨Or.inl rfl, ho⟩)]
        exact chk_other2 n o a b c ra r.length rc w hn ho
    · by_cases ho : NameOk o
      · have h1 : ¬ (¬ NameOk n ∨ (((3 : Int) = 2 ∨ (3 : Int) = 3) ∧ ¬ NameOk o)) := by
          rintro (h | ⟨_, h⟩)
          · exact h hn
          · exact h ho
        rw [if_neg h1, if_neg (fun h => h.1 (Or.inr rfl)), if_neg (by omega), if_neg (by omega)]
        refine (chk_pair3 n o a b c ra r.length rc w hn ho).mono fun e w' ⟨h1, h2⟩ => ⟨?_, h2⟩
        rw [h1]
        by_cases hi : InV a b c
        · rw [if_pos hi, if_neg (fun h => h hi)]
        · rw [if_neg hi, if_pos hi]
      · rw [if_pos (Or.inr ⟨Or.inr rfl, ho⟩)]
        exact chk_other3 n o a b c ra r.length rc w hn ho
    · have h1 : ¬ (¬ NameOk n ∨ (((4 : Int) = 2 ∨ (4 : Int) = 3) ∧ ¬ NameOk o)) := by
        rintro (h | ⟨h, _⟩)
        · exact h hn
        · omega
      rw [if_neg h1]
      by_cases ho : o.size ≠ 0
      · rw [if_pos ⟨by omega, ho⟩]
        exact chk_not4 n o a b c ra r.length rc w hn (by omega)
      · rw [if_neg (fun h => ho h.2), if_neg (by omega)]
        obtain rfl := bytes_empty (s := o) (by omega)
        by_cases hz : a ≠ 0 ∨ b ≠ 0 ∨ c ≠ 0
        · rw [if_pos ⟨rfl, hz⟩]
          refine chk_rootV n a b c ra r.length rc w hn ?_
          by_cases h0 : a = 0
          · by_cases h1 : b = 0
            · have h2 : c ≠ 0 := by omega
              simp [h2]
            · simp [h1]
          · simp [h0]
        · rw [if_neg (fun h => hz h.2)]
          obtain rfl : a = 0 := by omega
          obtain rfl : b = 0 := by omega
          obtain rfl : c = 0 := by omega
          rw [if_neg (fun h => h (by decide))]
          exact chk_root n ra r.length rc w hn
  · rw [if_pos (Or.inl hn)]
    rcases hk4 with rfl | rfl | rfl | rfl
    · exact chk_name1 n o a b c ra r.length rc w hn
    · exact chk_name2 n o a b c ra r.length rc w hn
    · exact chk_name3 n o a b c ra r.length rc w hn
    · exact chk_name4 n o a b c ra r.length rc w hn
end Go.Proofs.YtljeigdkbnichaaGreatDoor
