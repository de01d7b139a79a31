/- Kth. -/
import Derived.Test.YtfodcmcmbjopaaaDoorBdWithout
import Derived.Test.YtfodcmcmbjopaaaDoorBdBelowW
import Derived.Test.YtfodcmcmbjopaaaDoorBdNumS
import Derived.Test.YtfodcmcmbjopaaaDoorBdLex
import Derived.Lib.EndianBits
namespace Go.Proofs.YtfodcmcmbjopaaaDoor
open Go.RowKit Go.Maps Num

structure KS (B s b dk kb : Nat) (O : Nat → Prop) (vars : Nat) (room : Int) (ns : List Nd) (W0 w : World) (a : Option Addr) (n c : Nat) (k : Nat) (L : List (Int × NV)) : Prop where
  space : SpaceAt B w s b O vars room ns
  done : DoneN w dk vars ns L
  cell : w.cell? ⟨kb, 0, none⟩ = some (.slice a n c)
  fz : w.frozen? ⟨kb, 0, none⟩ = false
  no : ∀ o n, w.cell? ⟨kb, o, none⟩ ≠ some (.int .u64 n)
  num : NatAt w (.agg #[.slice a n c]) k
  below : Below W0.heap.size W0 w
  o1 : ¬ O dk
  o2 : ¬ O kb
  n1 : s ≠ dk
  n2 : s ≠ kb
  n3 : kb ≠ dk
  g1 : W0.heap.size ≤ dk
  g2 : W0.heap.size ≤ kb

section
variable {B s b dk kb : Nat} {O : Nat → Prop} {vars : Nat} {room : Int} {ns : List Nd} {W0 w w' : World} {a : Option Addr} {n c : Nat} {k : Nat} {L : List (Int × NV)}
theorem KS.lt (h : KS B s b dk kb O vars room ns W0 w a n c k L) : kb < w.heap.size := World.block_lt_of_cell? _ _ h.cell
theorem KS.new (h : KS B s b dk kb O vars room ns W0 w a n c k L) (hb : Below w.heap.size w w') : KS B s b dk kb O vars room ns W0 w' a n c k L :=
  ⟨h.space.new hb, h.done.new hb, (hb.cell (p := ⟨kb, 0, none⟩) h.lt).trans h.cell, (hb.frozen (p := ⟨kb, 0, none⟩) h.lt).trans h.fz, fun o n => by rw [hb.cell (p := ⟨kb, o, none⟩) h.lt]; exact h.no o n, h.num.new hb, h.below.trans (hb.mono h.below.size), h.o1, h.o2, h.n1, h.n2, h.n3, h.g1, h.g2⟩
theorem KS.ways (hg : Good vars ns) (hl : ns.length ≤ 90000) (hv : vars ≤ 24) (h : KS B s b dk kb O vars room ns W0 w a n c k L) (g : Int) (v : Nat) (hh : hasB ns g = true) (hvt : v ≤ topN vars ns g) :
    Calls Tryd.prog 15 #[.pointer (some ⟨s, 0, none⟩), .int .i64 g, .int .i64 (v : Int), .map (some dk)] w fun e w' => ∃ r L', e = .returned r ∧ NatAt w' r (waysN vars ns g v) ∧ KS B s b dk kb O vars room ns W0 w' a n c k L' ∧ w.heap.size ≤ w'.heap.size := by
  have h0 := (topOf_le hg.ranked g).1
  refine (ways_any hg hl hv h.o1 h.n1 g v L w h.space h.done hh (by omega) hvt).mono ?_
  rintro e w2 ⟨r, L', he, hr, hD, hk⟩
  exact ⟨r, L', he, hr, ⟨h.space.kept hk (fun j hj e => h.o1 (e ▸ hj)) h.n1, hD, (hk.cell (a := ⟨kb, 0, none⟩) h.lt h.n3).trans h.cell, (hk.frozen (a := ⟨kb, 0, none⟩) h.lt h.n3).trans h.fz, fun o n => by rw [hk.cell (a := ⟨kb, o, none⟩) h.lt h.n3]; exact h.no o n, h.num.kept hk (fun b o n e => h.done.no b o n e), h.below.trans (hk.below h.below.size (fun j e => by rw [e]; exact h.g1)), h.o1, h.o2, h.n1, h.n2, h.n3, h.g1, h.g2⟩, hk.size⟩
/-- k is what is left. -/
theorem KS.put (h : KS B s b dk kb O vars room ns W0 w a n c k L) {a' : Option Addr} {n' c' : Nat} {k' : Nat} (hn : NatAt w (.agg #[.slice a' n' c']) k') : KS B s b dk kb O vars room ns W0 (w.setCell ⟨kb, 0, none⟩ (.slice a' n' c')) a' n' c' k' L := by
  have hk : Kept (fun j => j = kb) w (w.setCell ⟨kb, 0, none⟩ (.slice a' n' c')) := Kept.setCell w ⟨kb, 0, none⟩ _ rfl
  have hno : ∀ b o n, b = kb → w.cell? ⟨b, o, none⟩ ≠ some (.int .u64 n) := fun b o n e => by rw [e]; exact h.no o n
  refine ⟨h.space.kept hk (fun j hj e => h.o2 (e ▸ hj)) h.n2, h.done.kept hk (fun e => h.n3 e.symm) hno, World.cell?_setCell_same _ _ _ h.cell, by rw [World.frozen?_setCell]; exact h.fz, fun o n => ?_, hn.kept hk hno, h.below.setCell h.g2 _, h.o1, h.o2, h.n1, h.n2, h.n3, h.g1, h.g2⟩
  by_cases ho : o = 0
  · subst ho; rw [World.cell?_setCell_same _ _ _ h.cell]; exact fun h => by cases h
  · rw [World.cell?_setCell_other _ _ _ _ (by intro e; cases e; exact ho rfl)]; exact h.no o n
theorem KS.sub (h : KS B s b dk kb O vars room ns W0 w a n c k L) {r : Value} {m : Nat} (hr : NatAt w r m) (l1 : k < bigN) (l2 : m < bigN) :
    Calls Tryd.prog 17 #[.agg #[.slice a n c], r] w fun e w' => ∃ a' n' c', e = .returned (.tuple #[.agg #[.slice a' n' c'], subErr k m]) ∧ NatAt w' (.agg #[.slice a' n' c']) (k - m) ∧ KS B s b dk kb O vars room ns W0 w' a n c k L ∧ Below w.heap.size w w' := by
  refine (num_sub_any h.num hr l1 l2).mono ?_
  rintro e w' ⟨a', n', c', he, hn, hb⟩
  exact ⟨a', n', c', he, hn, h.new hb, hb⟩

/-- What is left lies in a box. -/
def RestAt (B s b dk kb : Nat) (O : Nat → Prop) (vars : Nat) (room : Int) (ns : List Nd) (W0 : World) (a : Option Addr) (n c k m' : Nat) (pv : Value) (wx : World) : Prop :=
  ∃ (rb : Nat) (a' : Option Addr) (n' c' : Nat) (L' : List (Int × NV)), pv = .pointer (some ⟨rb, 0, none⟩) ∧ KS B s b dk kb O vars room ns W0 wx a n c k L' ∧ wx.cell? ⟨rb, 0, none⟩ = some (.slice a' n' c') ∧ NatAt wx (.agg #[.slice a' n' c']) m' ∧ rb ≠ kb

structure KB (B s b dk kb : Nat) (O : Nat → Prop) (vars : Nat) (room : Int) (ns : List Nd) (W0 w : World) (a : Option Addr) (n c : Nat) (k : Nat) (L : List (Int × NV)) (rb : Nat) : Prop where
  ks : KS B s b dk kb O vars room ns W0 w a n c k L
  box : BoxAt w rb
  r1 : rb ≠ kb
  r2 : rb ≠ dk
  r3 : ¬ O rb
  r4 : s ≠ rb
  r5 : W0.heap.size ≤ rb
theorem KB.make (h : KS B s b dk kb O vars room ns W0 w a n c k L) : KB B s b dk kb O vars room ns W0 (w.alloc (.cells #[.slice none 0 0] 39)) a n c k L w.heap.size := by
  have h1 := h.lt
  have h2 := h.done.lt
  have h3 := h.space.slt
  exact ⟨h.new (below_new w _), boxAt_new w, by omega, by omega, fun ho => by have := (h.space.own _ ho).2; omega, by omega, h.below.size⟩
theorem KB.new {rb : Nat} (h : KB B s b dk kb O vars room ns W0 w a n c k L rb) (hb : Below w.heap.size w w') : KB B s b dk kb O vars room ns W0 w' a n c k L rb :=
  ⟨h.ks.new hb, h.box.new hb, h.r1, h.r2, h.r3, h.r4, h.r5⟩
theorem KB.ways (hg : Good vars ns) (hl : ns.length ≤ 90000) (hv : vars ≤ 24) {rb : Nat} (h : KB B s b dk kb O vars room ns W0 w a n c k L rb) (g : Int) (v : Nat) (hh : hasB ns g = true) (hvt : v ≤ topN vars ns g) :
    Calls Tryd.prog 15 #[.pointer (some ⟨s, 0, none⟩), .int .i64 g, .int .i64 (v : Int), .map (some dk)] w fun e w' => ∃ r L', e = .returned r ∧ NatAt w' r (waysN vars ns g v) ∧ KB B s b dk kb O vars room ns W0 w' a n c k L' rb := by
  have h0 := (topOf_le hg.ranked g).1
  refine (ways_any hg hl hv h.ks.o1 h.ks.n1 g v L w h.ks.space h.ks.done hh (by omega) hvt).mono ?_
  rintro e w2 ⟨r, L', he, hr, hD, hk⟩
  have hq := h.ks
  exact ⟨r, L', he, hr, ⟨hq.space.kept hk (fun j hj e => hq.o1 (e ▸ hj)) hq.n1, hD, (hk.cell (a := ⟨kb, 0, none⟩) hq.lt hq.n3).trans hq.cell, (hk.frozen (a := ⟨kb, 0, none⟩) hq.lt hq.n3).trans hq.fz, fun o n => by rw [hk.cell (a := ⟨kb, o, none⟩) hq.lt hq.n3]; exact hq.no o n, hq.num.kept hk (fun b o n e => hq.done.no b o n e), hq.below.trans (hk.below hq.below.size (fun j e => by rw [e]; exact hq.g1)), hq.o1, hq.o2, hq.n1, hq.n2, hq.n3, hq.g1, hq.g2⟩, h.box.kept hk h.r2, h.r1, h.r2, h.r3, h.r4, h.r5⟩
theorem KB.sub {rb : Nat} (h : KB B s b dk kb O vars room ns W0 w a n c k L rb) {r : Value} {m : Nat} (hr : NatAt w r m) (l1 : k < bigN) (l2 : m < bigN) :
    Calls Tryd.prog 17 #[.agg #[.slice a n c], r] w fun e w' => ∃ a' n' c', e = .returned (.tuple #[.agg #[.slice a' n' c'], subErr k m]) ∧ NatAt w' (.agg #[.slice a' n' c']) (k - m) ∧ KB B s b dk kb O vars room ns W0 w' a n c k L rb := by
  refine (num_sub_any h.ks.num hr l1 l2).mono ?_
  rintro e w' ⟨a', n', c', he, hn, hb⟩
  exact ⟨a', n', c', he, hn, h.new hb⟩
theorem KB.rest {rb m' : Nat} (h : KB B s b dk kb O vars room ns W0 w a n c k L rb) {a' : Option Addr} {n' c' : Nat} (hn : NatAt w (.agg #[.slice a' n' c']) m') : RestAt B s b dk kb O vars room ns W0 a n c k m' (.pointer (some ⟨rb, 0, none⟩)) (w.setCell ⟨rb, 0, none⟩ (.slice a' n' c')) := by
  have hk : Kept (fun j => j = rb) w (w.setCell ⟨rb, 0, none⟩ (.slice a' n' c')) := Kept.setCell w ⟨rb, 0, none⟩ _ rfl
  have hno : ∀ b o n, b = rb → w.cell? ⟨b, o, none⟩ ≠ some (.int .u64 n) := fun b o n e => by rw [e]; exact h.box.no o n
  have hq := h.ks
  have r1 := h.r1
  refine ⟨rb, a', n', c', L, rfl, ⟨hq.space.kept hk (fun j hj e => h.r3 (e ▸ hj)) h.r4, hq.done.kept hk (fun e => h.r2 e.symm) hno, (hk.cell (a := ⟨kb, 0, none⟩) hq.lt (fun e => r1 e.symm)).trans hq.cell, (hk.frozen (a := ⟨kb, 0, none⟩) hq.lt (fun e => r1 e.symm)).trans hq.fz, fun o n => by rw [hk.cell (a := ⟨kb, o, none⟩) hq.lt (fun e => r1 e.symm)]; exact hq.no o n, hq.num.kept hk hno, hq.below.setCell h.r5 _, hq.o1, hq.o2, hq.n1, hq.n2, hq.n3, hq.g1, hq.g2⟩, World.cell?_setCell_same _ _ _ h.box.c, hn.kept hk hno, h.r1⟩
theorem KS.rest_new (h : KS B s b dk kb O vars room ns W0 w a n c k L) {m' : Nat} {a' : Option Addr} {n' c' : Nat} (hn : NatAt w (.agg #[.slice a' n' c']) m') : RestAt B s b dk kb O vars room ns W0 a n c k m' (.pointer (some ⟨w.heap.size, 0, none⟩)) (w.alloc (.cells #[.slice a' n' c'] 39)) := by
  have h1 := h.lt
  exact ⟨_, _, _, _, L, rfl, h.new (below_new w _), by simp, hn.new (below_new w _), by omega⟩
end
end Go.Proofs.YtfodcmcmbjopaaaDoor

namespace Go.Proofs.YtfodcmcmbjopaaaDoor
open Go.RowKit Go.Maps Num

theorem or_pow {o v : Nat} (ho : o < 2 ^ v) (hv : v < 24) : bits BinOp.or IntKind.u64 (o : Int) ((2 : Int) ^ v) = ((o + 2 ^ v : Nat) : Int) := by
  have h24 : 2 ^ v ≤ 2 ^ 24 := Nat.pow_le_pow_right (by omega) (by omega)
  have h63 : (2 : Nat) ^ 24 < 2 ^ 63 := by decide
  have e : ((2 : Int) ^ v) = ((2 ^ v : Nat) : Int) := by simp
  have := bits_join_low .u64 63 (by decide) (fun n h0 h1 => by rw [IntKind.wrap_u64]; omega) v (o : Int) ((2 ^ v : Nat) : Int) (by omega) (by rw [e]; omega) (by omega) (by omega) (by rw [e, Int.emod_self]) (by omega)
  rw [e, this]; omega

theorem shl_pow {v : Nat} (hv : v < 24) : IntKind.u64.wrap (2 ^ min v 64) = (2 : Int) ^ v := by
  have h24 : 2 ^ v ≤ 2 ^ 24 := Nat.pow_le_pow_right (by omega) (by omega)
  have h63 : (2 : Nat) ^ 24 < 2 ^ 63 := by decide
  have e : ((2 : Int) ^ v) = ((2 ^ v : Nat) : Int) := by simp
  rw [show min v 64 = v by omega, e, IntKind.wrap_u64]
  exact Int.emod_eq_of_lt (Int.natCast_nonneg _) (by omega)
theorem kth_step {vars : Nat} {ns : List Nd} {d v : Nat} {h : Int} {k : Nat} : kthH vars ns (d + 1) v h k = if k < waysN vars ns (loS ns h v) (v + 1) then kthH vars ns d (v + 1) (loS ns h v) k else 2 ^ v + kthH vars ns d (v + 1) (hiS ns h v) (k - waysN vars ns (loS ns h v) (v + 1)) := rfl

section
variable {B s b : Nat} {O : Nat → Prop} {vars : Nat} {room : Int} {ns : List Nd}

set_option maxRecDepth 100000 in
set_option maxHeartbeats 2000000 in
theorem kth_any (w : World) (hS : SpaceAt B w s b O vars room ns) (hg : Good vars ns) (hl : ns.length ≤ 90000) (hv : vars ≤ 24) (h : Int) (hh : hasB ns h = true) (a : Option Addr) (n c k : Nat) (hk : NatAt w (.agg #[.slice a n c]) k) (hkl : k < bigN) :
    Calls Tryd.prog 6 #[.pointer (some ⟨s, 0, none⟩), .int .i64 h, .agg #[.slice a n c]] w fun e w' => (k < waysN vars ns h 0 → e = .returned (.tuple #[.int .u64 (kthH vars ns vars 0 h k : Nat), .nilIface])) ∧ (¬ k < waysN vars ns h 0 → e = .returned (.tuple #[.int .u64 0, .iface 42 (.int .i64 8)])) ∧ Below w.heap.size w w' := by
  have hi := has_i64 hh (by omega)
  have hslt := hS.slt
  have hb1 := below_new w (.cells #[.slice a n c] 39)
  have s1 : (w.alloc (.cells #[.slice a n c] 39)).heap.size = w.heap.size + 1 := by simp
  have HP := present_any (cp := 1) ((hS.new hb1).new (below_new (w.alloc (.cells #[.slice a n c] 39)) (.cells #[.int .i64 h] 3))) (by omega) (w.alloc (.cells #[.slice a n c] 39)).heap.size [h] (ints1 (w.alloc (.cells #[.slice a n c] 39)) h hi) (by simp) (fun y hy => by rw [List.mem_singleton] at hy; subst hy; exact hh)
  rw [show [h].length = 1 from rfl, s1] at HP
  have HPR := Lib.hid HP
  have hb2 := hb1.alloc hb1.size (.cells #[.int .i64 h] 3)
  have s2 : ((w.alloc (.cells #[.slice a n c] 39)).alloc (.cells #[.int .i64 h] 3)).heap.size = w.heap.size + 1 + 1 := by rw [World.size_alloc, s1]
  have hb3 := hb2.alloc hb2.size (.map #[] 0)
  have hown := World.ownsMap_made ((w.alloc (.cells #[.slice a n c] 39)).alloc (.cells #[.int .i64 h] 3)) Tryd.prog 3 natR
  rw [s2] at hown
  have hD : DoneN (((w.alloc (.cells #[.slice a n c] 39)).alloc (.cells #[.int .i64 h] 3)).alloc (.map #[] 0)) (w.heap.size + 1 + 1) vars ns [] := ⟨⟨_, hown, Rep.empty⟩, (fun p hp => by cases hp), (fun p hp => by cases hp)⟩
  have hO : ∀ j, w.heap.size ≤ j → ¬ O j := fun j hj ho => by have := (hS.own _ ho).2; omega
  have hbx : Below (w.alloc (.cells #[.slice a n c] 39)).heap.size (w.alloc (.cells #[.slice a n c] 39)) (((w.alloc (.cells #[.slice a n c] 39)).alloc (.cells #[.int .i64 h] 3)).alloc (.map #[] 0)) := (below_new _ _).alloc (below_new _ _).size _
  have ks : KS B s b (w.heap.size + 1 + 1) w.heap.size O vars room ns w (((w.alloc (.cells #[.slice a n c] 39)).alloc (.cells #[.int .i64 h] 3)).alloc (.map #[] 0)) a n c k [] :=
    ⟨hS.new hb3, hD, (hbx.cell (p := ⟨w.heap.size, 0, none⟩) (by simp)).trans (by simp), (hbx.frozen (p := ⟨w.heap.size, 0, none⟩) (by simp)).trans (by simp),
      fun o n => by
        rw [hbx.cell (p := ⟨w.heap.size, o, none⟩) (by simp)]
        cases o with
        | zero => simp
        | succ o => simp,
      hk.new hb3, hb3, hO _ (by omega), hO _ (by omega), by omega, by omega, by omega, by omega, by omega⟩
  have h0 := (topOf_le hg.ranked h).1
  have HKS := Lib.hid ks
  have HG := Lib.hid hg
  have HH := Lib.hid hh
  have HKL := Lib.hid hkl
  have hmm := @run_makeMap Tryd.prog
  have hS0 : Hid (∀ W, Below w.heap.size w W → SpaceAt B W s b O vars room ns) := fun W hW => hS.new hW
  clear HP hS hg hh hb1 hb2 hb3 hown hD hk hO hbx ks hkl
  go_enter Tryd.func6, Tryd.ntmps6
  go_wp2_with fail
  refine HPR.out.mono ?_
  rintro e w1 ⟨rfl, rfl⟩
  clear HPR
  go_wp2_with fail
  generalize (((w.alloc (.cells #[.slice a n c] 39)).alloc (.cells #[.int .i64 h] 3)).alloc (.map #[] 0)) = W3 at *
  have hT0 : (0 : Int) ≤ topOf ns h := h0
  have ks := HKS.out
  have hvv : Hid (∀ W L' k' a' n' c', KS B s b (w.heap.size + 1 + 1) w.heap.size O vars room ns w W a' n' c' k' L' → W.cell? ⟨s, 1, none⟩ = some (.int .i64 (vars : Int))) := fun W L' k' a' n' c' hk => hk.space.c1
  have S0 : W3.drew.cell? ⟨w.heap.size, 0, none⟩ = some (.slice a n c) := ks.cell
  have ksd := ks.new (Below.refl _ W3).drew
  have HW0 : Hid (Calls Tryd.prog 15 #[.pointer (some ⟨s, 0, none⟩), .int .i64 h, .int .i64 0, .map (some (w.heap.size + 1 + 1))] W3.drew fun e w' => ∃ r L', e = .returned r ∧ NatAt w' r (waysN vars ns h 0) ∧ KS B s b (w.heap.size + 1 + 1) w.heap.size O vars room ns w w' a n c k L' ∧ W3.drew.heap.size ≤ w'.heap.size) := KS.ways HG.out hl hv ksd h 0 HH.out (Nat.zero_le _)
  have HCM : Hid (∀ W r m L', KS B s b (w.heap.size + 1 + 1) w.heap.size O vars room ns w W a n c k L' → NatAt W r m → m < bigN → Calls Tryd.prog 14 #[.agg #[.slice a n c], r] W fun e w' => e = .returned (.int .i64 (cmpN k m)) ∧ Below W.heap.size W w') := fun W r m L' hk hr hm => num_cmp hk.num hr HKL.out hm
  have hwl : waysN vars ns h 0 < bigN := small_big (by have := ways_le vars ns h 0 hv; omega)
  have HWL := Lib.hid hwl
  clear ks ksd hwl HKS
  go_region_held3 (fun X => X.cell? ⟨w.heap.size, 0, none⟩ = some (.slice a n c)) (first | exact S0 | exact ks5.cell | exact ks6.cell)
    (first
      | (go_at_call 15; with_reducible refine HW0.out.mono ?_; rintro e w5 ⟨r5, L5, rfl, hn5, ks5, hz5⟩)
      | (go_at_call 14; with_reducible refine (HCM.out _ _ _ _ ks5 hn5 HWL.out).mono ?_; rintro e w6 ⟨rfl, hb6⟩; have ks6 := ks5.new hb6))
  have B6 := Lib.hid ks6.below
  have K6 := Lib.hid ks6
  clear S0 HW0 HCM hn5 ks5 hz5 hb6 ks6
  by_cases hc : k < waysN vars ns h 0
  · rw [cmpN_lt hc, show decide ((0 : Int) ≤ -1) = false from rfl]
    have HC := Lib.hid hc
    have hcell := hvv.out _ _ _ _ _ _ K6.out
    clear hc B6
    go_wp2_with fail
    go_loopw [1, 10, 36] (fun hV oV vV wr => ∃ (v : Nat) (g : Int) (o k' : Nat) (a' : Option Addr) (n' c' : Nat) (L' : List (Int × NV)), v ≤ vars ∧ vV = .int .i64 (v : Int) ∧ hV = .int .i64 g ∧ oV = .int .u64 (o : Int) ∧ hasB ns g = true ∧ (v : Int) ≤ topOf ns g ∧ k' < waysN vars ns g v ∧ o < 2 ^ v ∧ k' < bigN ∧ o + kthH vars ns (vars - v) v g k' = kthH vars ns vars 0 h k ∧ KS B s b (w.heap.size + 1 + 1) w.heap.size O vars room ns w wr a' n' c' k' L')
      (fun _ _ vV _ => vars - (intOf vV).toNat)
    case atStart => exact ⟨0, h, 0, k, a, n, c, _, Nat.zero_le _, rfl, rfl, rfl, HH.out, h0, HC.out, by simp, HKL.out, by simp, K6.out⟩
    case round =>
      obtain ⟨v, g, o, k', a', n', c', L', hvl, rfl, rfl, rfl, hgh, hgt, hk', ho, hkb, hres, ks⟩ := hrel
      clear K6 hcell
      by_cases hlt : v < vars
      · have hv24 : v < 24 := by omega
        have hms : vars - (v + 1) < vars - v := by omega
        have hvl1 : v + 1 ≤ vars := by omega
        have hp2 : 2 ^ (v + 1) = 2 ^ v * 2 := Nat.pow_succ ..
        have HP2 := Lib.hid hp2
        clear hp2
        have hS1 := sides_any ks.space hl g (v : Int) (has_i64 hgh (by omega)) (by omega)
        have hlo := loS_has HG.out.ranked (v := (v : Int)) (by omega) hgh
        have hhi := hiS_has HG.out.ranked (v := (v : Int)) (by omega) hgh
        have hws := ways_sides HG.out hv hgh hlt hgt
        have hlt2 := hlo.2.1 hgt
        have hht2 := hhi.2.1 hgt
        have hl1 := hlo.1
        have hh1 := hhi.1
        have tlo : v + 1 ≤ topN vars ns (loS ns g v) := by unfold topN; omega
        rw [show vars - v = (vars - (v + 1)) + 1 by omega, kth_step] at hres
        have HS1 := Lib.hid hS1
        have KSH := Lib.hid ks
        have HRES := Lib.hid hres
        have HWS := Lib.hid hws
        have HL1 := Lib.hid hl1
        have HH1 := Lib.hid hh1
        have HK' := Lib.hid hk'
        have HKB := Lib.hid hkb
        have HO := Lib.hid ho
        clear hS1 hlo hhi ks hres hws hl1 hh1 hk' hkb ho hgh hgt
        generalize loS ns g v = lo at *
        generalize hiS ns g v = hi' at *
        go_wp2_with fail
        refine HS1.out.mono ?_
        rintro e w7 ⟨rfl, hb7⟩
        have ks7 := KSH.out.new hb7
        clear HS1 hb7 KSH
        have KS7 := Lib.hid ks7
        have kbA := (KB.make ks7).new (Below.refl _ _).drew
        have ks0 := ks7.new (Below.refl _ w7).drew
        have HW1 : Hid (∀ W L, KS B s b (w.heap.size + 1 + 1) w.heap.size O vars room ns w W a' n' c' k' L → Calls Tryd.prog 15 #[.pointer (some ⟨s, 0, none⟩), .int .i64 lo, .int .i64 ((v : Int) + 1), .map (some (w.heap.size + 1 + 1))] W fun e w' => ∃ r L', e = .returned r ∧ NatAt w' r (waysN vars ns lo (v + 1)) ∧ KS B s b (w.heap.size + 1 + 1) w.heap.size O vars room ns w w' a' n' c' k' L' ∧ W.heap.size ≤ w'.heap.size) := fun W L hk => KS.ways HG.out hl hv hk lo (v + 1) HL1.out tlo
        have HW2 : Hid (∀ W L rb, KB B s b (w.heap.size + 1 + 1) w.heap.size O vars room ns w W a' n' c' k' L rb → Calls Tryd.prog 15 #[.pointer (some ⟨s, 0, none⟩), .int .i64 lo, .int .i64 ((v : Int) + 1), .map (some (w.heap.size + 1 + 1))] W fun e w' => ∃ r L', e = .returned r ∧ NatAt w' r (waysN vars ns lo (v + 1)) ∧ KB B s b (w.heap.size + 1 + 1) w.heap.size O vars room ns w w' a' n' c' k' L' rb) := fun W L rb hk => KB.ways HG.out hl hv hk lo (v + 1) HL1.out tlo
        have bm : waysN vars ns lo (v + 1) < bigN := small_big (by have := ways_le vars ns lo (v + 1) hv; omega)
        have HBM := Lib.hid bm
        have hw1 : IntKind.i64.wrap ((v : Int) + 1) = (v : Int) + 1 := IntWalk.i64_in _ ⟨by omega, by omega⟩
        have hw2 : wrap64 ((v : Int) + 1) = (v : Int) + 1 := by unfold wrap64; omega
        clear ks7 bm
        generalize hm : waysN vars ns lo (v + 1) = m at *
        have HM := Lib.hid hm
        clear hm
        go_upto_region 1 with fail
        go_cut [14, 15] (fun pv ev wx => ev = subErr k' m ∧ RestAt B s b (w.heap.size + 1 + 1) w.heap.size O vars room ns w a' n' c' k' (k' - m) pv wx)
        case first =>
          go_region_held3 (fun X => X.cell? ⟨w.heap.size, 0, none⟩ = some (.slice a' n' c'))
            (first
              | exact ks0.cell
              | exact kbA.ks.cell
              | exact ks5.cell
              | exact (ks5.new (below_new _ _)).cell
              | exact kb5.ks.cell
              | exact ks6.cell
              | exact (ks6.new (below_new _ _)).cell
              | exact kb6.ks.cell
              | exact (hrs.choose_spec.choose_spec.choose_spec.choose_spec.choose_spec).2.1.cell)
            (first
              | (go_at_call 15; with_reducible refine (HW1.out _ _ ks0).mono ?_; rintro e w8 ⟨r1, L1, rfl, hn1, ks5, hz1⟩)
              | (go_at_call 15; with_reducible refine (HW2.out _ _ _ kbA).mono ?_; rintro e w8 ⟨r1, L1, rfl, hn1, kb5⟩)
              | (go_at_call 17; (with_reducible refine (kb5.sub hn1 HKB.out HBM.out).mono ?_); rintro e w9 ⟨a9, n9, c9, rfl, hn9, kb6⟩; have q1 := kb6.box.c; have q2 := kb6.box.f; have hrs := kb6.rest hn9)
              | (go_at_call 17; (with_reducible refine ((KB.make ks5).sub (hn1.new (below_new _ _)) HKB.out HBM.out).mono ?_); rintro e w9 ⟨a9, n9, c9, rfl, hn9, kb6⟩; have q1 := kb6.box.c; have q2 := kb6.box.f; have hrs := kb6.rest hn9)
              | (go_at_call 17; (with_reducible refine (ks5.sub hn1 HKB.out HBM.out).mono ?_); rintro e w9 ⟨a9, n9, c9, rfl, hn9, ks6, hb9⟩; have hrs := ks6.rest_new hn9))
          all_goals
            go_wp2_with fail
            go_meet
            case rel => exact ⟨rfl, hrs⟩
        case rest =>
          obtain ⟨rfl, rb, a9, n9, c9, L9, rfl, ks9, hcb, hn9, hrb⟩ := hcut
          clear HW1 HW2 kbA ks0 HBM KS7
          by_cases hlt' : k' < m
          · have he : subErr k' m = .iface 42 (.int .i64 2) := by unfold subErr; rw [if_pos hlt']
            rw [he]
            have hr := HRES.out
            rw [if_pos hlt'] at hr
            have HR := Lib.hid hr
            have HLT := Lib.hid hlt'
            have KS9 := Lib.hid ks9
            clear he hr hlt' ks9 hcb hn9 HRES
            go_wp2
            go_roundw
            case rel => exact ⟨v + 1, lo, o, k', a', n', c', L9, hvl1, rfl, rfl, rfl, HL1.out, hlt2, by rw [HM.out]; exact HLT.out, by rw [HP2.out]; exact Nat.lt_of_lt_of_le HO.out (Nat.le_mul_of_pos_right _ (Nat.zero_lt_two)), HKB.out, HR.out, KS9.out⟩
            case measure => simp [intOf]; exact hms
          · have he : subErr k' m = .nilIface := by unfold subErr; rw [if_neg hlt']
            rw [he]
            have hr := HRES.out
            rw [if_neg hlt', ← Nat.add_assoc] at hr
            have HR := Lib.hid hr
            have hk2 : k' - m < waysN vars ns hi' (v + 1) := by have h1 := HWS.out; have h2 := HK'.out; omega
            have hk3 : k' - m < bigN := Nat.lt_of_le_of_lt (Nat.sub_le _ _) HKB.out
            have HK2 := Lib.hid hk2
            have HK3 := Lib.hid hk3
            have ks10 := (ks9.put hn9).new (Below.refl _ _).drew
            have S0 : wc.drew.cell? ⟨rb, 0, none⟩ = some (.slice a9 n9 c9) := hcb
            have HSH := Lib.hid (shl_pow hv24)
            have S2 : (wc.setCell ⟨w.heap.size, 0, none⟩ (.slice a9 n9 c9)).drew.cell? ⟨rb, 0, none⟩ = some (.slice a9 n9 c9) := by
              show (wc.setCell ⟨w.heap.size, 0, none⟩ (.slice a9 n9 c9)).cell? ⟨rb, 0, none⟩ = some (.slice a9 n9 c9)
              rw [World.cell?_setCell_other _ _ _ _ (by intro e; cases e; exact hrb rfl)]; exact hcb
            have S1 : (wc.drew.setCell ⟨w.heap.size, 0, none⟩ (.slice a9 n9 c9)).cell? ⟨rb, 0, none⟩ = some (.slice a9 n9 c9) := by
              rw [World.cell?_setCell_other _ _ _ _ (by intro e; cases e; exact hrb rfl)]; exact hcb
            have x1 : wc.drew.cell? ⟨w.heap.size, 0, none⟩ = some (.slice a' n' c') := ks9.cell
            have x2 : wc.drew.frozen? ⟨w.heap.size, 0, none⟩ = false := ks9.fz
            have KS10 := Lib.hid ks10
            have hor := or_pow HO.out hv24
            clear he hr hlt' ks9 ks10 hn9 HRES hk2 hk3
            go_wp2_with fail
            go_region_held3 (fun X => X.cell? ⟨rb, 0, none⟩ = some (.slice a9 n9 c9)) (first | exact S0 | exact S1 | exact S2) (fail)
            rw [HSH.out, hor]
            have holt : o + 2 ^ v < 2 ^ (v + 1) := by rw [HP2.out]; have := HO.out; omega
            have HOLT := Lib.hid holt
            clear hor S0 S1 S2 x1 x2 holt hcb
            go_wp2
            go_roundw
            case rel => exact ⟨v + 1, hi', o + 2 ^ v, k' - m, a9, n9, c9, L9, hvl1, rfl, rfl, rfl, HH1.out, hht2, HK2.out, HOLT.out, HK3.out, HR.out, KS10.out⟩
            case measure => simp [intOf]; exact hms
      · obtain rfl : v = vars := by omega
        rw [Nat.sub_self, kthH, Nat.add_zero] at hres
        subst hres
        have HB := Lib.hid ks.below
        clear ks ho hk' hkb hgt hgh
        go_wp2
        go_ret2
        exact ⟨fun _ => rfl, fun hn => absurd HC.out hn, HB.out⟩
  · have h0c : 0 ≤ cmpN k (waysN vars ns h 0) := by unfold cmpN; rw [if_neg hc]; split <;> omega
    have HC := Lib.hid hc
    generalize cmpN k (waysN vars ns h 0) = cc at *
    clear hc K6
    go_wp2
    go_ret2
    exact ⟨fun hn => absurd hn HC.out, fun _ => rfl, B6.out⟩
end
end Go.Proofs.YtfodcmcmbjopaaaDoor
