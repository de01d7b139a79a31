/- NatReckons where both texts are numbers; and the whole. -/
import Derived.Test.YtfangnjdfmaaoaaDoorReckNo
namespace Go.Proofs.YtfangnjdfmaaoaaDoor
open Go.RowKit Num Go.Sort Go.PlainAid

section
variable {p q x y : Nat} {W : World}
theorem z47 (W : World) : (W.alloc (.cells #[.bool false, .slice none 0 0] 47)).cell? ⟨W.heap.size, 0, none⟩ = some (.bool false) ∧ (W.alloc (.cells #[.bool false, .slice none 0 0] 47)).cell? ⟨W.heap.size, 1, none⟩ = some (.slice none 0 0) ∧ (W.alloc (.cells #[.bool false, .slice none 0 0] 47)).frozen? ⟨W.heap.size, 0, none⟩ = false ∧ (W.alloc (.cells #[.bool false, .slice none 0 0] 47)).frozen? ⟨W.heap.size, 1, none⟩ = false ∧ W.heap.size < (W.alloc (.cells #[.bool false, .slice none 0 0] 47)).heap.size :=
  ⟨by simp, by simp, by simp, by simp, by simp⟩

theorem newsub (hp : IntIs W p x) (hq : IntIs W q y) (hx : x < 4294967296 ^ 1000) (hy : y ≤ x) :
    Calls Tryd.prog 19 #[.pointer (some ⟨W.heap.size, 0, none⟩), .pointer (some ⟨p, 0, none⟩), .pointer (some ⟨q, 0, none⟩)] (W.alloc (.cells #[.bool false, .slice none 0 0] 47)) fun e w' => e = .returned (.pointer (some ⟨W.heap.size, 0, none⟩)) ∧ IntIs w' W.heap.size (x - y) ∧ Below W.heap.size W w' := by
  obtain ⟨h0, h1, f0, f1, hz⟩ := z47 W
  refine (isub_big (hp.below (below_alloc3 _ _)) (hq.below (below_alloc3 _ _)) hx hy hp.1 hq.1 hz h0 h1 f0 f1).mono ?_
  rintro e w' ⟨he, hi, hb⟩
  exact ⟨he, hi, (below_alloc3 _ _).trans hb⟩
theorem newadd (hp : IntIs W p x) (hq : IntIs W q y) (hx : x < 4294967296 ^ 1000) (hy : y < 4294967296 ^ 1000) :
    Calls Tryd.prog 23 #[.pointer (some ⟨W.heap.size, 0, none⟩), .pointer (some ⟨p, 0, none⟩), .pointer (some ⟨q, 0, none⟩)] (W.alloc (.cells #[.bool false, .slice none 0 0] 47)) fun e w' => e = .returned (.pointer (some ⟨W.heap.size, 0, none⟩)) ∧ IntIs w' W.heap.size (x + y) ∧ Below W.heap.size W w' := by
  obtain ⟨h0, h1, f0, f1, hz⟩ := z47 W
  refine (iadd_big (hp.below (below_alloc3 _ _)) (hq.below (below_alloc3 _ _)) hx hy hp.1 hq.1 hz h0 h1 f0 f1).mono ?_
  rintro e w' ⟨he, hi, hb⟩
  exact ⟨he, hi, (below_alloc3 _ _).trans hb⟩
theorem newmul (hp : IntIs W p x) (hq : IntIs W q y) (hx : x < 4294967296 ^ 1000) (hy : y < 4294967296 ^ 1000) :
    Calls Tryd.prog 25 #[.pointer (some ⟨W.heap.size, 0, none⟩), .pointer (some ⟨p, 0, none⟩), .pointer (some ⟨q, 0, none⟩)] (W.alloc (.cells #[.bool false, .slice none 0 0] 47)) fun e w' => e = .returned (.pointer (some ⟨W.heap.size, 0, none⟩)) ∧ IntIs w' W.heap.size (x * y) ∧ Below W.heap.size W w' := by
  obtain ⟨h0, h1, f0, f1, hz⟩ := z47 W
  refine (imul_big (hp.below (below_alloc3 _ _)) (hq.below (below_alloc3 _ _)) hx hy hp.1 hq.1 hz h0 h1 f0 f1).mono ?_
  rintro e w' ⟨he, hi, hb⟩
  exact ⟨he, hi, (below_alloc3 _ _).trans hb⟩
theorem newlsh {m : Int} {n : Nat} (hp : IntIs W p x) (hx : x < 4294967296 ^ 1000) (hm : m = (n : Int)) (hn : n ≤ 1000) :
    Calls Tryd.prog 21 #[.pointer (some ⟨W.heap.size, 0, none⟩), .pointer (some ⟨p, 0, none⟩), .int .u64 m] (W.alloc (.cells #[.bool false, .slice none 0 0] 47)) fun e w' => e = .returned (.pointer (some ⟨W.heap.size, 0, none⟩)) ∧ IntIs w' W.heap.size (x * 2 ^ n) ∧ Below W.heap.size W w' := by
  subst hm
  obtain ⟨h0, h1, f0, f1, hz⟩ := z47 W
  refine (ilsh_big (hp.below (below_alloc3 _ _)) hx hn hp.1 hz h0 h1 f0 f1).mono ?_
  rintro e w' ⟨he, hi, hb⟩
  exact ⟨he, hi, (below_alloc3 _ _).trans hb⟩
end

theorem h10 : (10 : Nat) ^ 100 ≤ 10 ^ (499 + 1) := by decide +kernel
theorem h10a : (10 : Nat) ^ 100 + 10 ^ 100 ≤ 10 ^ (499 + 1) := by decide +kernel
theorem h10m : (10 : Nat) ^ 100 * 10 ^ 100 ≤ 10 ^ (499 + 1) := by decide +kernel
theorem h10s : (10 : Nat) ^ 100 * 2 ^ 1000 ≤ 10 ^ (499 + 1) := by decide +kernel
theorem b_sub {x y : Nat} (hx : x < 10 ^ 100) : x - y < 10 ^ (499 + 1) := Nat.lt_of_le_of_lt (Nat.sub_le _ _) (Nat.lt_of_lt_of_le hx h10)
theorem b_add {x y : Nat} (hx : x < 10 ^ 100) (hy : y < 10 ^ 100) : x + y < 10 ^ (499 + 1) := Nat.lt_of_lt_of_le (Nat.add_lt_add hx hy) h10a
theorem b_mul {x y : Nat} (hx : x < 10 ^ 100) (hy : y < 10 ^ 100) : x * y < 10 ^ (499 + 1) := Nat.lt_of_lt_of_le (Nat.mul_lt_mul'' hx hy) h10m
theorem b_shl {x n : Nat} (hx : x < 10 ^ 100) (hn : n ≤ 1000) : x * 2 ^ n < 10 ^ (499 + 1) :=
  Nat.lt_of_le_of_lt (Nat.mul_le_mul_left x (Nat.pow_le_pow_right (by omega) hn)) (Nat.lt_of_lt_of_le (Nat.mul_lt_mul_of_pos_right hx (Nat.two_pow_pos 1000)) h10s)
theorem pre_ten {s : ByteArray} (hok : OkText s) (hs : s.size ≤ 100) : pre s s.size < 10 ^ 100 :=
  Nat.lt_of_lt_of_le (pre_lt s hok.digits s.size (Nat.le_refl _)) (Nat.pow_le_pow_right (by omega) hs)

/-- What stands while NatReckons asks: both numbers, twice, and the tables. -/
structure Held (W : World) (g1 g2 : Nat) (vx vy : Value) (p q x y : Nat) : Prop where
  cx : W.cell? ⟨g1, 0, none⟩ = some vx
  cy : W.cell? ⟨g2, 0, none⟩ = some vy
  nx : NatIs W vx x 12
  ny : NatIs W vy y 12
  ip : IntIs W p x
  iq : IntIs W q y
  tab : Tab W
  glob : Glob W
  l1 : g1 < W.heap.size
  l2 : g2 < W.heap.size
theorem Held.below {W X : World} {g1 g2 : Nat} {vx vy : Value} {p q x y : Nat} (h : Held W g1 g2 vx vy p q x y) (hb : Below W.heap.size W X) : Held X g1 g2 vx vy p q x y :=
  ⟨(hb.cell (p := ⟨g1, 0, none⟩) h.l1).trans h.cx, (hb.cell (p := ⟨g2, 0, none⟩) h.l2).trans h.cy, h.nx.below hb, h.ny.below hb, h.ip.below hb, h.iq.below hb, h.tab.below hb, h.glob.below hb, Nat.lt_of_lt_of_le h.l1 hb.size, Nat.lt_of_lt_of_le h.l2 hb.size⟩

set_option maxRecDepth 100000 in
set_option maxHeartbeats 4000000 in
theorem reck_yes (a b : ByteArray) (t : Int) (w : World) (ht0 : -9223372036854775808 ≤ t) (ht1 : t ≤ 9223372036854775807) (ha : a.size ≤ 100) (hb : b.size ≤ 100) (oa : OkText a) (ob : OkText b) (ht : Tab w) (hg : Glob w) :
    Calls Tryd.prog 4 #[.string a, .string b, .int .i64 t] w fun e w' => e = .returned (.bool true) ∧ Below w.heap.size w w' := by
  have HP1 := fun W => nat_yes a W ha oa
  have HP2 := fun W => nat_yes b W hb ob
  have hx := pre_ten oa ha
  have hy := pre_ten ob hb
  have hxb := pre_bound oa ha
  have hyb := pre_bound ob hb
  generalize pre a a.size = x at *
  generalize pre b b.size = y at *
  have H1 := Lib.hid HP1
  have H2 := Lib.hid HP2
  have HX := Lib.hid hx
  have HY := Lib.hid hy
  have HXB := Lib.hid hxb
  have HYB := Lib.hid hyb
  have HT := Lib.hid ht
  have HG := Lib.hid hg
  clear HP1 HP2 hx hy hxb hyb oa ob ht hg
  obtain ⟨n, hn⟩ : ∃ n, n = (min t 1000).toNat := ⟨_, rfl⟩
  have hn1000 : n ≤ 1000 := by omega
  have HN : Hid (max 0 (min t 1000) = (n : Int)) := by show _ = _; omega
  have HND : Hid (n = (min t 1000).toNat) := hn
  clear hn
  go_enter Tryd.func4, Tryd.ntmps4
  go_wp2_with fail
  refine (H1.out _).mono ?_
  rintro e w1 ⟨v1, p, rfl, hx1, hi1, hb1⟩
  obtain ⟨a1, k1, c1, rfl⟩ := hx1.form
  go_wp2_with fail
  refine (H2.out _).mono ?_
  rintro e w2 ⟨v2, q, rfl, hx2, hi2, hb2⟩
  obtain ⟨a2, k2, c2, rfl⟩ := hx2.form
  have s1 := hb1.size
  have hw1 := hb1.trans ((below_alloc3 w1 (.cells #[.slice a1 k1 c1] 28)).mono s1)
  have s1' := hw1.size
  have hw2 := hw1.trans (hb2.mono s1')
  have s2 := hb2.size
  have ba := below_alloc3 w2 (.cells #[.slice a2 k2 c2] 28)
  have hw3 := hw2.trans (ba.mono (by omega))
  have sz : (w1.alloc (.cells #[.slice a1 k1 c1] 28)).heap.size = w1.heap.size + 1 := by simp
  have HE : Held (w2.alloc (.cells #[.slice a2 k2 c2] 28)) w1.heap.size w2.heap.size (.slice a1 k1 c1) (.slice a2 k2 c2) p q x y :=
    ⟨(ba.cell (p := ⟨w1.heap.size, 0, none⟩) (by show w1.heap.size < _; omega)).trans ((hb2.cell (p := ⟨w1.heap.size, 0, none⟩) (by simp)).trans (cell1_0 _ _ _)), cell1_0 _ _ _,
      ((hx1.below (below_alloc3 _ _)).below hb2).below ba, hx2.below ba, ((hi1.below (below_alloc3 _ _)).below hb2).below ba, hi2.below ba, HT.out.below hw3, HG.out.below hw3, by simp; omega, by simp⟩
  obtain ⟨W, hWe⟩ : ∃ W : World, W = w2.alloc (.cells #[.slice a2 k2 c2] 28) := ⟨_, rfl⟩
  have hcx := HE.cx
  have hcy := HE.cy
  go_wp2_with fail
  clear hcx hcy
  rw [← hWe] at HE hw3 ⊢
  generalize w1.heap.size = g1 at *
  generalize w2.heap.size = g2 at *
  clear hWe hb1 hb2 hx1 hx2 hi1 hi2 s1 s1' s2 sz hw1 hw2 ba H1 H2 HT HG
  have hw := hw3
  clear hw3
  by_cases hlt : x < y
  · refine (sub_nat_no HE.nx HE.ny (by omega) (by omega) hlt).mono ?_
    rintro e w3 ⟨rfl, hb⟩
    replace hw := hw.trans (hb.mono hw.size); replace HE := HE.below hb; clear hb
    have ba := below_alloc3 w3 (.cells #[.slice none 0 0] 28)
    have cd := cell1_0 w3 (.slice none 0 0) 28
    have ld : w3.heap.size < (w3.alloc (.cells #[.slice none 0 0] 28)).heap.size := by simp
    replace hw := hw.trans (ba.mono hw.size); replace HE := HE.below ba; clear ba
    go_wp2_with fail
    refine (icmp_big HE.ip HE.iq HXB.out HYB.out).mono ?_
    rintro e w4 ⟨rfl, hb⟩
    replace cd := (hb.cell (p := ⟨w3.heap.size, 0, none⟩) ld).trans cd; replace ld := Nat.lt_of_lt_of_le ld hb.size
    replace hw := hw.trans (hb.mono hw.size); replace HE := HE.below hb; clear hb
    rw [cmpN_lt hlt]
    go_wp2_with fail
    refine (bare_errno 2 2 _ HE.glob).mono ?_
    rintro e w5 ⟨rfl, hb⟩
    replace cd := (hb.cell (p := ⟨w3.heap.size, 0, none⟩) ld).trans cd; replace ld := Nat.lt_of_lt_of_le ld hb.size
    replace hw := hw.trans (hb.mono hw.size); replace HE := HE.below hb; clear hb
    go_wp2_with fail
    refine (zero_nat (x := 0) (L := 0) ⟨[], Dig.nil _ _, norm_nil (by omega), rfl, Nat.le_refl _⟩ (by omega)).mono ?_
    rintro e w6 ⟨rfl, hb⟩
    replace hw := hw.trans (hb.mono hw.size); replace HE := HE.below hb; clear hb cd ld hlt
    go_wp2_with fail
    refine (newlsh (n := n) HE.ip HXB.out (by rw [← HN.out]) hn1000).mono ?_
    rintro e w8 ⟨rfl, hi8, hb⟩
    replace hw := hw.trans (hb.mono hw.size); replace HE := HE.below hb; clear hb
    have hcx := HE.cx
    have hcy := HE.cy
    go_wp2_with fail
    clear hcx hcy
    refine (add_nat HE.nx HE.ny (by omega) (by omega)).mono ?_
    rintro e w9 ⟨v9, rfl, hv, hb⟩
    obtain ⟨ar9, kr9, cr9, rfl⟩ := hv.form
    replace hw := hw.trans (hb.mono hw.size); replace HE := HE.below hb; replace hi8 := hi8.below hb; clear hb
    go_wp2_with fail
    refine (text_nat hv (by omega) HE.tab).mono ?_
    rintro e w10 ⟨rfl, hb⟩
    replace hw := hw.trans (hb.mono hw.size); replace HE := HE.below hb; replace hi8 := hi8.below hb; clear hv; clear hb
    go_wp2_with fail
    refine (newadd HE.ip HE.iq HXB.out HYB.out).mono ?_
    rintro e w11 ⟨rfl, hi, hb⟩
    replace hw := hw.trans (hb.mono hw.size); replace HE := HE.below hb; replace hi8 := hi8.below hb; clear hb
    go_wp2_with fail
    refine (string_big hi (b_add HX.out HY.out)).mono ?_
    rintro e w12 ⟨rfl, hb⟩
    replace hw := hw.trans (hb.mono hw.size); replace HE := HE.below hb; replace hi8 := hi8.below hb; clear hi; clear hb
    have hcx := HE.cx
    have hcy := HE.cy
    go_wp2_with fail
    clear hcx hcy
    refine (mul_nat HE.nx HE.ny (by omega) (by omega)).mono ?_
    rintro e w13 ⟨v13, rfl, hv, hb⟩
    obtain ⟨ar13, kr13, cr13, rfl⟩ := hv.form
    replace hw := hw.trans (hb.mono hw.size); replace HE := HE.below hb; replace hi8 := hi8.below hb; clear hb
    go_wp2_with fail
    refine (text_nat hv (by omega) HE.tab).mono ?_
    rintro e w14 ⟨rfl, hb⟩
    replace hw := hw.trans (hb.mono hw.size); replace HE := HE.below hb; replace hi8 := hi8.below hb; clear hv; clear hb
    go_wp2_with fail
    refine (newmul HE.ip HE.iq HXB.out HYB.out).mono ?_
    rintro e w15 ⟨rfl, hi, hb⟩
    replace hw := hw.trans (hb.mono hw.size); replace HE := HE.below hb; replace hi8 := hi8.below hb; clear hb
    go_wp2_with fail
    refine (string_big hi (b_mul HX.out HY.out)).mono ?_
    rintro e w16 ⟨rfl, hb⟩
    replace hw := hw.trans (hb.mono hw.size); replace HE := HE.below hb; replace hi8 := hi8.below hb; clear hi; clear hb
    have hcx := HE.cx
    have hcy := HE.cy
    go_wp2_with fail
    clear hcx hcy
    refine (cmp_nat HE.nx HE.ny (by omega) (by omega)).mono ?_
    rintro e w17 ⟨rfl, hb⟩
    replace hw := hw.trans (hb.mono hw.size); replace HE := HE.below hb; replace hi8 := hi8.below hb; clear hb
    go_wp2_with fail
    refine (icmp_big HE.ip HE.iq HXB.out HYB.out).mono ?_
    rintro e w18 ⟨rfl, hb⟩
    replace hw := hw.trans (hb.mono hw.size); replace HE := HE.below hb; replace hi8 := hi8.below hb; clear hb
    have hcx := HE.cx
    go_wp2_with fail
    clear hcx
    refine (double_nat t HE.nx (by omega) ht0 ht1).mono ?_
    rintro e w19 ⟨v19, rfl, hv, hb⟩
    obtain ⟨ar19, kr19, cr19, rfl⟩ := hv.form
    rw [← HND.out] at hv
    replace hw := hw.trans (hb.mono hw.size); replace HE := HE.below hb; replace hi8 := hi8.below hb; clear hb
    go_wp2_with fail
    refine (text_nat hv (by omega) HE.tab).mono ?_
    rintro e w20 ⟨rfl, hb⟩
    replace hw := hw.trans (hb.mono hw.size); replace HE := HE.below hb; replace hi8 := hi8.below hb; clear hv; clear hb
    go_wp2_with fail
    refine (string_big hi8 (b_shl HX.out hn1000)).mono ?_
    rintro e w21 ⟨rfl, hb⟩
    replace hw := hw.trans (hb.mono hw.size); replace HE := HE.below hb; replace hi8 := hi8.below hb; clear hb
    go_wp2
    go_ret
    exact ⟨rfl, hw⟩
  · refine (sub_nat HE.nx HE.ny (by omega) (by omega) (by omega)).mono ?_
    rintro e w3 ⟨v3, rfl, hd, hb⟩
    obtain ⟨a3, k3, c3, rfl⟩ := hd.form
    replace hw := hw.trans (hb.mono hw.size); replace HE := HE.below hb; clear hb
    have ba := below_alloc3 w3 (.cells #[.slice a3 k3 c3] 28)
    have cd := cell1_0 w3 (.slice a3 k3 c3) 28
    have ld : w3.heap.size < (w3.alloc (.cells #[.slice a3 k3 c3] 28)).heap.size := by simp
    replace hw := hw.trans (ba.mono hw.size); replace HE := HE.below ba; replace hd := hd.below ba; clear ba
    go_wp2_with fail
    refine (icmp_big HE.ip HE.iq HXB.out HYB.out).mono ?_
    rintro e w4 ⟨rfl, hb⟩
    replace cd := (hb.cell (p := ⟨w3.heap.size, 0, none⟩) ld).trans cd
    replace hw := hw.trans (hb.mono hw.size); replace HE := HE.below hb; replace hd := hd.below hb; clear hb ld
    have hc : ∃ c : Int, cmpN x y = c ∧ 0 ≤ c := by
      unfold cmpN; rw [if_neg (by omega)]; split <;> exact ⟨_, rfl, by omega⟩
    obtain ⟨c, hc, hc0⟩ := hc
    rw [hc]
    clear hc
    have HLE : Hid (y ≤ x) := by show _ ≤ _; omega
    clear hlt
    go_wp2_with fail
    refine (text_nat hd (by omega) HE.tab).mono ?_
    rintro e w5 ⟨rfl, hb⟩
    replace hw := hw.trans (hb.mono hw.size); replace HE := HE.below hb; clear hb hd cd
    go_wp2_with fail
    refine (newsub HE.ip HE.iq HXB.out HLE.out).mono ?_
    rintro e w6 ⟨rfl, hi, hb⟩
    replace hw := hw.trans (hb.mono hw.size); replace HE := HE.below hb; clear hb
    go_wp2_with fail
    refine (string_big hi (b_sub HX.out)).mono ?_
    rintro e w7 ⟨rfl, hb⟩
    replace hw := hw.trans (hb.mono hw.size); replace HE := HE.below hb; clear hb hi hc0
    go_wp2_with fail
    refine (newlsh (n := n) HE.ip HXB.out (by rw [← HN.out]) hn1000).mono ?_
    rintro e w8 ⟨rfl, hi8, hb⟩
    replace hw := hw.trans (hb.mono hw.size); replace HE := HE.below hb; clear hb
    have hcx := HE.cx
    have hcy := HE.cy
    go_wp2_with fail
    clear hcx hcy
    refine (add_nat HE.nx HE.ny (by omega) (by omega)).mono ?_
    rintro e w9 ⟨v9, rfl, hv, hb⟩
    obtain ⟨ar9, kr9, cr9, rfl⟩ := hv.form
    replace hw := hw.trans (hb.mono hw.size); replace HE := HE.below hb; replace hi8 := hi8.below hb; clear hb
    go_wp2_with fail
    refine (text_nat hv (by omega) HE.tab).mono ?_
    rintro e w10 ⟨rfl, hb⟩
    replace hw := hw.trans (hb.mono hw.size); replace HE := HE.below hb; replace hi8 := hi8.below hb; clear hv; clear hb
    go_wp2_with fail
    refine (newadd HE.ip HE.iq HXB.out HYB.out).mono ?_
    rintro e w11 ⟨rfl, hi, hb⟩
    replace hw := hw.trans (hb.mono hw.size); replace HE := HE.below hb; replace hi8 := hi8.below hb; clear hb
    go_wp2_with fail
    refine (string_big hi (b_add HX.out HY.out)).mono ?_
    rintro e w12 ⟨rfl, hb⟩
    replace hw := hw.trans (hb.mono hw.size); replace HE := HE.below hb; replace hi8 := hi8.below hb; clear hi; clear hb
    have hcx := HE.cx
    have hcy := HE.cy
    go_wp2_with fail
    clear hcx hcy
    refine (mul_nat HE.nx HE.ny (by omega) (by omega)).mono ?_
    rintro e w13 ⟨v13, rfl, hv, hb⟩
    obtain ⟨ar13, kr13, cr13, rfl⟩ := hv.form
    replace hw := hw.trans (hb.mono hw.size); replace HE := HE.below hb; replace hi8 := hi8.below hb; clear hb
    go_wp2_with fail
    refine (text_nat hv (by omega) HE.tab).mono ?_
    rintro e w14 ⟨rfl, hb⟩
    replace hw := hw.trans (hb.mono hw.size); replace HE := HE.below hb; replace hi8 := hi8.below hb; clear hv; clear hb
    go_wp2_with fail
    refine (newmul HE.ip HE.iq HXB.out HYB.out).mono ?_
    rintro e w15 ⟨rfl, hi, hb⟩
    replace hw := hw.trans (hb.mono hw.size); replace HE := HE.below hb; replace hi8 := hi8.below hb; clear hb
    go_wp2_with fail
    refine (string_big hi (b_mul HX.out HY.out)).mono ?_
    rintro e w16 ⟨rfl, hb⟩
    replace hw := hw.trans (hb.mono hw.size); replace HE := HE.below hb; replace hi8 := hi8.below hb; clear hi; clear hb
    have hcx := HE.cx
    have hcy := HE.cy
    go_wp2_with fail
    clear hcx hcy
    refine (cmp_nat HE.nx HE.ny (by omega) (by omega)).mono ?_
    rintro e w17 ⟨rfl, hb⟩
    replace hw := hw.trans (hb.mono hw.size); replace HE := HE.below hb; replace hi8 := hi8.below hb; clear hb
    go_wp2_with fail
    refine (icmp_big HE.ip HE.iq HXB.out HYB.out).mono ?_
    rintro e w18 ⟨rfl, hb⟩
    replace hw := hw.trans (hb.mono hw.size); replace HE := HE.below hb; replace hi8 := hi8.below hb; clear hb
    have hcx := HE.cx
    go_wp2_with fail
    clear hcx
    refine (double_nat t HE.nx (by omega) ht0 ht1).mono ?_
    rintro e w19 ⟨v19, rfl, hv, hb⟩
    obtain ⟨ar19, kr19, cr19, rfl⟩ := hv.form
    rw [← HND.out] at hv
    replace hw := hw.trans (hb.mono hw.size); replace HE := HE.below hb; replace hi8 := hi8.below hb; clear hb
    go_wp2_with fail
    refine (text_nat hv (by omega) HE.tab).mono ?_
    rintro e w20 ⟨rfl, hb⟩
    replace hw := hw.trans (hb.mono hw.size); replace HE := HE.below hb; replace hi8 := hi8.below hb; clear hv; clear hb
    go_wp2_with fail
    refine (string_big hi8 (b_shl HX.out hn1000)).mono ?_
    rintro e w21 ⟨rfl, hb⟩
    replace hw := hw.trans (hb.mono hw.size); replace HE := HE.below hb; replace hi8 := hi8.below hb; clear hb
    go_wp2
    go_ret
    exact ⟨rfl, hw⟩
end Go.Proofs.YtfangnjdfmaaoaaDoor
