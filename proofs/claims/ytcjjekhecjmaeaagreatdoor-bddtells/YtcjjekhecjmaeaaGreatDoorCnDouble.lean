/- The contracts of slices.Clone at digits, of shifted and of Double. -/
import Derived.Test.YtcjjekhecjmaeaaGreatDoorCnOf
set_option maxHeartbeats 1000000
set_option maxRecDepth 100000
namespace Go.Proofs.YtcjjekhecjmaeaaGreatDoor
open Go.RowKit Num Go.Sort
theorem clone_any (v : Value) (ds : List Nat) (w : World) (hd : Dig .u64 w v ds) (hl : ds.length <= 100000) :
  Calls Tryz.prog 110 #[v] w fun e w' => ∃ v', e = .returned v' /\ Dig .u64 w' v' ds /\ Below w.heap.size w w' := by
 obtain ⟨a, cap, hv, hc, hcell⟩ := id hd
 subst hv
 obtain ⟨i0, hi, hz0, hz1, hz2⟩ := info_parts infoU64
 have hq := fun (x : Option Addr) (n c : Nat) (W : World) => Lib.run_eql_slice_nil (P := Tryz.prog) W 28 90 x n c 0 0 Tryz.underlying28
 cases a with
 | none =>
  have h0 : ds.length = 0 := by
   by_cases h : ds.length = 0
   ·exact h
   ·obtain ⟨b, off, e, -⟩ := hcell 0 (by omega)
    cases e
  obtain rfl : ds = [] := List.length_eq_zero_iff.1 h0
  clear hcell hd
  go_enter Tryz.func110, Tryz.ntmps110
  go_wp2
  go_ret
  exact ⟨_, rfl, Dig.nil _ _, Below.refl _ _⟩
 | some ad =>
  go_enter Tryz.func110, Tryz.ntmps110
  go_wp2_with (at_builtin; refine wpList_append_own _ rfl _ _ 28 rfl w.heap.size 90 i0 (.int .u64 0) 1 8 Tryz.underlying28 hi hz0 hz1 hz2 rfl (by decide) _ _ _ rfl (World.ownsRow_lit w #[] 0 (Nat.le_refl _) (by unfold maxLen; omega) rfl) ad ds.length cap (dcells .u64 ds) rfl ?c0 ?c1 ?c2 ?c3 ?c4 ?c5 ?_)
  case c0 => simp [dcells_length]
  case c1 =>
   intro j u hj
   have hjl : j < ds.length := by
    have h5 := (List.getElem?_eq_some_iff.1 hj).1
    rwa [dcells_length] at h5
   obtain ⟨b, off, e, hb, hcl⟩ := hcell j hjl
   cases e
   rw [dcells_at .u64 ds j hjl] at hj
   cases hj
   rw [show (⟨b, off, none⟩ : Addr).add j = ⟨b, off + j, none⟩ by simp [Addr.add]]
   exact (cellOld (off := off + j) _ hb).trans hcl
  case c2 => intro u hu; simp only [dcells, List.mem_map] at hu; obtain ⟨x, _, rfl⟩ := hu; rfl
  case c3 => unfold maxLen; omega
  case c4 => omega
  case c5 => simp
  intro v' w1 hown hgrow _
  have hb1 : Below w.heap.size w w1 := ((Below.refl _ _).alloc (Nat.le_refl _) _).grown hgrow (by simp) (fun k hk => by cases hk; exact Nat.le_refl _)
  have hD : Dig .u64 w1 v' ds := Dig.of_owns (by simpa using hown)
  clear hown hgrow hcell
  go_wp2
  go_ret
  exact ⟨v', rfl, hD, hb1⟩
theorem shifted_any (va : Value) (a : List Nat) (t : Nat) (w : World) (ha : Dig .u64 w va a) (na : ∀ i, dig a i < 1000000000) (la : a.length <= 5000) (ht : t <= 30) :
  Calls Tryz.prog 111 #[.agg #[va], .int .i64 (t : Int)] w fun e w' => ∃ v', e = .returned (.agg #[v']) /\ ∃ ds', Dig .u64 w' v' ds' /\ Norm 1000000000 ds' /\ val 1000000000 ds' = val 1000000000 a * 2 ^ t /\ ds'.length <= a.length + 2 /\ Below w.heap.size w w' := by
 obtain ⟨aa, ca, eva, hca, hcella⟩ := id ha
 subst eva
 clear hcella hca
 obtain ⟨i0, hi, hz0, hz1, hz2⟩ := info_parts infoU64
 go_enter Tryz.func111, Tryz.ntmps111
 go_wp2_with (at_make; refine wpList_make_full _ rfl _ _ 28 rfl (w.heap.size + 2) 90 i0 (.int .u64 0) 1 Tryz.underlying28 hi hz0 hz1 .i64 .i64 _ _ (a.length + 2) rfl rfl ?c1 ?c2 ?c3 ?c4 ?c5 ?_)
 case c1 => omega
 case c2 => omega
 case c3 => rw [hz2]; omega
 case c4 => unfold maxLen; omega
 case c5 => simp
 intro w1 hown hgrow
 rw [dcells_made] at hown
 have hbel : Below (w.heap.size + 2) ((w.alloc (.cells #[.slice aa a.length ca] 30)).alloc (.cells #[.slice none 0 0] 30)) w1 := (Below.refl _ _).grown hgrow (by simp) (fun k hk => by cases hk)
 clear hgrow
 have hP : 2 ^ t <= 1073741824 := Nat.pow_le_pow_right (i := t) (j := 30) (by omega : 2 > 0) ht
 have hP1 : 1 <= 2 ^ t := Nat.one_le_pow _ _ (by omega)
 go_wp2_with fail
 go_loopw [7, 18] (fun cv i wr => ∃ (k c : Nat) (out : List Nat), k <= a.length + 2 /\ i = .int .i64 k /\ cv = .int .u64 c /\ c <= 2 ^ t /\ out.length = a.length + 2 /\ (∀ i, dig out i < 1000000000) /\ S 1000000000 (dig out) k + c * 1000000000 ^ k = S 1000000000 (dig a) k * 2 ^ t /\ wr.ownsRow (w.heap.size + 2) 90 1 (.slice (some ⟨w.heap.size + 1 + 1, 0, none⟩) (a.length + 2) (a.length + 2)) (a.length + 2) (dcells .u64 out) /\ Below (w.heap.size + 2) ((w.alloc (.cells #[.slice aa a.length ca] 30)).alloc (.cells #[.slice none 0 0] 30)) wr)
  (fun _ i _ => a.length + 2 - (intOf i).toNat)
 case atStart => exact ⟨0, 0, List.replicate (a.length + 2) 0, Nat.zero_le _, rfl, rfl, Nat.zero_le _, by simp, fun i => by rw [dig_replicate]; omega, by simp [S], hown, hbel⟩
 case round =>
  obtain ⟨k, c, out, hk, rfl, rfl, hc1, hol, hsm, hS, hownr, hbelr⟩ := hrel
  have HSm : Hid (∀ i, dig out i < 1000000000) := hsm
  have HS : Hid (S 1000000000 (dig out) k + c * 1000000000 ^ k = S 1000000000 (dig a) k * 2 ^ t) := hS
  have HO : Hid (out.length = a.length + 2) := hol
  clear hsm hS hown hbel hol
  have hbw : Below w.heap.size w wr := (((Below.refl _ _).alloc (Nat.le_refl _) _).alloc (by simp) _).trans (hbelr.mono (by omega))
  have hsz := hbelr.size
  simp only [World.size_alloc] at hsz
  by_cases hlt : k < a.length + 2
  ·have c0 : wr.cell? ⟨w.heap.size, 0, none⟩ = some (.slice aa a.length ca) := (hbelr.cell (p := ⟨w.heap.size, 0, none⟩) (by show w.heap.size < _; omega)).trans (cell2_0 _ _ _ _)
   go_wp2_with fail
   refine (digit_any _ a k _ (ha.below hbw) (by omega) (by omega)).mono ?_
   rintro e wq ⟨rfl, hbq⟩
   have hownq := owns_below hownr hbq
   have hbelq := hbelr.trans (hbq.mono (by omega))
   have hkl : k < out.length := by have := HO.out; omega
   clear hownr hbelr hbq hbw c0
   have hx := na k
   generalize hdx : dig a k = x at *
   have HX : Hid (dig a k = x) := hdx
   clear hdx
   have hcell := hownq.cellAt k (by omega)
   rw [dcells_at .u64 out k hkl] at hcell
   have hfr := hownq.frozenAt k
   obtain ⟨z, hz⟩ : ∃ z, z = x * 2 ^ t := ⟨_, rfl⟩
   have hzb : x * 2 ^ t <= 999999999 * 2 ^ t := Nat.mul_le_mul_right _ (by omega)
   have hzc : z + c <= 1000000000 * 2 ^ t := by omega
   have hz1 : z <= 1073741824000000000 := by omega
   have hc2 : c <= 1073741824 := by omega
   have e0 : IntKind.u64.wrap ((x : Int) * 2 ^ t) = (z : Int) := by
    have : (x : Int) * 2 ^ t = (z : Int) := by rw [hz, Int.natCast_mul, Int.natCast_pow]; rfl
    rw [this]; exact wu64 (by omega) (by omega)
   have HZZ : Hid (z = x * 2 ^ t) := hz
   have HZC : Hid (z + c <= 1000000000 * 2 ^ t) := hzc
   have HPP : Hid (1 <= 2 ^ t) := hP1
   clear hz hzb hzc hP1 hP hc1
   go_wp2
   go_roundw
   case rel =>
    have e3 : ((z : Int) + c) % 1000000000 = (((x * 2 ^ t + c) % 1000000000 : Nat) : Int) := by rw [<- HZZ.out]; omega
    have e4 : ((z : Int) + c) / 1000000000 = (((x * 2 ^ t + c) / 1000000000 : Nat) : Int) := by rw [<- HZZ.out]; omega
    rw [e3, e4]
    refine ⟨k + 1, (x * 2 ^ t + c) / 1000000000, out.set k ((x * 2 ^ t + c) % 1000000000), by omega, by go_num, rfl, ?_, by rw [List.length_set]; exact HO.out, small_set hkl HSm.out (by omega), shift_step hkl HS.out HX.out, owns_set hownq k _, hbelq.setCell (by show _ <= w.heap.size + 1 + 1; omega) _⟩
    rw [<- HZZ.out]
    have := HZC.out
    omega
   case measure => simp [intOf]; omega
  ·obtain rfl : k = a.length + 2 := by omega
   have hva := S_val 1000000000 a (a.length + 2) (by omega)
   have hvo := S_val 1000000000 out (a.length + 2) (by have := HO.out; omega)
   have hE := HS.out
   rw [hva, hvo] at hE
   have b1 : val 1000000000 a * 2 ^ t < 1000000000 ^ (a.length + 2) := by
    have h1 := val_lt na
    have h2 : val 1000000000 a * 2 ^ t <= val 1000000000 a * 1073741824 := Nat.mul_le_mul_left _ hP
    rw [Nat.pow_add]
    omega
   have hc0 := no_carry hE b1
   subst hc0
   have HVO : Hid (val 1000000000 out = val 1000000000 a * 2 ^ t) := by show _ = _; omega
   clear hva hvo hE b1 hP hP1 hc1
   rw [show a.length + 2 = out.length from HO.out.symm] at hownr
   have hD := Dig.of_owns hownr
   rw [HO.out] at hD
   clear hownr
   go_wp2_with fail
   refine (trimmed_any _ out _ hD HSm.out (by have := HO.out; omega)).mono ?_
   rintro e w2 ⟨v2, rfl, ds2, hd2, hn2, hv2, hl2, hb2⟩
   obtain ⟨a2, cap2, ev2, -, -⟩ := id hd2
   subst ev2
   have hb3 : Below (w.heap.size + 2) ((w.alloc (.cells #[.slice aa a.length ca] 30)).alloc (.cells #[.slice none 0 0] 30)) w2 := hbelr.trans (hb2.mono (by omega))
   have hc : w2.cell? ⟨w.heap.size + 1, 0, none⟩ = some (.slice none 0 0) := (hb3.cell (p := ⟨w.heap.size + 1, 0, none⟩) (by show w.heap.size + 1 < _; omega)).trans (cell2_1 _ _ _ _)
   have hf : w2.frozen? ⟨w.heap.size + 1, 0, none⟩ = false := (hb3.frozen (p := ⟨w.heap.size + 1, 0, none⟩) (by show w.heap.size + 1 < _; omega)).trans (frozen2_1 _ _ _ _)
   have hcs : (w2.setCell ⟨w.heap.size + 1, 0, none⟩ (.slice a2 ds2.length cap2)).cell? ⟨w.heap.size + 1, 0, none⟩ = some (.slice a2 ds2.length cap2) := World.cell?_setCell_same' _ _ _ (by simp [hc])
   go_wp2
   refine bodyPost_ret (v := .agg #[.slice a2 ds2.length cap2]) (by simp [results, Tryz.results111, go_sem, hcs]) rfl ?_
   refine ⟨_, rfl, ds2, hd2.set hc (fun n h => by cases h) _, hn2, by rw [hv2]; exact HVO.out, by have := HO.out; omega, ?_⟩
   exact ((((Below.refl _ _).alloc (Nat.le_refl _) _).alloc (by simp) _).trans (hb3.mono (by omega))).setCell (by show _ <= w.heap.size + 1; omega) _
theorem shifted_int (va : Value) (a : List Nat) (x : Int) (t : Nat) (w : World) (hx : x = (t : Int)) (ha : Dig .u64 w va a) (na : ∀ i, dig a i < 1000000000) (la : a.length <= 5000) (ht : t <= 30) :
  Calls Tryz.prog 111 #[.agg #[va], .int .i64 x] w fun e w' => ∃ v', e = .returned (.agg #[v']) /\ ∃ ds', Dig .u64 w' v' ds' /\ Norm 1000000000 ds' /\ val 1000000000 ds' = val 1000000000 a * 2 ^ t /\ ds'.length <= a.length + 2 /\ Below w.heap.size w w' := by
 subst hx; exact shifted_any va a t w ha na la ht
theorem double_any (va : Value) (a : List Nat) (times : Int) (w : World) (ha : Dig .u64 w va a) (na : Norm 1000000000 a) (la : a.length <= 2000) (h0 : -9223372036854775808 <= times) (h1 : times <= 9223372036854775807) :
  Calls Tryz.prog 74 #[.agg #[va], .int .i64 times] w fun e w' => ∃ v', e = .returned (.agg #[v']) /\ ∃ ds', Dig .u64 w' v' ds' /\ Norm 1000000000 ds' /\ val 1000000000 ds' = val 1000000000 a * 2 ^ (min times 1000).toNat /\ ds'.length <= a.length + 68 /\ Below w.heap.size w w' := by
 obtain ⟨aa, ca, eva, hca, hcella⟩ := id ha
 subst eva
 clear hcella hca
 obtain ⟨T, hT, hT1, hT0⟩ : ∃ T : Int, min times 1000 = T /\ T <= 1000 /\ -9223372036854775808 <= T := ⟨_, rfl, by omega, by omega⟩
 rw [hT]
 have hb2 : Below w.heap.size w ((w.alloc (.cells #[.slice aa a.length ca] 30)).alloc (.cells #[.slice none 0 0] 30)) := ((Below.refl _ _).alloc (Nat.le_refl _) _).alloc (by simp) _
 have HC := clone_any _ a _ (ha.below hb2) (by omega)
 clear hb2
 go_enter Tryz.func74, Tryz.ntmps74
 go_wp2_with fail
 refine HC.mono ?_
 rintro e w1 ⟨v1, rfl, hd1, hb1⟩
 obtain ⟨a1, cap1, ev1, -, -⟩ := id hd1
 subst ev1
 have hs1 := hb1.size
 simp only [World.size_alloc] at hs1
 have hb1' : Below (w.heap.size + 2) ((w.alloc (.cells #[.slice aa a.length ca] 30)).alloc (.cells #[.slice none 0 0] 30)) w1 := hb1.mono (by simp)
 clear HC hb1 ha
 have hD0 : Dig .u64 (w1.alloc (.cells #[.slice a1 a.length cap1] 30)) (.slice a1 a.length cap1) a := hd1.below ((Below.refl _ _).alloc (Nat.le_refl _) _)
 have hB0 : Below (w.heap.size + 2) ((w.alloc (.cells #[.slice aa a.length ca] 30)).alloc (.cells #[.slice none 0 0] 30)) (w1.alloc (.cells #[.slice a1 a.length cap1] 30)) := hb1'.alloc (by omega) _
 have hC0 := cell1_0 w1 (.slice a1 a.length cap1) 30
 have hF0 := frozen1_0 w1 (.slice a1 a.length cap1) 30
 have hZ0 : w1.heap.size < (w1.alloc (.cells #[.slice a1 a.length cap1] 30)).heap.size := by simp
 have HK : Hid (Dig .u64 (w1.alloc (.cells #[.slice a1 a.length cap1] 30)) (.slice a1 a.length cap1) a /\ Below (w.heap.size + 2) ((w.alloc (.cells #[.slice aa a.length ca] 30)).alloc (.cells #[.slice none 0 0] 30)) (w1.alloc (.cells #[.slice a1 a.length cap1] 30)) /\ (w1.alloc (.cells #[.slice a1 a.length cap1] 30)).cell? ⟨w1.heap.size, 0, none⟩ = some (.slice a1 a.length cap1) /\ (w1.alloc (.cells #[.slice a1 a.length cap1] 30)).frozen? ⟨w1.heap.size, 0, none⟩ = false /\ w1.heap.size < (w1.alloc (.cells #[.slice a1 a.length cap1] 30)).heap.size) := ⟨hD0, hB0, hC0, hF0, hZ0⟩
 clear hD0 hB0 hC0 hF0 hZ0 hd1 hb1'
 go_wp2_with fail
 go_loopw [6] (fun lv wr => ∃ (r : Nat) (ds : List Nat) (a2 : Option Addr) (cap2 : Nat), r <= 34 /\ lv = .int .i64 (T - 30 * r) /\ (0 < r -> -30 < T - 30 * r) /\ Norm 1000000000 ds /\ ds.length <= a.length + 2 * r /\ val 1000000000 ds = val 1000000000 a * 2 ^ (min (30 * r) T.toNat) /\ Dig .u64 wr (.slice a2 ds.length cap2) ds /\ Below (w.heap.size + 2) ((w.alloc (.cells #[.slice aa a.length ca] 30)).alloc (.cells #[.slice none 0 0] 30)) wr /\ wr.cell? ⟨w1.heap.size, 0, none⟩ = some (.slice a2 ds.length cap2) /\ wr.frozen? ⟨w1.heap.size, 0, none⟩ = false /\ w1.heap.size < wr.heap.size)
  (fun lv _ => (intOf lv).toNat)
 case atStart => exact ⟨0, a, a1, cap1, by omega, by go_num, by omega, na, by omega, by simp, HK.out.1, HK.out.2.1, HK.out.2.2.1, HK.out.2.2.2.1, HK.out.2.2.2.2⟩
 case round =>
  obtain ⟨r, ds, a2, cap2, hr, rfl, hr0, hnr, hlr, hvr, hdr, hbr, hcr, hfr, hzr⟩ := hrel
  have HV : Hid (val 1000000000 ds = val 1000000000 a * 2 ^ (min (30 * r) T.toNat)) := hvr
  clear hvr HK
  by_cases hpos : 0 < T - 30 * r
  ·obtain ⟨s, hs1, hs2⟩ : ∃ s : Nat, min (T - 30 * (r : Int)) 30 = (s : Int) /\ s <= 30 := ⟨(min (T - 30 * (r : Int)) 30).toNat, by omega, by omega⟩
   go_wp2_with fail
   refine (shifted_int _ ds _ s _ (by first | rfl | exact hs1) hdr hnr.small (by omega) hs2).mono ?_
   rintro e w3 ⟨v3, rfl, ds3, hd3, hn3, hv3, hl3, hb3⟩
   obtain ⟨a3, cap3, ev3, -, -⟩ := id hd3
   subst ev3
   have hc3 : w3.cell? ⟨w1.heap.size, 0, none⟩ = some (.slice a2 ds.length cap2) := (hb3.cell (p := ⟨w1.heap.size, 0, none⟩) hzr).trans hcr
   have hf3 : w3.frozen? ⟨w1.heap.size, 0, none⟩ = false := (hb3.frozen (p := ⟨w1.heap.size, 0, none⟩) hzr).trans hfr
   have hsr := hbr.size
   simp only [World.size_alloc] at hsr
   have hb3' := hbr.trans (hb3.mono (by omega))
   have hs3 := hb3.size
   have HV3 : Hid (val 1000000000 ds3 = val 1000000000 ds * 2 ^ s) := hv3
   clear hbr hb3 hcr hfr hdr hv3
   go_wp2
   go_roundw
   case rel =>
    refine ⟨r + 1, ds3, a3, cap3, by omega, by go_num, by omega, hn3, by omega, ?_, hd3.set hc3 (fun n h => by cases h) _, hb3'.setCell (by show _ <= w1.heap.size; omega) _, World.cell?_setCell_same' _ _ _ (by simp [hc3]), by simpa using hf3, by simp [World.setCell]; omega⟩
    rw [HV3.out, HV.out, Nat.mul_assoc, <- Nat.pow_add]
    congr 2
    omega
   case measure => simp [intOf]; omega
  ·have hc : wr.cell? ⟨w.heap.size + 1, 0, none⟩ = some (.slice none 0 0) := (hbr.cell (p := ⟨w.heap.size + 1, 0, none⟩) (by show w.heap.size + 1 < _; omega)).trans (cell2_1 _ _ _ _)
   have hf : wr.frozen? ⟨w.heap.size + 1, 0, none⟩ = false := (hbr.frozen (p := ⟨w.heap.size + 1, 0, none⟩) (by show w.heap.size + 1 < _; omega)).trans (frozen2_1 _ _ _ _)
   have hcs : (wr.setCell ⟨w.heap.size + 1, 0, none⟩ (.slice a2 ds.length cap2)).cell? ⟨w.heap.size + 1, 0, none⟩ = some (.slice a2 ds.length cap2) := World.cell?_setCell_same' _ _ _ (by simp [hc])
   have hmin : min (30 * r) T.toNat = T.toNat := by omega
   have HV2 : Hid (val 1000000000 ds = val 1000000000 a * 2 ^ T.toNat) := by show _ = _; rw [HV.out, hmin]
   clear hmin
   go_wp2
   refine bodyPost_ret (v := .agg #[.slice a2 ds.length cap2]) (by simp [results, Tryz.results74, go_sem, hcs]) rfl ?_
   refine ⟨_, rfl, ds, hdr.set hc (fun n h => by cases h) _, hnr, HV2.out, by omega, ?_⟩
   exact ((((Below.refl _ _).alloc (Nat.le_refl _) _).alloc (by simp) _).trans (hbr.mono (by omega))).setCell (by show _ <= w.heap.size + 1; omega) _
end Go.Proofs.YtcjjekhecjmaeaaGreatDoor
