/- The contract of Add. -/
import Derived.Test.YtcjjekhecjmaeaaGreatDoorCnOf
set_option maxHeartbeats 1000000
set_option maxRecDepth 100000
namespace Go.Proofs.YtcjjekhecjmaeaaGreatDoor
open Go.RowKit Num Go.Sort
theorem add_any (va vb : Value) (a b : List Nat) (w : World) (ha : Dig .u64 w va a) (hb : Dig .u64 w vb b) (na : ∀ i, dig a i < 1000000000) (nb : ∀ i, dig b i < 1000000000) (la : a.length <= 5000) (lb : b.length <= 5000) :
  Calls Tryz.prog 109 #[.agg #[va], .agg #[vb]] w fun e w' => ∃ v', e = .returned (.agg #[v']) /\ ∃ ds', Dig .u64 w' v' ds' /\ Norm 1000000000 ds' /\ val 1000000000 ds' = val 1000000000 a + val 1000000000 b /\ ds'.length <= max a.length b.length + 1 /\ Below w.heap.size w w' := by
 obtain ⟨aa, ca, eva, hca, hcella⟩ := id ha
 obtain ⟨ab, cb, evb, hcb, hcellb⟩ := id hb
 subst eva evb
 clear hcella hcellb hca hcb
 obtain ⟨m, hm, hmx, hma, hmb, hml⟩ : ∃ m : Nat, max (a.length : Int) (b.length : Int) = (m : Int) /\ max a.length b.length = m /\ a.length <= m /\ b.length <= m /\ m <= 5000 := ⟨max a.length b.length, by omega, rfl, by omega, by omega, by omega⟩
 rw [hmx]
 clear hmx
 obtain ⟨i0, hi, hz0, hz1, hz2⟩ := info_parts infoU64
 go_enter Tryz.func109, Tryz.ntmps109
 go_wp2_with (at_make; refine wpList_make_full _ rfl _ _ 28 rfl (w.heap.size + 3) 90 i0 (.int .u64 0) 1 Tryz.underlying28 hi hz0 hz1 .i64 .i64 _ _ (m + 1) rfl rfl ?c1 ?c2 ?c3 ?c4 ?c5 ?_)
 case c1 => omega
 case c2 => omega
 case c3 => rw [hz2]; omega
 case c4 => unfold maxLen; omega
 case c5 => simp
 intro w1 hown hgrow
 rw [dcells_made] at hown
 have hbel : Below (w.heap.size + 3) (((w.alloc (.cells #[.slice aa a.length ca] 30)).alloc (.cells #[.slice ab b.length cb] 30)).alloc (.cells #[.slice none 0 0] 30)) w1 := (Below.refl _ _).grown hgrow (by simp) (fun k hk => by cases hk)
 clear hgrow hm
 go_wp2_with fail
 go_loopw [7, 21] (fun cv i wr => ∃ (k c : Nat) (out : List Nat), k <= m + 1 /\ i = .int .i64 k /\ cv = .int .u64 c /\ c <= 1 /\ out.length = m + 1 /\ (∀ i, dig out i < 1000000000) /\ S 1000000000 (dig out) k + c * 1000000000 ^ k = S 1000000000 (dig a) k + S 1000000000 (dig b) k /\ wr.ownsRow (w.heap.size + 3) 90 1 (.slice (some ⟨w.heap.size + 1 + 1 + 1, 0, none⟩) (m + 1) (m + 1)) (m + 1) (dcells .u64 out) /\ Below (w.heap.size + 3) (((w.alloc (.cells #[.slice aa a.length ca] 30)).alloc (.cells #[.slice ab b.length cb] 30)).alloc (.cells #[.slice none 0 0] 30)) wr)
  (fun _ i _ => m + 1 - (intOf i).toNat)
 case atStart => exact ⟨0, 0, List.replicate (m + 1) 0, Nat.zero_le _, rfl, rfl, Nat.zero_le _, by simp, fun i => by rw [dig_replicate]; omega, by simp [S], hown, hbel⟩
 case round =>
  obtain ⟨k, c, out, hk, rfl, rfl, hc1, hol, hsm, hS, hownr, hbelr⟩ := hrel
  have HSm : Hid (∀ i, dig out i < 1000000000) := hsm
  have HS : Hid (S 1000000000 (dig out) k + c * 1000000000 ^ k = S 1000000000 (dig a) k + S 1000000000 (dig b) k) := hS
  have HO : Hid (out.length = m + 1) := hol
  clear hsm hS hown hbel hol
  have hbw : Below w.heap.size w wr := ((((Below.refl _ _).alloc (Nat.le_refl _) _).alloc (by simp) _).alloc (by simp; omega) _).trans (hbelr.mono (by omega))
  have hsz := hbelr.size
  simp only [World.size_alloc] at hsz
  by_cases hlt : k < m + 1
  ·have c0 : wr.cell? ⟨w.heap.size, 0, none⟩ = some (.slice aa a.length ca) := (hbelr.cell (p := ⟨w.heap.size, 0, none⟩) (by show w.heap.size < _; omega)).trans (cell3_0 _ _ _ _ _)
   have c1 : wr.cell? ⟨w.heap.size + 1, 0, none⟩ = some (.slice ab b.length cb) := (hbelr.cell (p := ⟨w.heap.size + 1, 0, none⟩) (by show w.heap.size + 1 < _; omega)).trans (cell3_1 _ _ _ _ _)
   have k0 := cell_regrown c0
   have k1 := cell_regrown c1
   have cA : ∀ d os, Calls Tryz.prog 60 #[.agg #[.slice aa a.length ca], .int .i64 (k : Int)] (grow (redrawn wr d) os) fun e w'' => e = .returned (.int .u64 ((dig a k : Nat) : Int)) /\ ∃ p : Regrown, w'' = grow (redrawn wr p.d) p.os := fun d os =>
    Calls.regrown_of (digit_any _ a k (grow (redrawn wr d) os) (ha.below (hbw.trans ((below_regrown wr d os).mono hbw.size))) (by omega) (by omega))
   have cB : ∀ d os, Calls Tryz.prog 60 #[.agg #[.slice ab b.length cb], .int .i64 (k : Int)] (grow (redrawn wr d) os) fun e w'' => e = .returned (.int .u64 ((dig b k : Nat) : Int)) /\ ∃ p : Regrown, w'' = grow (redrawn wr p.d) p.os := fun d os =>
    Calls.regrown_of (digit_any _ b k (grow (redrawn wr d) os) (hb.below (hbw.trans ((below_regrown wr d os).mono hbw.size))) (by omega) (by omega))
   have hx := na k
   have hy := nb k
   have e1 : IntKind.u64.wrap (((dig a k : Nat) : Int) + ((dig b k : Nat) : Int)) = ((dig a k : Nat) : Int) + ((dig b k : Nat) : Int) := wu64 (by omega) (by omega)
   have e2 : IntKind.u64.wrap (((dig a k : Nat) : Int) + ((dig b k : Nat) : Int) + (c : Int)) = ((dig a k : Nat) : Int) + ((dig b k : Nat) : Int) + (c : Int) := wu64 (by omega) (by omega)
   go_wp2_with fail
   refine wp_region_quiet_below mixed (by kernel_rfl) ?_
   repeat (quiet_step (first | (go_at_call_of 60 aa; exact cA _ _) | (go_at_call_of 60 ab; exact cB _ _)))
   refine wpQuiet_nil ?_
   intro _ hw'
   obtain ⟨⟨dq, osq⟩, hw''⟩ := hw'
   subst hw''
   clear cA cB k0 k1 c0 c1
   have hbq := below_regrown wr dq osq
   generalize grow (redrawn wr dq) osq = wq at *
   have hownq := owns_below hownr hbq
   have hbelq := hbelr.trans (hbq.mono (by omega))
   have HA : Hid (dig a k = dig a k) := rfl
   clear hownr hbelr hbq hbw e1 e2
   generalize hdx : dig a k = x at *
   generalize hdy : dig b k = y at *
   have HX : Hid (dig a k = x) := hdx
   have HY : Hid (dig b k = y) := hdy
   clear hdx hdy HA
   have hcell := hownq.cellAt k (by omega)
   rw [dcells_at .u64 out k (by have := HO.out; omega)] at hcell
   have hfr := hownq.frozenAt k
   go_wp2
   go_roundw
   case rel =>
    have e3 : ((x : Int) + y + c) % 1000000000 = (((x + y + c) % 1000000000 : Nat) : Int) := by omega
    have e4 : ((x : Int) + y + c) / 1000000000 = (((x + y + c) / 1000000000 : Nat) : Int) := by omega
    have hkl : k < out.length := by have := HO.out; omega
    rw [e3, e4]
    refine ⟨k + 1, (x + y + c) / 1000000000, out.set k ((x + y + c) % 1000000000), by omega, by go_num, rfl, by omega, by rw [List.length_set]; exact HO.out, small_set hkl HSm.out (by omega), add_step hkl HS.out HX.out HY.out, owns_set hownq k _, hbelq.setCell (by show _ <= w.heap.size + 1 + 1 + 1; omega) _⟩
   case measure => simp [intOf]; omega
  ·obtain rfl : k = m + 1 := by omega
   have hva := S_val 1000000000 a (m + 1) (by omega)
   have hvb := S_val 1000000000 b (m + 1) (by omega)
   have hvo := S_val 1000000000 out (m + 1) (by have := HO.out; omega)
   have hE := HS.out
   rw [hva, hvb, hvo] at hE
   have b1 : val 1000000000 a < 1000000000 ^ m := by
    rw [<- S_val 1000000000 a m hma]; exact S_lt _ _ _ na
   have b2 : val 1000000000 b < 1000000000 ^ m := by
    rw [<- S_val 1000000000 b m hmb]; exact S_lt _ _ _ nb
   have hc0 := no_carry hE (by rw [Nat.pow_succ]; omega)
   subst hc0
   have HVO : Hid (val 1000000000 out = val 1000000000 a + val 1000000000 b) := by show _ = _; omega
   clear hva hvb hvo hE b1 b2
   rw [show m + 1 = out.length from HO.out.symm] at hownr
   have hD := Dig.of_owns hownr
   rw [HO.out] at hD
   clear hownr
   go_wp2_with fail
   refine (trimmed_any _ out _ hD HSm.out (by have := HO.out; omega)).mono ?_
   rintro e w2 ⟨v2, rfl, ds2, hd2, hn2, hv2, hl2, hb2⟩
   obtain ⟨a2, cap2, ev2, -, -⟩ := id hd2
   subst ev2
   have hb3 : Below (w.heap.size + 3) (((w.alloc (.cells #[.slice aa a.length ca] 30)).alloc (.cells #[.slice ab b.length cb] 30)).alloc (.cells #[.slice none 0 0] 30)) w2 := hbelr.trans (hb2.mono (by omega))
   have hc : w2.cell? ⟨w.heap.size + 1 + 1, 0, none⟩ = some (.slice none 0 0) := (hb3.cell (p := ⟨w.heap.size + 1 + 1, 0, none⟩) (by show w.heap.size + 1 + 1 < _; omega)).trans (cell3_2 _ _ _ _ _)
   have hf : w2.frozen? ⟨w.heap.size + 1 + 1, 0, none⟩ = false := (hb3.frozen (p := ⟨w.heap.size + 1 + 1, 0, none⟩) (by show w.heap.size + 1 + 1 < _; omega)).trans (frozen3_2 _ _ _ _ _)
   have hcs : (w2.setCell ⟨w.heap.size + 1 + 1, 0, none⟩ (.slice a2 ds2.length cap2)).cell? ⟨w.heap.size + 1 + 1, 0, none⟩ = some (.slice a2 ds2.length cap2) := World.cell?_setCell_same' _ _ _ (by simp [hc])
   go_wp2
   refine bodyPost_ret (v := .agg #[.slice a2 ds2.length cap2]) (by simp [results, Tryz.results109, go_sem, hcs]) rfl ?_
   refine ⟨_, rfl, ds2, hd2.set hc (fun n h => by cases h) _, hn2, by rw [hv2]; exact HVO.out, by have := HO.out; omega, ?_⟩
   exact (((((Below.refl _ _).alloc (Nat.le_refl _) _).alloc (by simp) _).alloc (by simp; omega) _).trans (hb3.mono (by omega))).setCell (by show _ <= w.heap.size + 1 + 1; omega) _
end Go.Proofs.YtcjjekhecjmaeaaGreatDoor
