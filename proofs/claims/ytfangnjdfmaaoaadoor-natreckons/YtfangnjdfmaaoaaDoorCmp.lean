/- The contract of Cmp. -/
import Derived.Test.YtfangnjdfmaaoaaDoorBase
namespace Go.Proofs.YtfangnjdfmaaoaaDoor
open Go.RowKit Num Go.Sort

set_option maxRecDepth 100000 in
set_option maxHeartbeats 1000000 in
theorem cmp_any (va vb : Value) (a b : List Nat) (w : World) (ha : Dig .u64 w va a) (hb : Dig .u64 w vb b) (na : ∀ i, dig a i < 1000000000) (nb : ∀ i, dig b i < 1000000000) (la : a.length ≤ 10000) (lb : b.length ≤ 10000) :
    Calls Tryd.prog 26 #[.agg #[va], .agg #[vb]] w fun e w' => e = .returned (.int .i64 (cmpN (val 1000000000 a) (val 1000000000 b))) ∧ Below w.heap.size w w' := by
  obtain ⟨aa, ca, eva, hca, hcella⟩ := id ha
  obtain ⟨ab, cb, evb, hcb, hcellb⟩ := id hb
  subst eva evb
  clear hcella hcellb hca hcb
  obtain ⟨n, hn, hna, hnb, hln⟩ : ∃ n : Nat, max (a.length : Int) (b.length : Int) = (n : Int) ∧ a.length ≤ n ∧ b.length ≤ n ∧ n ≤ 10000 := ⟨max a.length b.length, by omega, by omega, by omega, by omega⟩
  go_enter Tryd.func26, Tryd.ntmps26
  go_wp2_with fail
  clear hn
  go_loopw [17] (fun i wr => ∃ k : Nat, k ≤ n ∧ i = .int .i64 k ∧ (∀ j, n - k ≤ j → j < n → dig a j = dig b j) ∧ Below (w.heap.size + 2) ((w.alloc (.cells #[.slice aa a.length ca] 28)).alloc (.cells #[.slice ab b.length cb] 28)) wr)
      (fun i _ => n - (intOf i).toNat)
  case atStart => exact ⟨0, Nat.zero_le _, rfl, fun j h1 h2 => by omega, Below.refl _ _⟩
  case round =>
    obtain ⟨k, hk, rfl, heq, hbel⟩ := hrel
    have HE : Hid (∀ j, n - k ≤ j → j < n → dig a j = dig b j) := heq
    clear heq
    have hbw : Below w.heap.size w wr := (((Below.refl _ _).alloc (Nat.le_refl _) _).alloc (by simp) _).trans (hbel.mono (by omega))
    by_cases hlt : k < n
    · have c0 : wr.cell? ⟨w.heap.size, 0, none⟩ = some (.slice aa a.length ca) := (hbel.cell (p := ⟨w.heap.size, 0, none⟩) (by simp)).trans (by simp)
      have c1 : wr.cell? ⟨w.heap.size + 1, 0, none⟩ = some (.slice ab b.length cb) := (hbel.cell (p := ⟨w.heap.size + 1, 0, none⟩) (by simp)).trans (by simp)
      have k0 := cell_regrown c0
      have k1 := cell_regrown c1
      have cA : ∀ d os, Calls Tryd.prog 44 #[.agg #[.slice aa a.length ca], .int .i64 ((n : Int) - 1 - k)] (grow (redrawn wr d) os) fun e w'' => e = .returned (.int .u64 ((dig a (n - 1 - k) : Nat) : Int)) ∧ ∃ p : Regrown, w'' = grow (redrawn wr p.d) p.os := fun d os => by
        have := digit_int _ a ((n : Int) - 1 - k) (grow (redrawn wr d) os) (ha.below (hbw.trans ((below_regrown wr d os).mono hbw.size))) (by omega) (by omega) (by omega)
        rw [show ((n : Int) - 1 - k).toNat = n - 1 - k by omega] at this
        exact Calls.regrown_of this
      have cB : ∀ d os, Calls Tryd.prog 44 #[.agg #[.slice ab b.length cb], .int .i64 ((n : Int) - 1 - k)] (grow (redrawn wr d) os) fun e w'' => e = .returned (.int .u64 ((dig b (n - 1 - k) : Nat) : Int)) ∧ ∃ p : Regrown, w'' = grow (redrawn wr p.d) p.os := fun d os => by
        have := digit_int _ b ((n : Int) - 1 - k) (grow (redrawn wr d) os) (hb.below (hbw.trans ((below_regrown wr d os).mono hbw.size))) (by omega) (by omega) (by omega)
        rw [show ((n : Int) - 1 - k).toNat = n - 1 - k by omega] at this
        exact Calls.regrown_of this
      have hx := na (n - 1 - k)
      have hy := nb (n - 1 - k)
      have hlt' : (k : Int) < n := by omega
      have e1 : IntKind.i64.wrap ((n : Int) - 1) = (n : Int) - 1 := w64 (by omega) (by omega)
      have e2 : IntKind.i64.wrap ((n : Int) - 1 - k) = (n : Int) - 1 - k := w64 (by omega) (by omega)
      go_wp2_with fail
      refine wp_region_quiet_below mixed (by kernel_rfl) ?_
      repeat (quiet_step (first | (go_at_call_of 44 aa; exact cA _ _) | (go_at_call_of 44 ab; exact cB _ _)))
      refine wpQuiet_nil ?_
      intro _ hw'
      obtain ⟨⟨dq, osq⟩, hw''⟩ := hw'
      subst hw''
      clear cA cB k0 k1
      have hgr : Below w.heap.size w (grow (redrawn wr dq) osq) := hbw.trans ((below_regrown wr dq osq).mono hbw.size)
      generalize hdx : dig a (n - 1 - k) = x at *
      generalize hdy : dig b (n - 1 - k) = y at *
      have HX : Hid (dig a (n - 1 - k) = x) := hdx
      have HY : Hid (dig b (n - 1 - k) = y) := hdy
      clear hdx hdy
      go_wp2
      · go_ret
        refine ⟨ret_int ?_, hgr⟩
        have hxy : x < y := by assumption
        exact (cmpN_lt (cmp_lt na hna hnb (t := n - 1 - k) (by omega) (by rw [HX.out, HY.out]; exact hxy) (fun i h1 h2 => HE.out i (by omega) h2))).symm
      · go_ret
        refine ⟨ret_int ?_, hgr⟩
        have hxy : y < x := by assumption
        exact (cmpN_gt (cmp_lt nb hnb hna (t := n - 1 - k) (by omega) (by rw [HX.out, HY.out]; exact hxy) (fun i h1 h2 => (HE.out i (by omega) h2).symm))).symm
      · go_roundw
        case rel =>
          refine ⟨k + 1, by omega, by go_num, fun j h1 h2 => ?_, hbel.trans ((below_regrown wr dq osq).mono (by have := hbel.size; simpa using this))⟩
          by_cases hj : j = n - 1 - k
          · rw [hj, HX.out, HY.out]; omega
          · exact HE.out j (by omega) h2
        case measure => simp [intOf]; omega
    · obtain rfl : k = n := by omega
      go_wp2
      go_ret
      refine ⟨ret_int ?_, hbw⟩
      rw [cmp_eq hna hnb (fun i h => HE.out i (by omega) h), cmpN_eq]
end Go.Proofs.YtfangnjdfmaaoaaDoor
