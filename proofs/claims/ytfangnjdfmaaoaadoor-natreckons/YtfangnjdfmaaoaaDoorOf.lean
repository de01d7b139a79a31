/- The contract of Of. -/
import Derived.Test.YtfangnjdfmaaoaaDoorBase
namespace Go.Proofs.YtfangnjdfmaaoaaDoor
open Go.RowKit Num Go.Sort

theorem info62 : (Tryd.prog.info? 62).map (fun i => (i.zero, i.size, i.bytes)) = some (some (.int .u64 0), 1, 8) := by kernel_rfl

set_option maxRecDepth 100000 in
set_option maxHeartbeats 1000000 in
theorem of_any (n : Int) (w : World) (h0 : -9223372036854775808 ≤ n) (h1 : n ≤ 9223372036854775807) :
    Calls Tryd.prog 28 #[.int .i64 n] w fun e w' => ∃ v, e = .returned (.agg #[v]) ∧ ∃ ds, Dig .u64 w' v ds ∧ Norm 1000000000 ds ∧ val 1000000000 ds = n.toNat ∧ Below w.heap.size w w' := by
  obtain ⟨i0, hi, hz0, hz1, hz2⟩ := info_parts info62
  go_enter Tryd.func28, Tryd.ntmps28
  go_wp2_with fail
  go_loopw [0, 3] (fun i v wr => ∃ (ds : List Nat) (m : Int) (a : Option Addr) (cap : Nat), i = .int .i64 m ∧ v = .slice a ds.length cap ∧ -9223372036854775808 ≤ m ∧ m ≤ 9223372036854775807 ∧ (∀ i, dig ds i < 1000000000) ∧ (m ≤ 0 → ds.length ≠ 0 → dig ds (ds.length - 1) ≠ 0) ∧ val 1000000000 ds + m.toNat * 1000000000 ^ ds.length = n.toNat ∧ wr.ownsRow (w.heap.size + 1) 62 1 (.slice a ds.length cap) ds.length (dcells .u64 ds) ∧ Below (w.heap.size + 1) (w.alloc (.cells #[.slice none 0 0] 28)) wr)
      (fun i _ _ => (intOf i).toNat)
  case atStart => exact ⟨[], n, none, 0, rfl, rfl, h0, h1, fun i => by rw [dig_nil]; omega, fun _ h => absurd rfl h, by simp [val_nil], World.ownsRow_nil _ _ _ _, Below.refl _ _⟩
  case round =>
    obtain ⟨ds, m, a, cap, rfl, rfl, hm0, hm1, hsm, hlast, hval, hown, hbel⟩ := hrel
    have HV := hval
    by_cases hpos : 0 < m
    · obtain ⟨m, rfl⟩ := Int.eq_ofNat_of_zero_le (show 0 ≤ m by omega)
      rw [Int.toNat_natCast] at hval
      have hlen := of_len (by omega) (by omega) hval
      have hsz := hbel.size
      simp only [World.size_alloc] at hsz
      go_wp2_with (at_builtin; refine wpList_append_own _ rfl _ _ 26 rfl (w.heap.size + 1) 62 i0 (.int .u64 0) 1 8 Tryd.underlying26 hi hz0 hz1 hz2 rfl (by decide) _ _ _ rfl (hown.alloc _) ⟨wr.heap.size, 0, none⟩ 1 1 [.int .u64 ((m : Int) % 1000000000)] rfl rfl ?c1 ?c2 ?c3 ?c4 ?c5 ?_)
      case c1 => exact cell_one_new _ _ _
      case c2 => intro u hu; simp at hu; subst hu; rfl
      case c3 => unfold maxLen; omega
      case c4 => omega
      case c5 => simp; omega
      · intro v' w1 hown' hgrow _
        have hbel' : Below (w.heap.size + 1) (w.alloc (.cells #[.slice none 0 0] 28)) w1 := (hbel.alloc (by omega) _).grown hgrow (by simp; omega) (fun k hk => (hown.lt k hk).1)
        obtain ⟨a', cap', hv, -⟩ := owns_form hown'
        clear hown hgrow hbel
        go_wp2
        go_roundw
        case rel =>
          refine ⟨ds ++ [m % 1000000000], ((m / 1000000000 : Nat) : Int), a', cap', by go_num, by rw [hv]; simp, by omega, by omega, small_snoc hsm (by omega), fun h _ => ?_, ?_, ?_, hbel'⟩
          · rw [last_snoc]; omega
          · rw [Int.toNat_natCast]; exact of_step hval
          · rw [hv] at hown'
            rw [dcells_snoc]
            simpa using hown'
        case measure => simp [intOf]; omega
    · have hc : wr.cell? ⟨w.heap.size, 0, none⟩ = some (.slice none 0 0) := (hbel.cell (p := ⟨w.heap.size, 0, none⟩) (by simp)).trans (by simp)
      have hf : wr.frozen? ⟨w.heap.size, 0, none⟩ = false := (hbel.frozen (p := ⟨w.heap.size, 0, none⟩) (by simp)).trans (by simp)
      have hcs : (wr.setCell ⟨w.heap.size, 0, none⟩ (.slice a ds.length cap)).cell? ⟨w.heap.size, 0, none⟩ = some (.slice a ds.length cap) := World.cell?_setCell_same' _ _ _ (by simp [hc])
      go_wp2
      refine bodyPost_ret (v := .agg #[.slice a ds.length cap]) (by simp [results, Tryd.results28, go_sem, hcs]) rfl ?_
      refine ⟨.slice a ds.length cap, rfl, ds, Dig.of_owns (ownsRow_setCell_below hown (Nat.lt_succ_self _) _), ⟨hsm, hlast (by omega)⟩, ?_, ?_⟩
      · have : m.toNat = 0 := by omega
        rw [this] at hval; simpa using hval
      · exact (((Below.refl _ _).alloc (Nat.le_refl _) _).trans (hbel.mono (by omega))).setCell (Nat.le_refl _) _
end Go.Proofs.YtfangnjdfmaaoaaDoor
