/- sidesOf, always, clause, resolve. -/
import Derived.Test.YtcmmoinkhodjfaaDoorPfForm
import Derived.Test.YtcmmoinkhodjfaaDoorClRow
import Derived.Laws.Bits64b
import Derived.Laws.BitsAllLaws
import Derived.RegionTactic
import Derived.ChangeAlike
namespace Go.Proofs.YtcmmoinkhodjfaaDoor
open Go.RowKit Go.Deep

def sidesV (s : Nat × Nat) : Value := .agg #[.int .u64 (s.1 : Int), .int .u64 (s.2 : Int)]
theorem pow_small {k : Nat} (hk : k < 24) : 2 ^ k < 2 ^ 24 := Nat.pow_lt_pow_right (by omega) hk
theorem or_bit {o k : Nat} (ho : o < 2 ^ 24) (hk : k < 24) : bits BinOp.or IntKind.u64 (o : Int) ((2 : Int) ^ k) = ((o ||| 2 ^ k : Nat) : Int) := by
  have h := pow_small hk
  have h63 : (2 : Nat) ^ 24 < 18446744073709551616 := by decide
  have e : ((2 : Int) ^ k) = ((2 ^ k : Nat) : Int) := by simp
  rw [e, bits_or_u64_nat o (2 ^ k) (by omega) (by omega)]
theorem shl_bit {k : Nat} (hk : k < 24) : IntKind.u64.wrap ((2 : Int) ^ k) = (2 : Int) ^ k := by
  have h := pow_small hk
  have h63 : (2 : Nat) ^ 24 < 2 ^ 63 := by decide
  have e : ((2 : Int) ^ k) = ((2 ^ k : Nat) : Int) := by simp
  rw [e, IntKind.wrap_u64]
  exact Int.emod_eq_of_lt (Int.natCast_nonneg _) (by omega)

structure SB (w wr : World) (s : Nat × Nat) : Prop where
  res : Blk wr w.heap.size 68 #[.int .u64 0, .int .u64 0]
  blk : Blk wr (w.heap.size + 1) 68 #[.int .u64 (s.1 : Int), .int .u64 (s.2 : Int)]
  below : Below w.heap.size w wr
theorem SB.start (w : World) : SB w ((w.alloc (.cells #[.int .u64 0, .int .u64 0] 68)).alloc (.cells #[.int .u64 0, .int .u64 0] 68)) (0, 0) := by
  have h1 := Blk.new w 68 #[.int .u64 0, .int .u64 0]
  have h2 := Blk.new (w.alloc (.cells #[.int .u64 0, .int .u64 0] 68)) 68 #[.int .u64 0, .int .u64 0]
  rw [World.size_alloc] at h2
  exact ⟨h1.alloc _, h2, (below_new w _).alloc (by simp) _⟩
theorem SB.yes {w wr : World} {s : Nat × Nat} (h : SB w wr s) (m : Nat) : SB w (wr.setCell ⟨w.heap.size + 1, 0, none⟩ (.int .u64 (m : Int))) (m, s.2) :=
  ⟨h.res.other (by omega), h.blk.set, h.below.setCell (by show w.heap.size ≤ w.heap.size + 1; omega) _⟩
theorem SB.no {w wr : World} {s : Nat × Nat} (h : SB w wr s) (m : Nat) : SB w (wr.setCell ⟨w.heap.size + 1, 1, none⟩ (.int .u64 (m : Int))) (s.1, m) :=
  ⟨h.res.other (by omega), h.blk.set, h.below.setCell (by show w.heap.size ≤ w.heap.size + 1; omega) _⟩
theorem SB.drew {w wr : World} {s : Nat × Nat} (h : SB w wr s) : SB w wr.drew s := ⟨h.res, h.blk, h.below.drew⟩

set_option maxRecDepth 100000 in
set_option maxHeartbeats 2000000 in
theorem sidesOf_any (c : List Int) (a : Option Addr) (cap : Nat) (w : World) (hI : IntsIn w a c) (hm : c.length ≤ 9223372036854775807) :
    Calls Tryd.prog 26 #[.slice a c.length cap] w fun e w' => e = .returned (sidesV (sidesF c)) ∧ Below w.heap.size w w' := by
  have HI := Lib.hid hI
  have HS := Lib.hid (SB.start w)
  clear hI
  go_enter Tryd.func26, Tryd.ntmps26
  go_wp2_with fail
  go_loopw [8] (fun kV wr => ∃ k : Nat, k ≤ c.length ∧ kV = .int .i64 (k : Int) ∧ SB w wr (sidesF (c.take k))) (fun kV _ => c.length - (intOf kV).toNat)
  case atStart => exact ⟨0, Nat.zero_le _, rfl, HS.out⟩
  case round =>
    obtain ⟨k, hk, rfl, hsb⟩ := hrel
    have HSB := Lib.hid hsb
    clear hsb HS
    by_cases hlt : k < c.length
    · obtain ⟨ad, rfl, hl, hc⟩ := HI.out.below HSB.out.below k hlt
      have HN := Lib.hid (show sidesF (c.take (k + 1)) = sideS (sidesF (c.take k)) (c.getD k 0) by rw [take_succ' hlt, sidesF_snoc])
      have hsm := sides_small (c.take k)
      generalize c.getD k 0 = x at *
      generalize sidesF (c.take k) = s at *
      have c0 := HSB.out.blk.cell 0
      have c1 := HSB.out.blk.cell 1
      have f0 := HSB.out.blk.frozen 0
      have f1 := HSB.out.blk.frozen 1
      simp at c0 c1
      by_cases h1 : 0 < x ∧ x ≤ 24
      · obtain ⟨t, rfl⟩ : ∃ t : Nat, x = (t : Int) + 1 := ⟨x.toNat - 1, by omega⟩
        have ht : t < 24 := by omega
        have HE := Lib.hid (show sideS s ((t : Int) + 1) = (s.1 ||| 2 ^ t, s.2) by unfold sideS; rw [if_pos h1, show ((t : Int) + 1).toNat - 1 = t by omega])
        have HO := Lib.hid (or_bit hsm.1 ht)
        have HW := Lib.hid (shl_bit ht)
        obtain ⟨h1a, h1b⟩ := h1
        clear hsm
        go_wp2_with fail
        go_region
        have HQ := Lib.hid ((HSB.out.yes (s.1 ||| 2 ^ t)).drew)
        rw [← HO.out, ← HW.out] at HQ
        clear c0 c1 f0 f1
        go_wp2
        go_roundw
        case rel => exact ⟨k + 1, hlt, by go_num, by rw [HN.out, HE.out]; exact HQ.out⟩
        case measure => simp [intOf]; omega
      · by_cases h2 : -24 ≤ x ∧ x < 0
        · obtain ⟨t, rfl⟩ : ∃ t : Nat, x = -((t : Int) + 1) := ⟨(-x).toNat - 1, by omega⟩
          have ht : t < 24 := by omega
          have HE := Lib.hid (show sideS s (-((t : Int) + 1)) = (s.1, s.2 ||| 2 ^ t) by unfold sideS; rw [if_neg h1, if_pos h2, show (- -((t : Int) + 1)).toNat - 1 = t by omega])
          have HO := Lib.hid (or_bit hsm.2 ht)
          have HW := Lib.hid (shl_bit ht)
          obtain ⟨h2a, h2b⟩ := h2
          have h1' : ¬ (0 < -((t : Int) + 1)) := by omega
          clear hsm h1
          go_wp2_with fail
          go_region
          have HQ := Lib.hid ((HSB.out.no (s.2 ||| 2 ^ t)).drew)
          rw [← HO.out, ← HW.out] at HQ
          clear c0 c1 f0 f1
          go_wp2
          go_roundw
          case rel => exact ⟨k + 1, hlt, by go_num, by rw [HN.out, HE.out]; exact HQ.out⟩
          case measure => simp [intOf]; omega
        · have HE := Lib.hid (show sideS s x = s by unfold sideS; rw [if_neg h1, if_neg h2])
          clear hsm c0 c1 f0 f1
          by_cases hp : 0 < x
          · have h3 : 24 < x := by omega
            clear h1 h2
            go_wp2
            go_roundw
            case rel => exact ⟨k + 1, hlt, by go_num, by rw [HN.out, HE.out]; exact HSB.out⟩
            case measure => simp [intOf]; omega
          · by_cases hz : x = 0
            · subst hz
              clear h1 h2
              go_wp2
              go_roundw
              case rel => exact ⟨k + 1, hlt, by go_num, by rw [HN.out, HE.out]; exact HSB.out⟩
              case measure => simp [intOf]; omega
            · have h3 : x < -24 := by omega
              clear h1 h2
              go_wp2
              go_roundw
              case rel => exact ⟨k + 1, hlt, by go_num, by rw [HN.out, HE.out]; exact HSB.out⟩
              case measure => simp [intOf]; omega
    · obtain rfl : k = c.length := by omega
      rw [List.take_length] at HSB
      have c0 := HSB.out.blk.cell 0
      have c1 := HSB.out.blk.cell 1
      have r0 := HSB.out.res.cell 0
      have r1 := HSB.out.res.cell 1
      have f0 := HSB.out.res.frozen 0
      have f1 := HSB.out.res.frozen 1
      simp at c0 c1 r0 r1
      have HB : Hid (Below w.heap.size w ((wr.setCell ⟨w.heap.size, 0, none⟩ (.int .u64 ((sidesF c).1 : Int))).setCell ⟨w.heap.size, 1, none⟩ (.int .u64 ((sidesF c).2 : Int)))) := (HSB.out.below.setCell (Nat.le_refl _) _).setCell (Nat.le_refl _) _
      have HR := Lib.hid ((HSB.out.res.set (i := 0) (v := .int .u64 ((sidesF c).1 : Int))).set (i := 1) (v := .int .u64 ((sidesF c).2 : Int)))
      clear HSB
      go_wp2
      have k0 := HR.out.cell 0
      have k1 := HR.out.cell 1
      simp at k0 k1
      exact bodyPost_ret (v := sidesV (sidesF c)) (by simp [results, Tryd.results26, go_sem, k0, k1, sidesV]) rfl ⟨rfl, HB.out⟩

set_option maxRecDepth 100000 in
set_option maxHeartbeats 1000000 in
theorem always_any (s : Nat × Nat) (hs : Small s) (w : World) :
    Calls Tryd.prog 27 #[sidesV s] w fun e w' => e = .returned (.bool (alwaysF s)) ∧ Below w.heap.size w w' := by
  have h63 : (2 : Nat) ^ 24 < 18446744073709551616 := by decide
  have HA := Lib.hid (bits_and_u64_nat s.1 s.2 (by have := hs.1; omega) (by have := hs.2; omega))
  have HB := Lib.hid (below_new w (.cells #[.int .u64 (s.1 : Int), .int .u64 (s.2 : Int)] 68))
  have HF : Hid (((((s.1 &&& s.2 : Nat) : Int)) != 0) = alwaysF s) := by
    show _ = _
    unfold alwaysF
    rw [Bool.eq_iff_iff]
    simp
  clear hs
  unfold sidesV
  go_enter Tryd.func27, Tryd.ntmps27
  go_wp2
  go_ret
  exact ⟨by rw [HA.out, HF.out]; rfl, HB.out⟩

theorem shr_bit (m t : Nat) (hm : m < 18446744073709551616) : (bits BinOp.and IntKind.u64 ((m : Int) / 2 ^ t) 1 == 1) = m.testBit t := shr_bit1 m t hm

structure CK (w wr : World) (s : Nat × Nat) (cV : Value) (k : Nat) : Prop where
  row : wr.ownsRow w.heap.size 3 1 cV (clauseK s k).length (icells (clauseK s k))
  blk : Blk wr w.heap.size 68 #[.int .u64 (s.1 : Int), .int .u64 (s.2 : Int)]
  below : Below w.heap.size w wr
theorem CK.skip {w wr : World} {s : Nat × Nat} {cV : Value} {k : Nat} (h : CK w wr s cV k) (hn : litOf s k = none) : CK w wr s cV (k + 1) := by
  have e : clauseK s (k + 1) = clauseK s k := by rw [clauseK_succ, hn]; simp
  exact ⟨by rw [e]; exact h.row, h.blk, h.below⟩
theorem CK.app {w wr wr' : World} {s : Nat × Nat} {cV v' : Value} {k : Nat} {x : Int} (h : CK w wr s cV k) (hn : litOf s k = some x) (o : Obj) (hown : wr'.ownsRow w.heap.size 3 1 v' ((clauseK s k).length + 1) (icells (clauseK s k) ++ [.int .i64 x])) (hg : (wr.alloc o).grownBy wr' cV.ownBlock) : CK w wr' s v' (k + 1) := by
  have e : clauseK s (k + 1) = clauseK s k ++ [x] := by rw [clauseK_succ, hn]; simp
  have hne : cV.ownBlock ≠ some w.heap.size := Lib.ownBlock_ne h.row h.blk (by decide)
  refine ⟨by rw [e, icells_snoc]; simpa using hown, (h.blk.alloc o).kept hg (fun e => hne e.symm), ?_⟩
  exact (h.below.alloc h.below.size o).grown hg (by have := h.below.size; simp; omega) (fun k hk => (h.row.lt k hk).1)

/-- Ints in memory of their own. -/
def OutI (B : Nat) (xs : List Int) (e : Ending) (w' : World) : Prop := ∃ a cap, e = .returned (.slice a xs.length cap) ∧ w'.ownsRow B 3 1 (.slice a xs.length cap) xs.length (icells xs)

set_option maxRecDepth 100000 in
set_option maxHeartbeats 2000000 in
theorem clause_any (s : Nat × Nat) (hs : Small s) (w : World) :
    Calls Tryd.prog 28 #[sidesV s] w fun e w' => OutI w.heap.size (clauseF s) e w' ∧ Below w.heap.size w w' := by
  have h63 : (2 : Nat) ^ 24 < 18446744073709551616 := by decide
  have HY : Hid (∀ t, (bits BinOp.and IntKind.u64 ((s.1 : Int) / 2 ^ t) 1 == 1) = s.1.testBit t) := fun t => shr_bit s.1 t (by have := hs.1; omega)
  have HN : Hid (∀ t, (bits BinOp.and IntKind.u64 ((s.2 : Int) / 2 ^ t) 1 == 1) = s.2.testBit t) := fun t => shr_bit s.2 t (by have := hs.2; omega)
  have HS : Hid (CK w (w.alloc (.cells #[.int .u64 (s.1 : Int), .int .u64 (s.2 : Int)] 68)) s (.slice none 0 0) 0) := ⟨World.ownsRow_nil _ _ _ _, Blk.new _ _ _, below_new w _⟩
  obtain ⟨i0, hin, hz0, hz1, hz2⟩ := info_parts infoInt
  clear hs h63
  unfold sidesV
  go_enter Tryd.func28, Tryd.ntmps28
  go_wp2_with fail
  go_loopw [3, 5] (fun cV kV wr => ∃ k : Nat, k ≤ 24 ∧ kV = .int .i64 (k : Int) ∧ CK w wr s cV k) (fun _ kV _ => 24 - (intOf kV).toNat)
  case atStart => exact ⟨0, by omega, rfl, HS.out⟩
  case round =>
    obtain ⟨k, hk, rfl, hck⟩ := hrel
    obtain ⟨wo, rfl⟩ : ∃ wo, wo = wr := ⟨_, rfl⟩
    obtain ⟨ca, cc, rfl, hcl, -⟩ := row_form hck.row
    have HCK := Lib.hid hck
    have hlen := clauseK_len s k
    clear hck HS
    by_cases hlt : k < 24
    · have c0 := HCK.out.blk.cell 0
      have c1 := HCK.out.blk.cell 1
      simp at c0 c1
      have hi1 : (k : Int) < 24 := by omega
      have hws := HCK.out.below.size
      cases hy : s.1.testBit k with
      | true =>
        have hq := HY.out k
        rw [hy] at hq
        have HL := Lib.hid (show litOf s k = some ((k : Int) + 1) by unfold litOf; rw [if_pos hy])
        clear hy
        go_wp2_with (first | (at_builtin; refine wpList_append_own_at _ rfl _ _ 23 rfl w.heap.size 3 i0 (.int .i64 0) 1 8 Tryd.underlying23 hin hz0 hz1 hz2 rfl (by decide) _ _ _ rfl (HCK.out.row.alloc _) ⟨wo.heap.size, 0, none⟩ 1 1 [.int .i64 ((k : Int) + 1)] rfl rfl ?c1 ?c2 ?c3 ?c4 ?c5 ?_))
        case c1 => exact cell_lit _ _ _
        case c2 => exact one_lit _
        case c3 => unfold maxLen; omega
        case c4 => omega
        case c5 => simp; omega
        intro v7 w7 hown7 hgrow7 _ _
        have HX := Lib.hid (HCK.out.app HL.out _ hown7 hgrow7)
        clear hown7 hgrow7 c0 c1 hq
        go_wp2
        go_roundw
        case rel => exact ⟨k + 1, hlt, by go_num, HX.out⟩
        case measure => simp [intOf]; omega
      | false =>
        have hq := HY.out k
        rw [hy] at hq
        cases hn : s.2.testBit k with
        | true =>
          have hr := HN.out k
          rw [hn] at hr
          have HL := Lib.hid (show litOf s k = some (-((k : Int) + 1)) by unfold litOf; rw [hy, if_neg (by simp), if_pos hn])
          clear hy hn
          go_wp2_with (first | (at_builtin; refine wpList_append_own_at _ rfl _ _ 23 rfl w.heap.size 3 i0 (.int .i64 0) 1 8 Tryd.underlying23 hin hz0 hz1 hz2 rfl (by decide) _ _ _ rfl (HCK.out.row.alloc _) ⟨wo.heap.size, 0, none⟩ 1 1 [.int .i64 (-((k : Int) + 1))] rfl rfl ?c1 ?c2 ?c3 ?c4 ?c5 ?_))
          case c1 => exact cell_lit _ _ _
          case c2 => exact one_lit _
          case c3 => unfold maxLen; omega
          case c4 => omega
          case c5 => simp; omega
          intro v7 w7 hown7 hgrow7 _ _
          have HX := Lib.hid (HCK.out.app HL.out _ hown7 hgrow7)
          clear hown7 hgrow7 c0 c1 hq hr
          go_wp2
          go_roundw
          case rel => exact ⟨k + 1, hlt, by go_num, HX.out⟩
          case measure => simp [intOf]; omega
        | false =>
          have hr := HN.out k
          rw [hn] at hr
          have HX := Lib.hid (HCK.out.skip (show litOf s k = none by unfold litOf; rw [hy, hn]; simp))
          clear hy hn
          go_wp2
          go_roundw
          case rel => exact ⟨k + 1, hlt, by go_num, HX.out⟩
          case measure => simp [intOf]; omega
    · obtain rfl : k = 24 := by omega
      have HR : Hid (wo.ownsRow w.heap.size 3 1 (.slice ca (clauseF s).length cc) (clauseF s).length (icells (clauseF s))) := HCK.out.row
      go_wp2
      go_ret
      exact ⟨⟨ca, cc, rfl, HR.out⟩, HCK.out.below⟩
end Go.Proofs.YtcmmoinkhodjfaaDoor
