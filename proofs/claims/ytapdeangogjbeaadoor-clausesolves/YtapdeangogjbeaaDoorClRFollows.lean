/- The reference's FollowsFrom. -/
import Derived.Test.YtapdeangogjbeaaDoorClSpread
namespace Go.Proofs.YtapdeangogjbeaaDoor
open Go.RowKit Go.Deep

theorem row_nil {B n : Nat} {w : World} {a : Option Addr} {c : Nat} {t : TypeId} {cs : List Value} (h : w.ownsRow B t 1 (.slice a n c) n cs) : a = none → c = 0 := by
  rintro rfl
  rcases h.2 with ⟨e, e0⟩ | ⟨g, cap, cur, e, -⟩
  · injection e
  · cases e
structure FR (w wr : World) (tV : Value) (v : Nat) (told : List Int) : Prop where
  row : wr.ownsRow w.heap.size 3 1 tV told.length (icells told)
  below : Below w.heap.size w wr
  cons : Cons told
  lits : Lits v told
  few : told.length + free told ≤ 24
theorem FR.app {w wr wr' : World} {tV v' : Value} {v : Nat} {told : List Int} {x : Int} (h : FR w wr tV v told) (hv : v ≤ 24) (hx : litB v x = true) (h0 : x ∉ told) (h1 : -x ∉ told) (o : Obj) (hown : wr'.ownsRow w.heap.size 3 1 v' (told.length + 1) (icells told ++ [.int .i64 x])) (hg : (wr.alloc o).grownBy wr' tV.ownBlock) : FR w wr' v' v (told ++ [x]) := by
  have hft := free_tell (lit_24 (by omega) hx) h0 h1
  have hfw := h.few
  rw [← icells_snoc] at hown
  refine ⟨by simpa using hown, (h.below.alloc h.below.size o).grown hg (by have := h.below.size; simp; omega) (fun k hk => (h.row.lt k hk).1), cons_tell h.cons (litB_iff.1 hx).1 h1, lits_tell h.lits hx, by simp; omega⟩

def RFollowsR (v : Nat) (l : List (List Int)) (am : List Int) (e : Ending) (w' : World) : Prop :=
  (assumeF v [] am = none ∧ e = .returned (.tuple #[.slice none 0 0, .int .i64 0, .int .i64 1])) ∨
  (∃ told t b a c, assumeF v [] am = some told ∧ Spread l told t b ∧ e = .returned (.tuple #[.slice a t.length c, .int .i64 b, .int .i64 0]) ∧ IntsIn w' a t)

set_option maxRecDepth 100000 in
set_option maxHeartbeats 2000000 in
theorem rfollows_any (v : Nat) (hv : v ≤ 24) (l : List (List Int)) (hls : LitsL v l) (h48 : ∀ c ∈ l, c.length ≤ 48) (a : Option Addr) (cap : Nat) (am : List Int) (a2 : Option Addr) (cap2 : Nat) (w : World) (hI : ClsIn w a l) (hm : l.length ≤ 9223372036854775807) (hI2 : IntsIn w a2 am) (hm2 : am.length ≤ 9223372036854775807) :
    Calls Tryd.prog 15 #[.int .i64 (v : Int), .slice a l.length cap, .slice a2 am.length cap2] w fun e w' => RFollowsR v l am e w' ∧ Below w.heap.size w w' := by
  obtain ⟨i0, hin, hz0, hz1, hz2⟩ := info_parts infoInt
  have HI := Lib.hid hI
  have HI2 := Lib.hid hI2
  have HLS := Lib.hid hls
  have H48 := Lib.hid h48
  have HW : Hid (∀ (n lo hi : Int) (W : World), Calls Tryd.prog 26 #[.int .i64 n, .int .i64 lo, .int .i64 hi] W fun e w' => e = .returned (.bool (decide (lo ≤ n ∧ n ≤ hi))) ∧ W = w') := within_any
  clear hI hI2 hls h48
  have hv24 : (v : Int) ≤ 24 := by omega
  have hv0 : (0 : Int) ≤ (v : Int) := by omega
  go_enter Tryd.func15, Tryd.ntmps15
  go_wp2_with fail
  go_loopw [9, 15] (fun tV kV wr => ∃ (k : Nat) (told : List Int), k ≤ am.length ∧ kV = .int .i64 (k : Int) ∧ FR w wr tV v told ∧ assumeF v told (am.drop k) = assumeF v [] am) (fun _ kV _ => am.length - (intOf kV).toNat)
  case atStart => exact ⟨0, [], Nat.zero_le _, rfl, ⟨World.ownsRow_nil _ _ _ _, Below.refl _ _, cons_nil, lits_nil _, by decide⟩, rfl⟩
  case round =>
    obtain ⟨k, told, hk, rfl, hfs, has⟩ := hrel
    obtain ⟨ra, rc, rfl, -, -⟩ := row_form hfs.row
    have HFS := Lib.hid hfs
    have HAS := Lib.hid has
    have hlen : told.length ≤ 24 := by have := hfs.few; omega
    have hws := hfs.below.size
    clear hfs has
    by_cases hlt : k < am.length
    · obtain ⟨ad, rfl, hl', hc⟩ := HI2.out.below HFS.out.below k hlt
      have HD := Lib.hid (drop_cons (d := 0) hlt)
      generalize hx : am.getD k 0 = x at *
      clear hx
      have HARG : Hid (litB v x = false ∨ -x ∈ told → assumeF v [] am = none) := fun h => by
        rw [← HAS.out, HD.out]
        unfold assumeF
        rw [if_neg]
        rintro ⟨h1, h2⟩
        rcases h with h | h
        · rw [h] at h1; cases h1
        · exact h2 h
      have HOLD : Hid (litB v x = true → x ∈ told → assumeF v told (am.drop (k + 1)) = assumeF v [] am) := fun h h2 => by
        rw [← HAS.out, HD.out]
        conv => rhs; unfold assumeF
        rw [if_pos ⟨h, HFS.out.cons x h2⟩, if_pos h2]
      have HNEW : Hid (litB v x = true → x ∉ told → -x ∉ told → assumeF v (told ++ [x]) (am.drop (k + 1)) = assumeF v [] am) := fun h h2 h3 => by
        rw [← HAS.out, HD.out]
        conv => rhs; unfold assumeF
        rw [if_pos ⟨h, h3⟩, if_neg h2]
      clear HAS HD
      by_cases h0 : x = 0
      · have HR := Lib.hid (HARG.out (Or.inl (by simp [litB, h0])))
        clear HARG HOLD HNEW
        subst h0
        go_wp2
        refine bodyPost_ret (v := .tuple #[.slice none 0 0, .int .i64 0, .int .i64 1]) (by simp [results, Tryd.results15, go_sem]) rfl ?_
        exact ⟨Or.inl ⟨HR.out, rfl⟩, HFS.out.below⟩
      · have h0' : (x == 0) = false := by simpa using h0
        have hw := HW.out x (-(v : Int)) v wr
        cases hd : decide (-(v : Int) ≤ x ∧ x ≤ v) with
        | false =>
          rw [hd] at hw
          have HWW := Lib.hid hw
          have HR := Lib.hid (HARG.out (Or.inl (by
            have : ¬ (-(v : Int) ≤ x ∧ x ≤ v) := by simpa using hd
            simp [litB]; omega)))
          clear HARG HOLD HNEW hw hd
          go_wp2_with fail
          refine HWW.out.mono ?_
          rintro e w2 ⟨rfl, rfl⟩
          go_wp2
          refine bodyPost_ret (v := .tuple #[.slice none 0 0, .int .i64 0, .int .i64 1]) (by simp [results, Tryd.results15, go_sem]) rfl ?_
          exact ⟨Or.inl ⟨HR.out, rfl⟩, HFS.out.below⟩
        | true =>
          rw [hd] at hw
          have HWW := Lib.hid hw
          have hxx : -(v : Int) ≤ x ∧ x ≤ v := by simpa using hd
          have HLB : Hid (litB v x = true) := litB_iff.2 ⟨h0, hxx.1, hxx.2⟩
          have hn1 : -24 ≤ x := by omega
          have hn2 : x ≤ 24 := by omega
          have HH2 := has_any told (-x) ra rc wr (ints_row HFS.out.row) (by omega)
          have HH1 := has_any told x ra rc wr (ints_row HFS.out.row) (by omega)
          clear hw hd hxx
          by_cases q2 : -x ∈ told
          · rw [decide_eq_true q2] at HH2
            have HA := Lib.hid HH2
            have HR := Lib.hid (HARG.out (Or.inr q2))
            clear HARG HOLD HNEW HH1 HH2 q2
            go_wp2_with fail
            refine HWW.out.mono ?_
            rintro e w2 ⟨rfl, rfl⟩
            go_wp2_with fail
            refine HA.out.mono ?_
            rintro e w2 ⟨rfl, rfl⟩
            go_wp2
            refine bodyPost_ret (v := .tuple #[.slice none 0 0, .int .i64 0, .int .i64 1]) (by simp [results, Tryd.results15, go_sem]) rfl ?_
            exact ⟨Or.inl ⟨HR.out, rfl⟩, HFS.out.below⟩
          · rw [decide_eq_false q2] at HH2
            have HA := Lib.hid HH2
            by_cases q1 : x ∈ told
            · rw [decide_eq_true q1] at HH1
              have HA1 := Lib.hid HH1
              have HR := Lib.hid (HOLD.out HLB.out q1)
              clear HARG HOLD HNEW HH1 HH2 q2 q1
              go_wp2_with fail
              refine HWW.out.mono ?_
              rintro e w2 ⟨rfl, rfl⟩
              go_wp2_with fail
              refine HA.out.mono ?_
              rintro e w2 ⟨rfl, rfl⟩
              go_wp2_with fail
              refine HA1.out.mono ?_
              rintro e w2 ⟨rfl, rfl⟩
              go_wp2
              go_roundw
              case rel => exact ⟨k + 1, told, hlt, by go_num, HFS.out, HR.out⟩
              case measure => simp [intOf]; omega
            · rw [decide_eq_false q1] at HH1
              have HA1 := Lib.hid HH1
              have HR := Lib.hid (HNEW.out HLB.out q1 q2)
              have HAP : Hid (∀ (wr' : World) (v' : Value) (o : Obj), wr'.ownsRow w.heap.size 3 1 v' (told.length + 1) (icells told ++ [.int .i64 x]) → (wr.alloc o).grownBy wr' (Value.slice ra told.length rc).ownBlock → FR w wr' v' v (told ++ [x])) := fun wr' v' o h1 h2 => HFS.out.app hv HLB.out q1 q2 o h1 h2
              have HROW := Lib.hid HFS.out.row
              clear HARG HOLD HNEW HH1 HH2 q2 q1
              go_wp2_with fail
              refine HWW.out.mono ?_
              rintro e w2 ⟨rfl, rfl⟩
              go_wp2_with fail
              refine HA.out.mono ?_
              rintro e w2 ⟨rfl, rfl⟩
              go_wp2_with fail
              refine HA1.out.mono ?_
              rintro e w2 ⟨rfl, rfl⟩
              go_wp2_with (at_builtin; refine wpList_append_own_at _ rfl _ _ 34 rfl w.heap.size 3 i0 (.int .i64 0) 1 8 Tryd.underlying34 hin hz0 hz1 hz2 rfl (by decide) _ _ _ rfl (HROW.out.alloc _) ⟨wr.heap.size, 0, none⟩ 1 1 [.int .i64 x] rfl rfl ?c1 ?c2 ?c3 ?c4 ?c5 ?_)
              case c1 => exact cell_lit _ _ _
              case c2 => exact one_lit _
              case c3 => unfold maxLen; omega
              case c4 => omega
              case c5 => simp; omega
              intro v7 w7 hown7 hgrow7 _ _
              have HF7 := Lib.hid (HAP.out _ _ _ hown7 hgrow7)
              clear hown7 hgrow7 HROW HAP
              go_wp2
              go_roundw
              case rel => exact ⟨k + 1, told ++ [x], hlt, by go_num, HF7.out, HR.out⟩
              case measure => simp [intOf]; omega
    · obtain rfl : k = am.length := by omega
      have has := HAS.out
      rw [List.drop_length, show assumeF v told [] = some told from rfl] at has
      obtain ⟨t, b, hsp⟩ := spread_ex (v := v) (by omega) HLS.out (free told) told (Nat.le_refl _) HFS.out.cons HFS.out.lits
      have HSPR := Lib.hid (spread_any v hv l HLS.out H48.out a cap told ra rc wr (HI.out.below HFS.out.below) hm (ints_row HFS.out.row) (row_nil HFS.out.row) HFS.out.cons HFS.out.lits HFS.out.few t b hsp)
      have HDONE : Hid (assumeF v [] am = some told ∧ Spread l told t b) := ⟨has.symm, hsp⟩
      clear has hsp HAS
      go_wp2_with fail
      refine HSPR.out.mono ?_
      rintro e w2 ⟨⟨ta, tc, rfl, hti, -⟩, hb2⟩
      have HTI := Lib.hid hti
      have HB2 : Hid (Below w.heap.size w w2) := HFS.out.below.trans (hb2.mono HFS.out.below.size)
      clear hti hb2 HSPR
      go_wp2
      refine bodyPost_ret (v := .tuple #[.slice ta t.length tc, .int .i64 b, .int .i64 0]) (by simp [results, Tryd.results15, go_sem]) rfl ?_
      exact ⟨Or.inr ⟨told, t, b, ta, tc, HDONE.out.1, HDONE.out.2, rfl, HTI.out⟩, HB2.out⟩

set_option maxRecDepth 100000 in
set_option maxHeartbeats 1000000 in
theorem same_ints (xs : List Int) (a1 a2 : Option Addr) (c1 c2 : Nat) (w : World) (h1 : IntsIn w a1 xs) (h2 : IntsIn w a2 xs) (hm : xs.length ≤ 9223372036854775807) :
    Calls Tryd.prog 18 #[.slice a1 xs.length c1, .slice a2 xs.length c2] w fun e w' => e = .returned (.bool true) ∧ Below w.heap.size w w' := by
  have H1 := Lib.hid h1
  have H2 := Lib.hid h2
  clear h1 h2
  have enn : ((xs.length : Int) != (xs.length : Int)) = false := by simp
  go_enter Tryd.func18, Tryd.ntmps18
  go_wp2_with fail
  go_loopw [5] (fun kV wr => ∃ k : Nat, k ≤ xs.length ∧ kV = .int .i64 (k : Int) ∧ Below w.heap.size w wr) (fun kV _ => xs.length - (intOf kV).toNat)
  case atStart => exact ⟨0, Nat.zero_le _, rfl, Below.refl _ _⟩
  case round =>
    obtain ⟨k, hk, rfl, hbr⟩ := hrel
    have HBR := Lib.hid hbr
    clear hbr
    by_cases hlt : k < xs.length
    · obtain ⟨ad1, rfl, hl1, hc1⟩ := H1.out.below HBR.out k hlt
      obtain ⟨ad2, rfl, hl2, hc2⟩ := H2.out.below HBR.out k hlt
      generalize xs.getD k 0 = x at *
      have exx : (x != x) = false := by simp
      have HBN : Hid (∀ q, Below w.heap.size w (wr.drewN q)) := fun q => HBR.out.trans ⟨rfl, rfl, rfl, Nat.le_refl _, fun _ _ => rfl⟩
      go_wp2_with fail
      go_quiet (fail)
      go_wp2
      go_roundw
      case rel => exact ⟨k + 1, hlt, by go_num, HBN.out _⟩
      case measure => simp [intOf]; omega
    · obtain rfl : k = xs.length := by omega
      go_wp2
      go_ret
      exact ⟨rfl, HBR.out⟩
end Go.Proofs.YtapdeangogjbeaaDoor
