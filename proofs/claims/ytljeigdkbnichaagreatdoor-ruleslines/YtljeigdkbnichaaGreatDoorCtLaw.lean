/- RulesLines, the law's walk. -/
import Derived.Test.YtljeigdkbnichaaGreatDoorCtOnlyW
import Derived.Test.YtljeigdkbnichaaGreatDoorCtRuled
import Derived.Test.YtljeigdkbnichaaGreatDoorClHolds
import Derived.Deep.RegionHeld3
namespace Go.Proofs.YtljeigdkbnichaaGreatDoor
open Go.RowKit Go.Deep Sv

theorem prI_mem (its : List It) (k i : Nat) : ∀ x ∈ prI its k i, x.2.length ≤ 1000 ∧ x.1 = -1 := by
  intro x hx
  obtain ⟨j, _, hj⟩ := List.mem_flatMap.1 hx
  unfold pr0 at hj
  split at hj
  · rw [List.mem_singleton] at hj
    subst hj
    exact ⟨by simp, rfl⟩
  · cases hj
theorem ofL_mem (its : List It) (ls : List Ln) (hl : its.length ≤ 24) : ∀ x ∈ ofL its ls, x.2.length ≤ 1000 ∧ (x.1 = -1 ∨ ∃ n : Nat, n < ls.length ∧ x.1 = (n : Int)) := by
  intro x hx
  rcases List.mem_append.1 hx with hx | hx
  · obtain ⟨k, _, hk⟩ := List.mem_flatMap.1 hx
    exact ⟨(prI_mem its k k x hk).1, Or.inl (prI_mem its k k x hk).2⟩
  · obtain ⟨n, hn, hk⟩ := List.mem_flatMap.1 hx
    have hn' := List.mem_range.1 hn
    have a1 := amongF_len its (ls.getD n default).name (ls.getD n default).rng
    have a2 := amongF_len its (ls.getD n default).other (ls.getD n default).rng
    unfold lineC at hk
    split at hk
    · rw [List.mem_singleton] at hk; subst hk
      exact ⟨by show (List.map _ _).length ≤ 1000; rw [List.length_map]; omega, Or.inr ⟨n, hn', rfl⟩⟩
    · split at hk
      · rw [List.mem_singleton] at hk; subst hk
        exact ⟨by show (_ :: List.map _ _).length ≤ 1000; rw [List.length_cons, List.length_map]; omega, Or.inr ⟨n, hn', rfl⟩⟩
      · split at hk
        · obtain ⟨k, _, rfl⟩ := List.mem_map.1 hk
          exact ⟨by simp, Or.inr ⟨n, hn', rfl⟩⟩
        · cases hk
theorem only_all (P : List (Int × List Int)) (n : Nat) (h : ∀ x ∈ P, x.1 = -1 ∨ ∃ k : Nat, k < n ∧ x.1 = (k : Int)) : ctOnly P (List.replicate n true) = P.map Prod.snd := by
  unfold ctOnly
  rw [List.filter_eq_self.2]
  intro x hx
  rcases h x hx with e | ⟨k, hk, e⟩
  · simp [ctTold, e]
  · rw [e]
    simp [ctTold, List.getD_eq_getElem?_getD, hk]
theorem only_len (P : List (Int × List Int)) (bs : List Bool) : (ctOnly P bs).length ≤ P.length := by
  unfold ctOnly
  rw [List.length_map]
  exact List.length_filter_le _ _
theorem only_hold (P : List (Int × List Int)) (bs : List Bool) (vals : Nat) (h : allK vals (P.map Prod.snd) = true) : allK vals (ctOnly P bs) = true := by
  unfold allK at *
  rw [List.all_eq_true] at *
  intro c hc
  obtain ⟨x, hx, rfl⟩ := List.mem_map.1 hc
  exact h _ (List.mem_map.2 ⟨x, (List.mem_filter.1 hx).1, rfl⟩)
theorem CO.cls {B : Nat} {W : World} {a : Option Addr} {cap : Nat} {K : List (List Int)} (h : CO B W (.slice a K.length cap) K) : ClsIn W a K := by
  obtain ⟨cs, h1, h2⟩ := h
  exact h2.cls (ownsRow_base h1 (Nat.zero_le _))
theorem CO.form {B : Nat} {W : World} {v : Value} {K : List (List Int)} (h : CO B W v K) : ∃ a c, v = .slice a K.length c := by
  obtain ⟨cs, h1, _⟩ := h
  obtain ⟨a, c, e, _⟩ := (rowAt_own h1).form
  exact ⟨a, c, e⟩
end Go.Proofs.YtljeigdkbnichaaGreatDoor

namespace Go.Proofs.YtljeigdkbnichaaGreatDoor
open Go.RowKit Go.Deep Sv

theorem infoBoolK : (Tryz.prog.info? 4).map (fun i => (i.zero, i.size, i.bytes)) = some (some (.bool false), 1, 1) := by kernel_rfl

theorem read_some (s : ByteArray) (w : World) (ls : List Ln) (its : List It) (h : Calls Tryz.prog 55 #[.string s, .int .i64 24] w (ReadRes w (some (ls, its)))) :
    Calls Tryz.prog 55 #[.string s, .int .i64 24] w fun e w' => ∃ bc ca cc fa fc, e = .returned (.tuple #[.pointer (some ⟨bc, 0, none⟩), .agg #[.int .i64 (its.length : Int), .slice ca (ofL its ls).length cc, .slice fa (ofL its ls).length fc], .bool true]) ∧ CatAt w' bc ls its ∧ RS w.heap.size w' (.slice ca (ofL its ls).length cc) (.slice fa (ofL its ls).length fc) ((ofL its ls).map Prod.snd) ((ofL its ls).map Prod.fst) ∧ Below w.heap.size w w' := by
  refine h.mono fun e w' ⟨bc, cv, fv, h1, h2, h3, h4⟩ => ?_
  obtain ⟨ca, cc, rfl⟩ : ∃ a c, cv = .slice a (ofL its ls).length c := by obtain ⟨cs, h1, _⟩ := h3.crow; obtain ⟨a, c, e, _⟩ := (rowAt_own h1).form; exact ⟨a, c, by simpa using e⟩
  obtain ⟨fa, fc, rfl⟩ : ∃ a c, fv = .slice a (ofL its ls).length c := by obtain ⟨a, c, e, _⟩ := (rowAt_own h3.frow).form; exact ⟨a, c, by simpa using e⟩
  exact ⟨bc, ca, cc, fa, fc, h1, h2, h3, h4⟩

set_option maxRecDepth 100000 in
set_option maxHeartbeats 4000000 in
theorem law_none (s : ByteArray) (sa : Option Addr) (bs : List Bool) (sc : Nat) (vals : Int) (w : World) (hw : Lw w) (hr : readF s 24 = none ∨ 120 < bs.length) :
    Calls Tryz.prog 11 #[.string s, .slice sa bs.length sc, .int .u64 vals] w fun e w' => e = .returned (.bool true) ∧ Below w.heap.size w w' := by
  have HRD := Lib.hid (read_c s 24 w hw)
  have HRU : Hid (∀ W, Below w.heap.size w W → Calls Tryz.prog 56 #[] W fun e w' => e = .returned (.bool true) ∧ Below W.heap.size W w') := fun W hW => ruled_c W (hw.below hW)
  clear hw
  cases hR : readF s 24 with
  | none =>
    rw [hR] at HRD
    have HRD2 : Hid (Calls Tryz.prog 55 #[.string s, .int .i64 24] w fun e w' => e = .returned (.tuple #[.pointer none, .agg #[.int .i64 0, .slice none 0 0, .slice none 0 0], .bool false]) ∧ Below w.heap.size w w') := HRD.out
    clear HRD hR hr
    go_enter Tryz.func11, Tryz.ntmps11
    go_wp2_with fail
    refine HRD2.out.mono ?_
    rintro e w1 ⟨rfl, hb1⟩
    have hbn := below_new w1 (.cells #[.int .i64 0, .slice none 0 0, .slice none 0 0] 97)
    have HB2 := Lib.hid (hb1.trans (hbn.mono hb1.size))
    clear HRD2 hb1 hbn
    go_upto_region 2 with fail
    generalize w1.alloc (.cells #[.int .i64 0, .slice none 0 0, .slice none 0 0] 97) = W2 at *
    go_wp2_with fail
    refine (HRU.out W2 HB2.out).mono ?_
    rintro e w3 ⟨rfl, hb3⟩
    have HB3 := Lib.hid (HB2.out.trans (hb3.mono HB2.out.size))
    clear hb3 HB2
    go_wp2_with fail
    refine (HRU.out w3 HB3.out).mono ?_
    rintro e w4 ⟨rfl, hb4⟩
    have HB4 := Lib.hid (HB3.out.trans (hb4.mono HB3.out.size))
    clear hb4 HB3
    go_wp2
    go_ret
    exact ⟨rfl, HB4.out⟩
  | some li =>
    have hbig : 120 < bs.length := by rcases hr with e | e; rw [hR] at e; cases e; exact e
    obtain ⟨ls, its⟩ := li
    rw [hR] at HRD
    have HRD2 := Lib.hid (read_some s w ls its HRD.out)
    have hbi : (120 : Int) < (bs.length : Int) := by omega
    clear HRD hR hr
    go_enter Tryz.func11, Tryz.ntmps11
    go_wp2_with fail
    refine HRD2.out.mono ?_
    rintro e w1 ⟨bc, ca, cc, fa, fc, rfl, -, -, hb1⟩
    generalize (ofL its ls).length = m at *
    have hbn := below_new w1 (.cells #[.int .i64 (its.length : Int), .slice ca m cc, .slice fa m fc] 97)
    have HB2 := Lib.hid (hb1.trans (hbn.mono hb1.size))
    clear HRD2 hb1 hbn
    go_upto_region 2 with fail
    generalize w1.alloc (.cells #[.int .i64 (its.length : Int), .slice ca m cc, .slice fa m fc] 97) = W2 at *
    go_wp2_with fail
    refine (HRU.out W2 HB2.out).mono ?_
    rintro e w3 ⟨rfl, hb3⟩
    have HB3 := Lib.hid (HB2.out.trans (hb3.mono HB2.out.size))
    clear hb3 HB2
    go_wp2_with fail
    refine (HRU.out w3 HB3.out).mono ?_
    rintro e w4 ⟨rfl, hb4⟩
    have HB4 := Lib.hid (HB3.out.trans (hb4.mono HB3.out.size))
    clear hb4 HB3
    go_wp2
    go_ret
    exact ⟨rfl, HB4.out⟩

set_option maxRecDepth 100000 in
set_option maxHeartbeats 8000000 in
theorem law_some (s : ByteArray) (ls : List Ln) (its : List It) (sa : Option Addr) (bs : List Bool) (sc : Nat) (vals : Nat) (hv : vals < 18446744073709551616) (w : World) (hw : Lw w) (hr : readF s 24 = some (ls, its)) (hl : its.length ≤ 24) (hll : ls.length ≤ 120) (hsm : bs.length ≤ 120) (hbo : BoolsIn w sa bs) :
    Calls Tryz.prog 11 #[.string s, .slice sa bs.length sc, .int .u64 (vals : Int)] w fun e w' => e = .returned (.bool true) ∧ Below w.heap.size w w' := by
  have HRD := Lib.hid (read_c s 24 w hw)
  have HRU : Hid (∀ W, Below w.heap.size w W → Calls Tryz.prog 56 #[] W fun e w' => e = .returned (.bool true) ∧ Below W.heap.size W w') := fun W hW => ruled_c W (hw.below hW)
  rw [hr] at HRD
  have HRD2 := Lib.hid (read_some s w ls its HRD.out)
  have hsi : ¬ (120 : Int) < (bs.length : Int) := by omega
  obtain ⟨i0, hin, hz0, hz1, hz2⟩ := info_parts infoBoolK
  have HBO := Lib.hid hbo
  have hmem := ofL_mem its ls hl
  have HALL := Lib.hid (only_all (ofL its ls) ls.length (fun x hx => (hmem x hx).2))
  have HLEN := Lib.hid (only_len (ofL its ls) bs)
  have HOLD := Lib.hid (only_hold (ofL its ls) bs vals)
  have HCL : Hid (∀ x ∈ ofL its ls, x.2.length ≤ 1000) := fun x hx => (hmem x hx).1
  have hP : (ofL its ls).length ≤ 10000 := by unfold ofL; rw [List.length_append]; have := prF_len its its.length hl; have := lnL_len its ls hl ls.length; omega
  generalize ofL its ls = P at *
  clear HRD hr hw hbo hmem
  go_enter Tryz.func11, Tryz.ntmps11
  go_wp2_with fail
  refine HRD2.out.mono ?_
  rintro e w1 ⟨bc, ca, cc, fa, fc, rfl, hcat, hrs, hb1⟩
  have hbn := below_new w1 (.cells #[.int .i64 (its.length : Int), .slice ca P.length cc, .slice fa P.length fc] 97)
  have kb := Blk.new w1 97 #[.int .i64 (its.length : Int), .slice ca P.length cc, .slice fa P.length fc]
  have HB2 := Lib.hid (hb1.trans (hbn.mono hb1.size))
  have HCAT := Lib.hid (hcat.below hbn (Nat.le_refl _))
  have HRS := Lib.hid (hrs.new hbn)
  clear HRD2 hb1 hbn hcat hrs
  go_upto_region 2 with fail
  generalize w1.alloc (.cells #[.int .i64 (its.length : Int), .slice ca P.length cc, .slice fa P.length fc] 97) = W2 at *
  generalize w1.heap.size = b8 at *
  go_wp2_with fail
  refine (HRU.out W2 HB2.out).mono ?_
  rintro e w3 ⟨rfl, hb3⟩
  have HLN := Lib.hid (lines_c bc ls its w3 (HCAT.out.below hb3 (Nat.le_refl _)) (by omega))
  have HB3 := Lib.hid hb3
  clear hb3 HRU HCAT
  go_wp2_with fail
  refine HLN.out.mono ?_
  rintro e w4 ⟨lv, rfl, hln, hb4⟩
  obtain ⟨la, lc, rfl⟩ : ∃ la lc, lv = .slice la ls.length lc := by obtain ⟨vs, _, h2⟩ := hln; obtain ⟨x, y, e, _⟩ := h2.form; exact ⟨x, y, e⟩
  have hb24 := HB3.out.trans (hb4.mono HB3.out.size)
  have KB := Lib.hid (kb.below hb24 kb.lt)
  have HRS4 := Lib.hid (HRS.out.new hb24)
  have HB4 := Lib.hid (HB2.out.trans (hb24.mono HB2.out.size))
  clear HLN hln hb4 hb24 kb HRS HB2 HB3
  go_wp2_with (at_make; refine wpList_make_full _ rfl _ _ 90 rfl w4.heap.size 4 i0 (.bool false) 1 Tryz.underlying90 hin hz0 hz1 .i64 .i64 _ _ ls.length rfl rfl ?c1 ?c2 ?c3 ?c4 ?c5 ?_)
  case c1 => rfl
  case c2 => rfl
  case c3 => rw [hz2]; omega
  case c4 => unfold maxLen; omega
  case c5 => omega
  intro w5 hown hgrow
  have hb5 : Below w4.heap.size w4 w5 := (Below.refl _ _).grown hgrow (Nat.le_refl _) (fun k hk => by cases hk)
  obtain ⟨cur0, hcur0, hcs0⟩ : ∃ cur, Blk w5 w4.heap.size 4 cur ∧ cur.size = ls.length := by
    rcases hown.2 with ⟨e, _⟩ | ⟨g, cap, cur, e, _, hg, _, _, hsz, _⟩
    · cases e
    · cases e; exact ⟨cur, hg, by omega⟩
  have HC0 := Lib.hid hcur0
  have HB5 := Lib.hid hb5
  clear hown hgrow hcur0 hb5
  generalize hg4 : w4.heap.size = g at *
  go_wp2_with fail
  go_loopw [11] (fun iV wr => ∃ (i : Nat) (cur : Array Value), i ≤ ls.length ∧ iV = .int .i64 (i : Int) ∧ Blk wr g 4 cur ∧ cur.size = ls.length ∧ (∀ j, j < i → cur[j]? = some (.bool true)) ∧ Below g w4 wr) (fun iV _ => ls.length - (intOf iV).toNat)
  case atStart => exact ⟨0, cur0, Nat.zero_le _, rfl, HC0.out, hcs0, fun j hj => by omega, HB5.out⟩
  case round =>
    clear HC0 HB5 hcs0 cur0
    obtain ⟨i, cur, hil, rfl, hcur, hcs, hall, hbw⟩ := hrel
    by_cases hlt : i < ls.length
    · have hii0 : (0 : Int) ≤ (i : Int) := by omega
      have hii1 : (i : Int) < (ls.length : Int) := by omega
      obtain ⟨v0, hv0⟩ : ∃ v0, cur[i]? = some v0 := ⟨_, Array.getElem?_eq_getElem (by omega)⟩
      have c0 : wr.cell? ⟨g, i, none⟩ = some v0 := (hcur.cell i).trans hv0
      have f0 := hcur.frozen i
      have HN : Hid (Blk (wr.setCell ⟨g, i, none⟩ (.bool true)) g 4 (cur.setIfInBounds i (.bool true))) := hcur.set
      have HA : Hid (∀ j, j < i + 1 → (cur.setIfInBounds i (.bool true))[j]? = some (.bool true)) := fun j hj => by
        rw [Array.getElem?_setIfInBounds]
        by_cases e : i = j
        · rw [if_pos e, if_pos (by omega)]
        · rw [if_neg e]; exact hall j (by omega)
      have HBN : Hid (Below g w4 (wr.setCell ⟨g, i, none⟩ (.bool true))) := hbw.setCell (p := ⟨g, i, none⟩) (Nat.le_refl _) _
      clear hcur hall hbw hv0
      go_wp2
      go_roundw
      case rel => exact ⟨i + 1, _, hlt, by go_num, HN.out, by rw [Array.size_setIfInBounds]; exact hcs, HA.out, HBN.out⟩
      case measure => simp [intOf]; omega
    · obtain rfl : i = ls.length := by omega
      subst hg4
      have HBA : Hid (BoolsIn wr (some ⟨w4.heap.size, 0, none⟩) (List.replicate ls.length true)) := fun j hj => by
        have hj' : j < ls.length := by simpa using hj
        refine ⟨_, rfl, hcur.lt, ?_⟩
        rw [add_plain, Nat.zero_add, hcur.cell j, hall j hj']
        simp [List.getD_eq_getElem?_getD, hj']
      have hbx := HB4.out.trans (hbw.mono HB4.out.size)
      have kb := KB.out.below hbw KB.out.lt
      have HRS5 := Lib.hid (HRS4.out.new hbw)
      have HBO5 := Lib.hid (HBO.out.below hbx (Nat.le_refl _))
      have HBX := Lib.hid hbx
      clear hcur hall hbw hbx HRS4 KB HB4 HBO hcs
      have SC : Hid (∀ W, Below wr.heap.size wr W → W.cell? ⟨b8, 0, none⟩ = some (.int .i64 (its.length : Int)) ∧ W.cell? ⟨b8, 1, none⟩ = some (.slice ca P.length cc) ∧ W.cell? ⟨b8, 2, none⟩ = some (.slice fa P.length fc)) := fun W h => ⟨(kb.below h kb.lt).cell 0, (kb.below h kb.lt).cell 1, (kb.below h kb.lt).cell 2⟩
      have HO1 : Hid (∀ W, Below wr.heap.size wr W → Calls Tryz.prog 53 #[.agg #[.int .i64 (its.length : Int), .slice ca P.length cc, .slice fa P.length fc], .slice (some ⟨w4.heap.size, 0, none⟩) ls.length ls.length] W fun e w' => ∃ a1 c1, e = .returned (.slice a1 P.length c1) ∧ CO 0 w' (.slice a1 (P.map Prod.snd).length c1) (P.map Prod.snd) ∧ Below W.heap.size W w') := fun W hW => by
        have h := only_c w.heap.size (its.length : Int) P (.slice ca P.length cc) (.slice fa P.length fc) (List.replicate ls.length true) (some ⟨w4.heap.size, 0, none⟩) ls.length W (HRS5.out.new hW) (HBA.out.below hW (Nat.le_refl _)) hP HCL.out
        rw [List.length_replicate, HALL.out] at h
        refine h.mono fun e w' ⟨v', h1, h2, h3⟩ => ?_
        obtain ⟨a1, c1, rfl⟩ := h2.form
        obtain ⟨cs, g1, g2⟩ := h2
        exact ⟨a1, c1, by rw [h1, List.length_map], ⟨cs, ownsRow_base g1 (Nat.zero_le _), g2⟩, h3⟩
      have HO2 : Hid (∀ W, Below wr.heap.size wr W → Calls Tryz.prog 53 #[.agg #[.int .i64 (its.length : Int), .slice ca P.length cc, .slice fa P.length fc], .slice sa bs.length sc] W fun e w' => ∃ a2 c2, e = .returned (.slice a2 (ctOnly P bs).length c2) ∧ CO 0 w' (.slice a2 (ctOnly P bs).length c2) (ctOnly P bs) ∧ Below W.heap.size W w') := fun W hW => by
        refine (only_c w.heap.size (its.length : Int) P (.slice ca P.length cc) (.slice fa P.length fc) bs sa sc W (HRS5.out.new hW) (HBO5.out.below hW (Nat.le_refl _)) hP HCL.out).mono fun e w' ⟨v', h1, h2, h3⟩ => ?_
        obtain ⟨a1, c1, rfl⟩ := h2.form
        obtain ⟨cs, g1, g2⟩ := h2
        exact ⟨a1, c1, h1, ⟨cs, ownsRow_base g1 (Nat.zero_le _), g2⟩, h3⟩
      obtain ⟨KK, hKK⟩ : ∃ KK, ctOnly P bs = KK := ⟨_, rfl⟩
      rw [hKK] at HO2 HLEN HOLD
      have D0 : Below wr.heap.size wr wr.drew := (Below.refl _ _).drew
      clear hKK HBA HRS5 HBO5 HALL
      go_upto_region 9 with fail
      go_region_held3 (fun W => W.cell? ⟨b8, 0, none⟩ = some (.int .i64 (its.length : Int)) ∧ W.cell? ⟨b8, 1, none⟩ = some (.slice ca P.length cc) ∧ W.cell? ⟨b8, 2, none⟩ = some (.slice fa P.length fc)) (first | exact SC.out _ D0 | exact SC.out _ D1 | exact SC.out _ D2)
        (first
          | (go_at_call 53; with_reducible refine (HO1.out _ D0).mono ?_; rintro e x1 ⟨a1, c1, rfl, hco1, hb1'⟩; have D1 : Below wr.heap.size wr x1 := D0.trans (hb1'.mono D0.size); clear HO1)
          | (go_at_call 53; with_reducible refine (HO2.out _ D1).mono ?_; rintro e x2 ⟨a2, c2, rfl, hco2, hb2'⟩; have D2 : Below wr.heap.size wr x2 := D1.trans (hb2'.mono D1.size); clear HO2))
      have hls := hco1.new hb2'
      have HH1 := Lib.hid (allHold_any (P.map Prod.snd) a1 c1 vals hv x2 hls.cls (by rw [List.length_map]; omega))
      rw [List.length_map] at HH1
      have HH2 : Hid (∀ W, Below x2.heap.size x2 W → Calls Tryz.prog 57 #[.slice a2 KK.length c2, .int .u64 (vals : Int)] W fun e w' => e = .returned (.bool (allK vals KK)) ∧ Below W.heap.size W w') := fun W hW => allHold_any KK a2 c2 vals hv W (hco2.new hW).cls (by have := HLEN.out; omega)
      have HX2 := Lib.hid (HBX.out.trans (D2.mono HBX.out.size))
      have kb2 := kb.below D2 kb.lt
      have d1 : x2.cell? ⟨b8, 1, none⟩ = some (.slice ca P.length cc) := kb2.cell 1
      have d2 : x2.cell? ⟨b8, 2, none⟩ = some (.slice fa P.length fc) := kb2.cell 2
      have enn : ((P.length : Int) != (P.length : Int)) = false := by simp
      have hkl : ¬ (P.length : Int) < (KK.length : Int) := by have := HLEN.out; omega
      clear hls hco1 hco2 hb1' hb2' D0 D1 D2 SC kb kb2
      cases hal : allK vals (P.map Prod.snd) with
      | false =>
        rw [hal] at HH1
        go_wp2_with fail
        refine HH1.out.mono ?_
        rintro e x3 ⟨rfl, hb3⟩
        have HX3 := Lib.hid (HX2.out.trans (hb3.mono HX2.out.size))
        clear hb3 HX2 HH1
        go_wp2
        go_ret
        exact ⟨rfl, HX3.out⟩
      | true =>
        rw [hal] at HH1
        have hk := HOLD.out hal
        rw [hk] at HH2
        go_wp2_with fail
        refine HH1.out.mono ?_
        rintro e x3 ⟨rfl, hb3⟩
        have HX3 := Lib.hid (HX2.out.trans (hb3.mono HX2.out.size))
        have HH3 := Lib.hid (HH2.out x3 hb3)
        clear hb3 HX2 HH1 HH2
        go_wp2_with fail
        refine HH3.out.mono ?_
        rintro e x4 ⟨rfl, hb4⟩
        have HX4 := Lib.hid (HX3.out.trans (hb4.mono HX3.out.size))
        clear hb4 HX3 HH3
        go_wp2
        go_ret
        exact ⟨rfl, HX4.out⟩

/-- The law, of any arguments. -/
theorem law_any (s : ByteArray) (sa : Option Addr) (bs : List Bool) (sc : Nat) (vals : Nat) (hv : vals < 18446744073709551616) (w : World) (hw : Lw w) (hbo : BoolsIn w sa bs) :
    Calls Tryz.prog 11 #[.string s, .slice sa bs.length sc, .int .u64 (vals : Int)] w fun e w' => e = .returned (.bool true) ∧ Below w.heap.size w w' := by
  by_cases hb : 120 < bs.length
  · exact law_none s sa bs sc vals w hw (Or.inr hb)
  · cases hr : readF s 24 with
    | none => exact law_none s sa bs sc vals w hw (Or.inl hr)
    | some li =>
      obtain ⟨ls, its⟩ := li
      have hp : ∃ ls' its', parseF s = .ok (ls', its') ∧ ls' = ls ∧ its' = its := by
        unfold readF at hr
        split at hr
        · cases hr
        · split at hr
          · cases hr
          · rename_i ls' its' hpp
            split at hr
            · cases hr
            · cases hr; exact ⟨_, _, hpp, rfl, rfl⟩
      obtain ⟨_, _, hp, rfl, rfl⟩ := hp
      have hn := newF_ok (parseF_ok hp)
      exact law_some s _ _ sa bs sc vals hv w hw hr hn.1 (by omega) (by omega) hbo
end Go.Proofs.YtljeigdkbnichaaGreatDoor
