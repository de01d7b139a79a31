/- The contract of Text. -/
import Derived.Test.YtfangnjdfmaaoaaDoorFits
import Derived.Test.YtfangnjdfmaaoaaDoorFormat
namespace Go.Proofs.YtfangnjdfmaaoaaDoor
open Go.RowKit Num Go.Sort

theorem info5 : (Tryd.prog.info? 5).map (fun i => (i.zero, i.size, i.bytes)) = some (some (.int .u8 0), 1, 1) := by kernel_rfl

/-- string(b) of bytes that the call owns. -/
theorem conv_owned {w : World} {base : Nat} {v : Value} {l : List UInt8} (h : w.ownsRow base 5 1 v l.length (Lib.byteCells l)) (hl : l ≠ []) (w' : World) (hw : ∀ p : Addr, p.block < w.heap.size → w'.cell? p = w.cell? p) :
    (convert 72 9 v).run Tryd.prog w' = .ok (.string ⟨l.toArray⟩) w' := by
  rcases id h.2 with ⟨h1, h2⟩ | ⟨g, cap, cur, h1, hb, hg, h2, _⟩
  · exact absurd (List.length_eq_zero_iff.1 h2) hl
  · subst h1
    have hlt : g < w.heap.size := by
      by_cases hlt : g < w.heap.size
      · exact hlt
      · rw [Array.getElem?_eq_none (by omega)] at hg; simp at hg
    refine run_convert_bytes_back (P := Tryd.prog) w' 72 9 5 ⟨g, 0, none⟩ cap l Tryd.underlying72 Tryd.underlying5 Tryd.underlying9 (fun j hj => ?_)
    rw [Lib.add_plain, hw ⟨g, 0 + j, none⟩ hlt, Nat.zero_add, h.cellAt j (by omega)]
    simp [Lib.byteCells, hj]

theorem drop_head (c : UInt8) (l : List UInt8) (h : l.length = 9) : (⟨(c :: l).toArray⟩ : ByteArray).extract 1 10 = ⟨l.toArray⟩ := by
  apply ByteArray.ext
  simp only [ByteArray.data_extract, List.extract_toArray, List.extract_eq_take_drop, List.drop_succ_cons, List.drop_zero]
  rw [List.take_of_length_le (by omega)]

set_option maxRecDepth 100000 in
set_option maxHeartbeats 1000000 in
theorem text_any (v : Value) (a : List Nat) (w : World) (ha : Dig .u64 w v a) (na : Norm 1000000000 a) (la : a.length ≤ 10000) (htab : Tab w) :
    Calls Tryd.prog 14 #[.agg #[v]] w fun e w' => e = .returned (.string ⟨(Lib.decDigits (val 1000000000 a)).toArray⟩) ∧ Below w.heap.size w w' := by
  obtain ⟨aa, ca, eva, hca, hcella⟩ := id ha
  subst eva
  have hz := zero_any (.slice aa a.length ca) a (w.alloc (.cells #[.slice aa a.length ca] 28)) (ha.below ((Below.refl _ _).alloc (Nat.le_refl _) _)) la
  by_cases h0 : a.length = 0
  · obtain rfl : a = [] := List.length_eq_zero_iff.1 h0
    rw [val_nil, decDigits_zero]
    simp only [List.length_nil] at hz
    clear hcella ha na la h0
    go_enter Tryd.func14, Tryd.ntmps14
    go_wp2_with (go_at_call 10; refine hz.mono ?_; rintro e w1 ⟨rfl, hb1⟩)
    go_ret
    exact ⟨rfl, ((Below.refl _ _).alloc (Nat.le_refl _) _).trans (hb1.mono (by simp))⟩
  · have hb0 : (a.length == 0) = false := by simp [h0]
    rw [hb0] at hz
    obtain ⟨n, hn⟩ : ∃ n, a.length = n + 1 := ⟨a.length - 1, by omega⟩
    obtain ⟨i0, hi, hz0, hz1, hz2⟩ := info_parts info5
    obtain ⟨b, off, haa, hbb, -⟩ := hcella 0 (by omega)
    subst haa
    have hcl : ∀ i, i ≤ n → w.cell? ⟨b, off + i, none⟩ = some (.int .u64 ((dig a i : Nat) : Int)) := fun i hi => by
      obtain ⟨b', off', e1, -, e2⟩ := hcella i (by omega)
      cases e1
      exact e2
    have hlast := na.last h0
    rw [hn, Nat.add_sub_cancel] at hlast
    have HV : Hid (val 1000000000 a = dig a n * 1000000000 ^ n + S 1000000000 (dig a) n) := by
      show _ = _
      unfold val
      rw [hn, S_succ]; omega
    have hsm := na.small
    have hn' : n ≤ 9999 := by omega
    rw [hn] at hz
    generalize hal : a.length = al at *
    subst hn
    clear hcella hb0 h0 hal
    have HC : Hid (∀ i, i ≤ n → w.cell? ⟨b, off + i, none⟩ = some (.int .u64 ((dig a i : Nat) : Int))) := hcl
    clear hcl
    have hdn := hsm n
    have HS : Hid (∀ i, dig a i < 1000000000) := hsm
    clear hsm na ha la
    have HT : Hid (Tab w) := htab
    clear htab
    go_enter Tryd.func14, Tryd.ntmps14
    go_wp2_with (first
      | (go_at_call 10; refine hz.mono ?_; rintro e w1 ⟨rfl, hb1⟩; have c0 : w1.cell? ⟨w.heap.size, 0, none⟩ = some (.slice (some ⟨b, off, none⟩) (n + 1) ca) := (hb1.cell (p := ⟨w.heap.size, 0, none⟩) (by simp)).trans (by simp); have hbw : Below w.heap.size w w1 := ((Below.refl _ _).alloc (Nat.le_refl _) _).trans (hb1.mono (by simp)); have cn : w1.cell? ⟨b, off + n, none⟩ = some (.int .u64 ((dig a n : Nat) : Int)) := (hbw.cell (p := ⟨b, off + n, none⟩) hbb).trans (HC.out n (Nat.le_refl _)))
      | (go_at_call 42; refine (append_nil (w.heap.size + 1) (dig a n) (by omega) _ (by have := hb1.size; simpa using this) (HT.out.below hbw)).mono ?_; rintro e w2 ⟨v2, rfl, hown, hb2⟩))
    clear cn
    have hbel : Below (w.heap.size + 1) (w.alloc (.cells #[.slice (some ⟨b, off, none⟩) (n + 1) ca] 28)) w2 := (hb1.mono (by simp)).trans hb2
    clear hb2 hb1 c0 hbw hz
    go_loopw [4, 20] (fun v i wr => ∃ k t : Nat, k ≤ n ∧ i = .int .i64 k ∧ 1 ≤ t ∧ (Lib.decDigits t).length ≤ 20 + 9 * k ∧ val 1000000000 a = t * 1000000000 ^ (n - k) + S 1000000000 (dig a) (n - k) ∧ wr.ownsRow (w.heap.size + 1) 5 1 v (Lib.decDigits t).length (Lib.byteCells (Lib.decDigits t)) ∧ Below (w.heap.size + 1) (w.alloc (.cells #[.slice (some ⟨b, off, none⟩) (n + 1) ca] 28)) wr)
      (fun _ i _ => n - (intOf i).toNat)
    case atStart =>
      refine ⟨0, dig a n, Nat.zero_le _, rfl, by omega, ?_, HV.out, hown, hbel⟩
      rw [Lib.decDigits_length]; have := Num.nd_le (dig a n) (by omega); omega
    case round =>
      obtain ⟨k, t, hk, rfl, ht1, hlen, hval, hownr, hbelr⟩ := hrel
      have HVK : Hid (val 1000000000 a = t * 1000000000 ^ (n - k) + S 1000000000 (dig a) (n - k)) := hval
      clear hval hown hbel
      have c0 : wr.cell? ⟨w.heap.size, 0, none⟩ = some (.slice (some ⟨b, off, none⟩) (n + 1) ca) := (hbelr.cell (p := ⟨w.heap.size, 0, none⟩) (by simp)).trans (by simp)
      have hbw : Below w.heap.size w wr := ((Below.refl _ _).alloc (Nat.le_refl _) _).trans (hbelr.mono (by omega))
      by_cases hlt : k < n
      · have cn : wr.cell? ⟨b, off + (n - 1 - k), none⟩ = some (.int .u64 ((dig a (n - 1 - k) : Nat) : Int)) := (hbw.cell (p := ⟨b, off + (n - 1 - k), none⟩) hbb).trans (HC.out _ (by omega))
        have hdd := HS.out (n - 1 - k)
        have e1 : ((n : Int) - 1 - k).toNat = n - 1 - k := by omega
        have hsz := hbelr.size
        simp only [World.size_alloc] at hsz
        go_wp2_with fail
        refine (format_pad _ (dig a (n - 1 - k)) _ rfl hdd (HT.out.below hbw)).mono ?_
        rintro e w3 ⟨rfl, hb3⟩
        obtain ⟨l, hl⟩ : ∃ l, l = pad 9 (dig a (n - 1 - k)) := ⟨_, rfl⟩
        have hll : l.length = 9 := by rw [hl, pad_length]
        rw [← hl]
        have HL : Hid (l = pad 9 (dig a (n - 1 - k))) := hl
        clear hl
        have hex := drop_head 49 l hll
        have hown3 := owns_below hownr hb3
        have hsz3 := hb3.size
        go_wp2_with (at_builtin; refine Lib.wpList_append_own_string _ rfl _ _ 72 9 rfl (w.heap.size + 1) 5 i0 Tryd.underlying72 Tryd.underlying9 hi hz0 hz1 hz2 _ _ _ rfl hown3 ⟨l.toArray⟩ rfl ?c3 ?c4 ?c5 ?_)
        case c3 => unfold maxLen; show _ + l.toArray.size ≤ _; simp only [List.size_toArray]; omega
        case c4 => show _ + l.toArray.size ≤ _; simp only [List.size_toArray]; omega
        case c5 => omega
        intro v' w4 hown4 hgrow _
        have hbel4 : Below (w.heap.size + 1) (w.alloc (.cells #[.slice (some ⟨b, off, none⟩) (n + 1) ca] 28)) w4 := (hbelr.trans (hb3.mono (by omega))).grown hgrow (by omega) (fun k hk => (hown3.lt k hk).1)
        clear hown3 hgrow hownr hbelr hb3 hex
        go_wp2
        go_roundw
        case rel =>
          have hs2 := HVK.out
          rw [show n - k = (n - 1 - k) + 1 by omega] at hs2
          have hst := fits_step hs2
          have hdc := decDigits_nine t (dig a (n - 1 - k)) ht1 hdd
          have hln := nine_len t (dig a (n - 1 - k)) ht1 hdd
          refine ⟨k + 1, t * 1000000000 + dig a (n - 1 - k), by omega, by go_num, by omega, by omega, ?_, ?_, hbel4⟩
          · rw [show n - (k + 1) = n - 1 - k by omega]; exact hst
          · rw [hln, hdc, ← HL.out, Lib.byteCells_append]
            exact hown4
        case measure => simp [intOf]; omega
      · obtain rfl : k = n := by omega
        have hne : Lib.decDigits t ≠ [] := by
          intro e
          have h1 := Lib.decDigits_length t
          have h2 := Lib.nDigits_pos t
          rw [e] at h1; simp at h1; omega
        have hcv := conv_owned hownr hne wr (fun _ _ => rfl)
        have HT2 : Hid (val 1000000000 a = t) := by show _ = _; simpa [S] using HVK.out
        clear hownr
        go_wp2
        go_ret
        refine ⟨?_, hbw⟩
        rw [HT2.out]
        rfl
end Go.Proofs.YtfangnjdfmaaoaaDoor
