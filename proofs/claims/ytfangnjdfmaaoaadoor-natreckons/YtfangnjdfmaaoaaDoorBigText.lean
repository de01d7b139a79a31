/- The reference's numbers: Text and String, of a number that is not below 0. -/
import Derived.Test.YtfangnjdfmaaoaaDoorBigSmallF
import Derived.Test.YtfangnjdfmaaoaaDoorBigSet
import Derived.Test.YtfangnjdfmaaoaaDoorText
import Derived.Lib.Hide
namespace Go.Proofs.YtfangnjdfmaaoaaDoor
open Go.RowKit Num Go.Sort Go.PlainAid

def bd (l : List UInt8) (i : Nat) : UInt8 := l.getD i 0
theorem bd_at (l : List UInt8) (i : Nat) (h : i < l.length) : bd l i = l[i] := by unfold bd; simp [List.getD_eq_getElem?_getD, List.getElem?_eq_getElem h]
theorem bcells_at (l : List UInt8) (i : Nat) (h : i < l.length) : (Lib.byteCells l)[i]? = some (.int .u8 ((bd l i).toNat : Int)) := by
  rw [bd_at l i h]; simp [Lib.byteCells, h]
theorem bcells_set (l : List UInt8) (i : Nat) (c : UInt8) : (Lib.byteCells l).set i (.int .u8 (c.toNat : Int)) = Lib.byteCells (l.set i c) := by simp [Lib.byteCells, List.map_set]
theorem bd_set (l : List UInt8) (k : Nat) (c : UInt8) (i : Nat) (h : k < l.length) : bd (l.set k c) i = if i = k then c else bd l i := by
  unfold bd
  simp only [List.getD_eq_getElem?_getD, List.getElem?_set]
  by_cases e : i = k
  · subst e; simp [h]
  · rw [if_neg (fun h => e h.symm), if_neg e]

theorem nd_pow : ∀ k u, u < 10 ^ (k + 1) → Lib.nDigits u ≤ k + 1
  | 0, u, h => by rw [Lib.nDigits_small (by simpa using h)]; omega
  | k + 1, u, h => by
    by_cases h1 : u < 10
    · rw [Lib.nDigits_small h1]; omega
    · rw [Lib.nDigits_big h1]
      have := nd_pow k (u / 10) (by rw [Nat.div_lt_iff_lt_mul (by omega)]; rw [Nat.pow_succ] at h; exact h)
      omega

/-- One digit more, behind what is there: the text grows from its end. -/
theorem rev_step {m x : Nat} {l : List UInt8} (h : Lib.decDigits m ++ l.reverse = Lib.decDigits x) :
    (m / 10 ≠ 0 → Lib.decDigits (m / 10) ++ (l ++ [UInt8.ofNat (48 + m % 10)]).reverse = Lib.decDigits x) ∧ (m / 10 = 0 → (l ++ [UInt8.ofNat (48 + m % 10)]).reverse = Lib.decDigits x) := by
  rw [List.reverse_append, List.reverse_cons, List.reverse_nil, List.nil_append]
  refine ⟨fun hq => ?_, fun hq => ?_⟩
  · have h1 := decDigits_snoc (m / 10) (m % 10) (by omega) (by omega)
    rw [show m / 10 * 10 + m % 10 = m by omega] at h1
    rw [← h, h1, List.append_assoc]
  · have h1 := Lib.decDigits_one (i := m) (by omega)
    rw [show m % 10 = m by omega, ← h, h1]

theorem rev_len {m x : Nat} {l : List UInt8} (h : Lib.decDigits m ++ l.reverse = Lib.decDigits x) : l.length + 1 ≤ Lib.nDigits x := by
  have h1 := congrArg List.length h
  rw [List.length_append, List.length_reverse, Lib.decDigits_length, Lib.decDigits_length] at h1
  have := Lib.nDigits_pos m
  omega

/-- Halfway through the turning round. -/
def RevAt (l l' : List UInt8) (i j : Nat) : Prop := l'.length = l.length ∧ i + j + 1 = l.length ∧ ∀ q, q < l.length → bd l' q = if q < i ∨ j < q then bd l (l.length - 1 - q) else bd l q

theorem RevAt.start {l : List UInt8} {n : Nat} (h : l.length = n + 1) : RevAt l l 0 n := ⟨rfl, by omega, fun q hq => by rw [if_neg (by omega)]⟩

theorem RevAt.next {l l' : List UInt8} {i j : Nat} (h : RevAt l l' i j) (hij : i < j) : RevAt l ((l'.set i (bd l' j)).set j (bd l' i)) (i + 1) (j - 1) := by
  obtain ⟨h1, h2, h3⟩ := h
  refine ⟨by simp [h1], by omega, fun q hq => ?_⟩
  rw [bd_set _ _ _ _ (by rw [List.length_set]; omega), bd_set _ _ _ _ (by omega)]
  by_cases e1 : q = j
  · subst e1
    rw [if_pos rfl, if_pos (by omega), h3 i (by omega), if_neg (by omega), show l.length - 1 - q = i by omega]
  · rw [if_neg e1]
    by_cases e2 : q = i
    · subst e2
      rw [if_pos rfl, if_pos (by omega), h3 j (by omega), if_neg (by omega), show l.length - 1 - q = j by omega]
    · rw [if_neg e2, h3 q hq]
      by_cases e3 : q < i ∨ j < q
      · rw [if_pos e3, if_pos (by omega)]
      · rw [if_neg e3, if_neg (by omega)]

theorem RevAt.end {l l' : List UInt8} {i j : Nat} (h : RevAt l l' i j) (hij : j ≤ i) : l' = l.reverse := by
  obtain ⟨h1, h2, h3⟩ := h
  apply List.ext_getElem (by simp [h1])
  intro q hq hq'
  have h4 := h3 q (by omega)
  rw [bd_at l' q hq] at h4
  rw [h4, List.getElem_reverse, ← bd_at l _ (by omega)]
  by_cases e : q < i ∨ j < q
  · rw [if_pos e]
  · rw [if_neg e, show l.length - 1 - q = q by omega]

/-- Digits of a list of its own are as they were where another row has grown. -/
theorem BigIs.grown {w w' : World} {g k c n : Nat} {row : Option Nat} (h : BigIs w (.slice (some ⟨g, 0, none⟩) k c) n) (hg : w.grownBy w' row) (hr : some g ≠ row) : BigIs w' (.slice (some ⟨g, 0, none⟩) k c) n := by
  obtain ⟨ds, ⟨a, cap, hv, hc, hi⟩, h2, h3⟩ := h
  refine ⟨ds, ⟨a, cap, hv, hc, fun i hl => ?_⟩, h2, h3⟩
  obtain ⟨b, off, ha, hlt, hcell⟩ := hi i hl
  subst ha
  cases hv
  exact ⟨_, _, rfl, Nat.lt_of_lt_of_le hlt hg.size, (World.cell?_of_block (hg.block _ hlt hr)).trans hcell⟩

theorem below_alloc3 (w : World) (o : Obj) : Below w.heap.size w (w.alloc o) := (Below.refl _ _).alloc (Nat.le_refl _) _

def slen : Value → Nat
  | .slice _ n _ => n
  | _ => 0

set_option maxRecDepth 100000 in
set_option maxHeartbeats 4000000 in
theorem itext_pos {p x : Nat} {w : World} (hp : IntIs w p x) (hx : x < 4294967296 ^ 1000) (hx5 : x < 10 ^ (499 + 1)) (h0 : x ≠ 0) :
    Calls Tryd.prog 48 #[.pointer (some ⟨p, 0, none⟩), .int .i64 10] w fun e w' => e = .returned (.string ⟨(Lib.decDigits x).toArray⟩) ∧ Below w.heap.size w w' := by
  obtain ⟨p0, p1, vp, p2, p3⟩ := hp
  have hnd : Lib.nDigits x ≤ 500 := nd_pow 499 x hx5
  have HT := Lib.hid (twin_big p3 hx h0)
  obtain ⟨ds, ⟨aa, ca, rfl, -⟩, h2, h3⟩ := p3
  have hl0 : ((ds.length : Int) == 0) = false := by
    rw [beq_eq_false_iff_ne]; intro h
    exact h0 (by rw [← h3]; exact (val_zero (by omega) h2).2 (by omega))
  have HX : Hid (x < 4294967296 ^ 1000) := hx
  clear hx hx5 h2 h3
  obtain ⟨i0, hi, hz0, hz1, hz2⟩ := info_parts info5
  go_enter Tryd.func48, Tryd.ntmps48
  go_wp2_with fail
  refine HT.out.mono ?_
  rintro e w1 ⟨v1, rfl, hn1, hb1⟩
  obtain ⟨a1, k1, c1, rfl⟩ := hn1.form
  clear HT hl0
  go_wp2_with fail
  go_loopw [5, 6, 7] (fun b a r wr => ∃ (l : List UInt8) (m : Nat) (ab : Option Addr) (cb : Nat) (a2 : Option Addr) (k2 c2 : Nat), b = .slice ab l.length cb ∧ a = .slice a2 k2 c2 ∧ BigIs wr (.slice a2 k2 c2) m ∧ m ≤ x ∧ (m ≠ 0 → Lib.decDigits m ++ l.reverse = Lib.decDigits x) ∧ (m = 0 → l.reverse = Lib.decDigits x) ∧ l.length ≤ 500 ∧ wr.ownsRow w.heap.size 5 1 (.slice ab l.length cb) l.length (Lib.byteCells l) ∧ Below w.heap.size w wr)
    (fun b _ _ _ => Lib.nDigits x - slen b)
  case atStart =>
    exact ⟨[], x, none, 0, a1, k1, c1, rfl, rfl, hn1, Nat.le_refl _, fun _ => by simp, fun h => absurd h h0, Nat.zero_le _, World.ownsRow_nil _ _ _ _, hb1⟩
  case round =>
    obtain ⟨l, m, ab, cb, a2, k2, c2, rfl, rfl, hm, hmx, hy, hn, hlen, hown, hbel⟩ := hrel
    have HY : Hid (m ≠ 0 → Lib.decDigits m ++ l.reverse = Lib.decDigits x) := hy
    have HN : Hid (m = 0 → l.reverse = Lib.decDigits x) := hn
    have p1r : wr.cell? ⟨p, 0, none⟩ = some (.bool false) := (hbel.cell (p := ⟨p, 0, none⟩) p0).trans p1
    clear hy hn hn1 hb1
    by_cases hm0 : m = 0
    · have hlr := HN.out hm0
      have hk2 : k2 = 0 := by
        obtain ⟨es, ⟨a3, c3, he, -⟩, e2, e3⟩ := hm
        cases he
        exact (val_zero (by omega) e2).1 (e3.trans hm0)
      subst hk2
      have hll : l.length = Lib.nDigits x := by
        have := congrArg List.length hlr
        rwa [List.length_reverse, Lib.decDigits_length] at this
      have hlp := Lib.nDigits_pos x
      obtain ⟨n, hn⟩ : ∃ n, l.length = n + 1 := ⟨l.length - 1, by omega⟩
      have HLR : Hid (l.reverse = Lib.decDigits x) := hlr
      obtain ⟨g, rfl⟩ : ∃ g, ab = some ⟨g, 0, none⟩ := by
        rcases hown.2 with ⟨e1, e2⟩ | ⟨g, cap, cur, e1, -⟩
        · omega
        · cases e1; exact ⟨g, rfl⟩
      have hgw := (hown.lt g rfl).1
      rw [hn] at hown ⊢
      have HLL : Hid (l.length = n + 1) := hn
      have hn500 : n ≤ 500 := by omega
      clear hlr hll hlp hm hm0 HY HN hnd hlen hn
      go_wp2_with fail
      go_loopw [8, 9, 10] (fun iv jv tv wr => ∃ (i j : Nat) (l' : List UInt8), iv = .int .i64 i ∧ jv = .int .i64 j ∧ i + j = n ∧ RevAt l l' i j ∧ wr.ownsRow w.heap.size 5 1 (.slice (some ⟨g, 0, none⟩) (n + 1) cb) (n + 1) (Lib.byteCells l') ∧ Below w.heap.size w wr)
        (fun iv _ _ _ => n - (intOf iv).toNat)
      case atStart =>
        exact ⟨0, n, l, rfl, by go_num, by omega, RevAt.start HLL.out, hown, hbel⟩
      case round =>
        obtain ⟨i, j, l', rfl, rfl, hij, hrev, hownr, hbelr⟩ := hrel
        have HR : Hid (RevAt l l' i j) := hrev
        have hl' : l'.length = n + 1 := hrev.1.trans HLL.out
        clear hrev hown hbel p1r
        by_cases hlt : i < j
        · have ci := hownr.cellAt i (by omega)
          rw [bcells_at l' i (by omega)] at ci
          have cj := hownr.cellAt j (by omega)
          rw [bcells_at l' j (by omega)] at cj
          have fi := hownr.frozenAt i
          have hown2 := (hownr.stored i (.int .u8 ((bd l' j).toNat : Int))).1
          rw [bcells_set] at hown2
          have cj2 : (wr.setCell ⟨g, i, none⟩ (.int .u8 ((bd l' j).toNat : Int))).cell? ⟨g, j, none⟩ = some (.int .u8 ((bd l' j).toNat : Int)) := by
            rw [World.cell?_setCell_other _ _ _ _ (fun e => by cases e; omega)]; exact cj
          have fj2 := hown2.frozenAt j
          have hown3 := (hown2.stored j (.int .u8 ((bd l' i).toNat : Int))).1
          rw [bcells_set] at hown3
          have hbel3 := (hbelr.setCell (p := ⟨g, i, none⟩) hgw (.int .u8 ((bd l' j).toNat : Int))).setCell (p := ⟨g, j, none⟩) hgw (.int .u8 ((bd l' i).toNat : Int))
          clear hown2
          go_wp2
          go_roundw
          case rel =>
            exact ⟨i + 1, j - 1, _, by go_num, by go_num, by omega, HR.out.next hlt, hown3, hbel3⟩
          case measure => simp [intOf]; omega
        · have hE := HR.out.end (by omega)
          have hne : l' ≠ [] := by intro h; rw [h] at hl'; simp at hl'
          rw [← hl'] at hownr
          have hcv := conv_owned hownr hne wr (fun _ _ => rfl)
          rw [hl'] at hcv
          clear hownr
          go_wp2
          go_ret
          refine ⟨?_, hbelr⟩
          rw [← HLR.out]
          rfl
    · have hst := rev_step (HY.out hm0)
      have hrl := rev_len (HY.out hm0)
      have HST := Lib.hid hst
      have hk2 : 0 < k2 := by
        obtain ⟨es, ⟨a3, c3, he, -⟩, e2, e3⟩ := hm
        cases he
        have : es.length ≠ 0 := fun h => hm0 (e3.symm.trans ((val_zero (by omega) e2).2 h))
        omega
      have HSM := Lib.hid (small_new hm (Nat.lt_of_le_of_lt hmx HX.out))
      clear hst HY HN hm
      go_wp2_with fail
      refine HSM.out.mono ?_
      rintro e w3 ⟨k3, c3, rfl, hn3, hb3⟩
      clear HSM hk2
      have hown3 := owns_below hown hb3
      have hbel3 := hbel.trans (hb3.mono hbel.size)
      have hsz3 := hbel3.size
      have hsr := hbel.size
      obtain ⟨d, hd⟩ : ∃ d, d = m % 10 := ⟨_, rfl⟩
      have hd9 : d ≤ 9 := by omega
      rw [← hd]
      have HD : Hid (d = m % 10) := hd
      clear hd
      go_wp2_with (at_builtin; refine wpList_append_own _ rfl _ _ 72 rfl w.heap.size 5 i0 (.int .u8 0) 1 1 Tryd.underlying72 hi hz0 hz1 hz2 rfl (by decide) _ _ _ rfl (hown3.alloc _) ⟨w3.heap.size, 0, none⟩ 1 1 [.int .u8 (48 + (d : Int))] rfl rfl ?c1 ?c2 ?c3 ?c4 ?c5 ?_)
      case c1 => exact cell_one_new _ _ _
      case c2 => intro u hu; simp at hu; subst hu; rfl
      case c3 => unfold maxLen; omega
      case c4 => omega
      case c5 => simp; omega
      · intro v' w4 hown' hgrow _
        have hbel' : Below w.heap.size w w4 := (hbel3.alloc hsz3 _).grown hgrow (by simp; omega) (fun k hk => (hown3.lt k hk).1)
        have hn4 := (hn3.below (below_alloc3 w3 _)).grown hgrow (fun e => by have h5 := (hown.lt _ e.symm).2; exact absurd h5 (Nat.lt_irrefl _))
        obtain ⟨a', cap', hv, -⟩ := owns_form hown'
        subst hv
        clear hown hgrow hbel hown3 hn3
        go_wp2
        go_roundw
        case rel =>
          refine ⟨l ++ [UInt8.ofNat (48 + m % 10)], m / 10, a', cap', _, k3, c3, by rw [List.length_append]; rfl, rfl, hn4, by omega, HST.out.1, HST.out.2, by simp; omega, ?_, hbel'⟩
          rw [List.length_append, Lib.byteCells_append]
          have hc : Lib.byteCells [UInt8.ofNat (48 + m % 10)] = [.int .u8 (48 + (d : Int))] := by
            simp only [Lib.byteCells, List.map_cons, List.map_nil]
            rw [UInt8.toNat_ofNat', ← HD.out, Nat.mod_eq_of_lt (by omega)]
            simp
          rw [hc]
          exact hown'
        case measure => simp [slen]; omega
end Go.Proofs.YtfangnjdfmaaoaaDoor
