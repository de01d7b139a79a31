/- Texts of decimal digits: what they come to. No program stands in it. -/
import Derived.Test.YtcjjekhecjmaeaaGreatDoorImLaid
import Derived.Stop.LaidErr
import Derived.Lib.LaidTab
import Derived.Test.YtcjjekhecjmaeaaGreatDoorErErrs
import Derived.Test.YtcjjekhecjmaeaaGreatDoorCnNum
import Derived.PlainAid
set_option maxHeartbeats 1000000
set_option maxRecDepth 100000
namespace Go.Proofs.YtcjjekhecjmaeaaGreatDoor
open Go.ChangeShapes Go.WideShapes Go.ChangeAt Go.RowKit Go.Shelf
theorem ml_of {W : World} (h : W.ShapedOpen Tryz.prog) : ∃ n, W.cell? ⟨2, 0, none⟩ = some (.int .i64 n) :=
 cell_of_shapedOpen_int (zero := #[.int .i64 0]) (t := 3) h (of_decide_eq_true (by kernel_rfl)) (by kernel_rfl) rfl (by kernel_rfl) (by kernel_rfl) Tryz.underlying3
def cellsQ2 : DataW Unit -> List Value
 | .agg l => l.flatMap cellsIn1
 | d => cellsIn1 d
def cellsQ : DataW Unit -> Array Value
 | .agg l => (l.flatMap cellsQ2).toArray
 | _ => #[]
noncomputable def laidWorldM (os : Os) : World :=
 { laidWorldT os with heap := ((laidWorldT os).heap.modify 5 (refill (cellsQ Rows.laid_unicode_utf8_first))).modify 6 (refill (cellsQ Rows.laid_unicode_utf8_acceptRanges)) }
theorem i64_of {x : Int} (h : (Lit.int .i64 x).wf = true) : -9223372036854775808 <= x /\ x <= 9223372036854775807 := by
 simp [Lit.wf, IntKind.min, IntKind.max, IntKind.signed, IntKind.bits] at h
 exact ⟨by omega, by omega⟩
end Go.Proofs.YtcjjekhecjmaeaaGreatDoor
namespace Go.Proofs.YtcjjekhecjmaeaaGreatDoor
open Go.RowKit Num Go.Sort
theorem Dig.take {k : IntKind} {w : World} {a : Option Addr} {cap n : Nat} {ds : List Nat} (h : Dig k w (.slice a ds.length cap) ds) (hn : n <= ds.length) : Dig k w (.slice a n cap) (ds.take n) := by
 obtain ⟨a', cap', hv, hc, hi⟩ := h
 cases hv
 have hl : (ds.take n).length = n := by rw [List.length_take, Nat.min_eq_left hn]
 refine ⟨a, cap, by rw [hl], by omega, fun i hlt => ?_⟩
 rw [hl] at hlt
 obtain ⟨b, off, ha, hb, hcell⟩ := hi i (by omega)
 exact ⟨b, off, ha, hb, by rw [dig_take, if_pos hlt]; exact hcell⟩
theorem Dig.setCell {k : IntKind} {w : World} {v : Value} {ds : List Nat} {B : Nat} (h : Dig k w v ds) (hb : w.heap.size <= B) {W : World} (hW : Below w.heap.size w W) (u : Value) : Dig k (W.setCell ⟨B, 0, none⟩ u) v ds :=
 h.below (hW.setCell hb u)
theorem trimmed_any (v : Value) (ds : List Nat) (w : World) (hd : Dig .u64 w v ds) (sm : ∀ i, dig ds i < 1000000000) (hl : ds.length <= 100000) :
  Calls Tryz.prog 142 #[v] w fun e w' => ∃ v', e = .returned (.agg #[v']) /\ ∃ ds', Dig .u64 w' v' ds' /\ Norm 1000000000 ds' /\ val 1000000000 ds' = val 1000000000 ds /\ ds'.length <= ds.length /\ Below w.heap.size w w' := by
 obtain ⟨a, cap, hv, hc, hcell⟩ := id hd
 subst hv
 have HC : Hid (∀ i, i < ds.length -> ∃ b off, a = some ⟨b, off, none⟩ /\ b < w.heap.size /\ w.cell? ⟨b, off + i, none⟩ = some (.int .u64 ((dig ds i : Nat) : Int))) := hcell
 clear hcell
 go_enter Tryz.func142, Tryz.ntmps142
 go_wp2_with fail
 go_loop [3] (fun n => ∃ k : Nat, k <= ds.length /\ n = .int .i64 k /\ ∀ i, k <= i -> dig ds i = 0) (fun n => (intOf n).toNat)
 case atStart => exact ⟨ds.length, Nat.le_refl _, rfl, fun i hi => dig_beyond ds i hi⟩
 case round =>
  obtain ⟨k, hk, rfl, hz⟩ := hrel
  have HZ : Hid (∀ i, k <= i -> dig ds i = 0) := hz
  clear hz
  by_cases h0 : k = 0
  ·subst h0
   have hx := norm_take (B := 1000000000) (k := 0) (by omega) sm (Nat.zero_le _) (fun h => absurd rfl h)
   have hval := val_take (B := 1000000000) (k := 0) (Nat.zero_le _) HZ.out
   have hnil : ds.take 0 = [] := rfl
   rw [hnil] at hx hval
   go_wp2
   refine bodyPost_ret (v := .agg #[.slice none 0 0]) (by simp [results, Tryz.results142, go_sem]) rfl ?_
   exact ⟨_, rfl, [], Dig.nil _ _, hx, hval, Nat.zero_le _, (Below.refl _ _).alloc (Nat.le_refl _) _⟩
  ·obtain ⟨j, rfl⟩ : ∃ j, k = j + 1 := ⟨k - 1, by omega⟩
   obtain ⟨b, off, ha, hb, hcl⟩ := HC.out j (by omega)
   subst ha
   have hne : ¬ b = w.heap.size := by omega
   have hj := sm j
   by_cases hzj : dig ds j = 0
   ·rw [hzj] at hcl
    go_wp2
    go_round
    case rel =>
     refine ⟨j, by omega, by go_num, fun i hi => ?_⟩
     by_cases e : i = j
     ·rw [e]; exact hzj
     ·exact HZ.out i (by omega)
    case measure => simp [intOf]
   ·have hbq : (((dig ds j : Nat) : Int) == 0) = false := by rw [beq_eq_false_iff_ne]; omega
    have hx := norm_take (B := 1000000000) (k := j + 1) (by omega) sm hk (fun _ => hzj)
    have hval := val_take (B := 1000000000) hk HZ.out
    have hDt := Dig.take hd hk
    clear hzj
    go_wp2
    refine bodyPost_ret (v := .agg #[.slice (some ⟨b, off, none⟩) (j + 1) cap]) (by simp [results, Tryz.results142, go_sem]) rfl ?_
    exact ⟨_, rfl, ds.take (j + 1), hDt.below ((Below.refl _ _).alloc (Nat.le_refl _) _), hx, hval, by rw [List.length_take]; omega, (Below.refl _ _).alloc (Nat.le_refl _) _⟩
end Go.Proofs.YtcjjekhecjmaeaaGreatDoor
namespace Go.Proofs.YtcjjekhecjmaeaaGreatDoor
open Go.RowKit Num Go.Sort
theorem infoU64 : (Tryz.prog.info? 90).map (fun i => (i.zero, i.size, i.bytes)) = some (some (.int .u64 0), 1, 8) := by kernel_rfl
theorem of_any (n : Int) (w : World) (h0 : -9223372036854775808 <= n) (h1 : n <= 9223372036854775807) :
  Calls Tryz.prog 108 #[.int .i64 n] w fun e w' => ∃ v, e = .returned (.agg #[v]) /\ ∃ ds, Dig .u64 w' v ds /\ Norm 1000000000 ds /\ val 1000000000 ds = n.toNat /\ Below w.heap.size w w' := by
 obtain ⟨i0, hi, hz0, hz1, hz2⟩ := info_parts infoU64
 go_enter Tryz.func108, Tryz.ntmps108
 go_wp2_with fail
 go_loopw [0, 3] (fun i v wr => ∃ (ds : List Nat) (m : Int) (a : Option Addr) (cap : Nat), i = .int .i64 m /\ v = .slice a ds.length cap /\ -9223372036854775808 <= m /\ m <= 9223372036854775807 /\ (∀ i, dig ds i < 1000000000) /\ (m <= 0 -> ds.length ≠ 0 -> dig ds (ds.length - 1) ≠ 0) /\ val 1000000000 ds + m.toNat * 1000000000 ^ ds.length = n.toNat /\ wr.ownsRow (w.heap.size + 1) 90 1 (.slice a ds.length cap) ds.length (dcells .u64 ds) /\ Below (w.heap.size + 1) (w.alloc (.cells #[.slice none 0 0] 30)) wr)
   (fun i _ _ => (intOf i).toNat)
 case atStart => exact ⟨[], n, none, 0, rfl, rfl, h0, h1, fun i => by rw [dig_nil]; omega, fun _ h => absurd rfl h, by simp [val_nil], World.ownsRow_nil _ _ _ _, Below.refl _ _⟩
 case round =>
  obtain ⟨ds, m, a, cap, rfl, rfl, hm0, hm1, hsm, hlast, hval, hown, hbel⟩ := hrel
  have HV := hval
  by_cases hpos : 0 < m
  ·obtain ⟨m, rfl⟩ := Int.eq_ofNat_of_zero_le (show 0 <= m by omega)
   rw [Int.toNat_natCast] at hval
   have hlen := of_len (by omega) (by omega) hval
   have hsz := hbel.size
   simp only [World.size_alloc] at hsz
   go_wp2_with (at_builtin; refine wpList_append_own _ rfl _ _ 28 rfl (w.heap.size + 1) 90 i0 (.int .u64 0) 1 8 Tryz.underlying28 hi hz0 hz1 hz2 rfl (by decide) _ _ _ rfl (hown.alloc _) ⟨wr.heap.size, 0, none⟩ 1 1 [.int .u64 ((m : Int) % 1000000000)] rfl rfl ?c1 ?c2 ?c3 ?c4 ?c5 ?_)
   case c1 => exact cell_one_new _ _ _
   case c2 => intro u hu; simp at hu; subst hu; rfl
   case c3 => unfold maxLen; omega
   case c4 => omega
   case c5 => simp; omega
   ·intro v' w1 hown' hgrow _
    have hbel' : Below (w.heap.size + 1) (w.alloc (.cells #[.slice none 0 0] 30)) w1 := (hbel.alloc (by omega) _).grown hgrow (by simp; omega) (fun k hk => (hown.lt k hk).1)
    obtain ⟨a', cap', hv, -⟩ := owns_form hown'
    clear hown hgrow hbel
    go_wp2
    go_roundw
    case rel =>
     refine ⟨ds ++ [m % 1000000000], ((m / 1000000000 : Nat) : Int), a', cap', by go_num, by rw [hv]; simp, by omega, by omega, small_snoc hsm (by omega), fun h _ => ?_, ?_, ?_, hbel'⟩
     ·rw [last_snoc]; omega
     ·rw [Int.toNat_natCast]; exact of_step hval
     ·rw [hv] at hown'
      rw [dcells_snoc]
      simpa using hown'
    case measure => simp [intOf]; omega
  ·have hc : wr.cell? ⟨w.heap.size, 0, none⟩ = some (.slice none 0 0) := (hbel.cell (p := ⟨w.heap.size, 0, none⟩) (by simp)).trans (by simp)
   have hf : wr.frozen? ⟨w.heap.size, 0, none⟩ = false := (hbel.frozen (p := ⟨w.heap.size, 0, none⟩) (by simp)).trans (by simp)
   have hcs : (wr.setCell ⟨w.heap.size, 0, none⟩ (.slice a ds.length cap)).cell? ⟨w.heap.size, 0, none⟩ = some (.slice a ds.length cap) := World.cell?_setCell_same' _ _ _ (by simp [hc])
   go_wp2
   refine bodyPost_ret (v := .agg #[.slice a ds.length cap]) (by simp [results, Tryz.results108, go_sem, hcs]) rfl ?_
   refine ⟨.slice a ds.length cap, rfl, ds, Dig.of_owns (ownsRow_setCell_below hown (Nat.lt_succ_self _) _), ⟨hsm, hlast (by omega)⟩, ?_, ?_⟩
   ·have : m.toNat = 0 := by omega
    rw [this] at hval; simpa using hval
   ·exact (((Below.refl _ _).alloc (Nat.le_refl _) _).trans (hbel.mono (by omega))).setCell (Nat.le_refl _) _
end Go.Proofs.YtcjjekhecjmaeaaGreatDoor
namespace Go.Proofs.YtcjjekhecjmaeaaGreatDoor.Num
open Go.PlainAid
structure OkText (s : ByteArray) : Prop where
 pos : 0 < s.size
 head : bt s 0 = 48 -> s.size = 1
 digits : ∀ k, k < s.size -> 48 <= bt s k /\ bt s k <= 57
def pre (s : ByteArray) : Nat -> Nat
 | 0 => 0
 | k + 1 => pre s k * 10 + (bt s k - 48).toNat
theorem pre_succ (s : ByteArray) (k : Nat) : pre s (k + 1) = pre s k * 10 + (bt s k - 48).toNat := rfl
theorem pre_lt (s : ByteArray) (h : ∀ k, k < s.size -> 48 <= bt s k /\ bt s k <= 57) : ∀ k, k <= s.size -> pre s k < 10 ^ k
 | 0, _ => by simp [pre]
 | k + 1, hk => by
  have h1 := pre_lt s h k (by omega)
  have h2 := h k (by omega)
  rw [pre_succ, Nat.pow_succ]
  omega
def mid (s : ByteArray) (b : Nat) : Nat -> Nat
 | 0 => 0
 | m + 1 => mid s b m * 10 + (bt s (b + m) - 48).toNat
theorem mid_succ (s : ByteArray) (b m : Nat) : mid s b (m + 1) = mid s b m * 10 + (bt s (b + m) - 48).toNat := rfl
theorem pre_mid (s : ByteArray) (b : Nat) : ∀ m, pre s (b + m) = pre s b * 10 ^ m + mid s b m
 | 0 => by simp [mid]
 | m + 1 => by
  rw [<- Nat.add_assoc, pre_succ, pre_mid s b m, mid_succ, Nat.pow_succ]
  generalize 10 ^ m = p
  grind
theorem mid_lt (s : ByteArray) (h : ∀ k, k < s.size -> 48 <= bt s k /\ bt s k <= 57) (b : Nat) : ∀ m, b + m <= s.size -> mid s b m < 10 ^ m
 | 0, _ => by simp [mid]
 | m + 1, hk => by
  have h1 := mid_lt s h b m (by omega)
  have h2 := h (b + m) (by omega)
  rw [mid_succ, Nat.pow_succ]
  omega
theorem parse_step {s : ByteArray} {L k : Nat} {out : List Nat} (hk : k < out.length) (hL : 9 * k < L) (h : pre s L = pre s (L - 9 * k) * 1000000000 ^ k + S 1000000000 (dig out) k) :
  pre s L = pre s (L - 9 * (k + 1)) * 1000000000 ^ (k + 1) + S 1000000000 (dig (out.set k (mid s (L - 9 * k - 9) (L - 9 * k - (L - 9 * k - 9))))) (k + 1) := by
 have h1 := pre_mid s (L - 9 * k - 9) (L - 9 * k - (L - 9 * k - 9))
 rw [show L - 9 * k - 9 + (L - 9 * k - (L - 9 * k - 9)) = L - 9 * k by omega] at h1
 rw [S_succ, S_congr 1000000000 (dig (out.set k (mid s (L - 9 * k - 9) (L - 9 * k - (L - 9 * k - 9))))) (dig out) k (fun i hi => by rw [dig_set _ _ _ _ hk, if_neg (by omega)]), dig_set _ _ _ _ hk, if_pos rfl]
 rw [show L - 9 * (k + 1) = L - 9 * k - 9 by omega, Nat.pow_succ]
 have h2 : pre s (L - 9 * k) = pre s (L - 9 * k - 9) * 1000000000 + mid s (L - 9 * k - 9) (L - 9 * k - (L - 9 * k - 9)) := by
  by_cases h9 : 9 <= L - 9 * k
  ·rw [h1, show L - 9 * k - (L - 9 * k - 9) = 9 by omega]
  ·rw [h1, show L - 9 * k - 9 = 0 by omega]; simp [pre]
 rw [h, h2]
 generalize pre s (L - 9 * k - 9) = p
 generalize mid s (L - 9 * k - 9) (L - 9 * k - (L - 9 * k - 9)) = q
 generalize 1000000000 ^ k = B
 generalize S 1000000000 (dig out) k = t
 grind
open Go.Lib
theorem size_extract (s : ByteArray) {lo hi : Nat} (h : hi <= s.size) : (s.extract lo hi).size = hi - lo := by
 rw [ByteArray.size_extract]; omega
theorem bt_extract (s : ByteArray) {lo hi k : Nat} (h : hi <= s.size) (hk : k < hi - lo) : bt (s.extract lo hi) k = bt s (lo + k) := by
 have h1 : k < (s.extract lo hi).size := by rw [size_extract s h]; exact hk
 unfold bt
 rw [dif_pos h1, dif_pos (by omega)]
 congr 2
 rw [ByteArray.getElem_extract]
theorem pre_extract (s : ByteArray) {lo hi : Nat} (h : hi <= s.size) : ∀ m, m <= hi - lo -> pre (s.extract lo hi) m = mid s lo m
 | 0, _ => rfl
 | m + 1, hm => by rw [pre_succ, mid_succ, pre_extract s h m (by omega), bt_extract s h (by omega)]
end Go.Proofs.YtcjjekhecjmaeaaGreatDoor.Num
