/- The contract of Of. -/
import Derived.Test.YtcjjekhecjmaeaaGreatDoorArBase
import Derived.Lib.ItoaLen
import Derived.RangeFuncBound
import Derived.Lib.ItoaNum
import Derived.Lib.AppendIntMem
import Derived.Shelf.Vars
import Derived.Stop.LaidErr
import Derived.Lib.LaidTab
import Derived.Test.YtcjjekhecjmaeaaGreatDoorCnBase
set_option maxHeartbeats 1000000
set_option maxRecDepth 100000
namespace Go.Proofs.YtcjjekhecjmaeaaGreatDoor
section
open Go.RowKit Go.Shelf Go.Sort
def Tab10 (w : World) : Prop := Lib.TabIs Tryz.prog w "internal/strconv.uint64pow10" .u64 Lib.pow10Tab
theorem Tab10.below {w w' : World} (h : Tab10 w) (hb : Below w.heap.size w w') : Tab10 w' := Lib.tabBelow_of_tabIs h w' hb
theorem itoa_int (n : Int) (hn : -9223372036854775808 <= n /\ n <= 9223372036854775807) (w : World) (hw : Tab10 w) : Calls Tryz.prog 43 #[.int .i64 n] w fun e w' => e = .returned (.string ⟨(Lib.itoa n).toArray⟩) /\ Below w.heap.size w w' :=
 (Tryz.strconv_Itoa n hn.1 hn.2 w hw).mono fun _ _ ⟨he, k, os, hw'⟩ => ⟨he, hw' ▸ Lib.below_grow _ w (Nat.le_refl _) k os⟩
theorem infoStr : (Tryz.prog.info? 9).map (fun i => (i.zero, i.size, i.bytes)) = some (some (.string ⟨#[]⟩), 1, 16) := by kernel_rfl
theorem row1_form {w : World} {base : Nat} {e : TypeId} {v : Value} {n : Nat} {xs : List Value} (h : w.ownsRow base e 1 v n xs) : ∃ a cap, v = .slice a n cap /\ n <= cap := by
 rcases h.2 with ⟨h1, h2⟩ | ⟨g, cap, cur, h1, _, _, h2, _⟩
 ·exact ⟨none, 0, by rw [h1, h2], by omega⟩
 ·exact ⟨_, cap, h1, h2⟩
theorem row1_below {B n b : Nat} {w w' : World} {v : Value} {t : TypeId} {cs : List Value} (h : w.ownsRow B t 1 v n cs) (hb : Below b w w') (hB : w.heap.size <= b) : w'.ownsRow B t 1 v n cs := by
 refine ⟨h.1, ?_⟩
 rcases h.2 with h1 | ⟨g, cap, cur, h1, h2, h3, h4⟩
 ·exact .inl h1
 ·exact .inr ⟨g, cap, cur, h1, h2, (hb.block g (by have := (h.lt g (by rw [h1]; rfl)).2; omega)).trans h3, h4⟩
theorem cell_str_new (w : World) (A : Value) (t : TypeId) : ∀ (j : Nat) (u : Value), [A][j]? = some u -> (w.alloc (.cells #[A] t)).cell? (Addr.add ⟨w.heap.size, 0, none⟩ j) = some u := by
 intro j u h
 match j, h with
 | 0, h => simp at h; subst h; simp [Addr.add]
 | j + 1, h => simp at h
def toldF (l : List Int) : List UInt8 := Lib.join (l.map Lib.itoa) [32]
def strOf (x : Int) : ByteArray := ⟨(Lib.itoa x).toArray⟩
def strL (l : List Int) : List Value := l.map fun x => .string (strOf x)
theorem strL_len (l : List Int) : (strL l).length = l.length := by simp [strL]
theorem strL_take (l : List Int) {k : Nat} (hk : k < l.length) : (strL l).take (k + 1) = (strL l).take k ++ [.string (strOf l[k])] := by
 rw [List.take_succ_eq_append_getElem (by rw [strL_len]; exact hk)]; simp [strL]
theorem join_len : ∀ (l : List Int), (∀ x ∈ l, -9223372036854775808 <= x /\ x <= 9223372036854775807) -> (Lib.join (l.map Lib.itoa) [32]).length <= 30 * l.length
 | [], _ => by simp [Lib.join]
 | [a], h => by
  have := Lib.itoa_length_le a (h a (by simp)).1 (h a (by simp)).2
  simp [Lib.join]; omega
 | a :: b :: l, h => by
  have h1 := Lib.itoa_length_le a (h a (by simp)).1 (h a (by simp)).2
  have h2 := join_len (b :: l) (fun x hx => h x (List.mem_cons_of_mem _ hx))
  simp [Lib.join] at h2 ⊢; omega
theorem join_c (l : List Int) (hl : 1 <= l.length) (hl3 : l.length <= 3) (hr : ∀ x ∈ l, -9223372036854775808 <= x /\ x <= 9223372036854775807) (g c : Nat) (W : World) (hg : g < W.heap.size) (hc : l.length <= c) (hcell : ∀ j, j < l.length -> W.cell? ⟨g, j, none⟩ = (strL l)[j]?) :
  Calls Tryz.prog 44 #[.slice (some ⟨g, 0, none⟩) l.length c, .string ⟨#[32]⟩] W fun e w' => e = .returned (.string ⟨(toldF l).toArray⟩) /\ Below W.heap.size W w' := by
 have e1 : (l.map strOf).map (·.data.toList) = l.map Lib.itoa := by rw [List.map_map]; exact List.map_congr_left (fun x _ => by simp [strOf])
 have := Tryz.strings_Join g 0 c (l.map strOf) ⟨#[32]⟩ W (fun j u hu => by
  have hj : j < l.length := by have := (List.getElem?_eq_some_iff.1 hu).1; simpa using this
  have h2 := hcell j hj
  rw [Nat.zero_add, h2]
  simp [strL, hj] at hu ⊢
  exact hu) hg (by rw [List.length_map]; omega) (by rw [List.length_map]; exact hc) (by
   rw [e1]; have := join_len l hr
   show (Lib.join (l.map Lib.itoa) [32]).length <= _
   omega)
 rw [List.length_map, e1] at this
 exact this
theorem itold_any (l : List Int) (hl : 1 <= l.length) (hl3 : l.length <= 3) (hr : ∀ x ∈ l, -9223372036854775808 <= x /\ x <= 9223372036854775807) (bs cp : Nat) (w : World) (hw : Tab10 w) (hbs : bs < w.heap.size) (h0 : ∀ j (h : j < l.length), w.cell? ⟨bs, j, none⟩ = some (.int .i64 l[j])) :
  Calls Tryz.prog 48 #[.slice (some ⟨bs, 0, none⟩) l.length cp] w fun e w' => e = .returned (.string ⟨(toldF l).toArray⟩) /\ Below w.heap.size w w' := by
 obtain ⟨i0, hi, hz0, hz1, hz2⟩ := info_parts infoStr
 have HI : Hid (∀ k (h : k < l.length) W, Below w.heap.size w W -> Calls Tryz.prog 43 #[.int .i64 l[k]] W fun e w' => e = .returned (.string (strOf l[k])) /\ Below W.heap.size W w') := fun k hk W hB => itoa_int _ (hr _ (List.getElem_mem hk)) W (hw.below hB)
 have HST : Hid (∀ k (h : k < l.length), (strL l).take (k + 1) = (strL l).take k ++ [.string (strOf l[k])]) := fun k hk => strL_take l hk
 have HJN : Hid (∀ (g c : Nat) (W : World), g < W.heap.size -> l.length <= c -> (∀ j, j < l.length -> W.cell? ⟨g, j, none⟩ = (strL l)[j]?) -> Calls Tryz.prog 44 #[.slice (some ⟨g, 0, none⟩) l.length c, .string ⟨#[32]⟩] W fun e w' => e = .returned (.string ⟨(toldF l).toArray⟩) /\ Below W.heap.size W w') := fun g c W h1 h2 h3 => join_c l hl hl3 hr g c W h1 h2 h3
 have HC0 : Hid (∀ W, Below w.heap.size w W -> ∀ j (h : j < l.length), W.cell? ⟨bs, j, none⟩ = some (.int .i64 l[j])) := fun W hB j hj => (hB.cell (p := ⟨bs, j, none⟩) hbs).trans (h0 j hj)
 have HL3 := Lib.hid (strL_len l)
 clear hw hr h0
 generalize strL l = S at *
 generalize (⟨(toldF l).toArray⟩ : ByteArray) = R at *
 have HLN : Hid (∃ N, N = l.length) := ⟨_, rfl⟩
 obtain ⟨N, hN⟩ := HLN.out
 have HN := Lib.hid hN
 rw [<- hN] at hl hl3
 rw [<- hN]
 clear hN HLN
 go_enter Tryz.func48, Tryz.ntmps48
 go_wp2_with fail
 go_loopw [3, 8] (fun v i wr => ∃ k : Nat, k <= N /\ i = .int .i64 (k : Int) /\ wr.ownsRow w.heap.size 9 1 v k (S.take k) /\ Below w.heap.size w wr) (fun _ i _ => N - (intOf i).toNat)
 case atStart => exact ⟨0, by omega, rfl, World.ownsRow_nil _ _ _ _, Below.refl _ _⟩
 case round =>
  obtain ⟨k, hk, rfl, hrow, hbr⟩ := hrel
  obtain ⟨va, vc, rfl, hvc⟩ := row1_form hrow
  have HROW := Lib.hid hrow
  have HBR := Lib.hid hbr
  clear hrow hbr
  by_cases hlt : k < N
  ·have i1 : (k : Int) < (N : Int) := by omega
   have hkl : k < l.length := by rw [<- HN.out]; exact hlt
   have c0 := HC0.out _ HBR.out k hkl
   have HIk := Lib.hid (HI.out k hkl)
   have HSk := Lib.hid (HST.out k hkl)
   generalize l[k] = x at *
   go_wp2_with fail
   refine (HIk.out _ HBR.out).mono ?_
   rintro e w1 ⟨rfl, hb1⟩
   have hsz := hb1.size
   have hsw := HBR.out.size
   have HR1 := Lib.hid (row1_below HROW.out hb1 (Nat.le_refl _))
   have HB1 : Hid (Below w.heap.size w w1) := HBR.out.trans (hb1.mono HBR.out.size)
   clear hb1 c0
   generalize strOf x = s at *
   go_wp2_with (at_builtin; refine wpList_append_own _ rfl _ _ 92 rfl w.heap.size 9 i0 (.string ⟨#[]⟩) 1 16 Tryz.underlying92 hi hz0 hz1 hz2 rfl (by decide) _ _ _ rfl (HR1.out.alloc _) ⟨w1.heap.size, 0, none⟩ 1 1 [.string s] rfl rfl ?c1 ?c2 ?c3 ?c4 ?c5 ?_)
   case c1 => exact cell_str_new _ _ _
   case c2 => intro u hu; simp at hu; subst hu; rfl
   case c3 => unfold maxLen; omega
   case c4 => omega
   case c5 => simp; omega
   intro v' w2 hown hgrow _
   have hb2 : Below w.heap.size w w2 := (HB1.out.alloc (by omega) _).grown hgrow (by simp; omega) (fun j hj => (HR1.out.lt j hj).1)
   rw [<- HSk.out] at hown
   have HO := Lib.hid hown
   have HB2 := Lib.hid hb2
   clear hown hgrow hb2
   go_wp2
   go_roundw
   case rel => exact ⟨k + 1, by omega, by go_num, HO.out, HB2.out⟩
   case measure => simp [intOf]; omega
  ·obtain rfl : N = k := by omega
   have hr := HROW.out
   rw [List.take_of_length_le (by rw [HL3.out, <- HN.out]; exact Nat.le_refl _)] at hr
   rcases hr.2 with ⟨h1, h2⟩ | ⟨g, cap, cur, h1, _⟩
   ·exact absurd h2 (by omega)
   ·cases h1
    have hcells : ∀ j, j < l.length -> wr.cell? ⟨g, j, none⟩ = S[j]? := fun j hj => by
     have := hr.cellAt j (by rw [HN.out]; omega)
     simpa using this
    have HJ3 := HJN.out g vc wr (hr.lt g rfl).2 (by rw [<- HN.out]; exact hvc) hcells
    rw [<- HN.out] at HJ3
    have HJ3 := Lib.hid HJ3
    clear hr hcells
    go_wp2_with fail
    refine HJ3.out.mono ?_
    rintro e w2 ⟨rfl, hb2⟩
    have HB2 : Hid (Below w.heap.size w w2) := HBR.out.trans (hb2.mono HBR.out.size)
    clear hb2
    go_wp2
    go_ret
    exact ⟨rfl, HB2.out⟩
end
section
open Go.ChangeShapes Go.WideShapes Go.ChangeAt Go.RowKit Go.Shelf
theorem gTab : Tryz.prog.globalNamed "internal/strconv.uint64pow10" = some 1 := by kernel_rfl
theorem gTabType : (Tryz.prog.globals[1]?).map (·.type) = some 225 := by kernel_rfl
theorem cellsTab : Tryz.prog.cellsOf 225 = 20 := by kernel_rfl
theorem cellsTabE : Tryz.prog.cellsOf 90 = 1 := by kernel_rfl
theorem tab_of {W : World} {l : List (String × DataW Unit)} (h : laidMetH Tryz.prog l W) (hk : (l.filter fun x => x.1 == "internal/strconv.uint64pow10") = [("internal/strconv.uint64pow10", Lib.tabData .u64 Lib.pow10Tab)]) : Tab10 W := by
 have h2 := h.filter fun x => x.1 == "internal/strconv.uint64pow10"
 rw [hk] at h2
 have h3 : laidMet Tryz.prog [("internal/strconv.uint64pow10", Lib.tabData .u64 Lib.pow10Tab)] W := h2
 exact Lib.tabIs_of_head (rest := []) gTab gTabType Tryz.underlying225 Tryz.underlying90 cellsTabE cellsTab h3
def cellsIn1 : DataW Unit -> List Value
 | .lit (.int k z) => [.int k z]
 | _ => [undef]
def cellsIn : DataW Unit -> Array Value
 | .agg l => (l.flatMap cellsIn1).toArray
 | _ => #[]
noncomputable def laidWorldT (os : Os) : World :=
 { World.holding Tryz.prog os ⟨#[], #[], []⟩ with heap := ((((World.holding Tryz.prog os ⟨#[], #[], []⟩).heap.modify 0 (refill #[.iface 200 (.agg #[.pointer (some ⟨7, 32, none⟩)])])).modify 1 (refill (cellsIn Rows.laid_internal_strconv_uint64pow10))).modify 3 (refill (cellsIn Rows.laid_math_bits_deBruijn32tab))).modify 4 (refill (cellsIn Rows.laid_math_bits_deBruijn64tab)) }
end
section
open Go.ChangeShapes Go.WideShapes Go.ChangeAt Go.RowKit Go.Shelf
theorem ml_of {W : World} (h : W.ShapedOpen Tryz.prog) : ∃ n, W.cell? ⟨2, 0, none⟩ = some (.int .i64 n) :=
 cell_of_shapedOpen_int (zero := #[.int .i64 0]) (t := 3) h (of_decide_eq_true (by kernel_rfl)) (by kernel_rfl) rfl (by kernel_rfl) (by kernel_rfl) Tryz.underlying3
def cellsQ2 : DataW Unit -> List Value
 | .agg l => l.flatMap cellsIn1
 | d => cellsIn1 d
def cellsQ : DataW Unit -> Array Value
 | .agg l => (l.flatMap cellsQ2).toArray
 | _ => #[]
noncomputable def laidWorldM (os : Os) : World :=
 { laidWorldT os with heap := ((laidWorldT os).heap.modify 5 (refill (cellsQ Rows.laid_unicode_utf8_first))).modify 6 (refill (cellsQ Rows.laid_unicode_utf8_acceptRanges)) }
theorem u64_of {x : Int} (h : (Lit.int .u64 x).wf = true) : ∃ n : Nat, x = (n : Int) /\ n < 18446744073709551616 := by
 simp [Lit.wf, IntKind.min, IntKind.max, IntKind.signed, IntKind.bits] at h
 exact ⟨x.toNat, by omega, by omega⟩
end
section
open Go.RowKit Num Go.Sort
theorem Dig.take {k : IntKind} {w : World} {a : Option Addr} {cap n : Nat} {ds : List Nat} (h : Dig k w (.slice a ds.length cap) ds) (hn : n <= ds.length) : Dig k w (.slice a n cap) (ds.take n) := by
 obtain ⟨a', cap', hv, hc, hi⟩ := h
 cases hv
 have hl : (ds.take n).length = n := by rw [List.length_take, Nat.min_eq_left hn]
 refine ⟨a, cap, by rw [hl], by omega, fun i hlt => ?_⟩
 rw [hl] at hlt
 obtain ⟨b, off, ha, hb, hcell⟩ := hi i (by omega)
 exact ⟨b, off, ha, hb, by rw [dig_take, if_pos hlt]; exact hcell⟩
theorem Dig.setCell {k : IntKind} {w : World} {v : Value} {ds : List Nat} {B : Nat} (h : Dig k w v ds) (hb : w.heap.size <= B) {W : World} (hW : Below w.heap.size w W) (u : Value) : Dig k (W.setCell ⟨B, 0, none⟩ u) v ds :=
 h.below (hW.setCell hb u)
theorem trimmed_any (v : Value) (ds : List Nat) (w : World) (hd : Dig .u64 w v ds) (sm : ∀ i, dig ds i < 1000000000) (hl : ds.length <= 100000) :
  Calls Tryz.prog 142 #[v] w fun e w' => ∃ v', e = .returned (.agg #[v']) /\ ∃ ds', Dig .u64 w' v' ds' /\ Norm 1000000000 ds' /\ val 1000000000 ds' = val 1000000000 ds /\ ds'.length <= ds.length /\ Below w.heap.size w w' := by
 obtain ⟨a, cap, hv, hc, hcell⟩ := id hd
 subst hv
 have HC : Hid (∀ i, i < ds.length -> ∃ b off, a = some ⟨b, off, none⟩ /\ b < w.heap.size /\ w.cell? ⟨b, off + i, none⟩ = some (.int .u64 ((dig ds i : Nat) : Int))) := hcell
 clear hcell
 go_enter Tryz.func142, Tryz.ntmps142
 go_wp2_with fail
 go_loop [3] (fun n => ∃ k : Nat, k <= ds.length /\ n = .int .i64 k /\ ∀ i, k <= i -> dig ds i = 0) (fun n => (intOf n).toNat)
 case atStart => exact ⟨ds.length, Nat.le_refl _, rfl, fun i hi => dig_beyond ds i hi⟩
 case round =>
  obtain ⟨k, hk, rfl, hz⟩ := hrel
  have HZ : Hid (∀ i, k <= i -> dig ds i = 0) := hz
  clear hz
  by_cases h0 : k = 0
  ·subst h0
   have hx := norm_take (B := 1000000000) (k := 0) (by omega) sm (Nat.zero_le _) (fun h => absurd rfl h)
   have hval := val_take (B := 1000000000) (k := 0) (Nat.zero_le _) HZ.out
   have hnil : ds.take 0 = [] := rfl
   rw [hnil] at hx hval
   go_wp2
   refine bodyPost_ret (v := .agg #[.slice none 0 0]) (by simp [results, Tryz.results142, go_sem]) rfl ?_
   exact ⟨_, rfl, [], Dig.nil _ _, hx, hval, Nat.zero_le _, (Below.refl _ _).alloc (Nat.le_refl _) _⟩
  ·obtain ⟨j, rfl⟩ : ∃ j, k = j + 1 := ⟨k - 1, by omega⟩
   obtain ⟨b, off, ha, hb, hcl⟩ := HC.out j (by omega)
   subst ha
   have hne : ¬ b = w.heap.size := by omega
   have hj := sm j
   by_cases hzj : dig ds j = 0
   ·rw [hzj] at hcl
    go_wp2
    go_round
    case rel =>
     refine ⟨j, by omega, by go_num, fun i hi => ?_⟩
     by_cases e : i = j
     ·rw [e]; exact hzj
     ·exact HZ.out i (by omega)
    case measure => simp [intOf]
   ·have hbq : (((dig ds j : Nat) : Int) == 0) = false := by rw [beq_eq_false_iff_ne]; omega
    have hx := norm_take (B := 1000000000) (k := j + 1) (by omega) sm hk (fun _ => hzj)
    have hval := val_take (B := 1000000000) hk HZ.out
    have hDt := Dig.take hd hk
    clear hzj
    go_wp2
    refine bodyPost_ret (v := .agg #[.slice (some ⟨b, off, none⟩) (j + 1) cap]) (by simp [results, Tryz.results142, go_sem]) rfl ?_
    exact ⟨_, rfl, ds.take (j + 1), hDt.below ((Below.refl _ _).alloc (Nat.le_refl _) _), hx, hval, by rw [List.length_take]; omega, (Below.refl _ _).alloc (Nat.le_refl _) _⟩
end
section
open Go.RowKit Num Go.Sort
theorem infoU64 : (Tryz.prog.info? 90).map (fun i => (i.zero, i.size, i.bytes)) = some (some (.int .u64 0), 1, 8) := by kernel_rfl
theorem of_any (n : Int) (w : World) (h0 : -9223372036854775808 <= n) (h1 : n <= 9223372036854775807) :
  Calls Tryz.prog 108 #[.int .i64 n] w fun e w' => ∃ v, e = .returned (.agg #[v]) /\ ∃ ds, Dig .u64 w' v ds /\ Norm 1000000000 ds /\ val 1000000000 ds = n.toNat /\ Below w.heap.size w w' := by
 obtain ⟨i0, hi, hz0, hz1, hz2⟩ := info_parts infoU64
 go_enter Tryz.func108, Tryz.ntmps108
 go_wp2_with fail
 go_loopw [0, 3] (fun i v wr => ∃ (ds : List Nat) (m : Int) (a : Option Addr) (cap : Nat), i = .int .i64 m /\ v = .slice a ds.length cap /\ -9223372036854775808 <= m /\ m <= 9223372036854775807 /\ (∀ i, dig ds i < 1000000000) /\ (m <= 0 -> ds.length ≠ 0 -> dig ds (ds.length - 1) ≠ 0) /\ val 1000000000 ds + m.toNat * 1000000000 ^ ds.length = n.toNat /\ wr.ownsRow (w.heap.size + 1) 90 1 (.slice a ds.length cap) ds.length (dcells .u64 ds) /\ Below (w.heap.size + 1) (w.alloc (.cells #[.slice none 0 0] 30)) wr)
   (fun i _ _ => (intOf i).toNat)
 case atStart => exact ⟨[], n, none, 0, rfl, rfl, h0, h1, fun i => by rw [dig_nil]; omega, fun _ h => absurd rfl h, by simp [val_nil], World.ownsRow_nil _ _ _ _, Below.refl _ _⟩
 case round =>
  obtain ⟨ds, m, a, cap, rfl, rfl, hm0, hm1, hsm, hlast, hval, hown, hbel⟩ := hrel
  have HV := hval
  by_cases hpos : 0 < m
  ·obtain ⟨m, rfl⟩ := Int.eq_ofNat_of_zero_le (show 0 <= m by omega)
   rw [Int.toNat_natCast] at hval
   have hlen := of_len (by omega) (by omega) hval
   have hsz := hbel.size
   simp only [World.size_alloc] at hsz
   go_wp2_with (at_builtin; refine wpList_append_own _ rfl _ _ 28 rfl (w.heap.size + 1) 90 i0 (.int .u64 0) 1 8 Tryz.underlying28 hi hz0 hz1 hz2 rfl (by decide) _ _ _ rfl (hown.alloc _) ⟨wr.heap.size, 0, none⟩ 1 1 [.int .u64 ((m : Int) % 1000000000)] rfl rfl ?c1 ?c2 ?c3 ?c4 ?c5 ?_)
   case c1 => exact cell_one_new _ _ _
   case c2 => intro u hu; simp at hu; subst hu; rfl
   case c3 => unfold maxLen; omega
   case c4 => omega
   case c5 => simp; omega
   ·intro v' w1 hown' hgrow _
    have hbel' : Below (w.heap.size + 1) (w.alloc (.cells #[.slice none 0 0] 30)) w1 := (hbel.alloc (by omega) _).grown hgrow (by simp; omega) (fun k hk => (hown.lt k hk).1)
    obtain ⟨a', cap', hv, -⟩ := owns_form hown'
    clear hown hgrow hbel
    go_wp2
    go_roundw
    case rel =>
     refine ⟨ds ++ [m % 1000000000], ((m / 1000000000 : Nat) : Int), a', cap', by go_num, by rw [hv]; simp, by omega, by omega, small_snoc hsm (by omega), fun h _ => ?_, ?_, ?_, hbel'⟩
     ·rw [last_snoc]; omega
     ·rw [Int.toNat_natCast]; exact of_step hval
     ·rw [hv] at hown'
      rw [dcells_snoc]
      simpa using hown'
    case measure => simp [intOf]; omega
  ·have hc : wr.cell? ⟨w.heap.size, 0, none⟩ = some (.slice none 0 0) := (hbel.cell (p := ⟨w.heap.size, 0, none⟩) (by simp)).trans (by simp)
   have hf : wr.frozen? ⟨w.heap.size, 0, none⟩ = false := (hbel.frozen (p := ⟨w.heap.size, 0, none⟩) (by simp)).trans (by simp)
   have hcs : (wr.setCell ⟨w.heap.size, 0, none⟩ (.slice a ds.length cap)).cell? ⟨w.heap.size, 0, none⟩ = some (.slice a ds.length cap) := World.cell?_setCell_same' _ _ _ (by simp [hc])
   go_wp2
   refine bodyPost_ret (v := .agg #[.slice a ds.length cap]) (by simp [results, Tryz.results108, go_sem, hcs]) rfl ?_
   refine ⟨.slice a ds.length cap, rfl, ds, Dig.of_owns (ownsRow_setCell_below hown (Nat.lt_succ_self _) _), ⟨hsm, hlast (by omega)⟩, ?_, ?_⟩
   ·have : m.toNat = 0 := by omega
    rw [this] at hval; simpa using hval
   ·exact (((Below.refl _ _).alloc (Nat.le_refl _) _).trans (hbel.mono (by omega))).setCell (Nat.le_refl _) _
end
end Go.Proofs.YtcjjekhecjmaeaaGreatDoor
