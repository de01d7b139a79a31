/- An arena as it lies in memory; Top, Has, Get, Len. -/
import Derived.Test.YtcjjekhecjmaeaaGreatDoorArBase
import Derived.Lib.ItoaLen
import Derived.RangeFuncBound
import Derived.Lib.ItoaNum
import Derived.Lib.AppendIntMem
import Derived.Shelf.Vars
set_option maxHeartbeats 1000000
set_option maxRecDepth 100000
namespace Go.Proofs.YtcjjekhecjmaeaaGreatDoor
section
open Go.RowKit Go.Shelf Go.Sort
def Tab10 (w : World) : Prop := Lib.TabIs Tryz.prog w "internal/strconv.uint64pow10" .u64 Lib.pow10Tab
theorem Tab10.below {w w' : World} (h : Tab10 w) (hb : Below w.heap.size w w') : Tab10 w' := Lib.tabBelow_of_tabIs h w' hb
theorem itoa_int (n : Int) (hn : -9223372036854775808 <= n /\ n <= 9223372036854775807) (w : World) (hw : Tab10 w) : Calls Tryz.prog 43 #[.int .i64 n] w fun e w' => e = .returned (.string ⟨(Lib.itoa n).toArray⟩) /\ Below w.heap.size w w' :=
 (Tryz.strconv_Itoa n hn.1 hn.2 w hw).mono fun _ _ ⟨he, k, os, hw'⟩ => ⟨he, hw' ▸ Lib.below_grow _ w (Nat.le_refl _) k os⟩
theorem infoStr : (Tryz.prog.info? 9).map (fun i => (i.zero, i.size, i.bytes)) = some (some (.string ⟨#[]⟩), 1, 16) := by kernel_rfl
theorem row1_form {w : World} {base : Nat} {e : TypeId} {v : Value} {n : Nat} {xs : List Value} (h : w.ownsRow base e 1 v n xs) : ∃ a cap, v = .slice a n cap /\ n <= cap := by
 rcases h.2 with ⟨h1, h2⟩ | ⟨g, cap, cur, h1, _, _, h2, _⟩
 ·exact ⟨none, 0, by rw [h1, h2], by omega⟩
 ·exact ⟨_, cap, h1, h2⟩
theorem row1_below {B n b : Nat} {w w' : World} {v : Value} {t : TypeId} {cs : List Value} (h : w.ownsRow B t 1 v n cs) (hb : Below b w w') (hB : w.heap.size <= b) : w'.ownsRow B t 1 v n cs := by
 refine ⟨h.1, ?_⟩
 rcases h.2 with h1 | ⟨g, cap, cur, h1, h2, h3, h4⟩
 ·exact .inl h1
 ·exact .inr ⟨g, cap, cur, h1, h2, (hb.block g (by have := (h.lt g (by rw [h1]; rfl)).2; omega)).trans h3, h4⟩
theorem cell_str_new (w : World) (A : Value) (t : TypeId) : ∀ (j : Nat) (u : Value), [A][j]? = some u -> (w.alloc (.cells #[A] t)).cell? (Addr.add ⟨w.heap.size, 0, none⟩ j) = some u := by
 intro j u h
 match j, h with
 | 0, h => simp at h; subst h; simp [Addr.add]
 | j + 1, h => simp at h
def toldF (l : List Int) : List UInt8 := Lib.join (l.map Lib.itoa) [32]
def strOf (x : Int) : ByteArray := ⟨(Lib.itoa x).toArray⟩
def strL (l : List Int) : List Value := l.map fun x => .string (strOf x)
theorem strL_len (l : List Int) : (strL l).length = l.length := by simp [strL]
theorem strL_take (l : List Int) {k : Nat} (hk : k < l.length) : (strL l).take (k + 1) = (strL l).take k ++ [.string (strOf l[k])] := by
 rw [List.take_succ_eq_append_getElem (by rw [strL_len]; exact hk)]; simp [strL]
theorem join_len : ∀ (l : List Int), (∀ x ∈ l, -9223372036854775808 <= x /\ x <= 9223372036854775807) -> (Lib.join (l.map Lib.itoa) [32]).length <= 30 * l.length
 | [], _ => by simp [Lib.join]
 | [a], h => by
  have := Lib.itoa_length_le a (h a (by simp)).1 (h a (by simp)).2
  simp [Lib.join]; omega
 | a :: b :: l, h => by
  have h1 := Lib.itoa_length_le a (h a (by simp)).1 (h a (by simp)).2
  have h2 := join_len (b :: l) (fun x hx => h x (List.mem_cons_of_mem _ hx))
  simp [Lib.join] at h2 ⊢; omega
theorem join_c (l : List Int) (hl : 1 <= l.length) (hl3 : l.length <= 3) (hr : ∀ x ∈ l, -9223372036854775808 <= x /\ x <= 9223372036854775807) (g c : Nat) (W : World) (hg : g < W.heap.size) (hc : l.length <= c) (hcell : ∀ j, j < l.length -> W.cell? ⟨g, j, none⟩ = (strL l)[j]?) :
  Calls Tryz.prog 44 #[.slice (some ⟨g, 0, none⟩) l.length c, .string ⟨#[32]⟩] W fun e w' => e = .returned (.string ⟨(toldF l).toArray⟩) /\ Below W.heap.size W w' := by
 have e1 : (l.map strOf).map (·.data.toList) = l.map Lib.itoa := by rw [List.map_map]; exact List.map_congr_left (fun x _ => by simp [strOf])
 have := Tryz.strings_Join g 0 c (l.map strOf) ⟨#[32]⟩ W (fun j u hu => by
  have hj : j < l.length := by have := (List.getElem?_eq_some_iff.1 hu).1; simpa using this
  have h2 := hcell j hj
  rw [Nat.zero_add, h2]
  simp [strL, hj] at hu ⊢
  exact hu) hg (by rw [List.length_map]; omega) (by rw [List.length_map]; exact hc) (by
   rw [e1]; have := join_len l hr
   show (Lib.join (l.map Lib.itoa) [32]).length <= _
   omega)
 rw [List.length_map, e1] at this
 exact this
theorem rtold_any (l : List Int) (hl : 1 <= l.length) (hl3 : l.length <= 3) (hr : ∀ x ∈ l, -9223372036854775808 <= x /\ x <= 9223372036854775807) (bs cp : Nat) (w : World) (hw : Tab10 w) (hbs : bs < w.heap.size) (h0 : ∀ j (h : j < l.length), w.cell? ⟨bs, j, none⟩ = some (.int .i64 l[j])) :
  Calls Tryz.prog 13 #[.slice (some ⟨bs, 0, none⟩) l.length cp] w fun e w' => e = .returned (.string ⟨(toldF l).toArray⟩) /\ Below w.heap.size w w' := by
 obtain ⟨i0, hi, hz0, hz1, hz2⟩ := info_parts infoStr
 have HI : Hid (∀ k (h : k < l.length) W, Below w.heap.size w W -> Calls Tryz.prog 43 #[.int .i64 l[k]] W fun e w' => e = .returned (.string (strOf l[k])) /\ Below W.heap.size W w') := fun k hk W hB => itoa_int _ (hr _ (List.getElem_mem hk)) W (hw.below hB)
 have HST : Hid (∀ k (h : k < l.length), (strL l).take (k + 1) = (strL l).take k ++ [.string (strOf l[k])]) := fun k hk => strL_take l hk
 have HJN : Hid (∀ (g c : Nat) (W : World), g < W.heap.size -> l.length <= c -> (∀ j, j < l.length -> W.cell? ⟨g, j, none⟩ = (strL l)[j]?) -> Calls Tryz.prog 44 #[.slice (some ⟨g, 0, none⟩) l.length c, .string ⟨#[32]⟩] W fun e w' => e = .returned (.string ⟨(toldF l).toArray⟩) /\ Below W.heap.size W w') := fun g c W h1 h2 h3 => join_c l hl hl3 hr g c W h1 h2 h3
 have HC0 : Hid (∀ W, Below w.heap.size w W -> ∀ j (h : j < l.length), W.cell? ⟨bs, j, none⟩ = some (.int .i64 l[j])) := fun W hB j hj => (hB.cell (p := ⟨bs, j, none⟩) hbs).trans (h0 j hj)
 have HL3 := Lib.hid (strL_len l)
 clear hw hr h0
 generalize strL l = S at *
 generalize (⟨(toldF l).toArray⟩ : ByteArray) = R at *
 have HLN : Hid (∃ N, N = l.length) := ⟨_, rfl⟩
 obtain ⟨N, hN⟩ := HLN.out
 have HN := Lib.hid hN
 rw [<- hN] at hl hl3
 rw [<- hN]
 clear hN HLN
 go_enter Tryz.func13, Tryz.ntmps13
 go_wp2_with fail
 go_loopw [3, 8] (fun v i wr => ∃ k : Nat, k <= N /\ i = .int .i64 (k : Int) /\ wr.ownsRow w.heap.size 9 1 v k (S.take k) /\ Below w.heap.size w wr) (fun _ i _ => N - (intOf i).toNat)
 case atStart => exact ⟨0, by omega, rfl, World.ownsRow_nil _ _ _ _, Below.refl _ _⟩
 case round =>
  obtain ⟨k, hk, rfl, hrow, hbr⟩ := hrel
  obtain ⟨va, vc, rfl, hvc⟩ := row1_form hrow
  have HROW := Lib.hid hrow
  have HBR := Lib.hid hbr
  clear hrow hbr
  by_cases hlt : k < N
  ·have i1 : (k : Int) < (N : Int) := by omega
   have hkl : k < l.length := by rw [<- HN.out]; exact hlt
   have c0 := HC0.out _ HBR.out k hkl
   have HIk := Lib.hid (HI.out k hkl)
   have HSk := Lib.hid (HST.out k hkl)
   generalize l[k] = x at *
   go_wp2_with fail
   refine (HIk.out _ HBR.out).mono ?_
   rintro e w1 ⟨rfl, hb1⟩
   have hsz := hb1.size
   have hsw := HBR.out.size
   have HR1 := Lib.hid (row1_below HROW.out hb1 (Nat.le_refl _))
   have HB1 : Hid (Below w.heap.size w w1) := HBR.out.trans (hb1.mono HBR.out.size)
   clear hb1 c0
   generalize strOf x = s at *
   go_wp2_with (at_builtin; refine wpList_append_own _ rfl _ _ 92 rfl w.heap.size 9 i0 (.string ⟨#[]⟩) 1 16 Tryz.underlying92 hi hz0 hz1 hz2 rfl (by decide) _ _ _ rfl (HR1.out.alloc _) ⟨w1.heap.size, 0, none⟩ 1 1 [.string s] rfl rfl ?c1 ?c2 ?c3 ?c4 ?c5 ?_)
   case c1 => exact cell_str_new _ _ _
   case c2 => intro u hu; simp at hu; subst hu; rfl
   case c3 => unfold maxLen; omega
   case c4 => omega
   case c5 => simp; omega
   intro v' w2 hown hgrow _
   have hb2 : Below w.heap.size w w2 := (HB1.out.alloc (by omega) _).grown hgrow (by simp; omega) (fun j hj => (HR1.out.lt j hj).1)
   rw [<- HSk.out] at hown
   have HO := Lib.hid hown
   have HB2 := Lib.hid hb2
   clear hown hgrow hb2
   go_wp2
   go_roundw
   case rel => exact ⟨k + 1, by omega, by go_num, HO.out, HB2.out⟩
   case measure => simp [intOf]; omega
  ·obtain rfl : N = k := by omega
   have hr := HROW.out
   rw [List.take_of_length_le (by rw [HL3.out, <- HN.out]; exact Nat.le_refl _)] at hr
   rcases hr.2 with ⟨h1, h2⟩ | ⟨g, cap, cur, h1, _⟩
   ·exact absurd h2 (by omega)
   ·cases h1
    have hcells : ∀ j, j < l.length -> wr.cell? ⟨g, j, none⟩ = S[j]? := fun j hj => by
     have := hr.cellAt j (by rw [HN.out]; omega)
     simpa using this
    have HJ3 := HJN.out g vc wr (hr.lt g rfl).2 (by rw [<- HN.out]; exact hvc) hcells
    rw [<- HN.out] at HJ3
    have HJ3 := Lib.hid HJ3
    clear hr hcells
    go_wp2_with fail
    refine HJ3.out.mono ?_
    rintro e w2 ⟨rfl, hb2⟩
    have HB2 : Hid (Below w.heap.size w w2) := HBR.out.trans (hb2.mono HBR.out.size)
    clear hb2
    go_wp2
    go_ret
    exact ⟨rfl, HB2.out⟩
end
section
open Go.ChangeShapes Go.WideShapes Go.ChangeAt Go.RowKit Go.Shelf
theorem gTab : Tryz.prog.globalNamed "internal/strconv.uint64pow10" = some 1 := by kernel_rfl
theorem gTabType : (Tryz.prog.globals[1]?).map (·.type) = some 225 := by kernel_rfl
theorem cellsTab : Tryz.prog.cellsOf 225 = 20 := by kernel_rfl
theorem cellsTabE : Tryz.prog.cellsOf 90 = 1 := by kernel_rfl
theorem tab_of {W : World} {l : List (String × DataW Unit)} (h : laidMetH Tryz.prog l W) (hk : (l.filter fun x => x.1 == "internal/strconv.uint64pow10") = [("internal/strconv.uint64pow10", Lib.tabData .u64 Lib.pow10Tab)]) : Tab10 W := by
 have h2 := h.filter fun x => x.1 == "internal/strconv.uint64pow10"
 rw [hk] at h2
 have h3 : laidMet Tryz.prog [("internal/strconv.uint64pow10", Lib.tabData .u64 Lib.pow10Tab)] W := h2
 exact Lib.tabIs_of_head (rest := []) gTab gTabType Tryz.underlying225 Tryz.underlying90 cellsTabE cellsTab h3
def cellsIn1 : DataW Unit -> List Value
 | .lit (.int k z) => [.int k z]
 | _ => [undef]
def cellsIn : DataW Unit -> Array Value
 | .agg l => (l.flatMap cellsIn1).toArray
 | _ => #[]
noncomputable def laidWorldT (os : Os) : World :=
 { World.holding Tryz.prog os ⟨#[], #[], []⟩ with heap := ((((World.holding Tryz.prog os ⟨#[], #[], []⟩).heap.modify 0 (refill #[.iface 200 (.agg #[.pointer (some ⟨7, 32, none⟩)])])).modify 1 (refill (cellsIn Rows.laid_internal_strconv_uint64pow10))).modify 3 (refill (cellsIn Rows.laid_math_bits_deBruijn32tab))).modify 4 (refill (cellsIn Rows.laid_math_bits_deBruijn64tab)) }
end
section
open Go.RowKit Go.Maps
def ncells (ns : List Nd) : List Value := ns.flatMap fun n => [.int .i64 n.v, .int .i64 n.l, .int .i64 n.h]
def nd (ns : List Nd) (i : Nat) : Nd := ns.getD i ⟨0, 0, 0⟩
theorem nd_at (ns : List Nd) (i : Nat) (h : i < ns.length) : nd ns i = ns[i] := by unfold nd; simp [List.getD_eq_getElem?_getD, List.getElem?_eq_getElem h]
theorem ncells_append (a b : List Nd) : ncells (a ++ b) = ncells a ++ ncells b := by simp [ncells]
theorem ncells_at : ∀ (ns : List Nd) (i : Nat), i < ns.length -> (ncells ns)[i * 3]? = some (.int .i64 (nd ns i).v) /\ (ncells ns)[i * 3 + 1]? = some (.int .i64 (nd ns i).l) /\ (ncells ns)[i * 3 + 2]? = some (.int .i64 (nd ns i).h)
 | [], i, h => by simp at h
 | n :: ns, 0, _ => by simp [ncells, nd]
 | n :: ns, i + 1, h => by
  have ih := ncells_at ns i (by simpa using h)
  have e : nd (n :: ns) (i + 1) = nd ns i := by simp [nd]
  rw [e]
  have e2 : ∀ j, (ncells (n :: ns))[j + 3]? = (ncells ns)[j]? := fun j => by
   show ([Value.int .i64 n.v, .int .i64 n.l, .int .i64 n.h] ++ ncells ns)[j + 3]? = _
   rw [List.getElem?_append_right (by simp)]; simp
  rw [show (i + 1) * 3 = i * 3 + 3 by omega, show i * 3 + 3 + 1 = (i * 3 + 1) + 3 by omega, show i * 3 + 3 + 2 = (i * 3 + 2) + 3 by omega, e2, e2, e2]
  exact ih
def Own (b bm : Nat) (v : Value) (k : Nat) : Prop := k = b \/ k = bm \/ v.ownBlock = some k
structure ArenaAt (B : Nat) (w : World) (b bm : Nat) (v : Value) (ns : List Nd) (L : List (Nd × Int)) (room next : Int) : Prop where
 lt : b < w.heap.size
 croom : w.cell? ⟨b, 0, none⟩ = some (.int .i64 room)
 cnodes : w.cell? ⟨b, 1, none⟩ = some v
 cmap : w.cell? ⟨b, 2, none⟩ = some (.map (some bm))
 cnext : w.cell? ⟨b, 3, none⟩ = some (.int .i64 next)
 froz : ∀ i, w.frozen? ⟨b, i, none⟩ = false
 row : w.ownsRow B 102 3 v ns.length (ncells ns)
 hmap : ∃ D, w.ownsMap Tryz.prog 102 (plainElem Tryz.prog 3) bm L.length D /\ Rep Nd.Ok Nd.lit (fun x : Int => .lit (.int .i64 x)) D L
 d1 : v.ownBlock ≠ some b
 d2 : bm ≠ b
 d3 : v.ownBlock ≠ some bm
 B1 : B <= b
 B2 : B <= bm
section
variable {B b bm : Nat} {w w' : World} {v : Value} {ns : List Nd} {L : List (Nd × Int)} {room next : Int}
theorem ownsRow_kept {S : Nat -> Prop} {e : TypeId} {size n : Nat} {xs : List Value} (h : w.ownsRow B e size v n xs) (hk : Kept S w w') (hn : ∀ k, v.ownBlock = some k -> ¬ S k) : w'.ownsRow B e size v n xs := by
 refine ⟨h.1, ?_⟩
 rcases h.2 with h1 | ⟨g, cap, cur, h1, h2, h3, h4⟩
 ·exact .inl h1
 ·refine .inr ⟨g, cap, cur, h1, h2, ?_, h4⟩
  have hlt : g < w.heap.size := by
   by_cases hl : g < w.heap.size
   ·exact hl
   ·rw [Array.getElem?_eq_none (by omega)] at h3; simp at h3
  rw [hk.block g hlt (hn g (by rw [h1]; rfl))]; exact h3
theorem ownsMap_kept {S : Nat -> Prop} {k : TypeId} {R : Value -> Option (DataW Unit × List MemPlace)} {n : Nat} {D : DataW Unit} (h : w.ownsMap Tryz.prog k R bm n D) (hk : Kept S w w') (hn : ¬ S bm) : w'.ownsMap Tryz.prog k R bm n D := by
 have hlt := h.lt
 obtain ⟨es, clock, h1, h2⟩ := h
 exact ⟨es, clock, (hk.block bm hlt hn).trans h1, h2⟩
theorem ArenaAt.kept {S : Nat -> Prop} (h : ArenaAt B w b bm v ns L room next) (hk : Kept S w w') (hn : ∀ k, Own b bm v k -> ¬ S k) : ArenaAt B w' b bm v ns L room next := by
 have hb := hn b (.inl rfl)
 obtain ⟨D, hD, hR⟩ := h.hmap
 exact ⟨Nat.lt_of_lt_of_le h.lt hk.size, (hk.cell (a := ⟨b, 0, none⟩) h.lt hb).trans h.croom, (hk.cell (a := ⟨b, 1, none⟩) h.lt hb).trans h.cnodes, (hk.cell (a := ⟨b, 2, none⟩) h.lt hb).trans h.cmap, (hk.cell (a := ⟨b, 3, none⟩) h.lt hb).trans h.cnext, fun i => (hk.frozen (a := ⟨b, i, none⟩) h.lt hb).trans (h.froz i),
  ownsRow_kept h.row hk (fun k hv => hn k (.inr (.inr hv))), ⟨D, ownsMap_kept hD hk (hn bm (.inr (.inl rfl))), hR⟩, h.d1, h.d2, h.d3, h.B1, h.B2⟩
theorem ArenaAt.form (h : ArenaAt B w b bm v ns L room next) : ∃ a cap, v = .slice a ns.length cap /\ (ns.length ≠ 0 -> ∃ g, a = some ⟨g, 0, none⟩ /\ B <= g /\ g < w.heap.size) := by
 rcases h.row.2 with ⟨h1, h2⟩ | ⟨g, cap, cur, h1, hB, _, h2, _⟩
 ·exact ⟨none, 0, by rw [h1, h2], fun h => absurd h2 h⟩
 ·exact ⟨_, cap, h1, fun _ => ⟨g, rfl, hB, (h.row.lt g (by rw [h1]; rfl)).2⟩⟩
end
def topOf (ns : List Nd) (h : Int) : Int := if 2 <= h /\ h < 2 + (ns.length : Int) then (nd ns (h - 2).toNat).v else 24
theorem top_any {B b bm : Nat} {w : World} {v : Value} {ns : List Nd} {L : List (Nd × Int)} {room next : Int} (hA : ArenaAt B w b bm v ns L room next) (h : Int) (hi : I64 h) (hl : ns.length <= 1000000) :
  Calls Tryz.prog 37 #[.pointer (some ⟨b, 0, none⟩), .int .i64 h] w fun e w' => e = .returned (.int .i64 (topOf ns h)) /\ w = w' := by
 obtain ⟨hi0, hi1⟩ := hi
 obtain ⟨a, cap, rfl, hg⟩ := hA.form
 have cn := hA.cnodes
 have HR := Lib.hid hA.row
 have HG := Lib.hid hg
 clear hA hg
 unfold topOf
 by_cases hc : 2 <= h /\ h < 2 + (ns.length : Int)
 ·rw [if_pos hc]
  obtain ⟨h2, h3⟩ := hc
  obtain ⟨i, e2⟩ : ∃ i : Nat, h - 2 = (i : Int) := ⟨(h - 2).toNat, by omega⟩
  obtain ⟨g, rfl, -⟩ := HG.out (by omega)
  have e1 : (h - 2).toNat = i := by omega
  rw [e1]
  have hil : i < ns.length := by omega
  have ci := HR.out.cellAt (i * 3) (by omega)
  rw [(ncells_at ns i hil).1] at ci
  generalize (nd ns i).v = x at *
  clear e1 HR HG
  go_enter Tryz.func37, Tryz.ntmps37
  go_wp2
  go_ret
  exact ⟨rfl, rfl⟩
 ·rw [if_neg hc]
  by_cases h2 : h < 2
  ·clear hc HR HG
   go_enter Tryz.func37, Tryz.ntmps37
   go_wp2
   go_ret
   exact ⟨rfl, rfl⟩
  ·have h3 : 2 + (ns.length : Int) <= h := by omega
   clear hc HR HG
   go_enter Tryz.func37, Tryz.ntmps37
   go_wp2
   go_ret
   exact ⟨rfl, rfl⟩
end
end Go.Proofs.YtcjjekhecjmaeaaGreatDoor
