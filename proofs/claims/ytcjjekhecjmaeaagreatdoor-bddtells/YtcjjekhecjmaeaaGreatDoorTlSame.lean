/- sameInts, of slices that hold the same. -/
import Derived.Test.YtcjjekhecjmaeaaGreatDoorTlNeedW
import Derived.Test.YtcjjekhecjmaeaaGreatDoorImRefW
set_option maxHeartbeats 3000000
set_option maxRecDepth 100000
namespace Go.Proofs.YtcjjekhecjmaeaaGreatDoor
section
open Go.RowKit Go.Maps
theorem xor_fin : ∀ i : Fin 64, ∀ v : Fin 6, bits .xor .i64 (i.val : Int) ((2 : Int) ^ v.val) = ((i.val ^^^ 1 <<< v.val : Nat) : Int) := by decide +kernel
theorem needF_succ (v : Nat) (t : List Bool) : needF (v + 1) t = needF v t ++ (if depT t v = true then [(v : Int)] else []) := by
 unfold needF
 rw [List.range_succ, List.filter_append, List.map_append]
 congr 1
 by_cases h : depT t v = true
 ·simp [h]
 ·simp [h]
theorem needF_len (v : Nat) (t : List Bool) : (needF v t).length <= v := by
 unfold needF
 rw [List.length_map]
 have := List.length_filter_le (depT t) (List.range v)
 rwa [List.length_range] at this
theorem rneeds_any (t : List Bool) (g vars : Nat) (h6 : vars <= 6) (w : World) (hB : BoolsAt w g t) (ht : t.length = 2 ^ vars) :
  Calls Tryz.prog 16 #[.slice (some ⟨g, 0, none⟩) (2 ^ vars) (2 ^ vars), .int .i64 (vars : Int)] w fun e w' => ∃ v, e = .returned v /\ SliceI w' v (needF vars t) /\ Below w.heap.size w w' := by
 have p6 := pow_le6 h6
 have HT := Lib.hid ht
 have HB := Lib.hid hB
 obtain ⟨n, hn⟩ : ∃ n, n = 2 ^ vars := ⟨_, rfl⟩
 have HN := Lib.hid hn
 rw [<- hn] at p6 ⊢
 clear ht hB hn
 go_enter Tryz.func16, Tryz.ntmps16
 go_wp2_with fail
 go_loopw [5, 9] (fun ov vV wr => ∃ v : Nat, v <= vars /\ vV = .int .i64 (v : Int) /\ wr.ownsRow w.heap.size 3 1 ov (needF v t).length (icells (needF v t)) /\ Below w.heap.size w wr) (fun _ vV _ => vars - (intOf vV).toNat)
 case atStart => exact ⟨0, Nat.zero_le _, rfl, ⟨by simp [icells, needF], .inl ⟨rfl, by simp [needF]⟩⟩, Below.refl _ _⟩
 case round =>
  obtain ⟨w3, hw3⟩ : ∃ w3, w3 = wr := ⟨_, rfl⟩
  subst hw3
  obtain ⟨v, hv, rfl, hrow, hb3⟩ := hrel
  have HROW := Lib.hid hrow
  have HB3 := Lib.hid hb3
  obtain ⟨oa, oc, hov, -⟩ := row1_form hrow
  subst hov
  have hnl := needF_len v t
  have HSU := Lib.hid (needF_succ v t)
  have hs3 := hb3.size
  clear hrow hb3
  obtain ⟨m, hm⟩ : ∃ m, m = (needF v t).length := ⟨_, rfl⟩
  have HM := Lib.hid hm
  rw [<- hm] at hnl HROW ⊢
  clear hm
  by_cases hlt : v < vars
  ·have i1 : (v : Int) < (vars : Int) := by omega
   have hu64 : (2 : Nat) ^ v <= 64 := Nat.pow_le_pow_right (n := 2) (by omega) (by omega : v <= 6)
   have hw3 : IntKind.i64.wrap ((2 : Int) ^ v) = (2 : Int) ^ v := by
    have e : ((2 : Int) ^ v) = ((2 ^ v : Nat) : Int) := by simp
    rw [e]; generalize 2 ^ v = z at *; rw [IntWalk.i64_left]; unfold wrap64; omega
   have hw2 : wrap64 ((2 : Int) ^ v) = (2 : Int) ^ v := by
    have e : ((2 : Int) ^ v) = ((2 ^ v : Nat) : Int) := by simp
    rw [e]; generalize 2 ^ v = z at *; unfold wrap64; omega
   have hv5 : v <= 5 := by omega
   clear hu64
   go_wp2_with fail
   go_loopw [5, 14] (fun ov iV wr => ∃ i : Nat, ov = .slice oa m oc /\ i <= n /\ iV = .int .i64 (i : Int) /\ Below w3.heap.size w3 wr /\ ∀ j, j < i -> t.getD j false = t.getD (j ^^^ 1 <<< v) false) (fun _ iV _ => n - (intOf iV).toNat)
   case atStart => exact ⟨0, rfl, Nat.zero_le _, rfl, Below.refl _ _, fun j hj => absurd hj (Nat.not_lt_zero _)⟩
   case round =>
    obtain ⟨w4, hw4⟩ : ∃ w4, w4 = wr := ⟨_, rfl⟩
    subst hw4
    obtain ⟨i, rfl, hi, rfl, hb4, hall⟩ := hrel
    have HB4 := Lib.hid hb4
    have HALL := Lib.hid hall
    have hs4 := hb4.size
    by_cases hin : i < n
    ·have j1 : (i : Int) < (n : Int) := by omega
     have hBX := HB.out.new (HB3.out.trans (hb4.mono hs3))
     have hxl := xor_lt (i := i) (v := v) (vars := vars) (by rw [<- HN.out]; exact hin) hlt
     have hit : i < t.length := by rw [HT.out, <- HN.out]; exact hin
     have hxt : i ^^^ 1 <<< v < t.length := by rw [HT.out]; exact hxl
     have c1 := hBX.cells i hit
     have c2 := hBX.cells (i ^^^ 1 <<< v) hxt
     have hxb : bits .xor .i64 (i : Int) ((2 : Int) ^ v) = ((i ^^^ 1 <<< v : Nat) : Int) := xor_fin ⟨i, by omega⟩ ⟨v, by omega⟩
     have e1 : t.getD i false = t[i] := by rw [List.getD_eq_getElem?_getD, List.getElem?_eq_getElem hit]; rfl
     have e2 : t.getD (i ^^^ 1 <<< v) false = t[i ^^^ 1 <<< v] := by rw [List.getD_eq_getElem?_getD, List.getElem?_eq_getElem hxt]; rfl
     have hxn : i ^^^ 1 <<< v < n := by rw [HN.out]; exact hxl
     have E1 : Hid (t[i] = t[i ^^^ 1 <<< v] -> ∀ j, j < i + 1 -> t.getD j false = t.getD (j ^^^ 1 <<< v) false) := fun e j hj => by
      by_cases h : j < i
      ·exact HALL.out j h
      ·obtain rfl : j = i := by omega
       rw [e1, e2, e]
     have E2 : Hid (t[i] ≠ t[i ^^^ 1 <<< v] -> needF (v + 1) t = needF v t ++ [(v : Int)]) := fun e => by
      have hd : depT t v = true := List.any_eq_true.2 ⟨i, List.mem_range.2 hit, by rw [e1, e2]; simpa using e⟩
      rw [HSU.out, if_pos hd]
     generalize t[i] = p at *
     generalize t[i ^^^ 1 <<< v] = q at *
     generalize i ^^^ 1 <<< v = x at *
     have j2 : (x : Int) < (n : Int) := by omega
     clear e1 e2 hall hBX hb4 hxl hit hxt
     by_cases epq : p = q
     ·have HNX := Lib.hid (E1.out epq)
      subst epq
      have eb : (p != p) = false := by simp
      clear E1 E2
      go_wp2_with fail
      go_quiet (fail)
      go_wp2
      go_roundw
      case rel => first | exact ⟨i + 1, rfl, by omega, by go_num, HB4.out.trans (below_drewN _ _ _), HNX.out⟩ | ((repeat apply Exists.intro); exact ⟨⟨i + 1, rfl, by omega, by go_num, HB4.out.trans (below_drewN _ _ _), HNX.out⟩, rfl⟩)
      case measure => simp [intOf]; omega
     ·have eb : (p == q) = false := by simpa using epq
      have HNX := Lib.hid (E2.out epq)
      clear E1 E2 epq
      obtain ⟨i0, hin', hz0, hz1, hz2⟩ := info_parts infoInt
      go_wp2_with fail
      go_quiet (fail)
      generalize hW4 : World.drewN w4 _ = W4
      have hq4 : Below w4.heap.size w4 W4 := by rw [<- hW4]; exact below_drewN _ _ _
      clear hW4
      have hz4 := hq4.size
      have HQ4 := Lib.hid hq4
      have HRW : Hid (W4.ownsRow w.heap.size 3 1 (.slice oa m oc) m (icells (needF v t))) := ownsRow_new HROW.out (HB4.out.trans (hq4.mono hs4))
      have hz5 := HB4.out.size
      clear hq4
      go_wp2_with (at_builtin; refine wpList_append_own_at _ rfl _ _ 24 rfl w.heap.size 3 i0 (.int .i64 0) 1 8 Tryz.underlying24 hin' hz0 hz1 hz2 rfl (by decide) _ _ _ rfl (HRW.out.alloc _) ⟨W4.heap.size, 0, none⟩ 1 1 [.int .i64 (v : Int)] rfl rfl ?c1 ?c2 ?c3 ?c4 ?c5 ?_)
      case c1 => exact cell_one_new _ _ _
      case c2 => intro u hu; simp at hu; subst hu; rfl
      case c3 => unfold maxLen; omega
      case c4 => omega
      case c5 => simp; omega
      intro v7 w7 hown7 hgrow7 _ _
      have hl7 : (needF (v + 1) t).length = m + 1 := by rw [HNX.out, List.length_append, <- HM.out]; rfl
      have hic : icells (needF (v + 1) t) = icells (needF v t) ++ [.int .i64 (v : Int)] := by rw [HNX.out]; simp [icells]
      have HR7 : Hid (w7.ownsRow w.heap.size 3 1 v7 (needF (v + 1) t).length (icells (needF (v + 1) t))) := by
       show World.ownsRow _ _ _ _ _ _ _
       rw [hl7, hic]; exact hown7
      have hbq := HB3.out.trans ((HB4.out.trans (HQ4.out.mono hs4)).mono hs3)
      have HB7 : Hid (Below w.heap.size w w7) := (hbq.alloc hbq.size (.cells #[.int .i64 (v : Int)] 3)).grown hgrow7 (by have := hbq.size; simp; omega) (fun j hj => (HROW.out.lt j hj).1)
      clear hown7 hgrow7 hl7 hic hbq
      go_wp2
      go_roundw
      case rel => first | exact ⟨v + 1, by omega, by go_num, HR7.out, HB7.out⟩ | ((repeat apply Exists.intro); exact ⟨⟨v + 1, by omega, by go_num, HR7.out, HB7.out⟩, rfl⟩)
      case measure => simp [intOf]; omega
    ·obtain rfl : i = n := by omega
     have hd : depT t v = false := List.any_eq_false.2 fun j hj => by
      have := List.mem_range.1 hj
      rw [HT.out, <- HN.out] at this
      rw [HALL.out j this]; simp
     have HNX : Hid (needF (v + 1) t = needF v t) := by
      show _ = _
      rw [HSU.out, hd]; simp
     have HR : Hid (w4.ownsRow w.heap.size 3 1 (.slice oa m oc) (needF (v + 1) t).length (icells (needF (v + 1) t))) := by
      show World.ownsRow _ _ _ _ _ _ _
      rw [HNX.out, <- HM.out]; exact ownsRow_new HROW.out HB4.out
     have HBB := Lib.hid (HB3.out.trans (HB4.out.mono hs3))
     clear hall hb4 hd
     go_wp2
     go_roundw
     case rel => exact ⟨v + 1, by omega, by go_num, HR.out, HBB.out⟩
     case measure => simp [intOf]; omega
  ·obtain rfl : v = vars := by omega
   have HSL : Hid (SliceI w3 (.slice oa m oc) (needF v t)) := SliceI.of_row (by rw [<- HM.out]; exact HROW.out)
   go_wp2
   go_ret
   exact ⟨_, rfl, HSL.out, HB3.out⟩
end
section
open Go.RowKit Go.Maps
theorem same_sl {l : List Int} {a1 a2 : Option Addr} {c1 c2 : Nat} {w : World} (h1 : SliceI w (.slice a1 l.length c1) l) (h2 : SliceI w (.slice a2 l.length c2) l) (hl : l.length <= 100000) :
  Calls Tryz.prog 15 #[.slice a1 l.length c1, .slice a2 l.length c2] w fun e w' => e = .returned (.bool true) /\ Below w.heap.size w w' := by
 have H1 : Hid (∀ j (h : j < l.length), ∃ g, a1 = some ⟨g, 0, none⟩ /\ g < w.heap.size /\ w.cell? ⟨g, j, none⟩ = some (.int .i64 l[j])) := by
  obtain ⟨a, c, e, h⟩ := h1
  injection e with e1 e2 e3
  subst e1
  exact h
 have H2 : Hid (∀ j (h : j < l.length), ∃ g, a2 = some ⟨g, 0, none⟩ /\ g < w.heap.size /\ w.cell? ⟨g, j, none⟩ = some (.int .i64 l[j])) := by
  obtain ⟨a, c, e, h⟩ := h2
  injection e with e1 e2 e3
  subst e1
  exact h
 clear h1 h2
 have en : ((l.length : Int) != (l.length : Int)) = false := by simp
 go_enter Tryz.func15, Tryz.ntmps15
 go_wp2_with fail
 go_loopw [5] (fun i wr => ∃ k : Nat, k <= l.length /\ i = .int .i64 (k : Int) /\ Below w.heap.size w wr) (fun i _ => l.length - (intOf i).toNat)
 case atStart => exact ⟨0, Nat.zero_le _, rfl, Below.refl _ _⟩
 case round =>
  obtain ⟨k, hk, rfl, hb⟩ := hrel
  by_cases hlt : k < l.length
  ·obtain ⟨g1, rfl, q1, d1⟩ := H1.out k hlt
   obtain ⟨g2, rfl, q2, d2⟩ := H2.out k hlt
   have k1 := (hb.cell (p := ⟨g1, k, none⟩) q1).trans d1
   have k2 := (hb.cell (p := ⟨g2, k, none⟩) q2).trans d2
   clear d1 d2
   have ib : (k : Int) < (l.length : Int) := by omega
   generalize l[k] = x at *
   have ex : (x != x) = false := by simp
   go_wp2_with fail
   go_quiet (fail)
   go_wp2
   go_roundw
   case rel => exact ⟨k + 1, by omega, by go_num, hb.trans (below_drewN _ _ _)⟩
   case measure => simp [intOf]; omega
  ·obtain rfl : k = l.length := by omega
   go_wp2
   go_ret
   exact ⟨rfl, hb⟩
end
end Go.Proofs.YtcjjekhecjmaeaaGreatDoor
