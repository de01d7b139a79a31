/- sameSets, at any two lists; rising lists with the same members. -/
import Derived.Test.YtkpjipohajplgaaGreatDoorFmRSetP
set_option maxHeartbeats 4000000
set_option maxRecDepth 100000
namespace Go.Proofs.YtkpjipohajplgaaGreatDoor.Fm
open Go.RowKit Go.Maps Go.Proofs.YtkpjipohajplgaaGreatDoor.Bd
def SInv (w : World) (b : Nat) (S : Nat -> Prop) (v : Value) (wq : World) : Prop := ∃ (L : List Nat) (R : Nat -> Prop) (cnt : Nat), wq.ownsRow (w.heap.size + 1) 26 1 v L.length (ucells L) /\ L.Pairwise (· < ·) /\ (∀ x, x ∈ L ↔ S x /\ ¬ R x) /\ RM wq b w.heap.size S R cnt /\ Below w.heap.size w wq
def RSets (S : Nat -> Prop) (w : World) (e : Ending) (w' : World) : Prop := ∃ (L : List Nat) (a : Option Addr) (c : Nat), e = .returned (.slice a L.length c) /\ w'.ownsRow w.heap.size 26 1 (.slice a L.length c) L.length (ucells L) /\ L.Pairwise (· < ·) /\ (∀ x, x ∈ L ↔ S x) /\ Below w.heap.size w w'
theorem rsets_any {S : Nat -> Prop} (w : World) (b : Nat) (h : FM w b S) (hS : ∀ x, S x -> x < 64) :
  Calls Tryz.prog 6 #[.map (some b)] w (RSets S w) := by
 obtain ⟨i0, hin, hz0, hz1, hz2⟩ := info_parts infoU
 have hbl := h.lt
 have HS := Lib.hid hS
 go_enter Tryz.func6, Tryz.ntmps6
 go_wp2_with (at_range; refine wp_range_fam' _ rfl _ rfl b w.heap.size rfl S rfl h ?_; intro w2 cnt hrm hg2 hs2)
 try go_frame
 have HST : Hid (SInv w b S (.slice none 0 0) w2) := ⟨[], S, cnt, World.ownsRow_nil _ _ _ _, List.Pairwise.nil, fun x => ⟨fun h => (by cases h), fun h => (h.2 h.1).elim⟩, hrm, grown_none hg2 (Nat.le_refl _)⟩
 clear hrm hg2 hs2 h hS
 go_loopw [3, 4, 5] (fun v _ _ wq => SInv w b S v wq) (fun _ _ _ wq => wq.rangeLeft b w.heap.size)
 case atStart => exact HST.out
 case round =>
  obtain ⟨w0, hw0⟩ : ∃ w0, w0 = wr := ⟨_, rfl⟩
  subst hw0
  obtain ⟨acc, R, cnt, hrow, hsrt, hmem, hrm, hb2⟩ := hrel
  obtain ⟨ra, rc, rfl⟩ := urow_form hrow
  have HSRT := Lib.hid hsrt
  have HMEM := Lib.hid hmem
  have HROW0 := Lib.hid hrow
  have HB2 := Lib.hid hb2
  have HRM := Lib.hid hrm
  clear HST hsrt hmem hrow hb2
  go_wp2_with (at_next; refine wp_next_fam _ rfl _ rfl b w.heap.size S R cnt rfl hrm ?_ ?_)
  ·intro hall
   have HALL := Lib.hid hall
   clear hall hrm
   go_wp2
   go_ret
   exact ⟨acc, ra, rc, rfl, ownsRow_base HROW0.out (by omega), HSRT.out, fun x => (HMEM.out x).trans ⟨fun h => h.1, fun h => ⟨h, HALL.out x⟩⟩, HB2.out⟩
  ·intro n w5 cnt' hRx hSx hxo hrm' hlt hg5 hs5 hen
   have hn64 := HS.out n hSx
   have hnin : n ∉ acc := fun h => ((HMEM.out n).1 h).2 hRx
   have hb5 := HB2.out.trans (grown_below hg5 (Nat.le_refl _) HB2.out.size)
   have HROW : Hid (w5.ownsRow (w.heap.size + 1) 26 1 (.slice ra acc.length rc) acc.length (ucells acc)) := by
    refine ownsRow_kept HROW0.out (Kept.of_grown (S := fun j => j = w.heap.size) hg5 (fun i e => by cases e; rfl)) (fun k hk => ?_)
    have := (HROW0.out.lt k hk).1; omega
   have hwsz : w.heap.size + 1 <= w5.heap.size := hrm'.lt
   have hlen : acc.length <= 64 := nodupLe 64 acc (HSRT.out.imp (fun h => Nat.ne_of_lt h)) (fun x hx => HS.out x ((HMEM.out x).1 hx).1)
   have HMEAS : Hid (∀ W, Below (w.heap.size + 1) w5 W -> W.rangeLeft b w.heap.size < w0.rangeLeft b w.heap.size) := fun W hW => by rw [HRM.out.left_eq, (hrm'.below hW (by omega) (by omega)).left_eq]; exact hlt
   have HEND : Hid (∀ (i : Nat) (v : Value) (W : World), W.ownsRow (w.heap.size + 1) 26 1 v (acc.take i ++ n :: acc.drop i).length (ucells (acc.take i ++ n :: acc.drop i)) -> (acc.take i ++ n :: acc.drop i).Pairwise (· < ·) -> Below (w.heap.size + 1) w5 W -> SInv w b S v W) := fun i v W h1 h2 h3 =>
    ⟨_, _, cnt', h1, h2, fun x => by
     rw [ins_mem, HMEM.out x]
     constructor
     ·rintro (h | rfl)
      ·exact ⟨h.1, fun k => h.2 k.1⟩
      ·exact ⟨hSx, fun k => k.2 rfl⟩
     ·rintro ⟨h, k⟩
      by_cases e : x = n
      ·exact .inr e
      ·exact .inl ⟨h, fun hr => k ⟨hr, e⟩⟩, hrm'.below h3 (by omega) (by omega), hb5.trans (h3.mono (by omega))⟩
   have HSR2 : Hid (∀ i, i <= acc.length -> (∀ j, i <= j -> j < acc.length -> n < acc.getD j 0) -> (i = 0 \/ ¬ n < acc.getD (i - 1) 0) -> (acc.take i ++ n :: acc.drop i).Pairwise (· < ·)) := fun i h1 h2 h3 => ins_sorted HSRT.out hnin h1 h2 h3
   clear hRx hSx hrm' hlt hg5 hs5 hrm hb5 hnin HROW0 HMEM HSRT HB2 HRM
   go_wp2_with fail
   go_loopw [5] (fun iV wr3 => ∃ i : Nat, i <= acc.length /\ iV = .int .i64 (i : Int) /\ (∀ j, i <= j -> j < acc.length -> n < acc.getD j 0) /\ wr3 = w5) (fun iV _ => (intOf iV).toNat)
   case atStart => exact ⟨acc.length, Nat.le_refl _, rfl, fun j h1 h2 => by omega, rfl⟩
   case round =>
    obtain ⟨i, hi, rfl, hp, hwe⟩ := hrel
    have hwe' := hwe.symm
    clear hwe
    subst hwe'
    by_cases hi0 : i = 0
    ·have HSO : Hid ((acc.take i ++ n :: acc.drop i).Pairwise (· < ·)) := HSR2.out i hi hp (.inl hi0)
     have hi0' : ¬ (0 : Int) < (i : Int) := by omega
     clear hp hi0 HSR2
     go_wp2_with (at_builtin; refine wpList_append_own _ rfl _ _ 22 rfl (w.heap.size + 1) 26 i0 (.int .u64 0) 1 8 Tryz.underlying22 hin hz0 hz1 hz2 rfl (by decide) _ _ _ rfl (HROW.out.alloc _) ⟨w5.heap.size, 0, none⟩ 1 1 [.int .u64 0] rfl rfl (cell_one_newN _ _ _) ?c2 ?c3 ?c4 ?c5 ?_)
     case c2 => first | rfl | (intro u hu; simp at hu; subst hu; rfl)
     case c3 => unfold maxLen; omega
     case c4 => omega
     case c5 => first | omega | (simp; omega)
     intro v' w3 hown hgrow _
     have hb3 : Below (w.heap.size + 1) w5 w3 := ((Below.refl (w.heap.size + 1) w5).alloc hwsz _).grown hgrow (by simp; omega) (fun j hj => (HROW.out.lt j hj).1)
     obtain ⟨g, cap, CUR, CS, rfl, hBg, hnc, hHG, hHINS, hHCELL, hHONE, hHMN, hHFIT⟩ := ins_facts (i := i) (n := n) hi hown
     obtain ⟨I1, hI1⟩ : ∃ I1 : Nat, I1 = i + 1 := ⟨_, rfl⟩
     rw [<- hI1] at hHINS hHMN hHFIT
     have hwr : IntKind.i64.wrap ((i : Int) + 1) = (I1 : Int) := by rw [hI1]; rw [IntKind.wrap_i64]; omega
     have hub : I1 <= acc.length + 1 := by omega
     have hubI : (I1 : Int) <= (acc.length : Int) + 1 := by omega
     have hiI : (i : Int) <= (acc.length : Int) + 1 := by omega
     have HG := Lib.hid hHG
     have HINS := Lib.hid hHINS
     have HCELL := Lib.hid hHCELL
     have HONE := Lib.hid hHONE
     have HMN := Lib.hid hHMN
     have HFIT := Lib.hid hHFIT
     have HB3 := Lib.hid hb3
     have HL2 : Hid ((acc.take i ++ n :: acc.drop i).length = acc.length + 1) := ins_len hi
     have hBd : Hid (Below (w.heap.size + 1) w5 w3.drew) := HB3.out.drew
     clear hown hgrow hb3 HROW hHG hHINS hHCELL hHONE hHMN hHFIT
     by_cases hend : i < acc.length
     ·have hc1 : ¬ cap = I1 := by omega
      have hc2 : ¬ cap = i := by omega
      have hpos : Hid (∀ (dp sp : Option Addr), dp = some ⟨g, I1, none⟩ -> sp = some ⟨g, i, none⟩ -> 0 < CS.length -> dp = some ⟨g, I1, none⟩ /\ ∃ ad : Addr, sp = some ad /\ ∀ j v, CS[j]? = some v -> w3.drew.cell? (ad.add j) = some v) := fun _ _ h1 h2 _ => ⟨h1, ⟨g, i, none⟩, h2, fun j v hv => by have h7 := HCELL.out j v hv; show w3.cell? (Addr.add ⟨g, i, none⟩ j) = _; rw [<- h7]; congr 1; unfold Addr.add; split <;> simp_all⟩
      clear hI1
      go_wp2_with fail
      go_region_held_law (fun _ => True) (exact trivial) (first | (refine step_copy_splice rfl (.tmp 33) (.tmp 36) 22 22 rfl 26 Tryz.underlying22 sizeU (some ⟨g, I1, none⟩) (some ⟨g, i, none⟩) (acc.length + 1 - I1) (cap - I1) (acc.length + 1 - i) (cap - i) rfl rfl g I1 CUR 26 HG.out CS HMN.out (hpos.out _ _ rfl rfl) HFIT.out HONE.out (w.heap.size + 1) w5 hBd.out hBg ?_; intro w4 hg4 hb4))
      obtain ⟨⟨u4, q1⟩, q2, q3⟩ := HINS.out w4 hg4.out
      have HQ3 := Lib.hid q3
      have HB5 : Hid (Below (w.heap.size + 1) w5 (w4.setCell ⟨g, i, none⟩ (.int .u64 (n : Int)))) := hb4.setCell (p := ⟨g, i, none⟩) hBg _
      clear q3 hg4 hb4 HINS HG HB3 HMN HFIT HONE HCELL hpos hBd
      go_wp2
      go_roundw
      case rel => exact HEND.out _ _ _ (by rw [HL2.out]; exact HQ3.out) HSO.out HB5.out
      case measure => exact HMEAS.out _ HB5.out
     ·have hpos : Hid (∀ (dp sp : Option Addr), 0 < CS.length -> dp = some ⟨g, I1, none⟩ /\ ∃ ad : Addr, sp = some ad /\ ∀ j v, CS[j]? = some v -> w3.drew.cell? (ad.add j) = some v) := fun _ _ h => by have h7 := HMN.out; rw [h7] at h; exact absurd h (by show ¬ 0 < min _ _; omega)
      have hc2 : ¬ cap = i := by omega
      by_cases hcc : cap = I1
      ·subst hcc
       have HMN0 : Hid (CS.length = Nat.min (acc.length + 1 - i) 0) := by show _ = _; rw [HMN.out, show acc.length + 1 - cap = 0 by omega]
       clear hI1
       go_wp2_with fail
       go_region_held_law (fun _ => True) (exact trivial) (first | (refine step_copy_splice rfl (.tmp 33) (.tmp 36) 22 22 rfl 26 Tryz.underlying22 sizeU _ _ _ _ _ _ rfl rfl g cap CUR 26 HG.out CS HMN0.out (hpos.out _ _) HFIT.out HONE.out (w.heap.size + 1) w5 hBd.out hBg ?_; intro w4 hg4 hb4))
       obtain ⟨⟨u4, q1⟩, q2, q3⟩ := HINS.out w4 hg4.out
       have HQ3 := Lib.hid q3
       have HB5 : Hid (Below (w.heap.size + 1) w5 (w4.setCell ⟨g, i, none⟩ (.int .u64 (n : Int)))) := hb4.setCell (p := ⟨g, i, none⟩) hBg _
       clear q3 hg4 hb4 HINS HG HB3 HMN HFIT HONE HCELL hpos hBd
       go_wp2
       go_roundw
       case rel => exact HEND.out _ _ _ (by rw [HL2.out]; exact HQ3.out) HSO.out HB5.out
       case measure => exact HMEAS.out _ HB5.out
      ·clear hI1
       go_wp2_with fail
       go_region_held_law (fun _ => True) (exact trivial) (first | (refine step_copy_splice rfl (.tmp 33) (.tmp 36) 22 22 rfl 26 Tryz.underlying22 sizeU _ _ _ _ _ _ rfl rfl g I1 CUR 26 HG.out CS HMN.out (hpos.out _ _) HFIT.out HONE.out (w.heap.size + 1) w5 hBd.out hBg ?_; intro w4 hg4 hb4))
       obtain ⟨⟨u4, q1⟩, q2, q3⟩ := HINS.out w4 hg4.out
       have HQ3 := Lib.hid q3
       have HB5 : Hid (Below (w.heap.size + 1) w5 (w4.setCell ⟨g, i, none⟩ (.int .u64 (n : Int)))) := hb4.setCell (p := ⟨g, i, none⟩) hBg _
       clear q3 hg4 hb4 HINS HG HB3 HMN HFIT HONE HCELL hpos hBd
       go_wp2
       go_roundw
       case rel => exact HEND.out _ _ _ (by rw [HL2.out]; exact HQ3.out) HSO.out HB5.out
       case measure => exact HMEAS.out _ HB5.out
    ·obtain ⟨i', hi'⟩ : ∃ i', i' + 1 = i := ⟨i - 1, by omega⟩
     obtain ⟨g2, rfl, cell2'⟩ := urow_cell HROW.out i' (by omega)
     have h1 : (i : Int) - 1 = (i' : Int) := by omega
     have hpi : 0 < i := by omega
     have hi2 : i' < acc.length := by omega
     have HI' := Lib.hid hi'
     have HSO0 : Hid (¬ n < acc.getD i' 0 -> (acc.take i ++ n :: acc.drop i).Pairwise (· < ·)) := fun h => HSR2.out i hi hp (.inr (by rw [<- hi']; exact h))
     have HPN : Hid (n < acc.getD i' 0 -> ∀ j, i' <= j -> j < acc.length -> n < acc.getD j 0) := fun h j h1 h2 => by
      by_cases e : j = i'
      ·subst e; exact h
      ·exact hp j (by omega) h2
     clear hi' hp
     generalize acc.getD i' 0 = Y at *
     by_cases hgt : n < Y
     ·have HPN2 := Lib.hid (HPN.out hgt)
      clear HPN HSO0
      go_wp2
      go_roundw
      case rel => exact ⟨i', by omega, by go_num, HPN2.out, trivial⟩
      case measure => have := HI'.out; simp [intOf]; omega
     ·have HSO := Lib.hid (HSO0.out hgt)
      clear HPN HSO0 HSR2
      go_wp2_with (at_builtin; refine wpList_append_own _ rfl _ _ 22 rfl (w.heap.size + 1) 26 i0 (.int .u64 0) 1 8 Tryz.underlying22 hin hz0 hz1 hz2 rfl (by decide) _ _ _ rfl (HROW.out.alloc _) ⟨w5.heap.size, 0, none⟩ 1 1 [.int .u64 0] rfl rfl (cell_one_newN _ _ _) ?c2 ?c3 ?c4 ?c5 ?_)
      case c2 => first | rfl | (intro u hu; simp at hu; subst hu; rfl)
      case c3 => unfold maxLen; omega
      case c4 => omega
      case c5 => first | omega | (simp; omega)
      intro v' w3 hown hgrow _
      have hb3 : Below (w.heap.size + 1) w5 w3 := ((Below.refl (w.heap.size + 1) w5).alloc hwsz _).grown hgrow (by simp; omega) (fun j hj => (HROW.out.lt j hj).1)
      obtain ⟨g, cap, CUR, CS, rfl, hBg, hnc, hHG, hHINS, hHCELL, hHONE, hHMN, hHFIT⟩ := ins_facts (i := i) (n := n) hi hown
      obtain ⟨I1, hI1⟩ : ∃ I1 : Nat, I1 = i + 1 := ⟨_, rfl⟩
      rw [<- hI1] at hHINS hHMN hHFIT
      have hwr : IntKind.i64.wrap ((i : Int) + 1) = (I1 : Int) := by rw [hI1]; rw [IntKind.wrap_i64]; omega
      have hub : I1 <= acc.length + 1 := by omega
      have hubI : (I1 : Int) <= (acc.length : Int) + 1 := by omega
      have hiI : (i : Int) <= (acc.length : Int) + 1 := by omega
      have HG := Lib.hid hHG
      have HINS := Lib.hid hHINS
      have HCELL := Lib.hid hHCELL
      have HONE := Lib.hid hHONE
      have HMN := Lib.hid hHMN
      have HFIT := Lib.hid hHFIT
      have HB3 := Lib.hid hb3
      have HL2 : Hid ((acc.take i ++ n :: acc.drop i).length = acc.length + 1) := ins_len hi
      have hBd : Hid (Below (w.heap.size + 1) w5 w3.drew) := HB3.out.drew
      clear hown hgrow hb3 HROW hHG hHINS hHCELL hHONE hHMN hHFIT
      by_cases hend : i < acc.length
      ·have hc1 : ¬ cap = I1 := by omega
       have hc2 : ¬ cap = i := by omega
       have hpos : Hid (∀ (dp sp : Option Addr), dp = some ⟨g, I1, none⟩ -> sp = some ⟨g, i, none⟩ -> 0 < CS.length -> dp = some ⟨g, I1, none⟩ /\ ∃ ad : Addr, sp = some ad /\ ∀ j v, CS[j]? = some v -> w3.drew.cell? (ad.add j) = some v) := fun _ _ h1 h2 _ => ⟨h1, ⟨g, i, none⟩, h2, fun j v hv => by have h7 := HCELL.out j v hv; show w3.cell? (Addr.add ⟨g, i, none⟩ j) = _; rw [<- h7]; congr 1; unfold Addr.add; split <;> simp_all⟩
       clear hI1
       go_wp2_with fail
       go_region_held_law (fun _ => True) (exact trivial) (first | (refine step_copy_splice rfl (.tmp 33) (.tmp 36) 22 22 rfl 26 Tryz.underlying22 sizeU (some ⟨g, I1, none⟩) (some ⟨g, i, none⟩) (acc.length + 1 - I1) (cap - I1) (acc.length + 1 - i) (cap - i) rfl rfl g I1 CUR 26 HG.out CS HMN.out (hpos.out _ _ rfl rfl) HFIT.out HONE.out (w.heap.size + 1) w5 hBd.out hBg ?_; intro w4 hg4 hb4))
       obtain ⟨⟨u4, q1⟩, q2, q3⟩ := HINS.out w4 hg4.out
       have HQ3 := Lib.hid q3
       have HB5 : Hid (Below (w.heap.size + 1) w5 (w4.setCell ⟨g, i, none⟩ (.int .u64 (n : Int)))) := hb4.setCell (p := ⟨g, i, none⟩) hBg _
       clear q3 hg4 hb4 HINS HG HB3 HMN HFIT HONE HCELL hpos hBd
       go_wp2
       go_roundw
       case rel => exact HEND.out _ _ _ (by rw [HL2.out]; exact HQ3.out) HSO.out HB5.out
       case measure => exact HMEAS.out _ HB5.out
      ·have hpos : Hid (∀ (dp sp : Option Addr), 0 < CS.length -> dp = some ⟨g, I1, none⟩ /\ ∃ ad : Addr, sp = some ad /\ ∀ j v, CS[j]? = some v -> w3.drew.cell? (ad.add j) = some v) := fun _ _ h => by have h7 := HMN.out; rw [h7] at h; exact absurd h (by show ¬ 0 < min _ _; omega)
       have hc2 : ¬ cap = i := by omega
       by_cases hcc : cap = I1
       ·subst hcc
        have HMN0 : Hid (CS.length = Nat.min (acc.length + 1 - i) 0) := by show _ = _; rw [HMN.out, show acc.length + 1 - cap = 0 by omega]
        clear hI1
        go_wp2_with fail
        go_region_held_law (fun _ => True) (exact trivial) (first | (refine step_copy_splice rfl (.tmp 33) (.tmp 36) 22 22 rfl 26 Tryz.underlying22 sizeU _ _ _ _ _ _ rfl rfl g cap CUR 26 HG.out CS HMN0.out (hpos.out _ _) HFIT.out HONE.out (w.heap.size + 1) w5 hBd.out hBg ?_; intro w4 hg4 hb4))
        obtain ⟨⟨u4, q1⟩, q2, q3⟩ := HINS.out w4 hg4.out
        have HQ3 := Lib.hid q3
        have HB5 : Hid (Below (w.heap.size + 1) w5 (w4.setCell ⟨g, i, none⟩ (.int .u64 (n : Int)))) := hb4.setCell (p := ⟨g, i, none⟩) hBg _
        clear q3 hg4 hb4 HINS HG HB3 HMN HFIT HONE HCELL hpos hBd
        go_wp2
        go_roundw
        case rel => exact HEND.out _ _ _ (by rw [HL2.out]; exact HQ3.out) HSO.out HB5.out
        case measure => exact HMEAS.out _ HB5.out
       ·clear hI1
        go_wp2_with fail
        go_region_held_law (fun _ => True) (exact trivial) (first | (refine step_copy_splice rfl (.tmp 33) (.tmp 36) 22 22 rfl 26 Tryz.underlying22 sizeU _ _ _ _ _ _ rfl rfl g I1 CUR 26 HG.out CS HMN.out (hpos.out _ _) HFIT.out HONE.out (w.heap.size + 1) w5 hBd.out hBg ?_; intro w4 hg4 hb4))
        obtain ⟨⟨u4, q1⟩, q2, q3⟩ := HINS.out w4 hg4.out
        have HQ3 := Lib.hid q3
        have HB5 : Hid (Below (w.heap.size + 1) w5 (w4.setCell ⟨g, i, none⟩ (.int .u64 (n : Int)))) := hb4.setCell (p := ⟨g, i, none⟩) hBg _
        clear q3 hg4 hb4 HINS HG HB3 HMN HFIT HONE HCELL hpos hBd
        go_wp2
        go_roundw
        case rel => exact HEND.out _ _ _ (by rw [HL2.out]; exact HQ3.out) HSO.out HB5.out
        case measure => exact HMEAS.out _ HB5.out
end Go.Proofs.YtkpjipohajplgaaGreatDoor.Fm
namespace Go.Proofs.YtkpjipohajplgaaGreatDoor.Fm
open Go.RowKit Go.Maps Go.Proofs.YtkpjipohajplgaaGreatDoor.Bd
def UArg (w : World) (v : Value) (l : List Nat) : Prop := ∃ a c, v = .slice a l.length c /\ ∀ i, i < l.length -> ∃ g, a = some ⟨g, 0, none⟩ /\ g < w.heap.size /\ w.cell? ⟨g, i, none⟩ = some (.int .u64 (l.getD i 0 : Nat))
theorem UArg.below {w w' : World} {v : Value} {l : List Nat} (h : UArg w v l) (hb : Below w.heap.size w w') : UArg w' v l := by
 obtain ⟨a, c, e, h⟩ := h
 refine ⟨a, c, e, fun i hi => ?_⟩
 obtain ⟨g, h1, h2, h3⟩ := h i hi
 exact ⟨g, h1, Nat.lt_of_lt_of_le h2 hb.size, (hb.cell (p := ⟨g, i, none⟩) h2).trans h3⟩
theorem UArg.of_row {B : Nat} {w : World} {v : Value} {l : List Nat} (h : w.ownsRow B 26 1 v l.length (ucells l)) : UArg w v l := by
 obtain ⟨a, c, rfl⟩ := urow_form h
 refine ⟨a, c, rfl, fun i hi => ?_⟩
 obtain ⟨g, rfl, hc⟩ := urow_cell h i hi
 exact ⟨g, rfl, (h.lt g rfl).2, hc⟩
theorem rising_eq : ∀ {l m : List Nat}, l.Pairwise (· < ·) -> m.Pairwise (· < ·) -> (∀ x, x ∈ l ↔ x ∈ m) -> l = m
 | [], [], _, _, _ => rfl
 | [], b :: m, _, _, h => by have := (h b).2 (List.mem_cons_self ..); cases this
 | a :: l, [], _, _, h => by have := (h a).1 (List.mem_cons_self ..); cases this
 | a :: l, b :: m, h1, h2, h => by
  rw [List.pairwise_cons] at h1 h2
  have e : a = b := by
   rcases List.mem_cons.1 ((h a).1 (List.mem_cons_self ..)) with e | e
   ·exact e
   ·rcases List.mem_cons.1 ((h b).2 (List.mem_cons_self ..)) with e2 | e2
    ·exact e2.symm
    ·have := h1.1 b e2; have := h2.1 a e; omega
  subst e
  rw [rising_eq h1.2 h2.2 (fun x => by
   have hx := h x
   rw [List.mem_cons, List.mem_cons] at hx
   constructor
   ·intro k
    rcases hx.1 (.inr k) with e | e
    ·subst e; have := h1.1 x k; omega
    ·exact e
   ·intro k
    rcases hx.2 (.inr k) with e | e
    ·subst e; have := h2.1 x k; omega
    ·exact e)]
theorem same_step {l m : List Nat} {k : Nat} (h1 : k < l.length) (h2 : k < m.length) (h : l.take k = m.take k) : l.take (k + 1) = m.take (k + 1) ↔ l.getD k 0 = m.getD k 0 := by
 rw [List.take_succ_eq_append_getElem h1, List.take_succ_eq_append_getElem h2, h]
 simp only [List.append_cancel_left_eq, List.cons.injEq, and_true, List.getD_eq_getElem?_getD, List.getElem?_eq_getElem h1, List.getElem?_eq_getElem h2, Option.getD_some]
theorem sameU_any (w : World) (v1 v2 : Value) (l m : List Nat) (h1 : UArg w v1 l) (h2 : UArg w v2 m) (hl : l.length <= 1000000) :
  Calls Tryz.prog 9 #[v1, v2] w fun e w' => e = .returned (.bool (decide (l = m))) /\ Below w.heap.size w w' := by
 obtain ⟨a, c, rfl, h1⟩ := h1
 obtain ⟨a', c', rfl, h2⟩ := h2
 by_cases hlen : l.length = m.length
 ·have H1 := Lib.hid h1
  have H2 := Lib.hid h2
  have HLE := Lib.hid hlen
  obtain ⟨n, hn⟩ : ∃ n, n = l.length := ⟨_, rfl⟩
  have hnm : n = m.length := hn.trans hlen
  rw [<- hn, <- hnm]
  have HN := Lib.hid hn
  have HNM := Lib.hid hnm
  have hnb : n <= 1000000 := by omega
  have enn : (n != n) = false := by simp
  clear h1 h2 hlen hl hn hnm
  go_enter Tryz.func9, Tryz.ntmps9
  go_wp2_with fail
  go_loopw [5] (fun i wr => ∃ k : Nat, k <= n /\ i = .int .i64 (k : Int) /\ l.take k = m.take k /\ Below w.heap.size w wr) (fun i _ => n - (intOf i).toNat)
  case atStart => exact ⟨0, Nat.zero_le _, rfl, rfl, Below.refl _ _⟩
  case round =>
   obtain ⟨k, hk, rfl, htk, hb⟩ := hrel
   by_cases hlt : k < n
   ·obtain ⟨g, rfl, hg, hc⟩ := H1.out k (by rw [<- HN.out]; exact hlt)
    obtain ⟨g', rfl, hg', hc'⟩ := H2.out k (by rw [<- HNM.out]; exact hlt)
    have a0 := (hb.cell (p := ⟨g, k, none⟩) hg).trans hc
    have b0 := (hb.cell (p := ⟨g', k, none⟩) hg').trans hc'
    have i1 : (k : Int) < (n : Int) := by omega
    have hst := same_step (by rw [<- HN.out]; exact hlt) (by rw [<- HNM.out]; exact hlt) htk
    have HST := Lib.hid hst
    have HB := Lib.hid hb
    clear htk hc hc' hst hb
    obtain ⟨x, hx⟩ : ∃ x, x = l.getD k 0 := ⟨_, rfl⟩
    obtain ⟨y, hy⟩ : ∃ y, y = m.getD k 0 := ⟨_, rfl⟩
    rw [<- hx] at a0
    rw [<- hy] at b0
    rw [<- hx, <- hy] at HST
    clear hx hy
    by_cases e : x = y
    ·subst e
     have HT := Lib.hid (HST.out.2 rfl)
     clear HST
     have exx : (((x : Int)) != ((x : Int))) = false := by simp
     go_wp2_with fail
     go_quiet (fail)
     go_wp2
     go_roundw
     case rel => exact ⟨k + 1, by omega, by go_num, HT.out, below_drewN HB.out _⟩
     case measure => simp [intOf]; omega
    ·have exy : (((x : Int)) != ((y : Int))) = true := by simp; omega
     have hne : l ≠ m := fun k2 => e (HST.out.1 (by rw [k2]))
     have HD := Lib.hid (decide_eq_false hne)
     clear HST hne
     go_wp2_with fail
     go_quiet (fail)
     go_wp2
     go_ret
     exact ⟨by rw [HD.out]; rfl, below_drewN HB.out _⟩
   ·obtain rfl : n = k := by omega
    have hlm : l = m := by
     have e1 : l.take n = l := by rw [HN.out]; exact List.take_length ..
     have e2 : m.take n = m := by rw [HNM.out]; exact List.take_length ..
     rw [e1, e2] at htk; exact htk
    have HD := Lib.hid (decide_eq_true hlm)
    clear htk hlm
    go_wp2
    go_ret
    exact ⟨by rw [HD.out]; rfl, hb⟩
 ·have hne : l ≠ m := fun k => hlen (by rw [k])
  have HD := Lib.hid (decide_eq_false hne)
  have e : (((l.length : Int)) != ((m.length : Int))) = true := by simp; omega
  clear h1 h2 hne
  generalize l.length = n1 at *
  generalize m.length = n2 at *
  go_enter Tryz.func9, Tryz.ntmps9
  go_wp2
  go_ret
  exact ⟨by rw [HD.out]; rfl, Below.refl _ _⟩
end Go.Proofs.YtkpjipohajplgaaGreatDoor.Fm
