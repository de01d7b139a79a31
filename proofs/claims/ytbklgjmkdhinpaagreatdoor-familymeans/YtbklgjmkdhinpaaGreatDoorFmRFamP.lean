/- The reference's families in memory, ahead of the walk of its steps. -/
import Derived.Test.YtbklgjmkdhinpaaGreatDoorFmRSetP
set_option maxHeartbeats 4000000
set_option maxRecDepth 100000
namespace Go.Proofs.YtbklgjmkdhinpaaGreatDoor.Fm
open Go.RowKit Go.Maps Go.Proofs.YtbklgjmkdhinpaaGreatDoor.Bd
def SInv (w : World) (b : Nat) (S : Nat -> Prop) (v : Value) (wq : World) : Prop := ∃ (L : List Nat) (R : Nat -> Prop) (cnt : Nat), wq.ownsRow (w.heap.size + 1) 46 1 v L.length (ucells L) /\ L.Pairwise (· < ·) /\ (∀ x, x ∈ L ↔ S x /\ ¬ R x) /\ RM wq b w.heap.size S R cnt /\ Below w.heap.size w wq
def RSets (S : Nat -> Prop) (w : World) (e : Ending) (w' : World) : Prop := ∃ (L : List Nat) (a : Option Addr) (c : Nat), e = .returned (.slice a L.length c) /\ w'.ownsRow w.heap.size 46 1 (.slice a L.length c) L.length (ucells L) /\ L.Pairwise (· < ·) /\ (∀ x, x ∈ L ↔ S x) /\ Below w.heap.size w w'
theorem rsets_any {S : Nat -> Prop} (w : World) (b : Nat) (h : FM w b S) (hS : ∀ x, S x -> x < 64) :
    Calls Tryz.prog 6 #[.map (some b)] w (RSets S w) := by
  obtain ⟨i0, hin, hz0, hz1, hz2⟩ := info_parts infoU
  have hbl := h.lt
  have HS := Lib.hid hS
  go_enter Tryz.func6, Tryz.ntmps6
  go_wp2_with (at_range; refine wp_range_fam' _ rfl _ rfl b w.heap.size rfl S rfl h ?_; intro w2 cnt hrm hg2 hs2)
  try go_frame
  have HST : Hid (SInv w b S (.slice none 0 0) w2) := ⟨[], S, cnt, World.ownsRow_nil _ _ _ _, List.Pairwise.nil, fun x => ⟨fun h => (by cases h), fun h => (h.2 h.1).elim⟩, hrm, grown_none hg2 (Nat.le_refl _)⟩
  clear hrm hg2 hs2 h hS
  go_loopw [3, 4, 5] (fun v _ _ wq => SInv w b S v wq) (fun _ _ _ wq => wq.rangeLeft b w.heap.size)
  case atStart => exact HST.out
  case round =>
    obtain ⟨w0, hw0⟩ : ∃ w0, w0 = wr := ⟨_, rfl⟩
    subst hw0
    obtain ⟨acc, R, cnt, hrow, hsrt, hmem, hrm, hb2⟩ := hrel
    obtain ⟨ra, rc, rfl⟩ := urow_form hrow
    have HSRT := Lib.hid hsrt
    have HMEM := Lib.hid hmem
    have HROW0 := Lib.hid hrow
    have HB2 := Lib.hid hb2
    have HRM := Lib.hid hrm
    clear HST hsrt hmem hrow hb2
    go_wp2_with (at_next; refine wp_next_fam _ rfl _ rfl b w.heap.size S R cnt rfl hrm ?_ ?_)
    · intro hall
      have HALL := Lib.hid hall
      clear hall hrm
      go_wp2
      go_ret
      exact ⟨acc, ra, rc, rfl, ownsRow_base HROW0.out (by omega), HSRT.out, fun x => (HMEM.out x).trans ⟨fun h => h.1, fun h => ⟨h, HALL.out x⟩⟩, HB2.out⟩
    · intro n w5 cnt' hRx hSx hxo hrm' hlt hg5 hs5 hen
      have hn64 := HS.out n hSx
      have hnin : n ∉ acc := fun h => ((HMEM.out n).1 h).2 hRx
      have hb5 := HB2.out.trans (grown_below hg5 (Nat.le_refl _) HB2.out.size)
      have HROW : Hid (w5.ownsRow (w.heap.size + 1) 46 1 (.slice ra acc.length rc) acc.length (ucells acc)) := by
        refine ownsRow_kept HROW0.out (Kept.of_grown (S := fun j => j = w.heap.size) hg5 (fun i e => by cases e; rfl)) (fun k hk => ?_)
        have := (HROW0.out.lt k hk).1; omega
      have hwsz : w.heap.size + 1 <= w5.heap.size := hrm'.lt
      have hlen : acc.length <= 64 := nodupLe 64 acc (HSRT.out.imp (fun h => Nat.ne_of_lt h)) (fun x hx => HS.out x ((HMEM.out x).1 hx).1)
      have HMEAS : Hid (∀ W, Below (w.heap.size + 1) w5 W -> W.rangeLeft b w.heap.size < w0.rangeLeft b w.heap.size) := fun W hW => by rw [HRM.out.left_eq, (hrm'.below hW (by omega) (by omega)).left_eq]; exact hlt
      have HEND : Hid (∀ (i : Nat) (v : Value) (W : World), W.ownsRow (w.heap.size + 1) 46 1 v (acc.take i ++ n :: acc.drop i).length (ucells (acc.take i ++ n :: acc.drop i)) -> (acc.take i ++ n :: acc.drop i).Pairwise (· < ·) -> Below (w.heap.size + 1) w5 W -> SInv w b S v W) := fun i v W h1 h2 h3 =>
        ⟨_, _, cnt', h1, h2, fun x => by
          rw [ins_mem, HMEM.out x]
          constructor
          · rintro (h | rfl)
            · exact ⟨h.1, fun k => h.2 k.1⟩
            · exact ⟨hSx, fun k => k.2 rfl⟩
          · rintro ⟨h, k⟩
            by_cases e : x = n
            · exact .inr e
            · exact .inl ⟨h, fun hr => k ⟨hr, e⟩⟩, hrm'.below h3 (by omega) (by omega), hb5.trans (h3.mono (by omega))⟩
      have HSR2 : Hid (∀ i, i <= acc.length -> (∀ j, i <= j -> j < acc.length -> n < acc.getD j 0) -> (i = 0 \/ ¬ n < acc.getD (i - 1) 0) -> (acc.take i ++ n :: acc.drop i).Pairwise (· < ·)) := fun i h1 h2 h3 => ins_sorted HSRT.out hnin h1 h2 h3
      clear hRx hSx hrm' hlt hg5 hs5 hrm hb5 hnin HROW0 HMEM HSRT HB2 HRM
      go_wp2_with fail
      go_loopw [5] (fun iV wr3 => ∃ i : Nat, i <= acc.length /\ iV = .int .i64 (i : Int) /\ (∀ j, i <= j -> j < acc.length -> n < acc.getD j 0) /\ wr3 = w5) (fun iV _ => (intOf iV).toNat)
      case atStart => exact ⟨acc.length, Nat.le_refl _, rfl, fun j h1 h2 => by omega, rfl⟩
      case round =>
        obtain ⟨i, hi, rfl, hp, hwe⟩ := hrel
        have hwe' := hwe.symm
        clear hwe
        subst hwe'
        by_cases hi0 : i = 0
        · have HSO : Hid ((acc.take i ++ n :: acc.drop i).Pairwise (· < ·)) := HSR2.out i hi hp (.inl hi0)
          have hi0' : ¬ (0 : Int) < (i : Int) := by omega
          clear hp hi0 HSR2
          go_wp2_with (at_builtin; refine wpList_append_own _ rfl _ _ 28 rfl (w.heap.size + 1) 46 i0 (.int .u64 0) 1 8 Tryz.underlying28 hin hz0 hz1 hz2 rfl (by decide) _ _ _ rfl (HROW.out.alloc _) ⟨w5.heap.size, 0, none⟩ 1 1 [.int .u64 0] rfl rfl (cell_one_newN _ _ _) ?c2 ?c3 ?c4 ?c5 ?_)
          case c2 => first | rfl | (intro u hu; simp at hu; subst hu; rfl)
          case c3 => unfold maxLen; omega
          case c4 => omega
          case c5 => first | omega | (simp; omega)
          intro v' w3 hown hgrow _
          have hb3 : Below (w.heap.size + 1) w5 w3 := ((Below.refl (w.heap.size + 1) w5).alloc hwsz _).grown hgrow (by simp; omega) (fun j hj => (HROW.out.lt j hj).1)
          obtain ⟨g, cap, CUR, CS, rfl, hBg, hnc, hHG, hHINS, hHCELL, hHONE, hHMN, hHFIT⟩ := ins_facts (i := i) (n := n) hi hown
          obtain ⟨I1, hI1⟩ : ∃ I1 : Nat, I1 = i + 1 := ⟨_, rfl⟩
          rw [<- hI1] at hHINS hHMN hHFIT
          have hwr : IntKind.i64.wrap ((i : Int) + 1) = (I1 : Int) := by rw [hI1]; rw [IntKind.wrap_i64]; omega
          have hub : I1 <= acc.length + 1 := by omega
          have hubI : (I1 : Int) <= (acc.length : Int) + 1 := by omega
          have hiI : (i : Int) <= (acc.length : Int) + 1 := by omega
          have HG := Lib.hid hHG
          have HINS := Lib.hid hHINS
          have HCELL := Lib.hid hHCELL
          have HONE := Lib.hid hHONE
          have HMN := Lib.hid hHMN
          have HFIT := Lib.hid hHFIT
          have HB3 := Lib.hid hb3
          have HL2 : Hid ((acc.take i ++ n :: acc.drop i).length = acc.length + 1) := ins_len hi
          have hBd : Hid (Below (w.heap.size + 1) w5 w3.drew) := HB3.out.drew
          clear hown hgrow hb3 HROW hHG hHINS hHCELL hHONE hHMN hHFIT
          by_cases hend : i < acc.length
          · have hc1 : ¬ cap = I1 := by omega
            have hc2 : ¬ cap = i := by omega
            have hpos : Hid (∀ (dp sp : Option Addr), dp = some ⟨g, I1, none⟩ -> sp = some ⟨g, i, none⟩ -> 0 < CS.length -> dp = some ⟨g, I1, none⟩ /\ ∃ ad : Addr, sp = some ad /\ ∀ j v, CS[j]? = some v -> w3.drew.cell? (ad.add j) = some v) := fun _ _ h1 h2 _ => ⟨h1, ⟨g, i, none⟩, h2, fun j v hv => by have h7 := HCELL.out j v hv; show w3.cell? (Addr.add ⟨g, i, none⟩ j) = _; rw [<- h7]; congr 1; unfold Addr.add; split <;> simp_all⟩
            clear hI1
            go_wp2_with fail
            go_region_held_law (fun _ => True) (exact trivial) (first | (refine step_copy_splice rfl (.tmp 33) (.tmp 36) 28 28 rfl 46 Tryz.underlying28 sizeU (some ⟨g, I1, none⟩) (some ⟨g, i, none⟩) (acc.length + 1 - I1) (cap - I1) (acc.length + 1 - i) (cap - i) rfl rfl g I1 CUR 46 HG.out CS HMN.out (hpos.out _ _ rfl rfl) HFIT.out HONE.out (w.heap.size + 1) w5 hBd.out hBg ?_; intro w4 hg4 hb4))
            obtain ⟨⟨u4, q1⟩, q2, q3⟩ := HINS.out w4 hg4.out
            have HQ3 := Lib.hid q3
            have HB5 : Hid (Below (w.heap.size + 1) w5 (w4.setCell ⟨g, i, none⟩ (.int .u64 (n : Int)))) := hb4.setCell (p := ⟨g, i, none⟩) hBg _
            clear q3 hg4 hb4 HINS HG HB3 HMN HFIT HONE HCELL hpos hBd
            go_wp2
            go_roundw
            case rel => exact HEND.out _ _ _ (by rw [HL2.out]; exact HQ3.out) HSO.out HB5.out
            case measure => exact HMEAS.out _ HB5.out
          · have hpos : Hid (∀ (dp sp : Option Addr), 0 < CS.length -> dp = some ⟨g, I1, none⟩ /\ ∃ ad : Addr, sp = some ad /\ ∀ j v, CS[j]? = some v -> w3.drew.cell? (ad.add j) = some v) := fun _ _ h => by have h7 := HMN.out; rw [h7] at h; exact absurd h (by show ¬ 0 < min _ _; omega)
            have hc2 : ¬ cap = i := by omega
            by_cases hcc : cap = I1
            · subst hcc
              have HMN0 : Hid (CS.length = Nat.min (acc.length + 1 - i) 0) := by show _ = _; rw [HMN.out, show acc.length + 1 - cap = 0 by omega]
              clear hI1
              go_wp2_with fail
              go_region_held_law (fun _ => True) (exact trivial) (first | (refine step_copy_splice rfl (.tmp 33) (.tmp 36) 28 28 rfl 46 Tryz.underlying28 sizeU _ _ _ _ _ _ rfl rfl g cap CUR 46 HG.out CS HMN0.out (hpos.out _ _) HFIT.out HONE.out (w.heap.size + 1) w5 hBd.out hBg ?_; intro w4 hg4 hb4))
              obtain ⟨⟨u4, q1⟩, q2, q3⟩ := HINS.out w4 hg4.out
              have HQ3 := Lib.hid q3
              have HB5 : Hid (Below (w.heap.size + 1) w5 (w4.setCell ⟨g, i, none⟩ (.int .u64 (n : Int)))) := hb4.setCell (p := ⟨g, i, none⟩) hBg _
              clear q3 hg4 hb4 HINS HG HB3 HMN HFIT HONE HCELL hpos hBd
              go_wp2
              go_roundw
              case rel => exact HEND.out _ _ _ (by rw [HL2.out]; exact HQ3.out) HSO.out HB5.out
              case measure => exact HMEAS.out _ HB5.out
            · clear hI1
              go_wp2_with fail
              go_region_held_law (fun _ => True) (exact trivial) (first | (refine step_copy_splice rfl (.tmp 33) (.tmp 36) 28 28 rfl 46 Tryz.underlying28 sizeU _ _ _ _ _ _ rfl rfl g I1 CUR 46 HG.out CS HMN.out (hpos.out _ _) HFIT.out HONE.out (w.heap.size + 1) w5 hBd.out hBg ?_; intro w4 hg4 hb4))
              obtain ⟨⟨u4, q1⟩, q2, q3⟩ := HINS.out w4 hg4.out
              have HQ3 := Lib.hid q3
              have HB5 : Hid (Below (w.heap.size + 1) w5 (w4.setCell ⟨g, i, none⟩ (.int .u64 (n : Int)))) := hb4.setCell (p := ⟨g, i, none⟩) hBg _
              clear q3 hg4 hb4 HINS HG HB3 HMN HFIT HONE HCELL hpos hBd
              go_wp2
              go_roundw
              case rel => exact HEND.out _ _ _ (by rw [HL2.out]; exact HQ3.out) HSO.out HB5.out
              case measure => exact HMEAS.out _ HB5.out
        · obtain ⟨i', hi'⟩ : ∃ i', i' + 1 = i := ⟨i - 1, by omega⟩
          obtain ⟨g2, rfl, cell2'⟩ := urow_cell HROW.out i' (by omega)
          have h1 : (i : Int) - 1 = (i' : Int) := by omega
          have hpi : 0 < i := by omega
          have hi2 : i' < acc.length := by omega
          have HI' := Lib.hid hi'
          have HSO0 : Hid (¬ n < acc.getD i' 0 -> (acc.take i ++ n :: acc.drop i).Pairwise (· < ·)) := fun h => HSR2.out i hi hp (.inr (by rw [<- hi']; exact h))
          have HPN : Hid (n < acc.getD i' 0 -> ∀ j, i' <= j -> j < acc.length -> n < acc.getD j 0) := fun h j h1 h2 => by
            by_cases e : j = i'
            · subst e; exact h
            · exact hp j (by omega) h2
          clear hi' hp
          generalize acc.getD i' 0 = Y at *
          by_cases hgt : n < Y
          · have HPN2 := Lib.hid (HPN.out hgt)
            clear HPN HSO0
            go_wp2
            go_roundw
            case rel => exact ⟨i', by omega, by go_num, HPN2.out, trivial⟩
            case measure => have := HI'.out; simp [intOf]; omega
          · have HSO := Lib.hid (HSO0.out hgt)
            clear HPN HSO0 HSR2
            go_wp2_with (at_builtin; refine wpList_append_own _ rfl _ _ 28 rfl (w.heap.size + 1) 46 i0 (.int .u64 0) 1 8 Tryz.underlying28 hin hz0 hz1 hz2 rfl (by decide) _ _ _ rfl (HROW.out.alloc _) ⟨w5.heap.size, 0, none⟩ 1 1 [.int .u64 0] rfl rfl (cell_one_newN _ _ _) ?c2 ?c3 ?c4 ?c5 ?_)
            case c2 => first | rfl | (intro u hu; simp at hu; subst hu; rfl)
            case c3 => unfold maxLen; omega
            case c4 => omega
            case c5 => first | omega | (simp; omega)
            intro v' w3 hown hgrow _
            have hb3 : Below (w.heap.size + 1) w5 w3 := ((Below.refl (w.heap.size + 1) w5).alloc hwsz _).grown hgrow (by simp; omega) (fun j hj => (HROW.out.lt j hj).1)
            obtain ⟨g, cap, CUR, CS, rfl, hBg, hnc, hHG, hHINS, hHCELL, hHONE, hHMN, hHFIT⟩ := ins_facts (i := i) (n := n) hi hown
            obtain ⟨I1, hI1⟩ : ∃ I1 : Nat, I1 = i + 1 := ⟨_, rfl⟩
            rw [<- hI1] at hHINS hHMN hHFIT
            have hwr : IntKind.i64.wrap ((i : Int) + 1) = (I1 : Int) := by rw [hI1]; rw [IntKind.wrap_i64]; omega
            have hub : I1 <= acc.length + 1 := by omega
            have hubI : (I1 : Int) <= (acc.length : Int) + 1 := by omega
            have hiI : (i : Int) <= (acc.length : Int) + 1 := by omega
            have HG := Lib.hid hHG
            have HINS := Lib.hid hHINS
            have HCELL := Lib.hid hHCELL
            have HONE := Lib.hid hHONE
            have HMN := Lib.hid hHMN
            have HFIT := Lib.hid hHFIT
            have HB3 := Lib.hid hb3
            have HL2 : Hid ((acc.take i ++ n :: acc.drop i).length = acc.length + 1) := ins_len hi
            have hBd : Hid (Below (w.heap.size + 1) w5 w3.drew) := HB3.out.drew
            clear hown hgrow hb3 HROW hHG hHINS hHCELL hHONE hHMN hHFIT
            by_cases hend : i < acc.length
            · have hc1 : ¬ cap = I1 := by omega
              have hc2 : ¬ cap = i := by omega
              have hpos : Hid (∀ (dp sp : Option Addr), dp = some ⟨g, I1, none⟩ -> sp = some ⟨g, i, none⟩ -> 0 < CS.length -> dp = some ⟨g, I1, none⟩ /\ ∃ ad : Addr, sp = some ad /\ ∀ j v, CS[j]? = some v -> w3.drew.cell? (ad.add j) = some v) := fun _ _ h1 h2 _ => ⟨h1, ⟨g, i, none⟩, h2, fun j v hv => by have h7 := HCELL.out j v hv; show w3.cell? (Addr.add ⟨g, i, none⟩ j) = _; rw [<- h7]; congr 1; unfold Addr.add; split <;> simp_all⟩
              clear hI1
              go_wp2_with fail
              go_region_held_law (fun _ => True) (exact trivial) (first | (refine step_copy_splice rfl (.tmp 33) (.tmp 36) 28 28 rfl 46 Tryz.underlying28 sizeU (some ⟨g, I1, none⟩) (some ⟨g, i, none⟩) (acc.length + 1 - I1) (cap - I1) (acc.length + 1 - i) (cap - i) rfl rfl g I1 CUR 46 HG.out CS HMN.out (hpos.out _ _ rfl rfl) HFIT.out HONE.out (w.heap.size + 1) w5 hBd.out hBg ?_; intro w4 hg4 hb4))
              obtain ⟨⟨u4, q1⟩, q2, q3⟩ := HINS.out w4 hg4.out
              have HQ3 := Lib.hid q3
              have HB5 : Hid (Below (w.heap.size + 1) w5 (w4.setCell ⟨g, i, none⟩ (.int .u64 (n : Int)))) := hb4.setCell (p := ⟨g, i, none⟩) hBg _
              clear q3 hg4 hb4 HINS HG HB3 HMN HFIT HONE HCELL hpos hBd
              go_wp2
              go_roundw
              case rel => exact HEND.out _ _ _ (by rw [HL2.out]; exact HQ3.out) HSO.out HB5.out
              case measure => exact HMEAS.out _ HB5.out
            · have hpos : Hid (∀ (dp sp : Option Addr), 0 < CS.length -> dp = some ⟨g, I1, none⟩ /\ ∃ ad : Addr, sp = some ad /\ ∀ j v, CS[j]? = some v -> w3.drew.cell? (ad.add j) = some v) := fun _ _ h => by have h7 := HMN.out; rw [h7] at h; exact absurd h (by show ¬ 0 < min _ _; omega)
              have hc2 : ¬ cap = i := by omega
              by_cases hcc : cap = I1
              · subst hcc
                have HMN0 : Hid (CS.length = Nat.min (acc.length + 1 - i) 0) := by show _ = _; rw [HMN.out, show acc.length + 1 - cap = 0 by omega]
                clear hI1
                go_wp2_with fail
                go_region_held_law (fun _ => True) (exact trivial) (first | (refine step_copy_splice rfl (.tmp 33) (.tmp 36) 28 28 rfl 46 Tryz.underlying28 sizeU _ _ _ _ _ _ rfl rfl g cap CUR 46 HG.out CS HMN0.out (hpos.out _ _) HFIT.out HONE.out (w.heap.size + 1) w5 hBd.out hBg ?_; intro w4 hg4 hb4))
                obtain ⟨⟨u4, q1⟩, q2, q3⟩ := HINS.out w4 hg4.out
                have HQ3 := Lib.hid q3
                have HB5 : Hid (Below (w.heap.size + 1) w5 (w4.setCell ⟨g, i, none⟩ (.int .u64 (n : Int)))) := hb4.setCell (p := ⟨g, i, none⟩) hBg _
                clear q3 hg4 hb4 HINS HG HB3 HMN HFIT HONE HCELL hpos hBd
                go_wp2
                go_roundw
                case rel => exact HEND.out _ _ _ (by rw [HL2.out]; exact HQ3.out) HSO.out HB5.out
                case measure => exact HMEAS.out _ HB5.out
              · clear hI1
                go_wp2_with fail
                go_region_held_law (fun _ => True) (exact trivial) (first | (refine step_copy_splice rfl (.tmp 33) (.tmp 36) 28 28 rfl 46 Tryz.underlying28 sizeU _ _ _ _ _ _ rfl rfl g I1 CUR 46 HG.out CS HMN.out (hpos.out _ _) HFIT.out HONE.out (w.heap.size + 1) w5 hBd.out hBg ?_; intro w4 hg4 hb4))
                obtain ⟨⟨u4, q1⟩, q2, q3⟩ := HINS.out w4 hg4.out
                have HQ3 := Lib.hid q3
                have HB5 : Hid (Below (w.heap.size + 1) w5 (w4.setCell ⟨g, i, none⟩ (.int .u64 (n : Int)))) := hb4.setCell (p := ⟨g, i, none⟩) hBg _
                clear q3 hg4 hb4 HINS HG HB3 HMN HFIT HONE HCELL hpos hBd
                go_wp2
                go_roundw
                case rel => exact HEND.out _ _ _ (by rw [HL2.out]; exact HQ3.out) HSO.out HB5.out
                case measure => exact HMEAS.out _ HB5.out
end Go.Proofs.YtbklgjmkdhinpaaGreatDoor.Fm
namespace Go.Proofs.YtbklgjmkdhinpaaGreatDoor.Fm
open Go.RowKit Go.Maps Go.Proofs.YtbklgjmkdhinpaaGreatDoor.Bd
theorem rat_any (x : Int) (n : Nat) (h0 : 0 < n) (h1 : n <= 1000000) (w : World) :
    Calls Tryz.prog 53 #[.int .i64 x, .int .i64 (n : Int)] w fun e w' => e = .returned (.int .i64 (pickV x n : Int)) /\ w = w' := by
  have hp := pickV_lt x h0
  have e1 : IntKind.u64.wrap x = x % 18446744073709551616 := by rw [IntKind.wrap_u64]
  have e2 : IntKind.u64.wrap (n : Int) = (n : Int) := IntWalk.u64_in _ ⟨by omega, by omega⟩
  have e3 : Int.tmod (x % 18446744073709551616) (n : Int) = (pickV x n : Int) := by
    unfold pickV
    obtain ⟨m, hm⟩ : ∃ m : Nat, x % 18446744073709551616 = (m : Int) := ⟨(x % 18446744073709551616).toNat, by omega⟩
    rw [hm]; simp
    rfl
  have e4 : IntKind.i64.wrap (pickV x n : Int) = (pickV x n : Int) := IntWalk.i64_in _ ⟨by omega, by omega⟩
  have e5 : ((n : Int) == 0) = false := by rw [beq_eq_false_iff_ne]; omega
  generalize pickV x n = p at *
  go_enter Tryz.func53, Tryz.ntmps53
  go_wp2
  go_ret
  exact ⟨rfl, rfl⟩
def Small (T : List Fam) : Prop := ∀ S ∈ T, ∀ x, S x -> x < 64
theorem or_small {a b : Nat} (ha : a < 64) (hb : b < 64) : a ||| b < 64 := Nat.or_lt_two_pow (n := 6) ha hb
theorem tAt_small {T : List Fam} (h : Small T) (x : Int) : ∀ y, tAt T x y -> y < 64 := fun y hy => by
  unfold tAt at hy
  rw [List.getD_eq_getElem?_getD] at hy
  cases hc : T[pickV x T.length]? with
  | none => rw [hc] at hy; exact hy.elim
  | some S => rw [hc] at hy; exact h S (List.mem_of_getElem? hc) y hy
theorem stepT_small {vars : Nat} (hv : vars <= 6) {T : List Fam} (h : Small T) (q : Quad) : ∀ y, stepT vars T q y -> y < 64 := fun y hy => by
  have p6 : 2 ^ vars <= 64 := Nat.pow_le_pow_right (n := 2) (by omega) hv
  unfold stepT at hy
  generalize pickV q.a 7 = t at hy
  match t, hy with
  | 0, hy =>
    have h1 : y = setN vars q.b := hy
    have : setN vars q.b < 2 ^ vars := Nat.mod_lt _ (Nat.two_pow_pos _)
    omega
  | 1, hy =>
    rcases hy with hy | hy
    · exact tAt_small h _ y hy
    · exact tAt_small h _ y hy
  | 2, hy => exact tAt_small h _ y hy.1
  | 3, hy => exact tAt_small h _ y hy.1
  | 4, hy =>
    obtain ⟨a, b, h1, h2, rfl⟩ := hy
    exact or_small (tAt_small h _ a h1) (tAt_small h _ b h2)
  | 5, hy => exact tAt_small h _ y hy.1
  | _ + 6, hy => exact tAt_small h _ y hy.1
theorem Small.snoc {T : List Fam} (h : Small T) {S : Fam} (hS : ∀ x, S x -> x < 64) : Small (T ++ [S]) := fun X hX => by
  rcases List.mem_append.1 hX with h1 | h1
  · exact h X h1
  · rw [List.mem_singleton] at h1; subst h1; exact hS
theorem small_start : Small [fun _ => False, fun y => y = 0] := fun S hS x hx => by
  simp at hS
  rcases hS with rfl | rfl
  · exact hx.elim
  · have : x = 0 := hx
    omega
theorem famT_small {vars : Nat} (hv : vars <= 6) : ∀ (qs : List Quad) (T : List Fam), Small T -> Small (famT vars T qs)
  | [], _, h => h
  | q :: qs, T, h => famT_small hv qs (T ++ [stepT vars T q]) (h.snoc (stepT_small hv h q))
def mcells (gs : List Nat) : List Value := gs.map fun g => Value.map (some g)
structure RFams (B : Nat) (w : World) (v : Value) (gs : List Nat) (T : List Fam) : Prop where
  row : w.ownsRow B 30 1 v gs.length (mcells gs)
  len : gs.length = T.length
  fams : ∀ i (h1 : i < gs.length) (h2 : i < T.length), FM w gs[i] T[i]
  old : ∀ g ∈ gs, B <= g
theorem FM.blk {w : World} {b : Nat} {S : Nat -> Prop} (h : FM w b S) : ∃ es clock, w.heap[b]? = some (.map es clock) := by
  obtain ⟨L, ⟨D, ⟨es, clock, h1, h2⟩, hR⟩, e⟩ := h
  exact ⟨es, clock, h1⟩
theorem row_blk {w : World} {B n : Nat} {t : TypeId} {v : Value} {cs : List Value} (h : w.ownsRow B t 1 v n cs) {k : Nat} (hk : v.ownBlock = some k) : ∃ cur fr, w.heap[k]? = some (.cells cur t fr) := by
  rcases h.2 with ⟨e, e0⟩ | ⟨g, cap, cur, e, h2, h3, h4⟩
  · rw [e] at hk; simp [Value.ownBlock] at hk
  · rw [e] at hk
    have : g = k := by simpa [Value.ownBlock] using hk
    subst this
    exact ⟨_, _, h3⟩
theorem FM.row_ne {w : World} {b B n : Nat} {t : TypeId} {v : Value} {cs : List Value} {S : Nat -> Prop} (h : FM w b S) (hr : w.ownsRow B t 1 v n cs) : some b ≠ v.ownBlock := fun e => by
  obtain ⟨es, clock, h1⟩ := h.blk
  obtain ⟨cur, fr, h2⟩ := row_blk hr e.symm
  rw [h1] at h2
  cases h2
section
variable {B : Nat} {w w' : World} {v : Value} {gs : List Nat} {T : List Fam}
theorem RFams.new (h : RFams B w v gs T) (hb : Below w.heap.size w w') : RFams B w' v gs T := ⟨ownsRow_new h.row hb, h.len, fun i h1 h2 => (h.fams i h1 h2).below hb, h.old⟩
theorem RFams.snoc (h : RFams B w v gs T) {v2 : Value} {gf : Nat} {S : Fam} (hg : w.grownBy w' v.ownBlock) (hrow : w'.ownsRow B 30 1 v2 (gs.length + 1) (mcells gs ++ [.map (some gf)])) (hf : FM w gf S) (hB : B <= gf) : RFams B w' v2 (gs ++ [gf]) (T ++ [S]) := by
  refine ⟨by have e : mcells (gs ++ [gf]) = mcells gs ++ [.map (some gf)] := by simp [mcells]
             rw [e, List.length_append]; exact hrow, by simp [h.len], fun i h1 h2 => ?_, fun x hx => (List.mem_append.1 hx).elim (h.old x) (fun h => by rw [List.mem_singleton] at h; subst h; exact hB)⟩
  by_cases hi : i < gs.length
  · rw [List.getElem_append_left hi, List.getElem_append_left (by rw [<- h.len]; exact hi)]
    have hx := h.fams i hi (by rw [<- h.len]; exact hi)
    exact hx.grown hg (hx.row_ne h.row)
  · have e : i = gs.length := by simp at h1; omega
    subst e
    have e2 : (T ++ [S])[gs.length]'h2 = S := by simp [h.len]
    have e1 : (gs ++ [gf])[gs.length]'h1 = gf := by simp
    rw [e1, e2]
    exact hf.grown hg (hf.row_ne h.row)
theorem RFams.at (h : RFams B w v gs T) (hne : 0 < gs.length) (x : Int) : ∃ b, gs[pickV x gs.length]? = some b /\ FM w b (tAt T x) := by
  have hl := pickV_lt x hne
  refine ⟨gs[pickV x gs.length], List.getElem?_eq_getElem hl, ?_⟩
  have h2 : pickV x gs.length < T.length := by rw [<- h.len]; exact hl
  have := h.fams _ hl h2
  have e : tAt T x = T[pickV x gs.length]'h2 := by
    unfold tAt
    rw [<- h.len, List.getD_eq_getElem?_getD, List.getElem?_eq_getElem h2]
    rfl
  rw [e]; exact this
theorem RFams.cell (h : RFams B w v gs T) (hne : 0 < gs.length) : ∃ g c, v = .slice (some ⟨g, 0, none⟩) gs.length c /\ g < w.heap.size /\ ∀ i b, gs[i]? = some b -> w.cell? ⟨g, i, none⟩ = some (.map (some b)) := by
  rcases h.row.2 with ⟨e, e0⟩ | ⟨g, cap, cur, e, hB, hg, hn, hm, hsz, htake⟩
  · omega
  · subst e
    refine ⟨g, cap, rfl, (h.row.lt g rfl).2, fun i b hi => ?_⟩
    have hlt := (List.getElem?_eq_some_iff.1 hi).1
    have := h.row.cellAt i (by omega)
    rw [this]
    simp [mcells, hi]
end
def FI (w0 : World) (b r m : Nat) (S C Q : Nat -> Prop) (wq : World) : Prop := ∃ R cnt, RM wq b r S R cnt /\ FM wq m (fun y => C y \/ (Q y /\ ¬ R y)) /\ Below w0.heap.size w0 wq
section
variable {w0 wq w' : World} {b r m : Nat} {S C Q R : Nat -> Prop} {cnt : Nat}
theorem FI.start (h1 : RM wq b r S S cnt) (h2 : FM wq m C) (hQ : ∀ y, Q y -> S y) (h3 : Below w0.heap.size w0 wq) : FI w0 b r m S C Q wq := ⟨S, cnt, h1, h2.congr (fun y => ⟨.inl, fun h => h.elim id (fun k => (k.2 (hQ y k.1)).elim)⟩), h3⟩
theorem fi_done (h : FM wq m (fun y => C y \/ (Q y /\ ¬ R y))) (hall : ∀ x, ¬ R x) : FM wq m (fun y => C y \/ Q y) := h.congr (fun y => ⟨fun k => k.imp id (fun k => k.1), fun k => k.imp id (fun k => ⟨k, hall y⟩)⟩)
theorem fi_skip {x : Nat} (h : FM wq m (fun y => C y \/ (Q y /\ ¬ R y))) (hq : ¬ Q x) : FM wq m (fun y => C y \/ (Q y /\ ¬ (R y /\ y ≠ x))) := h.congr (fun y => by
  constructor
  · exact fun k => k.imp id (fun k => ⟨k.1, fun e => k.2 e.1⟩)
  · exact fun k => k.imp id (fun k => ⟨k.1, fun e => k.2 ⟨e, fun e2 => hq (e2 ▸ k.1)⟩⟩))
theorem fi_take {x : Nat} (h : FM wq m (fun y => (C y \/ (Q y /\ ¬ R y)) \/ y = x)) (hq : Q x) : FM wq m (fun y => C y \/ (Q y /\ ¬ (R y /\ y ≠ x))) := h.congr (fun y => by
  constructor
  · rintro ((k | k) | rfl)
    · exact .inl k
    · exact .inr ⟨k.1, fun e => k.2 e.1⟩
    · exact .inr ⟨hq, fun e => e.2 rfl⟩
  · rintro (k | k)
    · exact .inl (.inl k)
    · by_cases e : y = x
      · exact .inr e
      · exact .inl (.inr ⟨k.1, fun hr => k.2 ⟨hr, e⟩⟩))
end
end Go.Proofs.YtbklgjmkdhinpaaGreatDoor.Fm
