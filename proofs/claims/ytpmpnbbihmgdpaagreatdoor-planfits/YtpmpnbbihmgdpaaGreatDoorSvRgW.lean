/- The reference: RangeOr, RangeAnd, RangeNot. -/
import Derived.Test.YtpmpnbbihmgdpaaGreatDoorSvMixP
import Derived.Deep.RegionHeldLaw
set_option maxHeartbeats 4000000
set_option maxRecDepth 100000
namespace Go.Proofs.YtpmpnbbihmgdpaaGreatDoor
section
open Go.RowKit Sv
theorem mix_any (a b : List Nat) (va vb : Value) (F : Nat) (rule : Bool -> Bool -> Bool) (w : World) (hva : NsAt w va a) (hvb : NsAt w vb b) (hla : a.length <= 1000000000) (hlb : b.length <= 1000000000)
    (hent : ∀ args w, (callFunc F args).run Tryz.prog w = .ok (.enter F args) w)
    (hrule : ∀ x y W, Calls Tryz.prog F #[.bool x, .bool y] W fun e w' => e = .returned (.bool (rule x y)) /\ w' = W) :
    Calls Tryz.prog 111 #[va, vb, .func (.func F) #[] #[]] w (NsOut w (mixF a b rule)) := by
  obtain ⟨i0, hin, hz0, hz1, hz2⟩ := info_parts infoIntN
  obtain ⟨aa, ca, rfl⟩ := hva.form
  obtain ⟨ab, cb, rfl⟩ := hvb.form
  have HVA := Lib.hid hva
  have HVB := Lib.hid hvb
  have HR := Lib.hid hrule
  clear hva hvb hrule
  go_enter Tryz.func111, Tryz.ntmps111
  go_wp2_with fail
  obtain ⟨W0, hW0⟩ : ∃ W0, (w.alloc (.cells #[.int .i64 0, .int .i64 1000000000] 3)).alloc (.cells #[.slice (some ⟨w.heap.size, 0, none⟩) 2 2, .slice aa a.length ca, .slice ab b.length cb] 47) = W0 := ⟨_, rfl⟩
  obtain ⟨hB0, hX⟩ := rows_facts a b aa ab ca cb w W0 hW0 HVA.out HVB.out
  have HB0 := Lib.hid hB0
  have HX := Lib.hid hX
  have HVA0 : Hid (∀ W, Below W0.heap.size W0 W -> NsAt W (.slice aa a.length ca) a) := fun W hb => HVA.out.below (HB0.out.trans (hb.mono HB0.out.size)) (Nat.le_refl _)
  have HVB0 : Hid (∀ W, Below W0.heap.size W0 W -> NsAt W (.slice ab b.length cb) b) := fun W hb => HVB.out.below (HB0.out.trans (hb.mono HB0.out.size)) (Nat.le_refl _)
  rw [hW0]
  clear hW0 HVA HVB hB0 hX
  go_loopw [7, 23] (fun aV jV wr => ∃ j : Nat, j <= 3 /\ jV = .int .i64 (j : Int) /\ wr.ownsRow W0.heap.size 3 1 aV (accX a b j).length (ncells (accX a b j)) /\ Below W0.heap.size W0 wr) (fun _ jV _ => 3 - (intOf jV).toNat)
  case atStart => exact ⟨0, Nat.zero_le _, rfl, World.ownsRow_nil _ _ _ _, Below.refl _ _⟩
  case round =>
    obtain ⟨j, hj, rfl, hrow, hbr⟩ := hrel
    obtain ⟨ra, rc, rfl⟩ := nsrow_form hrow
    have HROW := Lib.hid hrow
    have HBR := Lib.hid hbr
    have hwsz := hbr.size
    clear hrow hbr
    by_cases hlt : j < 3
    · obtain ⟨x, c, hx⟩ := HX.out j hlt
      have hxl : (rowsX a b j).length <= 1000000000 := rowsX_len a b hla hlb j
      have hal : ∀ k, (allP (accX a b j) ((rowsX a b j).take k)).length <= 2000000002 := fun k => by have := accX_len2 a b j k hlt; omega
      have HJ : Hid (accX a b (j + 1) = allP (accX a b j) (rowsX a b j)) := rfl
      have HXJ := Lib.hid hx
      have HAL := Lib.hid hal
      have cj := (hx wr HBR.out).1
      clear hx hal
      generalize hA0 : accX a b j = acc0 at *
      generalize hXX : rowsX a b j = X at *
      go_wp2_with fail
      rw [show decide ((j : Int) < 3) = true from decide_eq_true (by omega)]
      go_loopw [7, 29] (fun aV kV wr => ∃ k : Nat, k <= X.length /\ kV = .int .i64 (k : Int) /\ wr.ownsRow W0.heap.size 3 1 aV (allP acc0 (X.take k)).length (ncells (allP acc0 (X.take k))) /\ Below W0.heap.size W0 wr) (fun _ kV _ => X.length - (intOf kV).toNat)
      case atStart => exact ⟨0, Nat.zero_le _, rfl, by simpa [allP] using HROW.out, HBR.out⟩
      case round =>
        clear HROW HBR hwsz cj
        obtain ⟨k, hk, rfl, hrow, hbr⟩ := hrel
        obtain ⟨ra, rc, rfl⟩ := nsrow_form hrow
        have HROW := Lib.hid hrow
        have HBR := Lib.hid hbr
        have hwsz := hbr.size
        clear hrow hbr
        by_cases hlt2 : k < X.length
        · obtain ⟨g1, c1, e1, hg1, cell1'⟩ := (HXJ.out wr HBR.out).2.cells k hlt2
          simp at e1
          obtain ⟨rfl, rfl⟩ := e1
          have hal2 := HAL.out k
          have HSN := Lib.hid (allP_snoc acc0 X k hlt2)
          generalize hacc : allP acc0 (X.take k) = acc at *
          generalize hnn : nv X k = n at *
          go_wp2_with fail
          try rw [show decide ((k : Int) < (X.length : Int)) = true from decide_eq_true (by omega)]
          go_loopw [12] (fun iV wr3 => ∃ i : Nat, i <= acc.length /\ iV = .int .i64 (i : Int) /\ posF acc n acc.length = posF acc n i /\ wr3 = wr) (fun iV _ => (intOf iV).toNat)
          case atStart => exact ⟨acc.length, Nat.le_refl _, rfl, rfl, rfl⟩
          case round =>
            obtain ⟨i, hi, rfl, hp, rfl⟩ := hrel
            by_cases hi0 : i = 0
            · have HP : Hid (posF acc n acc.length = i) := by rw [hi0] at hp ⊢; exact hp
              have hi0' : ¬ (0 : Int) < (i : Int) := by omega
              clear hp hi0
              go_wp2_with (at_builtin; refine wpList_append_own _ rfl _ _ 31 rfl W0.heap.size 3 i0 (.int .i64 0) 1 8 Tryz.underlying31 hin hz0 hz1 hz2 rfl (by decide) _ _ _ rfl (HROW.out.alloc _) ⟨wr.heap.size, 0, none⟩ 1 1 [.int .i64 0] rfl rfl (cell_one_newN _ _ _) ?c2 ?c3 ?c4 ?c5 ?_)
              case c2 => first | rfl | (intro u hu; simp at hu; subst hu; rfl)
              case c3 => unfold maxLen; omega
              case c4 => omega
              case c5 => first | omega | (simp; omega)
              intro v' w3 hown hgrow _
              have hb3 : Below W0.heap.size W0 w3 := (HBR.out.alloc hwsz _).grown hgrow (by simp; omega) (fun j hj => (HROW.out.lt j hj).1)
              obtain ⟨g, cap, CUR, CS, rfl, hBg, hnc, hHG, hHINS, hHCELL, hHONE, hHMN, hHFIT⟩ := ins_facts (i := i) (n := n) hi hown
              obtain ⟨I1, hI1⟩ : ∃ I1 : Nat, I1 = i + 1 := ⟨_, rfl⟩
              rw [<- hI1] at hHINS hHMN hHFIT
              have hwr : IntKind.i64.wrap ((i : Int) + 1) = (I1 : Int) := by rw [hI1]; rw [IntKind.wrap_i64]; omega
              have hub : I1 <= acc.length + 1 := by omega
              have hubI : (I1 : Int) <= (acc.length : Int) + 1 := by omega
              have hiI : (i : Int) <= (acc.length : Int) + 1 := by omega
              have HG := Lib.hid hHG
              have HINS := Lib.hid hHINS
              have HCELL := Lib.hid hHCELL
              have HONE := Lib.hid hHONE
              have HMN := Lib.hid hHMN
              have HFIT := Lib.hid hHFIT
              have HB3 := Lib.hid hb3
              have HRP2 : Hid (allP acc0 (X.take (k + 1)) = acc.take i ++ n :: acc.drop i) := by show _ = _; rw [HSN.out]; unfold insP; rw [HP.out]
              have HL2 : Hid ((acc.take i ++ n :: acc.drop i).length = acc.length + 1) := by show _ = _; rw [List.length_append, List.length_cons, List.length_take, List.length_drop]; omega
              have hBd : Hid (Below W0.heap.size W0 w3.drew) := HB3.out.drew
              clear hown hgrow hb3 HSN HP HROW HBR hHG hHINS hHCELL hHONE hHMN hHFIT
              by_cases hend : i < acc.length
              · have hc1 : ¬ cap = I1 := by omega
                have hc2 : ¬ cap = i := by omega
                have hpos : Hid (∀ (dp sp : Option Addr), dp = some ⟨g, I1, none⟩ -> sp = some ⟨g, i, none⟩ -> 0 < CS.length -> dp = some ⟨g, I1, none⟩ /\ ∃ ad : Addr, sp = some ad /\ ∀ j v, CS[j]? = some v -> w3.drew.cell? (ad.add j) = some v) := fun _ _ h1 h2 _ => ⟨h1, ⟨g, i, none⟩, h2, fun j v hv => by have h7 := HCELL.out j v hv; show w3.cell? (Addr.add ⟨g, i, none⟩ j) = _; rw [<- h7]; congr 1; unfold Addr.add; split <;> simp_all⟩
                clear hI1
                go_wp2_with fail
                go_region_held_law (fun _ => True) (exact trivial) (first | (refine step_copy_splice rfl (.tmp 54) (.tmp 57) 31 31 rfl 3 Tryz.underlying31 sizeIntN (some ⟨g, I1, none⟩) (some ⟨g, i, none⟩) (acc.length + 1 - I1) (cap - I1) (acc.length + 1 - i) (cap - i) rfl rfl g I1 CUR 3 HG.out CS HMN.out (hpos.out _ _ rfl rfl) HFIT.out HONE.out W0.heap.size W0 hBd.out hBg ?_; intro w4 hg4 hb4))
                obtain ⟨⟨u4, q1⟩, q2, q3⟩ := HINS.out w4 hg4.out
                have HQ3 := Lib.hid q3
                have HB5 : Hid (Below W0.heap.size W0 (w4.setCell ⟨g, i, none⟩ (.int .i64 (n : Int)))) := hb4.setCell (p := ⟨g, i, none⟩) hBg _
                clear q3 hg4 hb4 HINS HG HB3 HMN HFIT HONE HCELL hpos hBd
                go_wp2
                go_roundw
                case rel => exact ⟨k + 1, by omega, by go_num, by rw [HRP2.out, HL2.out]; exact HQ3.out, HB5.out⟩
                case measure => simp [intOf]; omega
              · have hpos : Hid (∀ (dp sp : Option Addr), 0 < CS.length -> dp = some ⟨g, I1, none⟩ /\ ∃ ad : Addr, sp = some ad /\ ∀ j v, CS[j]? = some v -> w3.drew.cell? (ad.add j) = some v) := fun _ _ h => by have h7 := HMN.out; rw [h7] at h; exact absurd h (by show ¬ 0 < min _ _; omega)
                have hc2 : ¬ cap = i := by omega
                by_cases hcc : cap = I1
                · subst hcc
                  have HMN0 : Hid (CS.length = Nat.min (acc.length + 1 - i) 0) := by show _ = _; rw [HMN.out, show acc.length + 1 - cap = 0 by omega]
                  clear hI1
                  go_wp2_with fail
                  go_region_held_law (fun _ => True) (exact trivial) (first | (refine step_copy_splice rfl (.tmp 54) (.tmp 57) 31 31 rfl 3 Tryz.underlying31 sizeIntN _ _ _ _ _ _ rfl rfl g cap CUR 3 HG.out CS HMN0.out (hpos.out _ _) HFIT.out HONE.out W0.heap.size W0 hBd.out hBg ?_; intro w4 hg4 hb4))
                  obtain ⟨⟨u4, q1⟩, q2, q3⟩ := HINS.out w4 hg4.out
                  have HQ3 := Lib.hid q3
                  have HB5 : Hid (Below W0.heap.size W0 (w4.setCell ⟨g, i, none⟩ (.int .i64 (n : Int)))) := hb4.setCell (p := ⟨g, i, none⟩) hBg _
                  clear q3 hg4 hb4 HINS HG HB3 HMN HFIT HONE HCELL hpos hBd
                  go_wp2
                  go_roundw
                  case rel => exact ⟨k + 1, by omega, by go_num, by rw [HRP2.out, HL2.out]; exact HQ3.out, HB5.out⟩
                  case measure => simp [intOf]; omega
                · clear hI1
                  go_wp2_with fail
                  go_region_held_law (fun _ => True) (exact trivial) (first | (refine step_copy_splice rfl (.tmp 54) (.tmp 57) 31 31 rfl 3 Tryz.underlying31 sizeIntN _ _ _ _ _ _ rfl rfl g I1 CUR 3 HG.out CS HMN.out (hpos.out _ _) HFIT.out HONE.out W0.heap.size W0 hBd.out hBg ?_; intro w4 hg4 hb4))
                  obtain ⟨⟨u4, q1⟩, q2, q3⟩ := HINS.out w4 hg4.out
                  have HQ3 := Lib.hid q3
                  have HB5 : Hid (Below W0.heap.size W0 (w4.setCell ⟨g, i, none⟩ (.int .i64 (n : Int)))) := hb4.setCell (p := ⟨g, i, none⟩) hBg _
                  clear q3 hg4 hb4 HINS HG HB3 HMN HFIT HONE HCELL hpos hBd
                  go_wp2
                  go_roundw
                  case rel => exact ⟨k + 1, by omega, by go_num, by rw [HRP2.out, HL2.out]; exact HQ3.out, HB5.out⟩
                  case measure => simp [intOf]; omega
            · obtain ⟨i', hi'⟩ : ∃ i', i' + 1 = i := ⟨i - 1, by omega⟩
              obtain ⟨g2, c2, e2, hg2, cell2'⟩ := (nsAt_row HROW.out).cells i' (by omega)
              simp at e2
              obtain ⟨rfl, rfl⟩ := e2
              have h1 : (i : Int) - 1 = (i' : Int) := by omega
              have hpi : 0 < i := by omega
              have hi2 : i' < acc.length := by omega
              have HI' := Lib.hid hi'
              rw [<- hi'] at hp
              clear hi'
              by_cases hgt : n < nv acc i'
              · have HPN : Hid (posF acc n acc.length = posF acc n i') := hp.trans (if_pos (show n < acc.getD i' 0 from hgt))
                clear hp
                generalize nv acc i' = Y at *
                go_wp2
                go_roundw
                case rel => exact ⟨i', by omega, by go_num, HPN.out, trivial⟩
                case measure => have := HI'.out; simp [intOf]; omega
              · have HP : Hid (posF acc n acc.length = i) := (hp.trans (if_neg (show ¬ n < acc.getD i' 0 from hgt))).trans HI'.out
                clear hp
                generalize nv acc i' = Y at *
                go_wp2_with (at_builtin; refine wpList_append_own _ rfl _ _ 31 rfl W0.heap.size 3 i0 (.int .i64 0) 1 8 Tryz.underlying31 hin hz0 hz1 hz2 rfl (by decide) _ _ _ rfl (HROW.out.alloc _) ⟨wr.heap.size, 0, none⟩ 1 1 [.int .i64 0] rfl rfl (cell_one_newN _ _ _) ?c2 ?c3 ?c4 ?c5 ?_)
                case c2 => first | rfl | (intro u hu; simp at hu; subst hu; rfl)
                case c3 => unfold maxLen; omega
                case c4 => omega
                case c5 => first | omega | (simp; omega)
                intro v' w3 hown hgrow _
                have hb3 : Below W0.heap.size W0 w3 := (HBR.out.alloc hwsz _).grown hgrow (by simp; omega) (fun j hj => (HROW.out.lt j hj).1)
                obtain ⟨g, cap, CUR, CS, rfl, hBg, hnc, hHG, hHINS, hHCELL, hHONE, hHMN, hHFIT⟩ := ins_facts (i := i) (n := n) hi hown
                obtain ⟨I1, hI1⟩ : ∃ I1 : Nat, I1 = i + 1 := ⟨_, rfl⟩
                rw [<- hI1] at hHINS hHMN hHFIT
                have hwr : IntKind.i64.wrap ((i : Int) + 1) = (I1 : Int) := by rw [hI1]; rw [IntKind.wrap_i64]; omega
                have hub : I1 <= acc.length + 1 := by omega
                have hubI : (I1 : Int) <= (acc.length : Int) + 1 := by omega
                have hiI : (i : Int) <= (acc.length : Int) + 1 := by omega
                have HG := Lib.hid hHG
                have HINS := Lib.hid hHINS
                have HCELL := Lib.hid hHCELL
                have HONE := Lib.hid hHONE
                have HMN := Lib.hid hHMN
                have HFIT := Lib.hid hHFIT
                have HB3 := Lib.hid hb3
                have HRP2 : Hid (allP acc0 (X.take (k + 1)) = acc.take i ++ n :: acc.drop i) := by show _ = _; rw [HSN.out]; unfold insP; rw [HP.out]
                have HL2 : Hid ((acc.take i ++ n :: acc.drop i).length = acc.length + 1) := by show _ = _; rw [List.length_append, List.length_cons, List.length_take, List.length_drop]; omega
                have hBd : Hid (Below W0.heap.size W0 w3.drew) := HB3.out.drew
                clear hown hgrow hb3 HSN HP HROW HBR hHG hHINS hHCELL hHONE hHMN hHFIT
                by_cases hend : i < acc.length
                · have hc1 : ¬ cap = I1 := by omega
                  have hc2 : ¬ cap = i := by omega
                  have hpos : Hid (∀ (dp sp : Option Addr), dp = some ⟨g, I1, none⟩ -> sp = some ⟨g, i, none⟩ -> 0 < CS.length -> dp = some ⟨g, I1, none⟩ /\ ∃ ad : Addr, sp = some ad /\ ∀ j v, CS[j]? = some v -> w3.drew.cell? (ad.add j) = some v) := fun _ _ h1 h2 _ => ⟨h1, ⟨g, i, none⟩, h2, fun j v hv => by have h7 := HCELL.out j v hv; show w3.cell? (Addr.add ⟨g, i, none⟩ j) = _; rw [<- h7]; congr 1; unfold Addr.add; split <;> simp_all⟩
                  clear hI1
                  go_wp2_with fail
                  go_region_held_law (fun _ => True) (exact trivial) (first | (refine step_copy_splice rfl (.tmp 54) (.tmp 57) 31 31 rfl 3 Tryz.underlying31 sizeIntN (some ⟨g, I1, none⟩) (some ⟨g, i, none⟩) (acc.length + 1 - I1) (cap - I1) (acc.length + 1 - i) (cap - i) rfl rfl g I1 CUR 3 HG.out CS HMN.out (hpos.out _ _ rfl rfl) HFIT.out HONE.out W0.heap.size W0 hBd.out hBg ?_; intro w4 hg4 hb4))
                  obtain ⟨⟨u4, q1⟩, q2, q3⟩ := HINS.out w4 hg4.out
                  have HQ3 := Lib.hid q3
                  have HB5 : Hid (Below W0.heap.size W0 (w4.setCell ⟨g, i, none⟩ (.int .i64 (n : Int)))) := hb4.setCell (p := ⟨g, i, none⟩) hBg _
                  clear q3 hg4 hb4 HINS HG HB3 HMN HFIT HONE HCELL hpos hBd
                  go_wp2
                  go_roundw
                  case rel => exact ⟨k + 1, by omega, by go_num, by rw [HRP2.out, HL2.out]; exact HQ3.out, HB5.out⟩
                  case measure => simp [intOf]; omega
                · have hpos : Hid (∀ (dp sp : Option Addr), 0 < CS.length -> dp = some ⟨g, I1, none⟩ /\ ∃ ad : Addr, sp = some ad /\ ∀ j v, CS[j]? = some v -> w3.drew.cell? (ad.add j) = some v) := fun _ _ h => by have h7 := HMN.out; rw [h7] at h; exact absurd h (by show ¬ 0 < min _ _; omega)
                  have hc2 : ¬ cap = i := by omega
                  by_cases hcc : cap = I1
                  · subst hcc
                    have HMN0 : Hid (CS.length = Nat.min (acc.length + 1 - i) 0) := by show _ = _; rw [HMN.out, show acc.length + 1 - cap = 0 by omega]
                    clear hI1
                    go_wp2_with fail
                    go_region_held_law (fun _ => True) (exact trivial) (first | (refine step_copy_splice rfl (.tmp 54) (.tmp 57) 31 31 rfl 3 Tryz.underlying31 sizeIntN _ _ _ _ _ _ rfl rfl g cap CUR 3 HG.out CS HMN0.out (hpos.out _ _) HFIT.out HONE.out W0.heap.size W0 hBd.out hBg ?_; intro w4 hg4 hb4))
                    obtain ⟨⟨u4, q1⟩, q2, q3⟩ := HINS.out w4 hg4.out
                    have HQ3 := Lib.hid q3
                    have HB5 : Hid (Below W0.heap.size W0 (w4.setCell ⟨g, i, none⟩ (.int .i64 (n : Int)))) := hb4.setCell (p := ⟨g, i, none⟩) hBg _
                    clear q3 hg4 hb4 HINS HG HB3 HMN HFIT HONE HCELL hpos hBd
                    go_wp2
                    go_roundw
                    case rel => exact ⟨k + 1, by omega, by go_num, by rw [HRP2.out, HL2.out]; exact HQ3.out, HB5.out⟩
                    case measure => simp [intOf]; omega
                  · clear hI1
                    go_wp2_with fail
                    go_region_held_law (fun _ => True) (exact trivial) (first | (refine step_copy_splice rfl (.tmp 54) (.tmp 57) 31 31 rfl 3 Tryz.underlying31 sizeIntN _ _ _ _ _ _ rfl rfl g I1 CUR 3 HG.out CS HMN.out (hpos.out _ _) HFIT.out HONE.out W0.heap.size W0 hBd.out hBg ?_; intro w4 hg4 hb4))
                    obtain ⟨⟨u4, q1⟩, q2, q3⟩ := HINS.out w4 hg4.out
                    have HQ3 := Lib.hid q3
                    have HB5 : Hid (Below W0.heap.size W0 (w4.setCell ⟨g, i, none⟩ (.int .i64 (n : Int)))) := hb4.setCell (p := ⟨g, i, none⟩) hBg _
                    clear q3 hg4 hb4 HINS HG HB3 HMN HFIT HONE HCELL hpos hBd
                    go_wp2
                    go_roundw
                    case rel => exact ⟨k + 1, by omega, by go_num, by rw [HRP2.out, HL2.out]; exact HQ3.out, HB5.out⟩
                    case measure => simp [intOf]; omega
        · obtain rfl : k = X.length := by omega
          have HROW2 : Hid (wr.ownsRow W0.heap.size 3 1 (.slice ra (accX a b (j + 1)).length rc) (accX a b (j + 1)).length (ncells (accX a b (j + 1)))) := by
            show World.ownsRow _ _ _ _ _ _ _
            rw [HJ.out]
            have h7 := HROW.out
            rw [List.take_length] at h7
            exact h7
          have HLL : Hid ((allP acc0 (X.take X.length)).length = (accX a b (j + 1)).length) := by show _ = _; rw [HJ.out, List.take_length]
          clear HROW
          rw [HLL.out]
          go_wp2
          go_roundw
          case rel => exact ⟨j + 1, by omega, by go_num, HROW2.out, HBR.out⟩
          case measure => simp [intOf]; omega
    · have e3 : accX a b j = placesF a b := by obtain rfl : j = 3 := by omega
                                               rfl
      rw [e3] at HROW ⊢
      clear e3
      have hpl : (placesF a b).length <= 2000000002 := by rw [places_len]; omega
      have HML : Hid (mixF a b rule = turnsF (ruleF a b rule) false (placesF a b)) := rfl
      have HRF : Hid (∀ n : Nat, ruleF a b rule n = (decide (n < ALL) && rule (inP a n) (inP b n))) := fun _ => rfl
      generalize hP : placesF a b = P at *
      generalize hM : mixF a b rule = M at *
      generalize hRU : ruleF a b rule = R at *
      rename World => w9
      have hML : M.length <= P.length := by rw [HML.out]; exact turns_len _ _ _
      go_wp2_with fail
      try rw [show decide ((j : Int) < 3) = false from decide_eq_false (by omega)]
      go_loopw [13, 14, 67] (fun oV sV kV wr => ∃ (k : Nat) (acc : List Nat) (is : Bool), k <= P.length /\ kV = .int .i64 (k : Int) /\ sV = .bool is /\ acc ++ turnsF R is (P.drop k) = M /\ wr.ownsRow w9.heap.size 3 1 oV acc.length (ncells acc) /\ Below w9.heap.size w9 wr) (fun _ _ kV _ => P.length - (intOf kV).toNat)
      case atStart => exact ⟨0, [], false, Nat.zero_le _, rfl, rfl, by rw [HML.out]; rfl, World.ownsRow_nil _ _ _ _, Below.refl _ _⟩
      case round =>
        obtain ⟨k, acc, is, hk, rfl, rfl, hres, hrow, hbz⟩ := hrel
        obtain ⟨oa, oc, rfl⟩ := nsrow_form hrow
        have hal : acc.length <= M.length := by rw [<- hres]; simp
        have HRZ := Lib.hid hrow
        have HBZ := Lib.hid hbz
        have HRS := Lib.hid hres
        have hwz := hbz.size
        clear hrow hbz hres
        by_cases hlt3 : k < P.length
        · obtain ⟨g3, c3, e3, hg3, cell3⟩ := (nsAt_row HROW.out).cells k hlt3
          simp at e3
          obtain ⟨rfl, rfl⟩ := e3
          have cz := (HBZ.out.cell (p := ⟨g3, k, none⟩) (by show g3 < _; omega)).trans cell3
          have hBW : Below W0.heap.size W0 wr := HBR.out.trans (HBZ.out.mono HBR.out.size)
          have HIA := Lib.hid (in_any a (nv P k) _ wr (HVA0.out wr hBW) (by omega))
          have HIB := Lib.hid (in_any b (nv P k) _ wr (HVB0.out wr hBW) (by omega))
          have HRU := Lib.hid (HR.out (inP a (nv P k)) (inP b (nv P k)) wr)
          have hRn := HRF.out (nv P k)
          clear hBW
          by_cases hall : nv P k < ALL
          · have hall' : (nv P k : Int) < 1000000000 := by unfold ALL at hall; omega
            rw [decide_eq_true hall, Bool.true_and] at hRn
            rw [<- hRn] at HRU
            by_cases hsame : R (nv P k) = is
            · have HRN : Hid (acc ++ turnsF R is (P.drop (k + 1)) = M) := by show _ = _; rw [<- turns_same hlt3 hsame]; exact HRS.out
              rw [hsame] at HRU
              clear hRn hsame HRS
              generalize inP a (nv P k) = X1 at *
              generalize inP b (nv P k) = X2 at *
              generalize nv P k = N at *
              go_wp2_with fail
              refine HIA.out.mono ?_
              rintro e w1 ⟨rfl, hw1⟩
              rw [hw1]
              clear hw1
              go_wp2_with fail
              refine HIB.out.mono ?_
              rintro e w1 ⟨rfl, hw1⟩
              rw [hw1]
              clear hw1
              go_wp2_with fail
              refine HRU.out.mono ?_
              rintro e w1 ⟨rfl, hw1⟩
              rw [hw1]
              clear hw1
              clear HIA HIB HRU
              go_wp2
              go_roundw
              case rel => exact ⟨k + 1, acc, is, by omega, by go_num, rfl, HRN.out, HRZ.out, HBZ.out⟩
              case measure => simp [intOf]; omega
            · have hte := turns_turn hlt3 hsame
              have HRN : Hid ((acc ++ [nv P k]) ++ turnsF R (R (nv P k)) (P.drop (k + 1)) = M) := by show _ = _; rw [List.append_assoc, List.singleton_append, <- hte]; exact HRS.out
              have hal2 : (acc ++ [nv P k]).length <= M.length := by rw [<- HRN.out]; simp
              simp at hal2
              cases is with
              | false =>
                have hRt : R (nv P k) = true := by simpa using hsame
                rw [hRt] at HRN HRU
                clear hRn hsame HRS hte hRt
                generalize inP a (nv P k) = X1 at *
                generalize inP b (nv P k) = X2 at *
                generalize nv P k = N at *
                go_wp2_with fail
                refine HIA.out.mono ?_
                rintro e w1 ⟨rfl, hw1⟩
                rw [hw1]
                clear hw1
                go_wp2_with fail
                refine HIB.out.mono ?_
                rintro e w1 ⟨rfl, hw1⟩
                rw [hw1]
                clear hw1
                go_wp2_with fail
                refine HRU.out.mono ?_
                rintro e w1 ⟨rfl, hw1⟩
                rw [hw1]
                clear hw1
                clear HIA HIB HRU
                go_wp2_with (at_builtin; refine wpList_append_own _ rfl _ _ 47 rfl w9.heap.size 3 i0 (.int .i64 0) 1 8 Tryz.underlying47 hin hz0 hz1 hz2 rfl (by decide) _ _ _ rfl (HRZ.out.alloc _) ⟨wr.heap.size, 0, none⟩ 1 1 [.int .i64 (N : Int)] rfl rfl (cell_one_newN _ _ _) ?d2 ?d3 ?d4 ?d5 ?_)
                case d2 => first | rfl | (intro u hu; simp at hu; subst hu; rfl)
                case d3 => unfold maxLen; omega
                case d4 => omega
                case d5 => first | omega | (simp; omega)
                intro v' w3 hown hgrow _
                have hb3 : Below w9.heap.size w9 w3 := (HBZ.out.alloc hwz _).grown hgrow (by simp; omega) (fun j hj => (HRZ.out.lt j hj).1)
                have e7 : (acc ++ [N]).length = acc.length + 1 := by simp
                have es : ncells (acc ++ [N]) = ncells acc ++ [.int .i64 (N : Int)] := ncells_append _ _
                rw [<- es, <- e7] at hown
                have HO7 := Lib.hid hown
                have HB7 := Lib.hid hb3
                clear hown hgrow hb3 e7 es
                go_wp2
                go_roundw
                case rel => exact ⟨k + 1, acc ++ [N], true, by omega, by go_num, rfl, HRN.out, HO7.out, HB7.out⟩
                case measure => simp [intOf]; omega
              | true =>
                have hRt : R (nv P k) = false := by simpa using hsame
                rw [hRt] at HRN HRU
                clear hRn hsame HRS hte hRt
                generalize inP a (nv P k) = X1 at *
                generalize inP b (nv P k) = X2 at *
                generalize nv P k = N at *
                go_wp2_with fail
                refine HIA.out.mono ?_
                rintro e w1 ⟨rfl, hw1⟩
                rw [hw1]
                clear hw1
                go_wp2_with fail
                refine HIB.out.mono ?_
                rintro e w1 ⟨rfl, hw1⟩
                rw [hw1]
                clear hw1
                go_wp2_with fail
                refine HRU.out.mono ?_
                rintro e w1 ⟨rfl, hw1⟩
                rw [hw1]
                clear hw1
                clear HIA HIB HRU
                go_wp2_with (at_builtin; refine wpList_append_own _ rfl _ _ 47 rfl w9.heap.size 3 i0 (.int .i64 0) 1 8 Tryz.underlying47 hin hz0 hz1 hz2 rfl (by decide) _ _ _ rfl (HRZ.out.alloc _) ⟨wr.heap.size, 0, none⟩ 1 1 [.int .i64 (N : Int)] rfl rfl (cell_one_newN _ _ _) ?d2 ?d3 ?d4 ?d5 ?_)
                case d2 => first | rfl | (intro u hu; simp at hu; subst hu; rfl)
                case d3 => unfold maxLen; omega
                case d4 => omega
                case d5 => first | omega | (simp; omega)
                intro v' w3 hown hgrow _
                have hb3 : Below w9.heap.size w9 w3 := (HBZ.out.alloc hwz _).grown hgrow (by simp; omega) (fun j hj => (HRZ.out.lt j hj).1)
                have e7 : (acc ++ [N]).length = acc.length + 1 := by simp
                have es : ncells (acc ++ [N]) = ncells acc ++ [.int .i64 (N : Int)] := ncells_append _ _
                rw [<- es, <- e7] at hown
                have HO7 := Lib.hid hown
                have HB7 := Lib.hid hb3
                clear hown hgrow hb3 e7 es
                go_wp2
                go_roundw
                case rel => exact ⟨k + 1, acc ++ [N], false, by omega, by go_num, rfl, HRN.out, HO7.out, HB7.out⟩
                case measure => simp [intOf]; omega
          · have hall' : ¬ (nv P k : Int) < 1000000000 := by unfold ALL at hall; omega
            rw [decide_eq_false hall, Bool.false_and] at hRn
            clear HIA HIB HRU
            cases is with
            | false =>
              have HRN : Hid (acc ++ turnsF R false (P.drop (k + 1)) = M) := by show _ = _; rw [<- turns_same hlt3 hRn]; exact HRS.out
              clear hRn HRS
              generalize nv P k = N at *
              go_wp2
              go_roundw
              case rel => exact ⟨k + 1, acc, false, by omega, by go_num, rfl, HRN.out, HRZ.out, HBZ.out⟩
              case measure => simp [intOf]; omega
            | true =>
              have hte := turns_turn (f := R) (is := true) hlt3 (by rw [hRn]; decide)
              rw [hRn] at hte
              have HRN : Hid ((acc ++ [nv P k]) ++ turnsF R false (P.drop (k + 1)) = M) := by show _ = _; rw [List.append_assoc, List.singleton_append, <- hte]; exact HRS.out
              have hal2 : (acc ++ [nv P k]).length <= M.length := by rw [<- HRN.out]; simp
              simp at hal2
              clear hRn HRS hte
              generalize nv P k = N at *
              go_wp2_with (at_builtin; refine wpList_append_own _ rfl _ _ 47 rfl w9.heap.size 3 i0 (.int .i64 0) 1 8 Tryz.underlying47 hin hz0 hz1 hz2 rfl (by decide) _ _ _ rfl (HRZ.out.alloc _) ⟨wr.heap.size, 0, none⟩ 1 1 [.int .i64 (N : Int)] rfl rfl (cell_one_newN _ _ _) ?d2 ?d3 ?d4 ?d5 ?_)
              case d2 => first | rfl | (intro u hu; simp at hu; subst hu; rfl)
              case d3 => unfold maxLen; omega
              case d4 => omega
              case d5 => first | omega | (simp; omega)
              intro v' w3 hown hgrow _
              have hb3 : Below w9.heap.size w9 w3 := (HBZ.out.alloc hwz _).grown hgrow (by simp; omega) (fun j hj => (HRZ.out.lt j hj).1)
              have e7 : (acc ++ [N]).length = acc.length + 1 := by simp
              have es : ncells (acc ++ [N]) = ncells acc ++ [.int .i64 (N : Int)] := ncells_append _ _
              rw [<- es, <- e7] at hown
              have HO7 := Lib.hid hown
              have HB7 := Lib.hid hb3
              clear hown hgrow hb3 e7 es
              go_wp2
              go_roundw
              case rel => exact ⟨k + 1, acc ++ [N], false, by omega, by go_num, rfl, HRN.out, HO7.out, HB7.out⟩
              case measure => simp [intOf]; omega
        · obtain rfl : k = P.length := by omega
          have hMA : acc = M := by rw [<- HRS.out, List.drop_length, turnsF, List.append_nil]
          have HOUT : Hid (NsOut w M (.returned (.slice oa acc.length oc)) wr) := by
            rw [<- hMA]
            exact ⟨oa, oc, rfl, nsAt_row HRZ.out, fun g hg => Nat.le_trans (Nat.le_trans HB0.out.size HBR.out.size) (HRZ.out.lt g hg).1, (HB0.out.trans (HBR.out.mono HB0.out.size)).trans (HBZ.out.mono (Nat.le_trans HB0.out.size HBR.out.size))⟩
          clear hMA HRS
          go_wp2
          go_ret
          exact HOUT.out
end
section
open Go.RowKit Sv
theorem ent_or1 : ∀ args w, (callFunc 113 args).run Tryz.prog w = .ok (.enter 113 args) w := by intro args w; kernel_rfl
theorem ent_and1 : ∀ args w, (callFunc 112 args).run Tryz.prog w = .ok (.enter 112 args) w := by intro args w; kernel_rfl
theorem ent_not1 : ∀ args w, (callFunc 168 args).run Tryz.prog w = .ok (.enter 168 args) w := by intro args w; kernel_rfl
theorem or1_any (x y : Bool) (W : World) : Calls Tryz.prog 113 #[.bool x, .bool y] W fun e w' => e = .returned (.bool (x || y)) /\ w' = W := by
  cases x
  · go_enter Tryz.func113, Tryz.ntmps113
    go_wp2
    go_ret
    exact ⟨rfl, rfl⟩
  · go_enter Tryz.func113, Tryz.ntmps113
    go_wp2
    go_ret
    exact ⟨rfl, rfl⟩
theorem and1_any (x y : Bool) (W : World) : Calls Tryz.prog 112 #[.bool x, .bool y] W fun e w' => e = .returned (.bool (x && y)) /\ w' = W := by
  cases x
  · go_enter Tryz.func112, Tryz.ntmps112
    go_wp2
    go_ret
    exact ⟨rfl, rfl⟩
  · go_enter Tryz.func112, Tryz.ntmps112
    go_wp2
    go_ret
    exact ⟨rfl, rfl⟩
theorem not1_any (x y : Bool) (W : World) : Calls Tryz.prog 168 #[.bool x, .bool y] W fun e w' => e = .returned (.bool (!x)) /\ w' = W := by
  go_enter Tryz.func168, Tryz.ntmps168
  go_wp2
  go_ret
  exact ⟨rfl, rfl⟩
theorem tp_small {l : List Span} (h : Rg l) : (tp l).length <= 1000000000 := by have := rg_len h; rw [tp_len]; omega
theorem ror_any (l m : List Span) (hl : Rg l) (hm : Rg m) (v u : Value) (w : World) (hv : NsAt w v (tp l)) (hu : NsAt w u (tp m)) :
    Calls Tryz.prog 57 #[v, u] w (NsOut w (tp (orr l m))) := by
  have H := Lib.hid (mix_any (tp l) (tp m) v u 113 (fun x y => x || y) w hv hu (tp_small hl) (tp_small hm) ent_or1 or1_any)
  rw [mix_or hl hm] at H
  obtain ⟨a, c, rfl⟩ := hv.form
  obtain ⟨a', c', rfl⟩ := hu.form
  clear hv hu
  generalize (tp l).length = n1 at *
  generalize (tp m).length = n2 at *
  generalize tp (orr l m) = R at *
  go_enter Tryz.func57, Tryz.ntmps57
  go_wp2_with fail
  refine H.out.mono ?_
  rintro e w' ⟨b, d, rfl, h1, h2, h3⟩
  have H1 := Lib.hid h1
  have H2 := Lib.hid h2
  have H3 := Lib.hid h3
  clear h1 h2 h3
  go_wp2
  go_ret
  exact ⟨b, d, rfl, H1.out, H2.out, H3.out⟩
theorem rand_any (l m : List Span) (hl : Rg l) (hm : Rg m) (v u : Value) (w : World) (hv : NsAt w v (tp l)) (hu : NsAt w u (tp m)) :
    Calls Tryz.prog 56 #[v, u] w (NsOut w (tp (nd l m))) := by
  have H := Lib.hid (mix_any (tp l) (tp m) v u 112 (fun x y => x && y) w hv hu (tp_small hl) (tp_small hm) ent_and1 and1_any)
  rw [mix_and hl hm] at H
  obtain ⟨a, c, rfl⟩ := hv.form
  obtain ⟨a', c', rfl⟩ := hu.form
  clear hv hu
  generalize (tp l).length = n1 at *
  generalize (tp m).length = n2 at *
  generalize tp (nd l m) = R at *
  go_enter Tryz.func56, Tryz.ntmps56
  go_wp2_with fail
  refine H.out.mono ?_
  rintro e w' ⟨b, d, rfl, h1, h2, h3⟩
  have H1 := Lib.hid h1
  have H2 := Lib.hid h2
  have H3 := Lib.hid h3
  clear h1 h2 h3
  go_wp2
  go_ret
  exact ⟨b, d, rfl, H1.out, H2.out, H3.out⟩
theorem rnot_any (l : List Span) (hl : Rg l) (v : Value) (w : World) (hv : NsAt w v (tp l)) :
    Calls Tryz.prog 110 #[v] w (NsOut w (tp (nt l))) := by
  have H := Lib.hid (mix_any (tp l) [] v (.slice none 0 0) 168 (fun x _ => !x) w hv (nsAt_nil w) (tp_small hl) (Nat.zero_le _) ent_not1 not1_any)
  rw [mix_not hl] at H
  obtain ⟨a, c, rfl⟩ := hv.form
  clear hv
  generalize (tp l).length = n1 at *
  generalize tp (nt l) = R at *
  go_enter Tryz.func110, Tryz.ntmps110
  go_wp2_with fail
  refine H.out.mono ?_
  rintro e w' ⟨b, d, rfl, h1, h2, h3⟩
  have H1 := Lib.hid h1
  have H2 := Lib.hid h2
  have H3 := Lib.hid h3
  clear h1 h2 h3
  go_wp2
  go_ret
  exact ⟨b, d, rfl, H1.out, H2.out, H3.out⟩
end
end Go.Proofs.YtpmpnbbihmgdpaaGreatDoor
