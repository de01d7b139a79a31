/- The order of items. -/
import Derived.Test.YtpmpnbbihmgdpaaGreatDoorCtGath
import Derived.Test.YtpmpnbbihmgdpaaGreatDoorCtPlain
import Derived.Shelf.SlSortCmp.NoneTotal
set_option maxHeartbeats 4000000
set_option maxRecDepth 100000
namespace Go.Proofs.YtpmpnbbihmgdpaaGreatDoor
section
open Go.RowKit Go.Deep Go.Maps Sv
theorem gather_any (ls : List Ln) (lv : Value) (w : World) (h : LnsAt w lv ls) (hl : ls.length <= 100000) :
  Calls Tryz.prog 120 #[lv] w (GaRes w (gathF ls 0 [])) := by
 obtain ⟨R, hR⟩ : ∃ R, gathF ls 0 [] = R := ⟨_, rfl⟩
 rw [hR]
 have HR := Lib.hid hR
 have HL := Lib.hid h
 clear hR
 obtain ⟨la, lc, rfl, -⟩ : ∃ la lc, lv = .slice la ls.length lc /\ True := by obtain ⟨vs, _, h2⟩ := h; obtain ⟨a, c, e, _⟩ := h2.form; exact ⟨a, c, e, trivial⟩
 clear h
 have hg0 : GS w (w.alloc (.map #[] 0)) w.heap.size (.slice none 0 0) [] [] := ⟨World.ownsRow_nil _ _ _ _, NamesAt.made w, Nat.le_refl _, (Below.refl _ w).alloc (Nat.le_refl _) _⟩
 have HG0 := Lib.hid hg0
 clear hg0
 obtain ⟨i0, hin, hz0, hz1, hz2⟩ := info_parts infoIt
 have hmm := @run_makeMap Tryz.prog
 go_enter Tryz.func120, Tryz.ntmps120
 go_wp2_with fail
 clear hmm
 go_loopw [4, 13] (fun itV iV wr => ∃ (i : Nat) (its : List It), i <= ls.length /\ iV = .int .i64 (i : Int) /\ its.length <= i /\ gathF (ls.drop i) i its = R /\ GS w wr w.heap.size itV its its) (fun _ iV _ => ls.length - (intOf iV).toNat)
 case atStart => exact ⟨0, [], Nat.zero_le _, rfl, Nat.le_refl _, by rw [List.drop_zero]; exact HR.out, HG0.out⟩
 case round =>
  obtain ⟨i, its, hi, rfl, hil, hga, hgs⟩ := hrel
  clear HR HG0
  obtain ⟨iva, ivc, rfl, -⟩ := (rowAt_own hgs.row).form
  by_cases hlt : i < ls.length
  ·obtain ⟨g, cap', rv, e, hg, hsp, hrg, c0, c1, c2, c3, c4, c5, c6⟩ := (HL.out.below hgs.B (Nat.le_refl _)).at i hlt
   simp at e
   obtain ⟨rfl, rfl⟩ := e
   rw [gathF_at hlt] at hga
   have HGA := Lib.hid hga
   clear hga hrg
   generalize ls.getD i default = x at *
   have HSP := Lib.hid hsp
   obtain ⟨rra, rrc, rfl⟩ := hsp.form
   clear hsp
   have kx := Blk.new wr 98 #[.int .i64 x.kind, .string x.name, .int .i64 x.a, .int .i64 x.b, .int .i64 x.c, .string x.other, .slice rra x.rng.length rrc]
   have hbx : Below wr.heap.size wr (wr.alloc (.cells #[.int .i64 x.kind, .string x.name, .int .i64 x.a, .int .i64 x.b, .int .i64 x.c, .string x.other, .slice rra x.rng.length rrc] 98)) := (Below.refl _ _).alloc (Nat.le_refl _) _
   have HG1 : Hid (GS w (wr.alloc (.cells #[.int .i64 x.kind, .string x.name, .int .i64 x.a, .int .i64 x.b, .int .i64 x.c, .string x.other, .slice rra x.rng.length rrc] 98)) w.heap.size (.slice iva its.length ivc) its its) := hgs.step hbx
   have HCHK := Lib.hid (chk_any x (.slice rra x.rng.length rrc) (wr.alloc (.cells #[.int .i64 x.kind, .string x.name, .int .i64 x.a, .int .i64 x.b, .int .i64 x.c, .string x.other, .slice rra x.rng.length rrc] 98)) (HSP.out.below hbx (Nat.le_refl _)))
   have HNM : Hid (ctCheck x = 0 -> x.name.size <= 12) := check_name
   clear hgs hbx HSP
   go_upto_region 6 with fail
   clear c0 c1 c2 c3 c4 c5 c6
   generalize wr.alloc (.cells #[.int .i64 x.kind, .string x.name, .int .i64 x.a, .int .i64 x.b, .int .i64 x.c, .string x.other, .slice rra x.rng.length rrc] 98) = W1 at *
   generalize wr.heap.size = bx at *
   have d0 : W1.cell? ⟨bx, 0, none⟩ = some (.int .i64 x.kind) := kx.cell 0
   have d1 : W1.cell? ⟨bx, 1, none⟩ = some (.string x.name) := kx.cell 1
   have d2 : W1.cell? ⟨bx, 2, none⟩ = some (.int .i64 x.a) := kx.cell 2
   have d3 : W1.cell? ⟨bx, 3, none⟩ = some (.int .i64 x.b) := kx.cell 3
   have d4 : W1.cell? ⟨bx, 4, none⟩ = some (.int .i64 x.c) := kx.cell 4
   have d5 : W1.cell? ⟨bx, 5, none⟩ = some (.string x.other) := kx.cell 5
   have d6 : W1.cell? ⟨bx, 6, none⟩ = some (.slice rra x.rng.length rrc) := kx.cell 6
   go_wp2_with fail
   clear d0 d1 d2 d3 d4 d5 d6
   refine HCHK.out.mono ?_
   rintro e w2 ⟨rfl, hb2⟩
   have kx2 := kx.below hb2 kx.lt
   have HG2 := Lib.hid (HG1.out.step hb2)
   clear HCHK hb2 kx HG1
   by_cases hz : ctCheck x = 0
   ·have hnm := HNM.out hz
    rw [hz] at HGA ⊢
    rw [if_neg (by simp)] at HGA
    clear hz HNM
    by_cases hk : x.kind = 1
    ·rw [if_pos hk] at HGA
     have d0 : w2.cell? ⟨bx, 0, none⟩ = some (.int .i64 x.kind) := kx2.cell 0
     have d1 : w2.cell? ⟨bx, 1, none⟩ = some (.string x.name) := kx2.cell 1
     have d2 : w2.cell? ⟨bx, 2, none⟩ = some (.int .i64 x.a) := kx2.cell 2
     have d3 : w2.cell? ⟨bx, 3, none⟩ = some (.int .i64 x.b) := kx2.cell 3
     have d4 : w2.cell? ⟨bx, 4, none⟩ = some (.int .i64 x.c) := kx2.cell 4
     have d5 : w2.cell? ⟨bx, 5, none⟩ = some (.string x.other) := kx2.cell 5
     have d6 : w2.cell? ⟨bx, 6, none⟩ = some (.slice rra x.rng.length rrc) := kx2.cell 6
     rw [hk] at d0
     have ki := Blk.new w2 182 #[.string x.name, .int .i64 x.a, .int .i64 x.b, .int .i64 x.c]
     have hbi : Below w2.heap.size w2 (w2.alloc (.cells #[.string x.name, .int .i64 x.a, .int .i64 x.b, .int .i64 x.c] 182)) := (Below.refl _ _).alloc (Nat.le_refl _) _
     have HG3 := Lib.hid (HG2.out.step hbi)
     have kx3 := kx2.below hbi kx2.lt
     clear hbi HG2 kx2
     go_upto_region 9 with fail
     clear d0 d1 d2 d3 d4 d5 d6
     generalize w2.alloc (.cells #[.string x.name, .int .i64 x.a, .int .i64 x.b, .int .i64 x.c] 182) = W3 at *
     generalize w2.heap.size = bi at *
     obtain ⟨w4, hrun, hgs4, hkeep⟩ := HG3.out.put (by omega) (x := x.it) (show x.name.size <= 100000 by omega)
     have hrun' : (Instr.mapUpdate 291 (.map (some w.heap.size)) (.string x.name) (.agg #[])).run Tryz.prog W3 = .ok () w4 := hrun
     have ki4 := hkeep _ _ _ ki
     have kx4 := hkeep _ _ _ kx3
     have HG4 := Lib.hid hgs4
     clear hrun hgs4 hkeep HG3
     have d1 : W3.cell? ⟨bx, 1, none⟩ = some (.string x.name) := kx3.cell 1
     go_upto_region 10 with fail
     clear d1 hrun' ki kx3
     have hm0 := has_item its x.it (.slice iva its.length ivc) w4 (rowAt_own HG4.out.row) (by omega)
     by_cases hm : x.it ∈ its
     ·rw [if_pos hm] at HGA
      have HHAS : Hid (Calls Tryz.prog 180 #[.slice iva its.length ivc, .agg #[.string x.name, .int .i64 x.a, .int .i64 x.b, .int .i64 x.c]] w4 fun e w' => e = .returned (.bool true) /\ Below w4.heap.size w4 w') := by have h := hm0; rw [decide_eq_true hm] at h; exact h
      clear hm hm0
      have e0 : w4.cell? ⟨bi, 0, none⟩ = some (.string x.name) := ki4.cell 0
      have e1 : w4.cell? ⟨bi, 1, none⟩ = some (.int .i64 x.a) := ki4.cell 1
      have e2 : w4.cell? ⟨bi, 2, none⟩ = some (.int .i64 x.b) := ki4.cell 2
      have e3 : w4.cell? ⟨bi, 3, none⟩ = some (.int .i64 x.c) := ki4.cell 3
      go_wp2_with fail
      clear e0 e1 e2 e3
      refine HHAS.out.mono ?_
      rintro e w5 ⟨rfl, hb5⟩
      have ki5 := ki4.below hb5 ki4.lt
      have HG5 := Lib.hid (HG4.out.step hb5)
      clear HHAS hb5 ki4 HG4 kx4
      have f0 : w5.cell? ⟨bi, 0, none⟩ = some (.string x.name) := ki5.cell 0
      have f1 : w5.cell? ⟨bi, 1, none⟩ = some (.int .i64 x.a) := ki5.cell 1
      have f2 : w5.cell? ⟨bi, 2, none⟩ = some (.int .i64 x.b) := ki5.cell 2
      have f3 : w5.cell? ⟨bi, 3, none⟩ = some (.int .i64 x.c) := ki5.cell 3
      have HROW := Lib.hid HG5.out.row
      have HGA5 := Lib.hid (HG5.out.step ((Below.refl _ w5).alloc (Nat.le_refl _) (.cells #[.string x.name, .int .i64 x.a, .int .i64 x.b, .int .i64 x.c] 182)))
      have hws := HG5.out.B.size
      go_wp2_with (at_builtin; refine wpList_append_own_at _ rfl _ _ 176 rfl w.heap.size 182 i0 (.agg #[.string ⟨#[]⟩, .int .i64 0, .int .i64 0, .int .i64 0]) 4 40 Tryz.underlying176 hin hz0 hz1 hz2 rfl (by decide) _ _ _ rfl (HROW.out.alloc _) ⟨w5.heap.size, 0, none⟩ 1 1 [.string x.name, .int .i64 x.a, .int .i64 x.b, .int .i64 x.c] rfl rfl ?c1a ?c2a ?c3a ?c4a ?c5a ?_)
      case c1a => exact cell_four_new _ _ _ _ _ _
      case c2a => intro u hu; simp at hu; rcases hu with rfl | rfl | rfl | rfl <;> rfl
      case c3a => unfold maxLen; omega
      case c4a => omega
      case c5a => simp; omega
      intro v7 w7 hown7 hgrow7 _ hloc7
      have HG7 : Hid (GS w w7 w.heap.size v7 (its ++ [x.it]) (its ++ [x.it])) := HGA5.out.app hown7 hgrow7
      clear hown7 hgrow7 hloc7 HGA5 HROW f0 f1 f2 f3 hws
      have HBF : Hid (Below w.heap.size w (w7.alloc (.cells #[.int .i64 9, .int .i64 (i : Int)] 195))) := HG7.out.B.alloc HG7.out.B.size _
      have HKF : Hid (Blk (w7.alloc (.cells #[.int .i64 9, .int .i64 (i : Int)] 195)) w7.heap.size 195 #[.int .i64 9, .int .i64 (i : Int)]) := Blk.new _ _ _
      clear HG7
      go_wp2
      go_ret2
      rw [<- HGA.out]
      exact ⟨_, rfl, HKF.out, HBF.out⟩
     ·rw [if_neg hm] at HGA
      have HHAS : Hid (Calls Tryz.prog 180 #[.slice iva its.length ivc, .agg #[.string x.name, .int .i64 x.a, .int .i64 x.b, .int .i64 x.c]] w4 fun e w' => e = .returned (.bool false) /\ Below w4.heap.size w4 w') := by have h := hm0; rw [decide_eq_false hm] at h; exact h
      clear hm hm0
      have e0 : w4.cell? ⟨bi, 0, none⟩ = some (.string x.name) := ki4.cell 0
      have e1 : w4.cell? ⟨bi, 1, none⟩ = some (.int .i64 x.a) := ki4.cell 1
      have e2 : w4.cell? ⟨bi, 2, none⟩ = some (.int .i64 x.b) := ki4.cell 2
      have e3 : w4.cell? ⟨bi, 3, none⟩ = some (.int .i64 x.c) := ki4.cell 3
      go_wp2_with fail
      clear e0 e1 e2 e3
      refine HHAS.out.mono ?_
      rintro e w5 ⟨rfl, hb5⟩
      have ki5 := ki4.below hb5 ki4.lt
      have HG5 := Lib.hid (HG4.out.step hb5)
      clear HHAS hb5 ki4 HG4 kx4
      have hlenN := fun ty => HG5.out.nm.len ty
      generalize hN : namesN (its ++ [x.it]) = N at *
      clear hN
      by_cases h8 : 8 < N
      ·rw [if_pos (Or.inl h8)] at HGA
       have h8' : (8 : Int) < (N : Int) := by omega
       have f0 : w5.cell? ⟨bi, 0, none⟩ = some (.string x.name) := ki5.cell 0
       have f1 : w5.cell? ⟨bi, 1, none⟩ = some (.int .i64 x.a) := ki5.cell 1
       have f2 : w5.cell? ⟨bi, 2, none⟩ = some (.int .i64 x.b) := ki5.cell 2
       have f3 : w5.cell? ⟨bi, 3, none⟩ = some (.int .i64 x.c) := ki5.cell 3
       have HROW := Lib.hid HG5.out.row
       have HGA5 := Lib.hid (HG5.out.step ((Below.refl _ w5).alloc (Nat.le_refl _) (.cells #[.string x.name, .int .i64 x.a, .int .i64 x.b, .int .i64 x.c] 182)))
       have hws := HG5.out.B.size
       go_wp2_with (at_builtin; refine wpList_append_own_at _ rfl _ _ 176 rfl w.heap.size 182 i0 (.agg #[.string ⟨#[]⟩, .int .i64 0, .int .i64 0, .int .i64 0]) 4 40 Tryz.underlying176 hin hz0 hz1 hz2 rfl (by decide) _ _ _ rfl (HROW.out.alloc _) ⟨w5.heap.size, 0, none⟩ 1 1 [.string x.name, .int .i64 x.a, .int .i64 x.b, .int .i64 x.c] rfl rfl ?c1b ?c2b ?c3b ?c4b ?c5b ?_)
       case c1b => exact cell_four_new _ _ _ _ _ _
       case c2b => intro u hu; simp at hu; rcases hu with rfl | rfl | rfl | rfl <;> rfl
       case c3b => unfold maxLen; omega
       case c4b => omega
       case c5b => simp; omega
       intro v7 w7 hown7 hgrow7 _ hloc7
       have HG7 : Hid (GS w w7 w.heap.size v7 (its ++ [x.it]) (its ++ [x.it])) := HGA5.out.app hown7 hgrow7
       clear hown7 hgrow7 hloc7 HGA5 HROW f0 f1 f2 f3 hws
       have HBF : Hid (Below w.heap.size w (w7.alloc (.cells #[.int .i64 4, .int .i64 (i : Int)] 195))) := HG7.out.B.alloc HG7.out.B.size _
       have HKF : Hid (Blk (w7.alloc (.cells #[.int .i64 4, .int .i64 (i : Int)] 195)) w7.heap.size 195 #[.int .i64 4, .int .i64 (i : Int)]) := Blk.new _ _ _
       clear HG7
       go_wp2
       go_ret2
       rw [<- HGA.out]
       exact ⟨_, rfl, HKF.out, HBF.out⟩
      ·have h8' : ¬ (8 : Int) < (N : Int) := by omega
       by_cases h24 : its.length = 24
       ·rw [if_pos (Or.inr h24)] at HGA
        have hq : ((its.length : Int) == 24) = true := by rw [h24]; rfl
        clear h24
        have f0 : w5.cell? ⟨bi, 0, none⟩ = some (.string x.name) := ki5.cell 0
        have f1 : w5.cell? ⟨bi, 1, none⟩ = some (.int .i64 x.a) := ki5.cell 1
        have f2 : w5.cell? ⟨bi, 2, none⟩ = some (.int .i64 x.b) := ki5.cell 2
        have f3 : w5.cell? ⟨bi, 3, none⟩ = some (.int .i64 x.c) := ki5.cell 3
        have HROW := Lib.hid HG5.out.row
        have HGA5 := Lib.hid (HG5.out.step ((Below.refl _ w5).alloc (Nat.le_refl _) (.cells #[.string x.name, .int .i64 x.a, .int .i64 x.b, .int .i64 x.c] 182)))
        have hws := HG5.out.B.size
        go_wp2_with (at_builtin; refine wpList_append_own_at _ rfl _ _ 176 rfl w.heap.size 182 i0 (.agg #[.string ⟨#[]⟩, .int .i64 0, .int .i64 0, .int .i64 0]) 4 40 Tryz.underlying176 hin hz0 hz1 hz2 rfl (by decide) _ _ _ rfl (HROW.out.alloc _) ⟨w5.heap.size, 0, none⟩ 1 1 [.string x.name, .int .i64 x.a, .int .i64 x.b, .int .i64 x.c] rfl rfl ?c1c ?c2c ?c3c ?c4c ?c5c ?_)
        case c1c => exact cell_four_new _ _ _ _ _ _
        case c2c => intro u hu; simp at hu; rcases hu with rfl | rfl | rfl | rfl <;> rfl
        case c3c => unfold maxLen; omega
        case c4c => omega
        case c5c => simp; omega
        intro v7 w7 hown7 hgrow7 _ hloc7
        have HG7 : Hid (GS w w7 w.heap.size v7 (its ++ [x.it]) (its ++ [x.it])) := HGA5.out.app hown7 hgrow7
        clear hown7 hgrow7 hloc7 HGA5 HROW f0 f1 f2 f3 hws
        have HBF : Hid (Below w.heap.size w (w7.alloc (.cells #[.int .i64 4, .int .i64 (i : Int)] 195))) := HG7.out.B.alloc HG7.out.B.size _
        have HKF : Hid (Blk (w7.alloc (.cells #[.int .i64 4, .int .i64 (i : Int)] 195)) w7.heap.size 195 #[.int .i64 4, .int .i64 (i : Int)]) := Blk.new _ _ _
        clear HG7
        go_wp2
        go_ret2
        rw [<- HGA.out]
        exact ⟨_, rfl, HKF.out, HBF.out⟩
       ·rw [if_neg (fun h => h.elim h8 h24)] at HGA
        have hq : ((its.length : Int) == 24) = false := by rw [beq_eq_false_iff_ne]; omega
        clear h24
        have f0 : w5.cell? ⟨bi, 0, none⟩ = some (.string x.name) := ki5.cell 0
        have f1 : w5.cell? ⟨bi, 1, none⟩ = some (.int .i64 x.a) := ki5.cell 1
        have f2 : w5.cell? ⟨bi, 2, none⟩ = some (.int .i64 x.b) := ki5.cell 2
        have f3 : w5.cell? ⟨bi, 3, none⟩ = some (.int .i64 x.c) := ki5.cell 3
        have HROW := Lib.hid HG5.out.row
        have HGA5 := Lib.hid (HG5.out.step ((Below.refl _ w5).alloc (Nat.le_refl _) (.cells #[.string x.name, .int .i64 x.a, .int .i64 x.b, .int .i64 x.c] 182)))
        have hws := HG5.out.B.size
        go_wp2_with (at_builtin; refine wpList_append_own_at _ rfl _ _ 176 rfl w.heap.size 182 i0 (.agg #[.string ⟨#[]⟩, .int .i64 0, .int .i64 0, .int .i64 0]) 4 40 Tryz.underlying176 hin hz0 hz1 hz2 rfl (by decide) _ _ _ rfl (HROW.out.alloc _) ⟨w5.heap.size, 0, none⟩ 1 1 [.string x.name, .int .i64 x.a, .int .i64 x.b, .int .i64 x.c] rfl rfl ?c1d ?c2d ?c3d ?c4d ?c5d ?_)
        case c1d => exact cell_four_new _ _ _ _ _ _
        case c2d => intro u hu; simp at hu; rcases hu with rfl | rfl | rfl | rfl <;> rfl
        case c3d => unfold maxLen; omega
        case c4d => omega
        case c5d => simp; omega
        intro v7 w7 hown7 hgrow7 _ hloc7
        have HG7 : Hid (GS w w7 w.heap.size v7 (its ++ [x.it]) (its ++ [x.it])) := HGA5.out.app hown7 hgrow7
        clear hown7 hgrow7 hloc7 HGA5 HROW f0 f1 f2 f3 hws
        go_wp2
        go_roundw
        case rel => exact ⟨i + 1, its ++ [x.it], by omega, by go_num, by simp; omega, HGA.out, HG7.out⟩
        case measure => simp [intOf]; omega
    ·rw [if_neg hk] at HGA
     have hk2 : (x.kind == 1) = false := by simpa using hk
     have d0 : w2.cell? ⟨bx, 0, none⟩ = some (.int .i64 x.kind) := kx2.cell 0
     clear kx2 hk
     go_wp2
     go_roundw
     case rel => exact ⟨i + 1, its, by omega, by go_num, by omega, HGA.out, HG2.out⟩
     case measure => simp [intOf]; omega
   ·have hz2 : (ctCheck x == 0) = false := by simpa using hz
    rw [if_pos hz] at HGA
    generalize ctCheck x = E at *
    have HBF : Hid (Below w.heap.size w (w2.alloc (.cells #[.int .i64 E, .int .i64 (i : Int)] 195))) := HG2.out.B.alloc HG2.out.B.size _
    have HKF : Hid (Blk (w2.alloc (.cells #[.int .i64 E, .int .i64 (i : Int)] 195)) w2.heap.size 195 #[.int .i64 E, .int .i64 (i : Int)]) := Blk.new _ _ _
    clear HG2 kx2 hz HNM
    go_wp2
    go_ret2
    rw [<- HGA.out]
    exact ⟨_, rfl, HKF.out, HBF.out⟩
  ·obtain rfl : i = ls.length := by omega
   have hga2 : R = .ok its := by rw [<- hga, List.drop_length, gathF]
   have HGA := Lib.hid hga2
   have HGS := Lib.hid hgs
   clear hga hga2 hgs
   go_wp2
   go_ret2
   rw [HGA.out]
   exact ⟨_, rfl, HGS.out.row, HGS.out.B⟩
end
section
open Go.Shelf Go.Lib Go.Sort Sv
theorem ord_swo {α : Type} {c : α -> α -> Int} (anti : ∀ x y, c y x = -c x y) (eq0 : ∀ x y, c x y = 0 -> x = y) (tr : ∀ x y z, c x y < 0 -> c y z < 0 -> c x z < 0) : SWO (ltOf c) where
 irrefl x := by have := anti x x; unfold ltOf; simp; omega
 trans x y z h1 h2 := by unfold ltOf at *; simp at *; exact tr x y z h1 h2
 ntrans x y z h1 h2 := by
  unfold ltOf at *
  simp at *
  by_cases h : c x z < 0
  ·exfalso
   by_cases e : c x y = 0
   ·have := eq0 x y e; subst this; omega
   ·have h3 : c y x < 0 := by rw [anti]; omega
    have := tr y x z h3 h
    omega
  ·omega
theorem ord_total {α : Type} {c : α -> α -> Int} (anti : ∀ x y, c y x = -c x y) (eq0 : ∀ x y, c x y = 0 -> x = y) : ∀ x y, ltOf c x y = false -> ltOf c y x = false -> x = y := by
 intro x y h1 h2
 unfold ltOf at *
 simp at *
 have := anti x y
 exact eq0 x y (by omega)
theorem cb_anti : ∀ a b : List UInt8, compareBytes b a = -compareBytes a b
 | [], [] => rfl
 | [], _ :: _ => rfl
 | _ :: _, [] => rfl
 | x :: a, y :: b => by
  rw [compareBytes, compareBytes]
  by_cases h : x < y
  ·have h' : ¬ y < x := fun h2 => absurd (UInt8.lt_trans h h2) (UInt8.lt_irrefl _)
   rw [if_pos h, if_neg h', if_pos h]; rfl
  ·by_cases h' : y < x
   ·rw [if_pos h', if_neg h, if_pos h']
   ·rw [if_neg h, if_neg h', if_neg h', if_neg h]; exact cb_anti a b
theorem u8_eq {x y : UInt8} (h : ¬ x < y) (h' : ¬ y < x) : x = y := UInt8.le_antisymm (UInt8.not_lt.1 h') (UInt8.not_lt.1 h)
theorem cb_eq : ∀ a b : List UInt8, compareBytes a b = 0 -> a = b
 | [], [], _ => rfl
 | [], _ :: _, h => by cases h
 | _ :: _, [], h => by cases h
 | x :: a, y :: b, h => by
  rw [compareBytes] at h
  by_cases h1 : x < y
  ·rw [if_pos h1] at h; cases h
  ·by_cases h2 : y < x
   ·rw [if_neg h1, if_pos h2] at h; cases h
   ·rw [if_neg h1, if_neg h2] at h
    rw [u8_eq h1 h2, cb_eq a b h]
theorem cb_trans : ∀ a b c : List UInt8, compareBytes a b < 0 -> compareBytes b c < 0 -> compareBytes a c < 0
 | [], _, [], h1, h2 => by
  rename_i b
  cases b with
  | nil => exact h1
  | cons y b => exact absurd (show (1 : Int) < 0 from h2) (by decide)
 | [], _, _ :: _, _, _ => show (-1 : Int) < 0 by decide
 | _ :: _, [], _, h1, _ => absurd (show (1 : Int) < 0 from h1) (by decide)
 | _ :: _, _ :: _, [], _, h2 => absurd (show (1 : Int) < 0 from h2) (by decide)
 | x :: a, y :: b, z :: c, h1, h2 => by
  rw [compareBytes] at h1 h2 ⊢
  by_cases xy : x < y
  ·by_cases yz : y < z
   ·rw [if_pos (UInt8.lt_trans xy yz)]; decide
   ·by_cases zy : z < y
    ·rw [if_neg yz, if_pos zy] at h2; exact absurd h2 (by decide)
    ·rw [<- u8_eq yz zy, if_pos xy]; decide
  ·by_cases yx : y < x
   ·rw [if_neg xy, if_pos yx] at h1; exact absurd h1 (by decide)
   ·rw [if_neg xy, if_neg yx] at h1
    have e := u8_eq xy yx
    subst e
    by_cases yz : x < z
    ·rw [if_pos yz]; decide
    ·by_cases zy : z < x
     ·rw [if_neg yz, if_pos zy] at h2; exact absurd h2 (by decide)
     ·rw [if_neg yz, if_neg zy] at h2 ⊢
      exact cb_trans a b c h1 h2
theorem cmp3_val (a b c d e f : Int) : cmp3 (tI a b c) (tI d e f) 3 = if a < d then -1 else if d < a then 1 else if b < e then -1 else if e < b then 1 else if c < f then -1 else if f < c then 1 else 0 := by
 show (if cmpI a d ≠ 0 then cmpI a d else if cmpI b e ≠ 0 then cmpI b e else if cmpI c f ≠ 0 then cmpI c f else 0) = _
 unfold cmpI
 by_cases h1 : a < d
 ·simp [h1]
 ·by_cases h2 : d < a
  ·simp [h1, h2]
  ·by_cases h3 : b < e
   ·simp [h1, h2, h3]
   ·by_cases h4 : e < b
    ·simp [h1, h2, h3, h4]
    ·by_cases h5 : c < f
     ·simp [h1, h2, h3, h4, h5]
     ·by_cases h6 : f < c <;> simp [h1, h2, h3, h4, h5, h6]
theorem cmp3_neg (a b c d e f : Int) : cmp3 (tI a b c) (tI d e f) 3 < 0 ↔ (a < d \/ (a = d /\ (b < e \/ (b = e /\ c < f)))) := by
 rw [cmp3_val]
 repeat' split
 all_goals omega
theorem cmp3_zero (a b c d e f : Int) : cmp3 (tI a b c) (tI d e f) 3 = 0 ↔ (a = d /\ b = e /\ c = f) := by
 rw [cmp3_val]
 repeat' split
 all_goals omega
theorem cmp3_anti (a b c d e f : Int) : cmp3 (tI d e f) (tI a b c) 3 = -cmp3 (tI a b c) (tI d e f) 3 := by
 rw [cmp3_val, cmp3_val]
 by_cases h1 : a < d
 ·have : ¬ d < a := by omega
  simp [h1, this]
 ·by_cases h2 : d < a
  ·simp [h1, h2]
  ·by_cases h3 : b < e
   ·have : ¬ e < b := by omega
    simp [h1, h2, h3, this]
   ·by_cases h4 : e < b
    ·simp [h1, h2, h3, h4]
    ·by_cases h5 : c < f
     ·have : ¬ f < c := by omega
      simp [h1, h2, h3, h4, h5, this]
     ·by_cases h6 : f < c <;> simp [h1, h2, h3, h4, h5, h6]
theorem nm_eq {x y : It} : x.name.toList = y.name.toList ↔ x.name.data.toList = y.name.data.toList := by rw [ByteArray.toList_eq, ByteArray.toList_eq]
theorem ctCmp_anti (x y : It) : ctCmp y x = -ctCmp x y := by
 unfold ctCmp
 by_cases h : x.name.toList = y.name.toList
 ·rw [if_pos h, if_pos h.symm]; exact cmp3_anti _ _ _ _ _ _
 ·rw [if_neg h, if_neg (fun e => h e.symm)]; exact cb_anti _ _
theorem ctCmp_eq (x y : It) (h : ctCmp x y = 0) : x = y := by
 unfold ctCmp at h
 by_cases e : x.name.toList = y.name.toList
 ·rw [if_pos e, cmp3_zero] at h
  obtain ⟨n, a, b, c⟩ := x
  obtain ⟨n', a', b', c'⟩ := y
  obtain rfl : n = n' := bytes_eq e
  obtain ⟨h1, h2, h3⟩ := h
  simp only at h1 h2 h3
  subst h1 h2 h3
  rfl
 ·rw [if_neg e] at h
  exact absurd (nm_eq.2 (cb_eq _ _ h)) e
theorem ctCmp_trans (x y z : It) (h1 : ctCmp x y < 0) (h2 : ctCmp y z < 0) : ctCmp x z < 0 := by
 unfold ctCmp at *
 by_cases e1 : x.name.toList = y.name.toList
 ·by_cases e2 : y.name.toList = z.name.toList
  ·rw [if_pos e1, cmp3_neg] at h1
   rw [if_pos e2, cmp3_neg] at h2
   rw [if_pos (e1.trans e2), cmp3_neg]
   omega
  ·rw [if_neg e2] at h2
   rw [if_neg (fun e => e2 (e1.symm.trans e)), nm_eq.1 e1]
   exact h2
 ·by_cases e2 : y.name.toList = z.name.toList
  ·rw [if_neg e1] at h1
   rw [if_neg (fun e => e1 (e.trans e2.symm)), <- nm_eq.1 e2]
   exact h1
  ·rw [if_neg e1] at h1
   rw [if_neg e2] at h2
   by_cases e3 : x.name.toList = z.name.toList
   ·exfalso
    rw [<- nm_eq.1 e3, cb_anti] at h2
    omega
   ·rw [if_neg e3]
    exact cb_trans _ _ _ h1 h2
theorem ctSwo : SWO (ltOf ctCmp) := ord_swo ctCmp_anti ctCmp_eq ctCmp_trans
theorem ctTotal : ∀ x y, ltOf ctCmp x y = false -> ltOf ctCmp y x = false -> x = y := ord_total ctCmp_anti ctCmp_eq
theorem sortF_perm (l : List It) : (sortF l).Perm l := List.mergeSort_perm _ _
theorem sortF_len (l : List It) : (sortF l).length = l.length := (sortF_perm l).length_eq
end
end Go.Proofs.YtpmpnbbihmgdpaaGreatDoor
