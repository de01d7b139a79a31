/- The walk of ArenaOnce. -/
import Derived.Test.YteipbfadljgppaaOnceD
namespace Go.Proofs.Yteipbfadljgppaa
open Go.RowKit Go.Maps

theorem pick_24 (x : Int) (w : World) : Calls Try.prog 6 #[.int .i64 x, .int .i64 24] w fun e w' => e = .returned (.int .i64 (pickV x 24 : Int)) ∧ w = w' := pick_any x 24 (by omega) (by omega) w

set_option maxRecDepth 100000 in
set_option maxHeartbeats 8000000 in
theorem once_walk (vs ls hs : List Int) (va vl vh : Value) (keep : Int) (_hkeep : I64 keep) (w : World) (h1 : ArgInts w va vs) (h2 : ArgInts w vl ls) (h3 : ArgInts w vh hs) (b2 : ls.length ≤ 9223372036854775807) (_b3 : hs.length ≤ 9223372036854775807) (g1 : vs.length ≤ 40) (g2 : vs.length ≤ ls.length) (g3 : vs.length ≤ hs.length) :
    Calls Try.prog 3 #[va, vl, vh, .int .i64 keep] w fun e w' => e = .returned (.bool true) ∧ Below w.heap.size w w' := by
  obtain ⟨a1, c1, rfl, x1⟩ := h1
  obtain ⟨a2, c2, rfl, x2⟩ := h2
  obtain ⟨a3, c3, rfl, x3⟩ := h3
  have X1 := Lib.hid x1
  have X2 := Lib.hid x2
  have X3 := Lib.hid x3
  clear x1 x2 x3
  have hmm := @run_makeMap Try.prog
  have HN := Lib.hid (new_any 100 (by omega) (by omega) w w.heap.size (Nat.le_refl _))
  go_enter Try.func3, Try.ntmps3
  go_wp2_with fail
  refine HN.out.mono ?_
  rintro e w1 ⟨rfl, hA1, hb1⟩
  have HA1 := Lib.hid hA1
  clear hA1 HN
  go_wp2_with fail
  refine (lies_any _).mono ?_
  rintro e w2 ⟨rfl, hb2⟩
  have hs1 := hb1.size
  have hA2 := HA1.out.kept (Kept.of_below hb2 (fun _ => False)) (fun _ _ h => h)
  have hb2' := hb1.trans (hb2.mono hs1)
  have HM0 := Lib.hid (making_start hA2 hb2')
  have hs2 := hb2'.size
  clear HA1 hb1 hb2 hA2 hb2' hs1
  go_wp2_with fail
  clear hmm
  go_loopw [12, 13] (fun alV i wr => ∃ (k : Nat) (v : Value) (a : Option Addr) (cap : Nat) (ns : List Nd) (al : List Int) (next : Int), k ≤ vs.length ∧ i = .int .i64 (k : Int) ∧ alV = .slice a al.length cap ∧ Making w.heap.size w wr (w.heap.size + 1) w.heap.size w2.heap.size v a cap ns al next ∧ ns.length ≤ k ∧ al.length ≤ 2 + k)
    (fun _ i _ => vs.length - (intOf i).toNat)
  case atStart => exact ⟨0, _, _, _, [], [0, 1], 2, Nat.zero_le _, rfl, rfl, HM0.out, by simp, by simp⟩
  case round =>
    obtain ⟨k, v, a, cap, ns, al, next, hk, rfl, rfl, hM, hnl, hall⟩ := hrel
    have hbel := hM.below
    have hsz := hbel.size
    have HM := Lib.hid hM
    clear HM0
    by_cases hlt : k < vs.length
    · obtain ⟨ad1, rfl, ab1, ac1, ai1⟩ := X1.out k hlt
      obtain ⟨ad2, rfl, ab2, ac2, ai2⟩ := X2.out k (by omega)
      obtain ⟨ad3, rfl, ab3, ac3, ai3⟩ := X3.out k (by omega)
      have htwo := hM.two
      have hall2 := hM.all
      obtain ⟨ga, rfl⟩ : ∃ g, a = some ⟨g, 0, none⟩ := by
        rcases hall2.2 with ⟨-, e⟩ | ⟨g, _, _, e, -⟩
        · omega
        · cases e; exact ⟨g, rfl⟩
      generalize vs.getD k 0 = y1 at *
      generalize ls.getD k 0 = y2 at *
      generalize hs.getD k 0 = y3 at *
      have P1 : Hid (∀ W, Calls Try.prog 6 #[.int .i64 y1, .int .i64 24] W fun e w' => e = .returned (.int .i64 (pickV y1 24 : Int)) ∧ W = w') := fun W => pick_24 y1 W
      have P2 : Hid (∀ W, Calls Try.prog 6 #[.int .i64 y2, .int .i64 (al.length : Int)] W fun e w' => e = .returned (.int .i64 (pickV y2 al.length : Int)) ∧ W = w') := fun W => pick_any y2 al.length (by omega) (by omega) W
      have P3 : Hid (∀ W, Calls Try.prog 6 #[.int .i64 y3, .int .i64 (al.length : Int)] W fun e w' => e = .returned (.int .i64 (pickV y3 al.length : Int)) ∧ W = w') := fun W => pick_any y3 al.length (by omega) (by omega) W
      have q1 := pickV_lt y1 (show 0 < 24 by omega)
      have q2 := pickV_lt y2 (show 0 < al.length by omega)
      have q3 := pickV_lt y3 (show 0 < al.length by omega)
      generalize pickV y1 24 = p1 at *
      generalize pickV y2 al.length = p2 at *
      generalize pickV y3 al.length = p3 at *
      have d1 := (hbel.cell (p := ad1.add k) (by rw [show (ad1.add k).block = ad1.block by unfold Addr.add; split <;> rfl]; exact ab1)).trans ac1
      have d2 := (hbel.cell (p := ad2.add k) (by rw [show (ad2.add k).block = ad2.block by unfold Addr.add; split <;> rfl]; exact ab2)).trans ac2
      have d3 := (hbel.cell (p := ad3.add k) (by rw [show (ad3.add k).block = ad3.block by unfold Addr.add; split <;> rfl]; exact ab3)).trans ac3
      have e2 := hall2.cellAt p2 (by omega)
      have e3 := hall2.cellAt p3 (by omega)
      rw [icells_at al p2 q2] at e2
      rw [icells_at al p3 q3] at e3
      have m2 := List.getElem_mem q2
      have m3 := List.getElem_mem q3
      generalize al[p2] = lo at *
      generalize al[p3] = hi at *
      have i1 : (k : Int) < (vs.length : Int) := by omega
      have i2 : (k : Int) < (ls.length : Int) := by omega
      have i3 : (k : Int) < (hs.length : Int) := by omega
      have i4 : (p2 : Int) < (al.length : Int) := by omega
      have i5 : (p3 : Int) < (al.length : Int) := by omega
      clear hall2 ac1 ac2 ac3 ai1 ai2 ai3 hM
      have SC : Hid (∀ X : World, Below wr.heap.size wr X → (Below wr.heap.size wr X ∧ X.cell? (ad1.add k) = some (.int .i64 y1) ∧ X.cell? (ad2.add k) = some (.int .i64 y2) ∧ X.cell? (ad3.add k) = some (.int .i64 y3) ∧ X.cell? ⟨ga, p2, none⟩ = some (.int .i64 lo) ∧ X.cell? ⟨ga, p3, none⟩ = some (.int .i64 hi))) := fun X h =>
        ⟨h, (h.cell (World.block_lt_of_cell? _ _ d1)).trans d1, (h.cell (World.block_lt_of_cell? _ _ d2)).trans d2, (h.cell (World.block_lt_of_cell? _ _ d3)).trans d3, (h.cell (World.block_lt_of_cell? _ _ e2)).trans e2, (h.cell (World.block_lt_of_cell? _ _ e3)).trans e3⟩
      have B0 : Below wr.heap.size wr wr.drew := (Below.refl _ _).drew
      have B1 : Below wr.heap.size wr (wr.drew.alloc (.cells #[.int .i64 0, .int .i64 0, .int .i64 0] 32)) := B0.alloc (Nat.le_refl _) _
      have B2 : Below wr.heap.size wr (wr.drew.alloc (.cells #[.int .i64 (p1 : Int), .int .i64 lo, .int .i64 hi] 32)) := B0.alloc (Nat.le_refl _) _
      clear d1 d2 d3 e2 e3 ab1 ab2 ab3
      go_upto_region 11 with fail
      go_cut [14] (fun bx wx => bx = .pointer (some ⟨wr.heap.size, 0, none⟩) ∧ wx.cell? ⟨wr.heap.size, 0, none⟩ = some (.int .i64 (p1 : Int)) ∧ wx.cell? ⟨wr.heap.size, 1, none⟩ = some (.int .i64 lo) ∧ wx.cell? ⟨wr.heap.size, 2, none⟩ = some (.int .i64 hi) ∧ Below wr.heap.size wr wx)
      case first =>
        go_region_held3 (fun w' => Below wr.heap.size wr w' ∧ w'.cell? (ad1.add k) = some (.int .i64 y1) ∧ w'.cell? (ad2.add k) = some (.int .i64 y2) ∧ w'.cell? (ad3.add k) = some (.int .i64 y3) ∧ w'.cell? ⟨ga, p2, none⟩ = some (.int .i64 lo) ∧ w'.cell? ⟨ga, p3, none⟩ = some (.int .i64 hi)) (first | exact SC.out _ B0 | exact SC.out _ B1 | exact SC.out _ B2)
          (first
            | (go_at_call 6; with_reducible refine (P1.out _).mono ?_; rintro e wz ⟨rfl, rfl⟩)
            | (go_at_call 6; with_reducible refine (P2.out _).mono ?_; rintro e wz ⟨rfl, rfl⟩)
            | (go_at_call 6; with_reducible refine (P3.out _).mono ?_; rintro e wz ⟨rfl, rfl⟩))
        all_goals
          go_wp2_with fail
          go_meet
          case rel => exact ⟨rfl, by simp, by simp, by simp, B2⟩
      case rest =>
        obtain ⟨rfl, bx0, bx1, bx2, hbc⟩ := hcut
        have hkc := Kept.of_below hbc (fun _ => False)
        have hszc := hbc.size
        have hMc := HM.out.kept hkc hsz
        have hnown : ¬ Own (w.heap.size + 1) w.heap.size v wr.heap.size := by
          have hlt := HM.out.arena.lt
          obtain ⟨D, hD, -⟩ := HM.out.arena.hmap
          have hlm := hD.lt
          rintro (h | h | h)
          · omega
          · omega
          · have := (HM.out.arena.row.lt _ h).2; omega
        have hlo := (HM.out.has lo m2).2
        have hhi := (HM.out.has hi m3).2
        have HMK := Lib.hid (making_make hMc (by omega) (by omega) ⟨(p1 : Int), lo, hi⟩ ⟨⟨by show _ ≤ (p1 : Int); omega, by show (p1 : Int) ≤ _; omega⟩, ⟨by show _ ≤ lo; omega, by show lo ≤ _; omega⟩, ⟨by show _ ≤ hi; omega, by show hi ≤ _; omega⟩⟩ (by show (0 : Int) ≤ (p1 : Int); omega) (by show (p1 : Int) < 24; omega) m2 m3)
        unfold Nd.val at HMK
        have bxl : wr.heap.size < wc.heap.size := World.block_lt_of_cell? _ _ bx0
        have HMC := Lib.hid hMc
        have HNO := Lib.hid hnown
        clear hkc hMc hnown SC B0 B1 B2 P1 P2 P3 hbc hlo hhi
        go_wp2_with fail
        refine HMK.out.mono ?_
        rintro e w3 (⟨m, rfl, hb3⟩ | ⟨h, kk, okk, v', ns', next', rfl, hH, hn', hkb, hsz3⟩)
        · have HM3 := Lib.hid (HMC.out.kept (Kept.of_below hb3 (fun _ => False)) (by omega))
          clear HMK hb3
          go_wp2
          go_roundw
          case rel =>
            exact ⟨k + 1, v, _, cap, ns, al, next, by omega, by go_num, rfl, HM3.out, by omega, by omega⟩
          case measure => simp [intOf]; omega
        · have eqb := hkb wr.heap.size bxl HNO.out
          have b30 := (World.cell?_of_block (a := ⟨wr.heap.size, 0, none⟩) eqb).trans bx0
          have b31 := (World.cell?_of_block (a := ⟨wr.heap.size, 1, none⟩) eqb).trans bx1
          have b32 := (World.cell?_of_block (a := ⟨wr.heap.size, 2, none⟩) eqb).trans bx2
          have hlk := hH.look _ (Kept.refl _ w3)
          simp only at hlk
          obtain ⟨j, hj, hjn, hhj⟩ := hH.node
          have htn : topOf ns' h ≠ 24 := by rw [hhj, topOf_at hj]; have := hH.full.occ j hj; omega
          have HGT := Lib.hid (get_any hH.arena h ⟨by omega, by omega⟩ (by omega))
          have hgn : getOf ns' h = ⟨(p1 : Int), lo, hi⟩ := by unfold getOf; rw [if_neg htn, hhj, show (2 + (j : Int) - 2).toNat = j by omega]; exact hjn
          rw [hgn, decide_eq_true htn] at HGT
          unfold Nd.val at HGT
          have hokk := hH.okk'
          have HH := Lib.hid hH
          have hh0 : 0 ≤ h := by omega
          have hh1 : h ≤ 1000 := by omega
          obtain ⟨i0, hin, hz0, hz1, hz2⟩ := info_parts infoInt
          clear HMK hkb eqb hj hjn hhj htn hgn hH bx0 bx1 bx2 bxl HMC HM
          cases okk with
          | true =>
            rw [hokk rfl] at hlk
            clear hokk
            have ehh : (h != h) = false := by simp
            go_wp2_with fail
            refine HGT.out.mono ?_
            rintro e w4 ⟨rfl, hb4⟩
            have hbx := below_new w4 (.cells #[.int .i64 (p1 : Int), .int .i64 lo, .int .i64 hi] 32)
            have hb5 := hb4.trans (hbx.mono hb4.size)
            have hk5 := Kept.of_below hb5 (fun _ => False)
            obtain ⟨W6, D6, hrun6, hD6, hR6, hK6⟩ := HH.out.store _ hk5
            simp only at hrun6
            have bxl : wr.heap.size < w3.heap.size := World.block_lt_of_cell? _ _ b30
            have b50 := (hb5.cell (p := ⟨wr.heap.size, 0, none⟩) bxl).trans b30
            have b51 := (hb5.cell (p := ⟨wr.heap.size, 1, none⟩) bxl).trans b31
            have b52 := (hb5.cell (p := ⟨wr.heap.size, 2, none⟩) bxl).trans b32
            obtain ⟨x50, x51, x52, -⟩ := cell3 w4 (.int .i64 (p1 : Int)) (.int .i64 lo) (.int .i64 hi) 32
            have hrow6 := ownsRow_kept (ownsRow_kept HH.out.all hk5 (fun _ _ h => h)) hK6 (fun j hj e => (HH.out.o2 j hj).2 e)
            have hsB : w.heap.size ≤ w3.heap.size := by omega
            have hs6 : w.heap.size ≤ W6.heap.size := Nat.le_trans hsB (Nat.le_trans hb5.size hK6.size)
            have HK5 := Lib.hid hk5
            have HD6 := Lib.hid hD6
            have HR6 := Lib.hid hR6
            have HK6 := Lib.hid hK6
            clear hb4 hbx hb5 hk5 hD6 hR6 hK6 HGT b30 b31 b32 bxl
            go_wp2_with (at_builtin; refine wpList_append_own_at _ rfl _ _ 22 rfl w.heap.size 3 i0 (.int .i64 0) 1 8 Try.underlying22 hin hz0 hz1 hz2 rfl (by decide) _ _ _ rfl (hrow6.alloc _) ⟨W6.heap.size, 0, none⟩ 1 1 [.int .i64 h] rfl rfl ?c1 ?c2 ?c3 ?c4 ?c5 ?_)
            case c1 => exact cell_one_new _ _ _
            case c2 => intro u hu; simp at hu; subst hu; rfl
            case c3 => unfold maxLen; omega
            case c4 => omega
            case c5 => show w.heap.size ≤ (World.alloc _ _).heap.size; simp; omega
            intro v7 w7 hown7 hgrow7 _ hloc7
            have hk7 : Kept (fun j => (Value.slice (some ⟨ga, 0, none⟩) al.length cap).ownBlock = some j) W6 w7 := (Kept.alloc _ W6 _).andThen (Kept.of_grown hgrow7 (fun i h => h)) (fun i h _ => h)
            obtain ⟨a7, c7, rfl⟩ : ∃ a7 c7, v7 = .slice a7 (al.length + 1) c7 := by
              rcases hown7.2 with ⟨-, h2⟩ | ⟨g, cp, cur, h2, -⟩
              · omega
              · exact ⟨_, _, h2⟩
            have hl7 : (Value.slice a7 (al.length + 1) c7).ownBlock = (Value.slice (some ⟨ga, 0, none⟩) al.length cap).ownBlock ∨ ∃ g, (Value.slice a7 (al.length + 1) c7).ownBlock = some g ∧ W6.heap.size ≤ g := hloc7.imp id (fun h => ⟨_, h, by first | omega | simp⟩)
            have HMN := Lib.hid (half_done HH.out (by omega) hsB HK5.out HD6.out HR6.out HK6.out hown7 hk7 hl7)
            clear hown7 hgrow7 hloc7 hk7 hl7 hrow6 HK5 HD6 HR6 HK6 HH hrun6
            go_wp2
            go_roundw
            case rel =>
              exact ⟨k + 1, v', a7, c7, ns', al ++ [h], next', by omega, by go_num, by rw [List.length_append]; rfl, HMN.out, by omega, by rw [List.length_append]; simp; omega⟩
            case measure => simp [intOf]; omega
          | false =>
            clear hokk
            go_wp2_with fail
            refine HGT.out.mono ?_
            rintro e w4 ⟨rfl, hb4⟩
            have hbx := below_new w4 (.cells #[.int .i64 (p1 : Int), .int .i64 lo, .int .i64 hi] 32)
            have hb5 := hb4.trans (hbx.mono hb4.size)
            have hk5 := Kept.of_below hb5 (fun _ => False)
            obtain ⟨W6, D6, hrun6, hD6, hR6, hK6⟩ := HH.out.store _ hk5
            simp only at hrun6
            have bxl : wr.heap.size < w3.heap.size := World.block_lt_of_cell? _ _ b30
            have b50 := (hb5.cell (p := ⟨wr.heap.size, 0, none⟩) bxl).trans b30
            have b51 := (hb5.cell (p := ⟨wr.heap.size, 1, none⟩) bxl).trans b31
            have b52 := (hb5.cell (p := ⟨wr.heap.size, 2, none⟩) bxl).trans b32
            obtain ⟨x50, x51, x52, -⟩ := cell3 w4 (.int .i64 (p1 : Int)) (.int .i64 lo) (.int .i64 hi) 32
            have hrow6 := ownsRow_kept (ownsRow_kept HH.out.all hk5 (fun _ _ h => h)) hK6 (fun j hj e => (HH.out.o2 j hj).2 e)
            have hsB : w.heap.size ≤ w3.heap.size := by omega
            have hs6 : w.heap.size ≤ W6.heap.size := Nat.le_trans hsB (Nat.le_trans hb5.size hK6.size)
            have HK5 := Lib.hid hk5
            have HD6 := Lib.hid hD6
            have HR6 := Lib.hid hR6
            have HK6 := Lib.hid hK6
            clear hb4 hbx hb5 hk5 hD6 hR6 hK6 HGT b30 b31 b32 bxl
            go_wp2_with (at_builtin; refine wpList_append_own_at _ rfl _ _ 22 rfl w.heap.size 3 i0 (.int .i64 0) 1 8 Try.underlying22 hin hz0 hz1 hz2 rfl (by decide) _ _ _ rfl (hrow6.alloc _) ⟨W6.heap.size, 0, none⟩ 1 1 [.int .i64 h] rfl rfl ?c1 ?c2 ?c3 ?c4 ?c5 ?_)
            case c1 => exact cell_one_new _ _ _
            case c2 => intro u hu; simp at hu; subst hu; rfl
            case c3 => unfold maxLen; omega
            case c4 => omega
            case c5 => show w.heap.size ≤ (World.alloc _ _).heap.size; simp; omega
            intro v7 w7 hown7 hgrow7 _ hloc7
            have hk7 : Kept (fun j => (Value.slice (some ⟨ga, 0, none⟩) al.length cap).ownBlock = some j) W6 w7 := (Kept.alloc _ W6 _).andThen (Kept.of_grown hgrow7 (fun i h => h)) (fun i h _ => h)
            obtain ⟨a7, c7, rfl⟩ : ∃ a7 c7, v7 = .slice a7 (al.length + 1) c7 := by
              rcases hown7.2 with ⟨-, h2⟩ | ⟨g, cp, cur, h2, -⟩
              · omega
              · exact ⟨_, _, h2⟩
            have hl7 : (Value.slice a7 (al.length + 1) c7).ownBlock = (Value.slice (some ⟨ga, 0, none⟩) al.length cap).ownBlock ∨ ∃ g, (Value.slice a7 (al.length + 1) c7).ownBlock = some g ∧ W6.heap.size ≤ g := hloc7.imp id (fun h => ⟨_, h, by first | omega | simp⟩)
            have HMN := Lib.hid (half_done HH.out (by omega) hsB HK5.out HD6.out HR6.out HK6.out hown7 hk7 hl7)
            clear hown7 hgrow7 hloc7 hk7 hl7 hrow6 HK5 HD6 HR6 HK6 HH hrun6
            go_wp2
            go_roundw
            case rel =>
              exact ⟨k + 1, v', a7, c7, ns', al ++ [h], next', by omega, by go_num, by rw [List.length_append]; rfl, HMN.out, by omega, by rw [List.length_append]; simp; omega⟩
            case measure => simp [intOf]; omega
    · obtain rfl : k = vs.length := by omega
      obtain ⟨D, hD, hR⟩ := hM.ofs
      have hsD : (Maps.size D : Int) = (ns.length : Int) := by rw [hR.size, pairsOf_length]
      have HLN := Lib.hid (len_any hM.arena)
      rw [pairsOf_length] at HLN
      have hall2 := hM.all
      have htwo := hM.two
      obtain ⟨ga, rfl⟩ : ∃ g, a = some ⟨g, 0, none⟩ := by
        rcases hall2.2 with ⟨-, e⟩ | ⟨g, _, _, e, -⟩
        · omega
        · cases e; exact ⟨g, rfl⟩
      have PK := Lib.hid (pick_any keep al.length (by omega) (by omega) wr)
      have q := pickV_lt keep (show 0 < al.length by omega)
      generalize pickV keep al.length = p at *
      have ep := hall2.cellAt p (by omega)
      rw [icells_at al p q] at ep
      have mp := List.getElem_mem q
      generalize al[p] = top at *
      have htop := (hM.has top mp).2
      have ip : (p : Int) < (al.length : Int) := by omega
      have enn : ((ns.length : Int) != (ns.length : Int)) = false := by simp
      have hA1 := hM.arena.kept (Kept.alloc (fun _ => False) wr (.cells #[.int .i64 top] 3)) (fun _ _ h => h)
      have hF : IntsAt (wr.alloc (.cells #[.int .i64 top] 3)) wr.heap.size [top] := ⟨by simp, fun i hi => by
        obtain rfl : i = 0 := by simp at hi; omega
        simp, fun x hx => by rw [List.mem_singleton] at hx; subst hx; exact ⟨by omega, by omega⟩⟩
      have HRC := Lib.hid (reach_any hM.full.ranked (by omega) hA1 wr.heap.size [top] hF (by simp) (by simp; omega))
      have hsA : (wr.alloc (.cells #[.int .i64 top] 3)).heap.size = wr.heap.size + 1 := by simp
      rw [List.length_singleton, hsA] at HRC
      have HRep := Lib.hid hR
      clear hM hA1 hF hall2 hR X1 X2 X3
      have hmm := @run_makeMap Try.prog
      go_wp2_with fail
      refine HLN.out.mono ?_
      rintro e wz ⟨rfl, rfl⟩
      go_wp2_with (at_len; refine wpList_len_own _ rfl _ 29 rfl 32 3 Try.underlying29 _ w2.heap.size _ D rfl hD ?_)
      refine PK.out.mono ?_
      rintro e wz ⟨rfl, rfl⟩
      go_wp2_with fail
      refine HRC.out.mono ?_
      rintro e w5 ⟨la, lc, rfl, hl5, hb5⟩
      have hbw5 : Below wr.heap.size wr w5 := (below_new wr _).trans (hb5.mono (by omega))
      have hRS : ∀ W, W = w5.alloc (.map #[] 0) → Rest w.heap.size w W (w.heap.size + 1) w.heap.size w2.heap.size w5.heap.size v la lc ns (marksOf ns [top]) 0 ns (pairsOf ns) next := fun W e => rest_start HM.out hsz hbw5 (ownsRow_base hl5 (by omega)) e
      have hML := marksOf_length ns [top]
      have hsw := marks_swept (ns := ns) top
      have hrk := swept_ranked HM.out.full top
      obtain ⟨M, hMe⟩ : ∃ M, M = marksOf ns [top] := ⟨_, rfl⟩
      rw [← hMe] at hRS hML hsw hrk
      have HR0 := Lib.hid (hRS _ rfl)
      have HSW := Lib.hid hsw
      have HRK := Lib.hid hrk
      have HML := Lib.hid hML
      have HME := Lib.hid hMe
      have HD0 : Hid ((w5.alloc (.map #[] 0)).ownsMap Try.prog 32 (plainElem Try.prog 3) w2.heap.size (pairsOf ns).length D) := ownsMap_kept hD ((Kept.of_below hbw5 (fun _ => False)).trans (Kept.alloc _ _ _)) (fun h => h)
      have HFL := Lib.hid HM.out.full
      have hrl := reachTo_length M ns.length
      have hll : (reachTo (marksOf ns [top]) ns.length).length = (reachTo M ns.length).length := by rw [hMe]
      rw [hll]
      clear hRS hML hsw hrk hMe hbw5 hl5 hb5 hD HLN PK HRC HM hsA hbel hll ep
      go_wp2_with fail
      clear hmm
      go_loopw [24] (fun i wq => ∃ k : Nat, k ≤ (reachTo M ns.length).length ∧ i = .int .i64 (k : Int) ∧ Rest w.heap.size w wq (w.heap.size + 1) w.heap.size w2.heap.size w5.heap.size v la lc ns M k ns (pairsOf ns) next ∧ wq.ownsMap Try.prog 32 (plainElem Try.prog 3) w2.heap.size (pairsOf ns).length D)
        (fun i _ => (reachTo M ns.length).length - (intOf i).toNat)
      case atStart => exact ⟨0, Nat.zero_le _, rfl, HR0.out, HD0.out⟩
      case round =>
        obtain ⟨k, hk, rfl, hRq, hDq⟩ := hrel
        clear HR0 HD0
        by_cases hlk : k < (reachTo M ns.length).length
        · have HRq := Lib.hid hRq
          obtain ⟨Db, hDb, hRb⟩ := hRq.back
          have hlr := hRq.lrow
          obtain ⟨gl, rfl⟩ : ∃ g, la = some ⟨g, 0, none⟩ := by
            rcases hlr.2 with ⟨-, e⟩ | ⟨g, _, _, e, -⟩
            · omega
            · cases e; exact ⟨g, rfl⟩
          have cl := hlr.cellAt k (by omega)
          rw [icells_at _ k hlk] at cl
          have hgl := (hlr.lt gl rfl).2
          have hglb := (hRq.o2 gl rfl).2.2
          obtain ⟨j, hj, hmj, hxj⟩ := reach_at M ns.length k hlk
          have hbs := backTo_succ ns M k hlk
          have hbn := backTo_new ns M k hlk
          have hbl := backTo_length ns M k (by omega)
          generalize (reachTo M ns.length)[k] = x at *
          have hxn : (x - 2).toNat = j := by omega
          rw [hxn] at hbs
          have htx : topOf ns x ≠ 24 := by rw [hxj, topOf_at hj]; have := HFL.out.occ j hj; omega
          have hgx : getOf ns x = nd ns j := by unfold getOf; rw [if_neg htx, hxn]
          have HG : Hid (∀ X, Below wr.heap.size wr X → Calls Try.prog 8 #[.pointer (some ⟨w.heap.size + 1, 0, none⟩), .int .i64 x] X fun e w' => e = .returned (.tuple #[(nd ns j).val, .bool true]) ∧ Below X.heap.size X w') := fun X hX => by
            have := get_any (HRq.out.arena.kept (Kept.of_below hX (fun _ => False)) (fun _ _ h => h)) x ⟨by omega, by omega⟩ (by omega)
            rwa [hgx, decide_eq_true htx] at this
          have hix : I64 x := ⟨by omega, by omega⟩
          have BS : Hid (∀ X, Below wr.heap.size wr X → ∃ W' D', (Instr.mapUpdate 40 (.map (some w5.heap.size)) (.int .i64 x) (.agg #[.int .i64 (nd ns j).v, .int .i64 (nd ns j).l, .int .i64 (nd ns j).h])).run Try.prog X = .ok () W' ∧ W'.ownsMap Try.prog 3 ndElem w5.heap.size (backTo ns M (k + 1)).length D' ∧ BRep D' (backTo ns M (k + 1)) ∧ Kept (fun k => k = w5.heap.size) X W') := fun X hX => by
            rw [hbs]
            exact back_store (ownsMap_kept hDb (Kept.of_below hX (fun _ => False)) (fun h => h)) hRb (by omega) hix hbn (nd ns j)
          generalize nd ns j = n at *
          obtain ⟨nv, nl, nh⟩ := n
          simp only [Nd.val] at HG BS
          have s0 : wr.drew.cell? ⟨gl, k, none⟩ = some (.int .i64 x) := cl
          have B0 : Below wr.heap.size wr wr.drew := (Below.refl _ _).drew
          have hDQ := Lib.hid hDq
          have il : (k : Int) < ((reachTo M ns.length).length : Int) := by omega
          have ewk : IntKind.i64.wrap (k : Int) = (k : Int) := IntWalk.i64_in _ ⟨by omega, by omega⟩
          have hb04 := hRq.o4
          clear hRq hDq hDb hRb hlr htx hgx hbs hbn hxj hmj hj hxn
          go_wp2_with fail
          go_region_held3 (fun w' => w'.cell? ⟨gl, k, none⟩ = some (.int .i64 x)) (first | exact s0 | exact s7 | exact s8)
            (first
              | (go_at_call 8; refine (HG.out _ B0).mono ?_; rintro e w7 ⟨rfl, hb7⟩; have hb7' := B0.trans (hb7.mono B0.size); have s7 := (hb7'.cell (p := ⟨gl, k, none⟩) hgl).trans cl; obtain ⟨W8, D8, hrun8, hD8, hR8, hK8⟩ := BS.out w7 hb7'; have s8 := (hK8.cell (a := ⟨gl, k, none⟩) (Nat.lt_of_lt_of_le hgl hb7'.size) hglb).trans s7))
          have HR8 := Lib.hid ((HRq.out.kept (Kept.of_below hb7' (fun _ => False)) (fun _ h => h.elim)).stored hK8 (k + 1) hD8 hR8)
          have HDq8 := Lib.hid (ownsMap_kept (ownsMap_kept hDQ.out (Kept.of_below hb7' (fun _ => False)) (fun h => h)) hK8 hb04)
          clear hb7 hb7' hD8 hR8 hK8 hrun8 HG BS HRq hDQ s0 s7 s8
          go_wp2
          go_roundw
          case rel => exact ⟨k + 1, by omega, by go_num, HR8.out, HDq8.out⟩
          case measure => simp [intOf]; omega
        · obtain rfl : k = (reachTo M ns.length).length := by omega
          have HRq := Lib.hid hRq
          have hsr := hRq.size
          have hlt' := hRq.arena.lt
          have hA1 := hRq.arena.kept (Kept.alloc (fun _ => False) wr (.cells #[.int .i64 top] 3)) (fun _ _ h => h)
          have hF : IntsAt (wr.alloc (.cells #[.int .i64 top] 3)) wr.heap.size [top] := ⟨by simp, fun i hi => by
            obtain rfl : i = 0 := by simp at hi; omega
            simp, fun x hx => by rw [List.mem_singleton] at hx; subst hx; exact ⟨by omega, by omega⟩⟩
          have HSP := Lib.hid (sweep_any HFL.out.ranked HFL.out.book (by omega) hA1 wr.heap.size [top] hF (by simp) (by simp; omega) (by rw [pairsOf_length]; omega))
          rw [List.length_singleton, LTo_pairs_length, pairsOf_length, ← HME.out] at HSP
          have hb0 := hRq.o1
          have hrr : ((reachTo M ns.length).length : Int) ≤ (ns.length : Int) := by omega
          have e40 : (((ns.length : Int) - ((reachTo M ns.length).length : Int)) != ((ns.length : Int) - ((reachTo M ns.length).length : Int))) = false := by simp
          have e41 : (((reachTo M ns.length).length : Int) != ((reachTo M ns.length).length : Int)) = false := by simp
          have HDQ := Lib.hid hDq
          clear hRq hA1 hF hDq
          go_wp2_with fail
          refine HSP.out.mono ?_
          rintro e w7 ⟨rfl, hA7, hK7⟩
          have hkA := Kept.alloc (fun _ => False) wr (.cells #[.int .i64 top] 3)
          have hR7 := (HRq.out.kept hkA (fun _ h => h.elim)).turned hK7 hA7
          have hD7 := ownsMap_kept (ownsMap_kept HDQ.out hkA (fun h => h)) hK7 hb0
          have hLN := len_any hR7.arena
          rw [LTo_pairs_length] at hLN
          have HLN := Lib.hid hLN
          have HR7 := Lib.hid hR7
          clear HSP hA7 hK7 hkA HRq HDQ hR7 hLN
          go_wp2_with (at_len; refine wpList_len_own _ rfl _ 29 rfl 32 3 Try.underlying29 _ w2.heap.size _ D rfl hD7 ?_)
          refine HLN.out.mono ?_
          rintro e wz ⟨rfl, rfl⟩
          have hR7 := HR7.out
          have hs7 := hR7.size
          have hA8 := hR7.arena.kept (Kept.alloc (fun _ => False) w7 (.cells #[.int .i64 top] 3)) (fun _ _ h => h)
          have hF8 : IntsAt (w7.alloc (.cells #[.int .i64 top] 3)) w7.heap.size [top] := ⟨by simp, fun i hi => by
            obtain rfl : i = 0 := by simp at hi; omega
            simp, fun x hx => by rw [List.mem_singleton] at hx; subst hx; exact ⟨by omega, by omega⟩⟩
          have hRC := reach_any HRK.out (by rw [swept_length]; omega) hA8 w7.heap.size [top] hF8 (by simp) (by simp; omega)
          rw [List.length_singleton, HSW.out, swept_length] at hRC
          have HRC := Lib.hid hRC
          clear HLN hA8 hF8 hRC hR7
          go_wp2_with fail
          refine HRC.out.mono ?_
          rintro e w8 ⟨la8, lc8, rfl, hl8, hb8⟩
          have hb78 : Below w7.heap.size w7 w8 := (below_new w7 _).trans (hb8.mono (by simp))
          have hR8 := HR7.out.kept (Kept.of_below hb78 (fun _ => False)) (fun _ h => h.elim)
          have HSI := Lib.hid (sameInts_eq hl8 hR8.lrow (by omega))
          have hD8 := ownsMap_kept hD7 (Kept.of_below hb78 (fun _ => False)) (fun h => h)
          have HR8 := Lib.hid hR8
          clear HRC hl8 hb8 HR7 hD7 hb78 hR8
          go_wp2_with fail
          refine HSI.out.mono ?_
          rintro e w9 ⟨rfl, hb9⟩
          have HR9 := Lib.hid (HR8.out.kept (Kept.of_below hb9 (fun _ => False)) (fun _ h => h.elim))
          have hD9 := ownsMap_kept hD8 (Kept.of_below hb9 (fun _ => False)) (fun h => h)
          clear HSI HR8 hD8 hb9
          go_wp2_with (at_range; refine wpList_range_own _ rfl _ 29 rfl 32 3 lawNode Try.underlying29 _ w2.heap.size _ D rfl hD9 ?_; intro w10 hrg10 hg10 hs10)
          try go_frame
          have hk10 : Kept (fun _ => False) w9 w10 := Kept.of_grown hg10 (fun i h => by cases h)
          have HAS := Lib.hid (HR9.out.aside (Nat.le_refl _))
          have HR10 := Lib.hid (HR9.out.kept hk10 (fun _ h => h.elim))
          have HRG := Lib.hid hrg10
          clear hk10 HR9 hrg10 hg10 hs10 hD9
          go_loopw [25] (fun _ wq => ∃ (left : Lit → Bool) (cnt : Nat), (∀ kl, left kl = true → Maps.has D kl = true) ∧ wq.ranges Try.prog 32 (plainElem Try.prog 3) w2.heap.size w9.heap.size (pairsOf ns).length D left cnt ∧ Rest w.heap.size w wq (w.heap.size + 1) w.heap.size w2.heap.size w5.heap.size v la lc ns M (reachTo M ns.length).length (swept ns M) (LTo (pairsOf ns) M ns.length) 2)
            (fun _ wq => wq.rangeLeft w2.heap.size w9.heap.size)
          case atStart => exact ⟨_, _, fun _ h => h, HRG.out, HR10.out⟩
          case round =>
            obtain ⟨left, cnt, hleft, hrg, hRq⟩ := hrel
            have HRq := Lib.hid hRq
            have hRP := HRep.out
            clear HRG HR10 hRq
            go_wp2_with (at_next; refine wpList_next_nodes _ rfl _ rfl w2.heap.size w9.heap.size _ D left cnt (pairsOf ns) hRP hleft rfl hrg ?_ ?_)
            · clear hrg hleft hRP HRep HAS
              go_wp2_with fail
              go_loopw [29] (fun i wq => ∃ k : Nat, k ≤ (reachTo M ns.length).length ∧ i = .int .i64 (k : Int) ∧ Rest w.heap.size w wq (w.heap.size + 1) w.heap.size w2.heap.size w5.heap.size v la lc ns M (reachTo M ns.length).length (swept ns M) (LTo (pairsOf ns) M ns.length) 2)
                (fun i _ => (reachTo M ns.length).length - (intOf i).toNat)
              case atStart => exact ⟨0, Nat.zero_le _, rfl, HRq.out⟩
              case round =>
                obtain ⟨k, hk, rfl, hRz⟩ := hrel
                clear HRq
                by_cases hlk : k < (reachTo M ns.length).length
                · obtain ⟨Db, hDb, hRb⟩ := hRz.back
                  have hlr := hRz.lrow
                  obtain ⟨gl, rfl⟩ : ∃ g, la = some ⟨g, 0, none⟩ := by
                    rcases hlr.2 with ⟨-, e⟩ | ⟨g, _, _, e, -⟩
                    · omega
                    · cases e; exact ⟨g, rfl⟩
                  have cl := hlr.cellAt k (by omega)
                  rw [icells_at _ k hlk] at cl
                  have hgl := (hlr.lt gl rfl).2
                  obtain ⟨j, hj, hmj, hxj⟩ := reach_at M ns.length k hlk
                  rw [hxj] at cl
                  have hlu := (back_found hDb hRb (back_mem hj hmj)).2
                  simp only at hlu
                  have hok := HFL.out.ranked.ok j hj
                  have hft := swept_fit HFL.out HRK.out hj hmj
                  have hin := LTo_in hj hmj
                  generalize nd ns j = n at *
                  obtain ⟨nv, nl, nh⟩ := n
                  simp only at hlu
                  have hb14 := below_new wr (.cells #[.int .i64 nv, .int .i64 nl, .int .i64 nh] 32)
                  have hR14 := hRz.kept (Kept.of_below hb14 (fun _ => False)) (fun _ h => h.elim)
                  have HMF := Lib.hid (make_found hR14.arena (by rw [swept_length]; omega) ⟨nv, nl, nh⟩ hok hft (2 + (j : Int)) hin)
                  simp only [Nd.val] at HMF
                  obtain ⟨c0, c1', c2', -⟩ := cell3 wr (.int .i64 nv) (.int .i64 nl) (.int .i64 nh) 32
                  have HR14 := Lib.hid hR14
                  have HB14 := Lib.hid hb14
                  have il : (k : Int) < ((reachTo M ns.length).length : Int) := by omega
                  have ejj : ((2 + (j : Int)) != (2 + (j : Int))) = false := by simp
                  clear hRz hDb hRb hlr hok hft hin hR14 hb14 hmj hxj
                  go_wp2_with fail
                  refine HMF.out.mono ?_
                  rintro e w15 ⟨rfl, hb15⟩
                  have hb15' := HB14.out.trans (hb15.mono HB14.out.size)
                  have cl15 := (hb15'.cell (p := ⟨gl, k, none⟩) hgl).trans cl
                  have HR15 := Lib.hid (HR14.out.kept (Kept.of_below hb15 (fun _ => False)) (fun _ h => h.elim))
                  clear HMF hb15 hb15' HR14 HB14
                  go_wp2
                  go_roundw
                  case rel => exact ⟨k + 1, by omega, by go_num, HR15.out⟩
                  case measure => simp [intOf]; omega
                · have hbE := hRz.below
                  clear hRz
                  go_wp2
                  go_ret
                  exact ⟨rfl, hbE⟩
            · intro n x hp w11 left' cnt' hleft' hrg' hltc hg' hsz' hen
              obtain ⟨i, hi, hpe⟩ := mem_pairsOf.1 hp
              obtain ⟨rfl, rfl⟩ := Prod.mk.inj hpe
              have hR11 := HRq.out.beside (Kept.of_grown (S := fun j => j = w9.heap.size) hg' (fun i h => by cases h; rfl)) HAS.out
              obtain ⟨Db, hDb, hRb⟩ := hR11.back
              have hhs := swept_has HFL.out M hi
              have hlt11 : ∀ o : Obj, Below w11.heap.size w11 (w11.alloc o) := fun o => below_new w11 o
              by_cases hm : mk M i = true
              · have hlu := (back_found (ownsMap_kept hDb (Kept.alloc (fun _ => False) w11 (.cells #[.int .i64 (nd ns i).v, .int .i64 (nd ns i).l, .int .i64 (nd ns i).h] 32)) (fun h => h)) hRb (back_mem hi hm)).1
                simp only at hlu
                rw [hm] at hhs
                generalize nd ns i = n at *
                obtain ⟨nv, nl, nh⟩ := n
                simp only at hlu hen
                obtain ⟨c0, c1', c2', -⟩ := cell3 w11 (.int .i64 nv) (.int .i64 nl) (.int .i64 nh) 32
                have hb12 := below_new w11 (.cells #[.int .i64 nv, .int .i64 nl, .int .i64 nh] 32)
                have hlN : w11.heap.size < (w11.alloc (.cells #[.int .i64 nv, .int .i64 nl, .int .i64 nh] 32)).heap.size := by simp
                have hb13 := below_new (w11.alloc (.cells #[.int .i64 nv, .int .i64 nl, .int .i64 nh] 32)) (.cells #[.int .i64 nv, .int .i64 nl, .int .i64 nh] 32)
                have hR13 := (hR11.kept (Kept.of_below hb12 (fun _ => False)) (fun _ h => h.elim)).kept (Kept.of_below hb13 (fun _ => False)) (fun _ h => h.elim)
                have HHS := Lib.hid (has_any hR13.arena (2 + (i : Int)) ⟨by omega, by omega⟩ (by rw [swept_length]; omega))
                rw [hhs] at HHS
                have hrg13 := (hrg'.alloc (.cells #[.int .i64 nv, .int .i64 nl, .int .i64 nh] 32)).alloc (.cells #[.int .i64 nv, .int .i64 nl, .int .i64 nh] 32)
                have HR13 := Lib.hid hR13
                have HRG13 := Lib.hid hrg13
                have HRGo := Lib.hid hrg
                have HLF := Lib.hid hleft'
                clear hR11 hDb hRb hhs hlt11 hR13 hrg13 hrg' hrg hg' hsz' hleft hleft' hp hpe hRP HRq hm
                go_wp2_with fail
                refine HHS.out.mono ?_
                rintro e wz ⟨rfl, rfl⟩
                go_wp2
                go_roundw
                case rel => exact ⟨left', cnt', HLF.out, HRG13.out, HR13.out⟩
                case measure => rw [HRG13.out.left_eq, HRGo.out.left_eq]; exact hltc
              · have hm' : mk M i = false := by simpa using hm
                have hlu := back_none (ownsMap_kept hDb (Kept.alloc (fun _ => False) w11 (.cells #[.int .i64 (nd ns i).v, .int .i64 (nd ns i).l, .int .i64 (nd ns i).h] 32)) (fun h => h)) hRb (x := 2 + (i : Int)) ⟨by omega, by omega⟩ (back_not hm')
                rw [hm'] at hhs
                generalize nd ns i = n at *
                obtain ⟨nv, nl, nh⟩ := n
                simp only at hlu hen
                have hb12 := below_new w11 (.cells #[.int .i64 nv, .int .i64 nl, .int .i64 nh] 32)
                have hb13 := below_new (w11.alloc (.cells #[.int .i64 nv, .int .i64 nl, .int .i64 nh] 32)) (.cells #[.int .i64 0, .int .i64 0, .int .i64 0] 32)
                have hR13 := (hR11.kept (Kept.of_below hb12 (fun _ => False)) (fun _ h => h.elim)).kept (Kept.of_below hb13 (fun _ => False)) (fun _ h => h.elim)
                have HHS := Lib.hid (has_any hR13.arena (2 + (i : Int)) ⟨by omega, by omega⟩ (by rw [swept_length]; omega))
                rw [hhs] at HHS
                have hrg13 := (hrg'.alloc (.cells #[.int .i64 nv, .int .i64 nl, .int .i64 nh] 32)).alloc (.cells #[.int .i64 0, .int .i64 0, .int .i64 0] 32)
                have HR13 := Lib.hid hR13
                have HRG13 := Lib.hid hrg13
                have HRGo := Lib.hid hrg
                have HLF := Lib.hid hleft'
                clear hR11 hDb hRb hhs hlt11 hR13 hrg13 hrg' hrg hg' hsz' hleft hleft' hp hpe hRP HRq hm hm'
                go_wp2_with fail
                refine HHS.out.mono ?_
                rintro e wz ⟨rfl, rfl⟩
                go_wp2
                go_roundw
                case rel => exact ⟨left', cnt', HLF.out, HRG13.out, HR13.out⟩
                case measure => rw [HRG13.out.left_eq, HRGo.out.left_eq]; exact hltc
end Go.Proofs.Yteipbfadljgppaa
