/- Not. -/
import Derived.Test.YtmhophccdfmngaaGreatDoorSvPart
set_option maxHeartbeats 4000000
set_option maxRecDepth 100000
namespace Go.Proofs.YtmhophccdfmngaaGreatDoor
open Go.RowKit Sv
theorem notF_gap {l : List Span} {k e : Nat} (hk : k < l.length) (h : e < (sp l k).1) : notF e (l.drop k) = (e, (sp l k).1) :: notF (sp l k).2 (l.drop (k + 1)) := by
 rw [List.drop_eq_getElem_cons hk, notF, <- sp_at l k hk, if_pos h]
theorem notF_none {l : List Span} {k e : Nat} (hk : k < l.length) (h : ¬ e < (sp l k).1) : notF e (l.drop k) = notF (sp l k).2 (l.drop (k + 1)) := by
 rw [List.drop_eq_getElem_cons hk, notF, <- sp_at l k hk, if_neg h]
theorem canon_drop {l : List Span} {k e : Nat} (hk : k < l.length) (h : Canon e (l.drop k)) : e <= (sp l k).1 /\ (sp l k).1 < (sp l k).2 /\ (sp l k).2 <= ALL /\ Canon (sp l k).2 (l.drop (k + 1)) := by
 rw [List.drop_eq_getElem_cons hk, <- sp_at l k hk] at h
 exact ⟨h.1, h.2.1, h.2.2.1, h.2.2.2.mono (Nat.le_succ _)⟩
theorem not_any (l : List Span) (hl : Rg l) (v : Value) (w : World) (hv : SpAt w v l) :
  Calls Tryz.prog 23 #[.agg #[v]] w (RgOut w (nt l)) := by
 obtain ⟨i0, hin, hz0, hz1, hz2⟩ := info_parts infoSpan
 obtain ⟨a, cap, rfl⟩ := hv.form
 have hlen := rg_len hl
 have hnlen := rg_len (rg_nt hl)
 have HL := Lib.hid hl
 have HV := Lib.hid hv
 clear hl hv
 go_enter Tryz.func23, Tryz.ntmps23
 go_wp2_with fail
 obtain ⟨W0, hW0⟩ : ∃ W0, (w.alloc (.cells #[.slice a l.length cap] 31)).alloc (.cells #[.slice none 0 0] 31) = W0 := ⟨_, rfl⟩
 have hB0 : Below w.heap.size w W0 := by rw [<- hW0]; exact ((Below.refl _ w).alloc (Nat.le_refl _) _).alloc (by simp) _
 have hs0 : W0.heap.size = w.heap.size + 2 := by rw [<- hW0]; simp
 have hc0 : W0.cell? ⟨w.heap.size + 1, 0, none⟩ = some (.slice none 0 0) := by rw [<- hW0]; have := cell1 (w.alloc (.cells #[.slice a l.length cap] 31)) (.slice none 0 0) 31; rw [World.size_alloc] at this; exact this
 have hf0 : W0.frozen? ⟨w.heap.size + 1, 0, none⟩ = false := by rw [<- hW0]; simp
 have HV0 : Hid (SpAt W0 (.slice a l.length cap) l) := HV.out.below hB0 (Nat.le_refl _)
 have HB0 := Lib.hid hB0
 have HC0 := Lib.hid hc0
 have HF0 := Lib.hid hf0
 rw [hW0]
 clear hB0 hc0 hf0 hW0 HV
 go_loopw [3, 4, 10] (fun gV eV kV wr => ∃ (k e : Nat) (acc : List Span), k <= l.length /\ kV = .int .i64 (k : Int) /\ eV = .int .i64 (e : Int) /\ e <= ALL /\ Canon e (l.drop k) /\ acc ++ notF e (l.drop k) = nt l /\ wr.ownsRow (w.heap.size + 2) 127 2 gV acc.length (scells acc) /\ Below (w.heap.size + 2) W0 wr) (fun _ _ kV _ => l.length - (intOf kV).toNat)
 case atStart => exact ⟨0, 0, [], Nat.zero_le _, rfl, rfl, Nat.zero_le _, HL.out, rfl, World.ownsRow_nil _ _ _ _, Below.refl _ _⟩
 case round =>
  obtain ⟨k, e, acc, hk, rfl, rfl, he, hcan, hres, hrow, hbr⟩ := hrel
  obtain ⟨ra, rc, rfl⟩ := row_form2 hrow
  have hal : acc.length <= (nt l).length := by rw [<- hres]; simp
  have hws := hbr.size
  rw [hs0] at hws
  have HROW := Lib.hid hrow
  have HBR := Lib.hid hbr
  have HC := Lib.hid hcan
  have HR := Lib.hid hres
  clear hrow hbr hcan hres
  by_cases hlt : k < l.length
  ·obtain ⟨g, cap', e1, hg, c0, c1⟩ := (HV0.out.below HBR.out (Nat.le_of_eq hs0)).cells k hlt
   simp at e1
   obtain ⟨rfl, rfl⟩ := e1
   obtain ⟨d1, d2, d3, d4⟩ := canon_drop hlt HC.out
   have HD := Lib.hid d4
   clear d4
   by_cases hgap : e < (sp l k).1
   ·have hres := HR.out
    rw [notF_gap hlt hgap, List.append_cons] at hres
    have hal2 : (acc ++ [(e, (sp l k).1)]).length <= (nt l).length := by rw [<- hres]; simp
    simp at hal2
    have HRS := Lib.hid hres
    clear hres HR
    generalize (sp l k).1 = A at *
    generalize (sp l k).2 = T at *
    go_wp2_with (at_builtin; refine wpList_append_own_at _ rfl _ _ 29 rfl (w.heap.size + 2) 127 i0 (.agg #[.int .i64 0, .int .i64 0]) 2 16 Tryz.underlying29 hin hz0 hz1 hz2 rfl (by decide) _ _ _ rfl ((HROW.out.alloc _).alloc _) ⟨wr.heap.size + 1, 0, none⟩ 1 1 [.int .i64 (e : Int), .int .i64 (A : Int)] rfl rfl ?c1 ?c2 ?c3 ?c4 ?c5 ?_)
    case c1 => have := cell_two_new (wr.alloc (.cells #[.int .i64 (A : Int), .int .i64 (T : Int)] 127)) (.int .i64 (e : Int)) (.int .i64 (A : Int)) 127; rw [World.size_alloc] at this; exact this
    case c2 => intro u hu; simp at hu; rcases hu with rfl | rfl <;> rfl
    case c3 => unfold maxLen; omega
    case c4 => omega
    case c5 => show (w.heap.size + 2) <= (World.alloc _ _).heap.size; simp; omega
    intro v7 w7 hown7 hgrow7 _ hloc7
    have hb7 : Below (w.heap.size + 2) W0 w7 := (((HBR.out.alloc hws _).alloc (by simp; omega) _).grown hgrow7 (by simp; omega) (fun k hk => (HROW.out.lt k hk).1))
    have ct : w7.cell? ⟨wr.heap.size, 1, none⟩ = some (.int .i64 (T : Int)) := by
     rw [grown_cell hgrow7 (by simp; omega) (row_old HROW.out (Nat.le_refl _))]
     have := (cell2 wr (.int .i64 (A : Int)) (.int .i64 (T : Int)) 127).2
     have b1 := ((Below.refl _ (wr.alloc (.cells #[.int .i64 (A : Int), .int .i64 (T : Int)] 127))).alloc (Nat.le_refl _) (.cells #[.int .i64 (e : Int), .int .i64 (A : Int)] 127)).cell (p := ⟨wr.heap.size, 1, none⟩) (by simp)
     exact b1.trans this
    have e7 : (acc ++ [(e, A)]).length = acc.length + 1 := by simp
    have es : scells (acc ++ [(e, A)]) = scells acc ++ [.int .i64 (e : Int), .int .i64 (A : Int)] := by rw [scells_append]; rfl
    rw [<- es, <- e7] at hown7
    have HO7 := Lib.hid hown7
    have HB7 := Lib.hid hb7
    clear hown7 hgrow7 hloc7 hb7 e7 es
    go_wp2
    go_roundw
    case rel => exact ⟨k + 1, T, acc ++ [(e, A)], by omega, rfl, rfl, d3, HD.out, HRS.out, HO7.out, HB7.out⟩
    case measure => simp [intOf]; omega
   ·have hres := HR.out
    rw [notF_none hlt hgap] at hres
    have HRS := Lib.hid hres
    clear hres HR
    generalize (sp l k).1 = A at *
    generalize (sp l k).2 = T at *
    go_wp2
    go_roundw
    case rel => exact ⟨k + 1, T, acc, by omega, rfl, rfl, d3, HD.out, HRS.out, HROW.out.alloc _, HBR.out.alloc hws _⟩
    case measure => simp [intOf]; omega
  ·obtain rfl : k = l.length := by omega
   have hres := HR.out
   rw [List.drop_length, notF] at hres
   have hc1 := (HBR.out.cell (p := ⟨w.heap.size + 1, 0, none⟩) (by show w.heap.size + 1 < _; omega)).trans HC0.out
   have hf1 := (HBR.out.frozen (p := ⟨w.heap.size + 1, 0, none⟩) (by show w.heap.size + 1 < _; omega)).trans HF0.out
   by_cases hend : e < ALL
   ·rw [if_pos hend] at hres
    have hal2 : (acc ++ [(e, ALL)]).length <= (nt l).length := by rw [<- hres]; simp
    simp at hal2
    have HRS := Lib.hid hres
    have hend' : (e : Int) < 1000000000 := by unfold ALL at hend; omega
    clear hres HR
    go_wp2_with (at_builtin; refine wpList_append_own_at _ rfl _ _ 29 rfl (w.heap.size + 2) 127 i0 (.agg #[.int .i64 0, .int .i64 0]) 2 16 Tryz.underlying29 hin hz0 hz1 hz2 rfl (by decide) _ _ _ rfl (HROW.out.alloc _) ⟨wr.heap.size, 0, none⟩ 1 1 [.int .i64 (e : Int), .int .i64 1000000000] rfl rfl (cell_two_new _ _ _ _) ?c2 ?c3 ?c4 ?c5 ?_)
    case c2 => intro u hu; simp at hu; rcases hu with rfl | rfl <;> rfl
    case c3 => unfold maxLen; omega
    case c4 => omega
    case c5 => show (w.heap.size + 2) <= (World.alloc _ _).heap.size; simp; omega
    intro v7 w7 hown7 hgrow7 _ hloc7
    have hb7 : Below (w.heap.size + 2) W0 w7 := ((HBR.out.alloc hws _).grown hgrow7 (by simp; omega) (fun k hk => (HROW.out.lt k hk).1))
    have hc7 := (hb7.cell (p := ⟨w.heap.size + 1, 0, none⟩) (by show w.heap.size + 1 < _; omega)).trans HC0.out
    have hf7 := (hb7.frozen (p := ⟨w.heap.size + 1, 0, none⟩) (by show w.heap.size + 1 < _; omega)).trans HF0.out
    have e7 : (acc ++ [(e, ALL)]).length = acc.length + 1 := by simp
    have es : scells (acc ++ [(e, ALL)]) = scells acc ++ [.int .i64 (e : Int), .int .i64 1000000000] := by rw [scells_append]; rfl
    rw [<- es, <- e7, HRS.out] at hown7
    have hS7 := spAt_row hown7
    obtain ⟨va, vc, rfl⟩ := row_form2 hown7
    have hw7 : Below w.heap.size w (w7.setCell ⟨w.heap.size + 1, 0, none⟩ (.slice va (nt l).length vc)) := (HB0.out.trans (hb7.mono (Nat.le_add_right _ 2))).setCell (p := ⟨w.heap.size + 1, 0, none⟩) (by show w.heap.size <= w.heap.size + 1; omega) _
    have hown8 : (w7.setCell ⟨w.heap.size + 1, 0, none⟩ (.slice va (nt l).length vc)).ownsRow (w.heap.size + 2) 127 2 (.slice va (nt l).length vc) (nt l).length (scells (nt l)) := by
     have hbl : Below (w.heap.size + 2) w7 w7 := Below.refl _ _
     exact row_set hown7 (by omega)
    have hS8 := spAt_row hown8
    have HS8 := Lib.hid hS8
    have HG8 : Hid (∀ g, (Value.slice va (nt l).length vc).ownBlock = some g -> w.heap.size <= g) := fun g hg => by have := (hown8.lt g hg).1; omega
    have HW7 := Lib.hid hw7
    clear hown7 hgrow7 hloc7 hb7 e7 es hS7 hown8 hS8 hw7 hc1 hf1
    go_wp2
    have hr8 : (w7.setCell ⟨w.heap.size + 1, 0, none⟩ (.slice va (nt l).length vc)).cell? ⟨w.heap.size + 1, 0, none⟩ = some (.slice va (nt l).length vc) := World.cell?_setCell_same' _ _ _ (by rw [hc7]; rfl)
    refine bodyPost_ret (v := .agg #[.slice va (nt l).length vc]) (by simp [results, Tryz.results23, go_sem, hr8]) rfl ?_
    exact ⟨_, rfl, HS8.out, HG8.out, HW7.out⟩
   ·rw [if_neg hend, List.append_nil] at hres
    have hend' : ¬ (e : Int) < 1000000000 := by unfold ALL at hend; omega
    have hrow := HROW.out
    have hown8 : (wr.setCell ⟨w.heap.size + 1, 0, none⟩ (.slice ra acc.length rc)).ownsRow (w.heap.size + 2) 127 2 (.slice ra acc.length rc) acc.length (scells acc) := row_set hrow (by omega)
    have HG8 : Hid (∀ g, (Value.slice ra acc.length rc).ownBlock = some g -> w.heap.size <= g) := fun g hg => by have := (hown8.lt g hg).1; omega
    have HS8 : Hid (SpAt (wr.setCell ⟨w.heap.size + 1, 0, none⟩ (.slice ra acc.length rc)) (.slice ra acc.length rc) (nt l)) := hres ▸ spAt_row hown8
    have HW7 := Lib.hid ((HB0.out.trans (HBR.out.mono (Nat.le_add_right _ 2))).setCell (p := ⟨w.heap.size + 1, 0, none⟩) (by show w.heap.size <= w.heap.size + 1; omega) (.slice ra acc.length rc))
    have hr8 : (wr.setCell ⟨w.heap.size + 1, 0, none⟩ (.slice ra acc.length rc)).cell? ⟨w.heap.size + 1, 0, none⟩ = some (.slice ra acc.length rc) := World.cell?_setCell_same' _ _ _ (by rw [hc1]; rfl)
    have HR8 := Lib.hid hr8
    clear hrow hown8 hr8 hres
    go_wp2
    have hr8 := HR8.out
    refine bodyPost_ret (v := .agg #[.slice ra acc.length rc]) (by simp [results, Tryz.results23, go_sem, hr8]) rfl ?_
    exact ⟨_, rfl, HS8.out, HG8.out, HW7.out⟩
end Go.Proofs.YtmhophccdfmngaaGreatDoor
