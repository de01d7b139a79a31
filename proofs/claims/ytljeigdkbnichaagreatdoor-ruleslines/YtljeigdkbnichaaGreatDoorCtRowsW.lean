/- rows. -/
import Derived.Test.YtljeigdkbnichaaGreatDoorCtMap
namespace Go.Proofs.YtljeigdkbnichaaGreatDoor
open Go.RowKit Go.Deep Go.Maps Sv

theorem take_snoc {l : List It} {k : Nat} (h : k < l.length) : l.take (k + 1) = l.take k ++ [l.getD k default] := by
  rw [List.take_succ_eq_append_getElem h, List.getD_eq_getElem?_getD, List.getElem?_eq_getElem h]; rfl

set_option maxRecDepth 100000 in
set_option maxHeartbeats 4000000 in
theorem rows_any (its : List It) (v : Value) (w : World) (h : ItsAt w v its) (hl : its.length ≤ 100000) (hn : ∀ x ∈ its, x.name.size ≤ 100000) :
    Calls Tryz.prog 86 #[v] w fun e w' => e = .returned (.map (some w.heap.size)) ∧ RowsAt w' w.heap.size (ctRowO its) its.length ∧ Below w.heap.size w w' := by
  have HI := Lib.hid h
  have HNS := Lib.hid hn
  obtain ⟨va, vc, rfl, -⟩ := h.form
  clear h hn
  have hr0 := RowsAt.made w
  have HR0 : Hid (RowsAt (w.alloc (.map #[] 0)) w.heap.size (ctRowO (its.take 0)) 0) := hr0
  have HB0 : Hid (Below w.heap.size w (w.alloc (.map #[] 0))) := (Below.refl _ w).alloc (Nat.le_refl _) _
  clear hr0
  have hmm := @run_makeMap Tryz.prog
  go_enter Tryz.func86, Tryz.ntmps86
  go_wp2_with fail
  clear hmm
  go_loopw [11] (fun iV wr => ∃ k : Nat, k ≤ its.length ∧ iV = .int .i64 (k : Int) ∧ RowsAt wr w.heap.size (ctRowO (its.take k)) k ∧ Below w.heap.size w wr) (fun iV _ => its.length - (intOf iV).toNat)
  case atStart => exact ⟨0, Nat.zero_le _, rfl, HR0.out, HB0.out⟩
  case round =>
    obtain ⟨k, hk, rfl, hrows, hbr⟩ := hrel
    clear HR0 HB0
    by_cases hlt : k < its.length
    · obtain ⟨g, cap', e, hg, c0, c1, c2, c3⟩ := (show ItsAt wr _ its from HI.out.below hbr (Nat.le_refl _)).at k hlt
      simp at e
      obtain ⟨rfl, rfl⟩ := e
      have hsn : ctRowO (its.take (k + 1)) = fun c => if c = (its.getD k default).name then some ((((ctRowO (its.take k) (its.getD k default).name).map Prod.fst).getD k, k + 1)) else ctRowO (its.take k) c := by
        funext c
        rw [take_snoc hlt, ctRowO_snoc, List.length_take, Nat.min_eq_left hk]
        by_cases hc : (its.getD k default).name = c
        · subst hc; simp
        · rw [if_neg hc, if_neg (fun e => hc e.symm)]
      have hxs : (its.getD k default).name.size ≤ 100000 := HNS.out _ (getD_mem hlt)
      have HSN := Lib.hid hsn
      clear hsn
      generalize its.getD k default = x at *
      generalize ctRowO (its.take k) = f at *
      have kx := Blk.new wr 71 #[.string x.name, .int .i64 x.a, .int .i64 x.b, .int .i64 x.c]
      have hbx : Below wr.heap.size wr (wr.alloc (.cells #[.string x.name, .int .i64 x.a, .int .i64 x.b, .int .i64 x.c] 71)) := (Below.refl _ _).alloc (Nat.le_refl _) _
      have hr1 := hrows.below hbx (Nat.le_refl _)
      have hb1 : Below w.heap.size w (wr.alloc (.cells #[.string x.name, .int .i64 x.a, .int .i64 x.b, .int .i64 x.c] 71)) := hbr.trans (hbx.mono hbr.size)
      have HR1 := Lib.hid hr1
      have HB1 := Lib.hid hb1
      clear hrows hbr hbx hr1 hb1
      go_upto_region 5 with fail
      clear c0 c1 c2 c3
      generalize wr.alloc (.cells #[.string x.name, .int .i64 x.a, .int .i64 x.b, .int .i64 x.c] 71) = W1 at *
      generalize wr.heap.size = bx at *
      obtain ⟨⟨P, Q⟩, hpq⟩ : ∃ pq : Nat × Nat, (f x.name).getD (0, 0) = pq := ⟨_, rfl⟩
      obtain ⟨b, hb⟩ : ∃ b, (f x.name).isSome = b := ⟨_, rfl⟩
      have hlook : (Instr.lookup 149 (.map (some w.heap.size)) (.string x.name) true).run Tryz.prog W1 = .ok (.tuple #[.agg #[.int .i64 (P : Int), .int .i64 (Q : Int)], .bool b]) W1 := by have h := (HR1.out.look hxs).1; rw [hpq, hb] at h; exact h
      have d0 : W1.cell? ⟨bx, 0, none⟩ = some (.string x.name) := kx.cell 0
      have kr := Blk.new W1 161 #[.int .i64 (P : Int), .int .i64 (Q : Int)]
      have hbr : Below W1.heap.size W1 (W1.alloc (.cells #[.int .i64 (P : Int), .int .i64 (Q : Int)] 161)) := (Below.refl _ _).alloc (Nat.le_refl _) _
      have kx2 := kx.below hbr kx.lt
      have HR2 := Lib.hid (HR1.out.below hbr (Nat.le_refl _))
      have HB2 : Hid (Below w.heap.size w (W1.alloc (.cells #[.int .i64 (P : Int), .int .i64 (Q : Int)] 161))) := HB1.out.trans (hbr.mono HB1.out.size)
      have HPQ := Lib.hid hpq
      have HBB := Lib.hid hb
      have hxr : bx ≠ W1.heap.size := Nat.ne_of_lt kx.lt
      have hbW : w.heap.size ≤ W1.heap.size := HB1.out.size
      clear hpq hb hbr HR1 HB1 kx
      go_upto_region 6 with fail
      clear hlook d0
      generalize W1.alloc (.cells #[.int .i64 (P : Int), .int .i64 (Q : Int)] 161) = W2 at *
      generalize W1.heap.size = br at *
      have hmr := HR2.out.ne kr
      cases b with
      | false =>
        have e0 : W2.cell? ⟨br, 0, none⟩ = some (.int .i64 (P : Int)) := kr.cell 0
        have e1 : W2.cell? ⟨br, 1, none⟩ = some (.int .i64 (Q : Int)) := kr.cell 1
        have ef0 := kr.frozen 0
        have ef1 := kr.frozen 1
        have k3 : Blk ((W2.setCell ⟨br, 0, none⟩ (.int .i64 (k : Int))).setCell ⟨br, 1, none⟩ (.int .i64 ((k : Int) + 1))) br 161 #[.int .i64 (k : Int), .int .i64 ((k : Int) + 1)] := (kr.set (i := 0)).set (i := 1)
        have kx3 : Blk ((W2.setCell ⟨br, 0, none⟩ (.int .i64 (k : Int))).setCell ⟨br, 1, none⟩ (.int .i64 ((k : Int) + 1))) bx 71 #[.string x.name, .int .i64 x.a, .int .i64 x.b, .int .i64 x.c] := (kx2.other hxr).other hxr
        have hr3 : RowsAt ((W2.setCell ⟨br, 0, none⟩ (.int .i64 (k : Int))).setCell ⟨br, 1, none⟩ (.int .i64 ((k : Int) + 1))) w.heap.size f k := HR2.out.block (by rw [Below.heap_setCell _ _ _ _ hmr, Below.heap_setCell _ _ _ _ hmr])
        have hb3 : Below w.heap.size w ((W2.setCell ⟨br, 0, none⟩ (.int .i64 (k : Int))).setCell ⟨br, 1, none⟩ (.int .i64 ((k : Int) + 1))) := (HB2.out.setCell (p := ⟨br, 0, none⟩) hbW _).setCell (p := ⟨br, 1, none⟩) hbW _
        go_upto_region 9 with fail
        clear e0 e1 ef0 ef1
        generalize ((W2.setCell ⟨br, 0, none⟩ (.int .i64 (k : Int))).setCell ⟨br, 1, none⟩ (.int .i64 ((k : Int) + 1))) = W3 at *
        obtain ⟨w4, hrun, hr4, hg4⟩ := hr3.put hxs (k, k + 1) (by omega)
        have hrun' : (Instr.mapUpdate 149 (.map (some w.heap.size)) (.string x.name) (.agg #[.int .i64 (k : Int), .int .i64 ((k : Int) + 1)])).run Tryz.prog W3 = .ok () w4 := hrun
        have g0 : W3.cell? ⟨br, 0, none⟩ = some (.int .i64 (k : Int)) := k3.cell 0
        have g1 : W3.cell? ⟨br, 1, none⟩ = some (.int .i64 ((k : Int) + 1)) := k3.cell 1
        have g2 : W3.cell? ⟨bx, 0, none⟩ = some (.string x.name) := kx3.cell 0
        have HB4 : Hid (Below w.heap.size w w4) := hb3.grown hg4 hb3.size (fun j hj => by cases hj; exact Nat.le_refl _)
        have HR4 : Hid (RowsAt w4 w.heap.size (ctRowO (its.take (k + 1))) (k + 1)) := by
          show RowsAt _ _ _ _
          rw [HSN.out]
          have e : ((f x.name).map Prod.fst).getD k = k := by
            have h := HBB.out
            cases hf : f x.name with
            | none => rfl
            | some r => rw [hf] at h; cases h
          rw [e]; exact hr4
        clear hrun hr4 hg4 k3 kx3 hr3 hb3 HR2 HB2 kr kx2
        go_wp2
        go_roundw
        case rel => exact ⟨k + 1, hlt, by go_num, HR4.out, HB4.out⟩
        case measure => simp [intOf]; omega
      | true =>
        have e0 : W2.cell? ⟨br, 0, none⟩ = some (.int .i64 (P : Int)) := kr.cell 0
        have e1 : W2.cell? ⟨br, 1, none⟩ = some (.int .i64 (Q : Int)) := kr.cell 1
        have ef0 := kr.frozen 0
        have ef1 := kr.frozen 1
        have k3 : Blk (W2.setCell ⟨br, 1, none⟩ (.int .i64 ((k : Int) + 1))) br 161 #[.int .i64 (P : Int), .int .i64 ((k : Int) + 1)] := kr.set (i := 1)
        have kx3 : Blk (W2.setCell ⟨br, 1, none⟩ (.int .i64 ((k : Int) + 1))) bx 71 #[.string x.name, .int .i64 x.a, .int .i64 x.b, .int .i64 x.c] := kx2.other hxr
        have hr3 : RowsAt (W2.setCell ⟨br, 1, none⟩ (.int .i64 ((k : Int) + 1))) w.heap.size f k := HR2.out.block (by rw [Below.heap_setCell _ _ _ _ hmr])
        have hb3 : Below w.heap.size w (W2.setCell ⟨br, 1, none⟩ (.int .i64 ((k : Int) + 1))) := HB2.out.setCell (p := ⟨br, 1, none⟩) hbW _
        go_upto_region 9 with fail
        clear e0 e1 ef0 ef1
        generalize (W2.setCell ⟨br, 1, none⟩ (.int .i64 ((k : Int) + 1))) = W3 at *
        obtain ⟨w4, hrun, hr4, hg4⟩ := hr3.put hxs (P, k + 1) (by omega)
        have hrun' : (Instr.mapUpdate 149 (.map (some w.heap.size)) (.string x.name) (.agg #[.int .i64 (P : Int), .int .i64 ((k : Int) + 1)])).run Tryz.prog W3 = .ok () w4 := hrun
        have g0 : W3.cell? ⟨br, 0, none⟩ = some (.int .i64 (P : Int)) := k3.cell 0
        have g1 : W3.cell? ⟨br, 1, none⟩ = some (.int .i64 ((k : Int) + 1)) := k3.cell 1
        have g2 : W3.cell? ⟨bx, 0, none⟩ = some (.string x.name) := kx3.cell 0
        have HB4 : Hid (Below w.heap.size w w4) := hb3.grown hg4 hb3.size (fun j hj => by cases hj; exact Nat.le_refl _)
        have HR4 : Hid (RowsAt w4 w.heap.size (ctRowO (its.take (k + 1))) (k + 1)) := by
          show RowsAt _ _ _ _
          rw [HSN.out]
          have e : ((f x.name).map Prod.fst).getD k = P := by
            have h := HBB.out
            have h2 := HPQ.out
            cases hf : f x.name with
            | none => rw [hf] at h; cases h
            | some r => rw [hf] at h2; simp at h2; simp [h2]
          rw [e]; exact hr4
        clear hrun hr4 hg4 k3 kx3 hr3 hb3 HR2 HB2 kr kx2
        go_wp2
        go_roundw
        case rel => exact ⟨k + 1, hlt, by go_num, HR4.out, HB4.out⟩
        case measure => simp [intOf]; omega
    · obtain rfl : k = its.length := by omega
      rw [List.take_length] at hrows
      have HR := Lib.hid hrows
      have HB := Lib.hid hbr
      clear hrows hbr
      go_wp2
      go_ret
      exact ⟨rfl, HR.out, HB.out⟩
end Go.Proofs.YtljeigdkbnichaaGreatDoor
