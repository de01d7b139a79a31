/- The reference's Reach. -/
import Derived.Test.YtllobejhkajobaaDoorRefWalk
namespace Go.Proofs.YtllobejhkajobaaDoor
open Go.RowKit Go.Maps Go.Sort

theorem reachTo_more (M : List Bool) (k : Nat) : ∀ d, ∃ t, reachTo M (k + d) = reachTo M k ++ t
  | 0 => ⟨[], by simp⟩
  | d + 1 => by
    obtain ⟨t, ht⟩ := reachTo_more M k d
    exact ⟨t ++ (if mk M (k + d) = true then [2 + ((k + d : Nat) : Int)] else []), by rw [← Nat.add_assoc, reachTo_succ, ht, List.append_assoc]⟩
theorem reachTo_all {M : List Bool} {k n : Nat} (hk : k ≤ n) (h : (reachTo M n).length ≤ (reachTo M k).length) : reachTo M n = reachTo M k := by
  obtain ⟨t, ht⟩ := reachTo_more M k (n - k)
  rw [show k + (n - k) = n by omega] at ht
  rw [ht, List.length_append] at h
  rw [ht, List.length_eq_zero_iff.1 (show t.length = 0 by omega), List.append_nil]

theorem reachTo_none (n : Nat) : ∀ k, reachTo (List.replicate n false) k = []
  | 0 => rfl
  | k + 1 => by rw [reachTo_succ, reachTo_none n k, mk_none]; rfl

theorem cell_at (w : World) (A : Value) (t : TypeId) {n : Nat} (hn : n = w.heap.size) : (w.alloc (.cells #[A] t)).cell? ⟨n, 0, none⟩ = some A := by subst hn; simp
theorem frozen_at (w : World) (A : Value) (t : TypeId) {n : Nat} (hn : n = w.heap.size) : (w.alloc (.cells #[A] t)).frozen? ⟨n, 0, none⟩ = false := by subst hn; simp

/-- The world at which the walks begin. -/
def walkW (w : World) (rb : Nat) : World :=
  ((((w.alloc (Obj.cells #[Value.pointer (some ⟨rb, 0, none⟩)] 30)).alloc (Obj.map #[] 0)).alloc (Obj.cells #[Value.map (some (w.heap.size + 1))] 68)).alloc (Obj.cells #[Value.nilFunc] 69)).setCell ⟨w.heap.size + 1 + 1 + 1, 0, none⟩ (Value.func (Fn.func 24) #[] #[Value.pointer (some ⟨w.heap.size, 0, none⟩), Value.pointer (some ⟨w.heap.size + 1 + 1, 0, none⟩), Value.pointer (some ⟨w.heap.size + 1 + 1 + 1, 0, none⟩)])

section
variable {B : Nat} {w : World} {rb rm : Nat} {ns : List Nd} {L : List (Int × Nd)} {room : Int}

theorem walkW_below (w : World) (rb : Nat) : Below w.heap.size w (walkW w rb) := by
  unfold walkW
  refine Below.setCell ?_ (by show _ ≤ w.heap.size + 1 + 1 + 1; omega) _
  exact ((((Below.refl _ _).alloc (Nat.le_refl _) _).alloc (by simp) _).alloc (by simp; omega) _).alloc (by simp; omega) _

theorem walkW_at (h : RefAt B w rb rm ns L room) : WalkAt B (walkW w rb) rb rm w.heap.size (w.heap.size + 1) (w.heap.size + 1 + 1) (w.heap.size + 1 + 1 + 1) ns L room (List.replicate ns.length false) := by
  have h1 := h.lt
  have h2 : rm < w.heap.size := by obtain ⟨D, hD, -⟩ := h.hmap; exact hD.lt
  have e1 : (w.alloc (Obj.cells #[Value.pointer (some ⟨rb, 0, none⟩)] 30)).heap.size = w.heap.size + 1 := by simp
  have e2 : ((w.alloc (Obj.cells #[Value.pointer (some ⟨rb, 0, none⟩)] 30)).alloc (Obj.map #[] 0)).heap.size = w.heap.size + 1 + 1 := by simp
  have e3 : (((w.alloc (Obj.cells #[Value.pointer (some ⟨rb, 0, none⟩)] 30)).alloc (Obj.map #[] 0)).alloc (Obj.cells #[Value.map (some (w.heap.size + 1))] 68)).heap.size = w.heap.size + 1 + 1 + 1 := by simp
  refine ⟨h.new (walkW_below w rb), ?_, ?_, ?_, ⟨.map [], [], ?_, Rep.empty, ⟨fun x b => ?_, by rw [reachTo_none]; rfl⟩⟩, by simp, by omega, by omega, by omega, by omega, by omega⟩
  · unfold walkW
    rw [World.cell?_setCell_other _ _ _ _ (by simp)]
    have hb := (((Below.refl (w.heap.size + 1) (w.alloc (Obj.cells #[Value.pointer (some ⟨rb, 0, none⟩)] 30))).alloc (by simp) (Obj.map #[] 0)).alloc (by simp) (Obj.cells #[Value.map (some (w.heap.size + 1))] 68)).alloc (by simp) (Obj.cells #[Value.nilFunc] 69)
    exact (hb.cell (p := ⟨w.heap.size, 0, none⟩) (by show w.heap.size < w.heap.size + 1; omega)).trans (by simp)
  · unfold walkW
    rw [World.cell?_setCell_other _ _ _ _ (by simp)]
    have hb := (Below.refl (w.heap.size + 1 + 1 + 1) (((w.alloc (Obj.cells #[Value.pointer (some ⟨rb, 0, none⟩)] 30)).alloc (Obj.map #[] 0)).alloc (Obj.cells #[Value.map (some (w.heap.size + 1))] 68))).alloc (by simp) (Obj.cells #[Value.nilFunc] 69)
    refine (hb.cell (p := ⟨w.heap.size + 1 + 1, 0, none⟩) (by show w.heap.size + 1 + 1 < w.heap.size + 1 + 1 + 1; omega)).trans ?_
    exact cell_at _ _ _ e2.symm
  · unfold walkW
    refine World.cell?_setCell_same _ _ _ (u := Value.nilFunc) ?_
    exact cell_at _ _ _ e3.symm
  · unfold walkW
    refine World.ownsMap.setCell ?_ (by show w.heap.size + 1 ≠ w.heap.size + 1 + 1 + 1; omega) _
    refine World.ownsMap.alloc (World.ownsMap.alloc ?_ _) _
    rw [← e1]
    exact World.ownsMap_made _ _ _ _
  · simp [mk_none]

set_option maxRecDepth 100000 in
set_option maxHeartbeats 4000000 in
theorem rreach_any (hr : Ranked ns) (hl : ns.length ≤ 100000) (h : RefAt B w rb rm ns L room) (bf : Nat) (fs : List Int) (hF : IntsAt w bf fs) (hfl : fs.length ≤ 1000) :
    Calls Tryd.prog 10 #[.pointer (some ⟨rb, 0, none⟩), .slice (some ⟨bf, 0, none⟩) fs.length fs.length] w fun e w' => ∃ a c, e = .returned (.slice a (reachTo (marksOf ns fs) ns.length).length c) ∧ w'.ownsRow w.heap.size 3 1 (.slice a (reachTo (marksOf ns fs) ns.length).length c) (reachTo (marksOf ns fs) ns.length).length (icells (reachTo (marksOf ns fs) ns.length)) ∧ Below w.heap.size w w' := by
  have hmm := @run_makeMap Tryd.prog
  have HW := Lib.hid (walkW_at h)
  have HB := Lib.hid (walkW_below w rb)
  have e3 : (((w.alloc (Obj.cells #[Value.pointer (some ⟨rb, 0, none⟩)] 30)).alloc (Obj.map #[] 0)).alloc (Obj.cells #[Value.map (some (w.heap.size + 1))] 68)).heap.size = w.heap.size + 1 + 1 + 1 := by simp
  have hst : (store ⟨w.heap.size + 1 + 1 + 1, 0, none⟩ (Value.func (Fn.func 24) #[] #[Value.pointer (some ⟨w.heap.size, 0, none⟩), Value.pointer (some ⟨w.heap.size + 1 + 1, 0, none⟩), Value.pointer (some ⟨w.heap.size + 1 + 1 + 1, 0, none⟩)])).run Tryd.prog ((((w.alloc (Obj.cells #[Value.pointer (some ⟨rb, 0, none⟩)] 30)).alloc (Obj.map #[] 0)).alloc (Obj.cells #[Value.map (some (w.heap.size + 1))] 68)).alloc (Obj.cells #[Value.nilFunc] 69)) = .ok () (walkW w rb) := by
    rw [run_store _ _ _ _ _ (by rfl), cell_at _ Value.nilFunc 69 e3.symm, frozen_at _ Value.nilFunc 69 e3.symm]
    rfl
  have hws : w.heap.size + 1 + 1 + 1 < (walkW w rb).heap.size := World.block_lt_of_cell? _ _ HW.out.cw
  obtain ⟨i0, hi, hz0, hz1, hz2⟩ := info_parts infoInt
  have HF := Lib.hid hF
  have HR := Lib.hid hr
  clear h hF hr e3
  generalize hW0 : walkW w rb = w0 at *
  clear hW0
  go_enter Tryd.func10, Tryd.ntmps10
  go_wp2_with fail
  go_loopw [8, 15] (fun _ i wr => ∃ k : Nat, k ≤ fs.length ∧ i = .int .i64 (k : Int) ∧ WalkAt B wr rb rm w.heap.size (w.heap.size + 1) (w.heap.size + 1 + 1) (w.heap.size + 1 + 1 + 1) ns L room (marksOf ns (fs.take k)) ∧ Below w.heap.size w wr ∧ w.heap.size + 1 + 1 + 1 < wr.heap.size)
    (fun _ i _ => fs.length - (intOf i).toNat)
  case atStart => exact ⟨0, Nat.zero_le _, rfl, HW.out, HB.out, hws⟩
  case round =>
    obtain ⟨k, hk, rfl, hWr, hbr, hsr⟩ := hrel
    clear HW HB hws hst hmm
    by_cases hlt : k < fs.length
    · have ck := (hbr.cell (p := ⟨bf, k, none⟩) HF.out.lt).trans (HF.out.cells k hlt)
      have cw := hWr.cw
      have HC : Hid (Calls Tryd.prog 24 #[.int .i64 fs[k], .pointer (some ⟨w.heap.size, 0, none⟩), .pointer (some ⟨w.heap.size + 1 + 1, 0, none⟩), .pointer (some ⟨w.heap.size + 1 + 1 + 1, 0, none⟩)] wr fun e w' => e = .returned (.tuple #[]) ∧ WalkAt B w' rb rm w.heap.size (w.heap.size + 1) (w.heap.size + 1 + 1) (w.heap.size + 1 + 1 + 1) ns L room (marksOf ns (fs.take (k + 1))) ∧ Kept (fun j => j = w.heap.size + 1) wr w') := by
        have hr' := HR.out
        have := rwalk_any hr' hl 24 fs[k] (marksOf ns (fs.take k)) wr hWr (HF.out.ok _ (List.getElem_mem hlt)) (by have := (topOf_le hr' fs[k]).1; omega)
        rw [← marksOf_take ns fs k hlt] at this
        exact this
      have HB := Lib.hid hbr
      clear hWr hbr
      generalize fs[k] = x at *
      go_wp2_with fail
      refine HC.out.mono ?_
      rintro e w2 ⟨rfl, hW2, hk2⟩
      have hb2 := HB.out.trans (hk2.below HB.out.size (fun i hi => by omega))
      have hs2 := Nat.lt_of_lt_of_le hsr hk2.size
      clear HC hk2
      go_wp2
      go_roundw
      case rel => exact ⟨k + 1, by omega, by go_num, hW2, hb2, hs2⟩
      case measure => simp [intOf]; omega
    · obtain rfl : k = fs.length := by omega
      rw [List.take_length] at hWr
      generalize hM : marksOf ns fs = M at *
      have HM := Lib.hid hM
      clear hM
      obtain ⟨D, Ls, hDr, hR, hS⟩ := hWr.seen
      have csr := hWr.cs
      have HS := Lib.hid hS
      have HRp := Lib.hid hR
      have hLs := hS.len
      have hLn := reachTo_length M ns.length
      clear hWr hR hS HF HR hk hlt
      go_wp2_with fail
      go_loopw [9, 10] (fun out i wq => ∃ (k : Nat) (a : Option Addr) (c : Nat), k ≤ ns.length ∧ i = .int .i64 (2 + (k : Int)) ∧ out = .slice a (reachTo M k).length c ∧ wq.ownsRow (w.heap.size + 1 + 1 + 1 + 1) 3 1 (.slice a (reachTo M k).length c) (reachTo M k).length (icells (reachTo M k)) ∧ wq.cell? ⟨w.heap.size + 1 + 1, 0, none⟩ = some (.map (some (w.heap.size + 1))) ∧ wq.ownsMap Tryd.prog 3 (plainElem Tryd.prog 4) (w.heap.size + 1) Ls.length D ∧ Below w.heap.size w wq ∧ w.heap.size + 1 + 1 + 1 < wq.heap.size)
        (fun _ i _ => ns.length + 2 - (intOf i).toNat)
      case atStart => exact ⟨0, none, 0, Nat.zero_le _, rfl, rfl, World.ownsRow_nil _ _ _ _, csr, hDr, hbr, hsr⟩
      case round =>
        obtain ⟨k, a, c, hk, rfl, rfl, hown, cs, hD, hb, hs⟩ := hrel
        clear csr hDr hbr hsr
        have hln : ∀ ty, (Builtin.len_ #[68] ty #[.map (some (w.heap.size + 1))]).run Tryd.prog wr = .ok (.int .i64 (Ls.length : Int)) wr := fun ty => by
          have := hD.len Tryd.underlying68 ty
          rwa [HRp.out.size] at this
        have hrl := reachTo_length M k
        by_cases hgo : (reachTo M k).length < Ls.length
        · have hkn : k < ns.length := by
            rcases Nat.lt_or_ge k ns.length with h | h
            · exact h
            · have : k = ns.length := by omega
              rw [this] at hgo; omega
          have hsl := seen_look hD HRp.out HS.out hkn (show I64 (2 + (k : Int)) from ⟨by omega, by omega⟩)
          have hsu := reachTo_succ M k
          have ilt : ((reachTo M k).length : Int) < (Ls.length : Int) := by omega
          by_cases hm : mk M k = true
          · rw [if_pos hm] at hsu
            rw [hm] at hsl
            have HSU := Lib.hid hsu
            have HB := Lib.hid hb
            have HD := Lib.hid hD
            have HCS := Lib.hid cs
            clear hm hsu hb hD
            go_wp2_with (at_builtin; refine wpList_append_own _ rfl _ _ 44 rfl (w.heap.size + 1 + 1 + 1 + 1) 3 i0 (.int .i64 0) 1 8 Tryd.underlying44 hi hz0 hz1 hz2 rfl (by decide) _ _ _ rfl (hown.alloc _) ⟨wr.heap.size, 0, none⟩ 1 1 [.int .i64 (2 + (k : Int))] rfl rfl ?c1 ?c2 ?c3 ?c4 ?c5 ?_)
            case c1 => exact cell_one_new _ _ _
            case c2 => intro u hu; simp at hu; subst hu; rfl
            case c3 => unfold maxLen; omega
            case c4 => omega
            case c5 => simp; omega
            · intro v' w4 hown' hgrow _
              have hk4 : Kept (fun j => (Value.slice a (reachTo M k).length c).ownBlock = some j) wr w4 := (Kept.alloc _ wr _).andThen (Kept.of_grown hgrow (fun i h => h)) (fun i h _ => h)
              have hb4 := HB.out.trans (hk4.below HB.out.size (fun i hi => by have := (hown.lt i hi).1; omega))
              have hD4 := ownsMap_kept HD.out hk4 (fun h2 => by have := (hown.lt _ h2).1; omega)
              have cs4 := (hk4.cell (a := ⟨w.heap.size + 1 + 1, 0, none⟩) (by show w.heap.size + 1 + 1 < _; omega) (fun h2 => by have := (hown.lt _ h2).1; simp at this; omega)).trans HCS.out
              have hs4 := Nat.lt_of_lt_of_le hs hk4.size
              obtain ⟨a', c', rfl⟩ : ∃ a' c', v' = .slice a' ((reachTo M k).length + 1) c' := by
                rcases hown'.2 with ⟨h1, h2⟩ | ⟨g, cp, cur, h1, -⟩
                · omega
                · exact ⟨_, _, h1⟩
              clear hown hgrow hk4 HD HB HCS cs hsl hln
              go_wp2
              go_roundw
              case rel =>
                have e5 := HSU.out
                have e6 : (reachTo M (k + 1)).length = (reachTo M k).length + 1 := by rw [e5]; simp
                refine ⟨k + 1, a', c', by omega, by go_num, by rw [e6], ?_, cs4, hD4, hb4, hs4⟩
                rw [e6, e5]
                simpa [icells] using hown'
              case measure => simp [intOf]; omega
          · rw [if_neg hm, List.append_nil] at hsu
            have hm' : mk M k = false := by simpa using hm
            rw [hm'] at hsl
            have HSU := Lib.hid hsu
            have HO := Lib.hid hown
            have HB := Lib.hid hb
            have HD := Lib.hid hD
            clear hm hm' hsu hown hb hD
            go_wp2
            go_roundw
            case rel => exact ⟨k + 1, a, c, by omega, by go_num, by rw [HSU.out], by rw [HSU.out]; exact HO.out, cs, HD.out, HB.out, hs⟩
            case measure => simp [intOf]; omega
        · have HE := Lib.hid (reachTo_all hk (show (reachTo M ns.length).length ≤ (reachTo M k).length by omega))
          have ilt : ¬ ((reachTo M k).length : Int) < (Ls.length : Int) := by omega
          go_wp2
          go_ret
          rw [HM.out, HE.out]
          have hown2 := ownsRow_base hown (show w.heap.size ≤ w.heap.size + 1 + 1 + 1 + 1 by omega)
          exact ⟨a, c, rfl, hown2, hb⟩
end
end Go.Proofs.YtllobejhkajobaaDoor
