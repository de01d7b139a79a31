/- add, tooMuch. -/
import Derived.Test.YtcmmoinkhodjfaaDoorPfPile
import Derived.BigRegion
import Derived.Deep.RegionHeld3
import Derived.Deep.AppendLies
import Derived.Laws.OwnMore
namespace Go.Proofs.YtcmmoinkhodjfaaDoor
open Go.RowKit Go.Deep Go.Maps

set_option maxRecDepth 100000 in
set_option maxHeartbeats 1000000 in
theorem tooMuch_any (B pb : Nat) (l : List (Nat × Nat)) (lV mV : Value) (w : World) (hP : PileM B w pb l lV mV) :
    Calls Tryd.prog 46 #[.pointer (some ⟨pb, 0, none⟩)] w fun e w' => e = .returned (.bool (decide (2000 < l.length))) ∧ w = w' := by
  have hblk := hP.blk
  have hrow := hP.row
  obtain ⟨la, lc, rfl, -, -⟩ : ∃ a c, lV = .slice a l.length c ∧ l.length ≤ c ∧ c ≤ 9223372036854775807 := by
    rcases hrow.2 with ⟨e, e0⟩ | ⟨g, cap, cur, e, -, -, h1, h2, -⟩
    · exact ⟨none, 0, by rw [e, e0], by omega, by omega⟩
    · unfold maxLen at h2; exact ⟨_, _, e, h1, h2⟩
  have c0 := hblk.cell 0
  have HD : Hid (decide (2000 < (l.length : Int)) = decide (2000 < l.length)) := by show _ = _; rw [Bool.eq_iff_iff]; simp; omega
  clear hP hrow hblk
  simp at c0
  go_enter Tryd.func46, Tryd.ntmps46
  go_wp2
  go_ret
  exact ⟨by rw [← HD.out]; rfl, rfl⟩

theorem set_ne {w : World} {bm pb : Nat} {l : List (Nat × Nat)} {t : TypeId} {cs : Array Value} (h : SetAt w bm l) (hb : Blk w pb t cs) : pb ≠ bm := by
  rintro rfl
  obtain ⟨D, ⟨es, clock, h1, _⟩, _⟩ := h
  rw [show w.heap[pb]? = _ from hb] at h1
  cases h1
theorem set_row {w : World} {bm B n size : Nat} {l : List (Nat × Nat)} {e : TypeId} {v : Value} {xs : List Value} (h : SetAt w bm l) (hr : w.ownsRow B e size v n xs) : v.ownBlock ≠ some bm := by
  rcases hr.2 with ⟨rfl, _⟩ | ⟨g, cap, cur, rfl, _, hg, _⟩
  · simp [Value.ownBlock]
  · intro he
    simp only [Value.ownBlock, Option.some.injEq] at he
    subst he
    obtain ⟨D, ⟨es, clock, h1, _⟩, _⟩ := h
    rw [hg] at h1
    cases h1
/-- The row grows, and lies in the pile anew. -/
theorem pile_grow {B pb bm b : Nat} {X w1 : World} {l : List (Nat × Nat)} {c : Nat × Nat} {lV v' : Value} (hblk : Blk X pb 93 #[lV, .map (some bm)]) (hrow : X.ownsRow B 68 2 lV l.length (scells l)) (hset : SetAt X bm (l ++ [c])) (hbox : Blk X b 68 #[.int .u64 (c.1 : Int), .int .u64 (c.2 : Int)]) (hbl : lV.ownBlock ≠ some b)
    (hown : w1.ownsRow B 68 2 v' (l.length + 1) (scells l ++ [.int .u64 (c.1 : Int), .int .u64 (c.2 : Int)])) (hg : X.grownBy w1 lV.ownBlock) (hB : B ≤ X.heap.size) (hBp : B ≤ pb) (hBm : B ≤ bm) (hs : ∀ s ∈ l, Small s) (hc : Small c) :
    (w1.cell? ⟨pb, 0, none⟩ = some lV ∧ w1.frozen? ⟨pb, 0, none⟩ = false) ∧ PileM B (w1.setCell ⟨pb, 0, none⟩ v') pb (l ++ [c]) v' (.map (some bm)) ∧ (Below B X (w1.setCell ⟨pb, 0, none⟩ v') ∧ ∀ k, k < X.heap.size → k ≠ pb → lV.ownBlock ≠ some k → (w1.setCell ⟨pb, 0, none⟩ v').heap[k]? = X.heap[k]?) ∧ (w1.cell? ⟨b, 0, none⟩ = some (.int .u64 (c.1 : Int)) ∧ w1.cell? ⟨b, 1, none⟩ = some (.int .u64 (c.2 : Int))) ∧ ((w1.setCell ⟨pb, 0, none⟩ v').cell? ⟨b, 0, none⟩ = some (.int .u64 (c.1 : Int)) ∧ (w1.setCell ⟨pb, 0, none⟩ v').cell? ⟨b, 1, none⟩ = some (.int .u64 (c.2 : Int))) := by
  have hne : some pb ≠ lV.ownBlock := fun e => ownBlock_ne' hrow hblk (by decide) e.symm
  have hb1 : Blk w1 pb 93 _ := hblk.kept hg hne
  have hx1 : Blk w1 b 68 _ := hbox.kept hg (fun e => hbl e.symm)
  have hset1 : SetAt w1 bm (l ++ [c]) := hset.block (hg.block bm hset.lt (fun e => set_row hset hrow e.symm))
  have hpb : pb ≠ b := by
    rintro rfl
    have hq := (show X.heap[pb]? = _ from hbox).symm.trans hblk
    simp only [Option.some.injEq, Obj.cells.injEq] at hq
    exact absurd hq.2.1 (by decide)
  have hx2 : Blk (w1.setCell ⟨pb, 0, none⟩ v') b 68 _ := hx1.other (fun e => hpb e.symm)
  refine ⟨⟨hb1.cell 0, hb1.frozen 0⟩, ⟨by have := hb1.set (i := 0) (v := v'); exact this, ?_, Or.inr ⟨bm, rfl, hBm, hset1.block (Below.heap_setCell _ _ _ bm (fun e => set_ne hset1 hb1 e.symm))⟩, fun s hm => ?_⟩, ⟨?_, fun k hk h1 h2 => (Below.heap_setCell _ _ _ k (fun e => h1 e)).trans (hg.block k hk (fun e => h2 e.symm))⟩, ⟨hx1.cell 0, hx1.cell 1⟩, ⟨hx2.cell 0, hx2.cell 1⟩⟩
  · have := ownsRow_setCell_other hown (a := ⟨pb, 0, none⟩) (ownBlock_ne' hown hb1 (by decide)) v'
    rw [scells_snoc]
    simpa using this
  · rcases List.mem_append.1 hm with hm | hm
    · exact hs s hm
    · rw [List.mem_singleton] at hm; rw [hm]; exact hc
  · exact ((Below.refl _ _).grown hg hB (fun k hk => (hrow.lt k hk).1)).setCell hBp _
theorem small_add {l : List (Nat × Nat)} {c : Nat × Nat} (h1 : alwaysF c = false) (h2 : c ∉ l) : addF l c = l ++ [c] := by
  unfold addF; rw [if_neg]; rintro (h | h)
  · rw [h1] at h; cases h
  · exact h2 h
theorem add_same {l : List (Nat × Nat)} {c : Nat × Nat} (h : alwaysF c = true ∨ c ∈ l) : addF l c = l := by unfold addF; rw [if_pos h]

set_option maxRecDepth 100000 in
set_option maxHeartbeats 2000000 in
theorem add_any (B pb : Nat) (l : List (Nat × Nat)) (c : Nat × Nat) (hc : Small c) (hll : l.length ≤ 100000) (hBp : B ≤ pb) (lV mV : Value) (w : World) (hB : B ≤ w.heap.size) (hP : PileM B w pb l lV mV) :
    Calls Tryd.prog 44 #[.pointer (some ⟨pb, 0, none⟩), sidesV c] w fun e w' => e = .returned (.tuple #[]) ∧ AddR B w pb lV mV (addF l c) w' := by
  have hbn := below_new w (.cells #[.int .u64 (c.1 : Int), .int .u64 (c.2 : Int)] 68)
  have hbox := Blk.new w 68 #[.int .u64 (c.1 : Int), .int .u64 (c.2 : Int)]
  have hP0 := hP.new hbn
  have HAL : Hid (∀ W : World, Calls Tryd.prog 27 #[.agg #[.int .u64 (c.1 : Int), .int .u64 (c.2 : Int)]] W fun e w' => e = .returned (.bool (alwaysF c)) ∧ Below W.heap.size W w') := fun W => always_any c hc W
  have HB0 : Hid (Below B w (w.alloc (.cells #[.int .u64 (c.1 : Int), .int .u64 (c.2 : Int)] 68))) := hbn.mono hB
  have hszz : w.heap.size < (w.alloc (.cells #[.int .u64 (c.1 : Int), .int .u64 (c.2 : Int)] 68)).heap.size := by simp
  have hpne : pb ≠ w.heap.size := by
    have := hP.blk.lt
    omega
  have HPW := Lib.hid hP
  have hbl : lV.ownBlock ≠ some w.heap.size := fun e => by have := (hP.row.lt _ e).2; omega
  have HBLN := Lib.hid hbl
  have hsm := hP.small
  have HW0 := Lib.hid hbn
  clear hP hbn hbl
  unfold sidesV
  go_enter Tryd.func44, Tryd.ntmps44
  go_wp2_with fail
  generalize w.alloc (.cells #[.int .u64 (c.1 : Int), .int .u64 (c.2 : Int)] 68) = W0 at *
  have hblk := hP0.blk
  have hmap := hP0.map
  have c0 := hblk.cell 0
  have c1 := hblk.cell 1
  have b0 := hbox.cell 0
  have b1 := hbox.cell 1
  simp at c0 c1 b0 b1
  have HLK : Hid (∀ X : World, Below W0.heap.size W0 X → (Instr.lookup 91 mV (.agg #[.int .u64 (c.1 : Int), .int .u64 (c.2 : Int)]) true).run Tryd.prog X = .ok (.tuple #[.agg #[], .bool (decide (c ∈ l))]) X) := fun X hX => by
    rcases hmap with ⟨rfl, rfl⟩ | ⟨bm, rfl, hBm, hset⟩
    · simpa using look_none hc
    · exact (hset.block (hX.block bm hset.lt)).look hc
  have lk0 := HLK.out W0.drew (Below.refl _ _).drew
  have lk1 := HLK.out (W0.alloc (.cells #[] 113)).drew (below_new W0 _).drew
  have lk2 := HLK.out (W0.alloc (.cells #[] 113)) (below_new W0 _)
  have lk3 := HLK.out W0 (Below.refl _ _)
  have hbE := below_new W0 (.cells #[] 113)
  have d1 : (W0.alloc (.cells #[] 113)).cell? ⟨pb, 1, none⟩ = some mV := (hbE.cell (p := ⟨pb, 1, none⟩) hblk.lt).trans c1
  have e0 : (W0.alloc (.cells #[] 113)).cell? ⟨w.heap.size, 0, none⟩ = some (.int .u64 (c.1 : Int)) := (hbE.cell (p := ⟨w.heap.size, 0, none⟩) hbox.lt).trans b0
  have e1 : (W0.alloc (.cells #[] 113)).cell? ⟨w.heap.size, 1, none⟩ = some (.int .u64 (c.2 : Int)) := (hbE.cell (p := ⟨w.heap.size, 1, none⟩) hbox.lt).trans b1
  go_region
  all_goals
    have hP1 := hP0.new hbE.drew
    have hbox1 := hbox.below hbE.drew hbox.lt
    have HW1 : Hid (Below w.heap.size w (W0.alloc (.cells #[] 113)).drew) := HW0.out.trans (hbE.drew.mono (Nat.le_of_lt hszz))
    have HB1 : Hid (Below B w (W0.alloc (.cells #[] 113)).drew) := HB0.out.trans (hbE.drew.mono (Nat.le_of_lt (Nat.lt_of_le_of_lt hB hszz)))
    clear lk0 lk1 lk2 lk3 HLK c0 c1 b0 b1 d1 e0 e1 hbE hmap hblk hP0 hbox
    generalize (W0.alloc (.cells #[] 113)).drew = W1 at *
    have b0 := (hbox1.cell 0).trans (show _ = some (Value.int .u64 (c.1 : Int)) from rfl)
    have b1 := (hbox1.cell 1).trans (show _ = some (Value.int .u64 (c.2 : Int)) from rfl)
    by_cases hm : c ∈ l
    · have HP1 := Lib.hid hP1
      rw [decide_eq_true hm]
      clear hP1 hbox1 HB0 hszz
      go_wp2
      refine bodyPost_ret (v := .tuple #[]) (by simp [results, Tryd.results44, go_sem]) rfl ?_
      exact ⟨rfl, by rw [add_same (Or.inr hm)]; exact ⟨⟨lV, mV, HP1.out, Or.inl rfl, Or.inl rfl⟩, HB1.out, Fr.of_below HW1.out⟩⟩
    · rw [decide_eq_false hm]
      have HP1 := Lib.hid hP1
      have HX1 := Lib.hid hbox1
      clear hP1 hbox1
      go_wp2_with fail
      refine (HAL.out W1).mono ?_
      rintro e w2 ⟨rfl, hb2⟩
      have hP2 := HP1.out.new hb2
      have hbox2 := HX1.out.below hb2 HX1.out.lt
      have HB2 : Hid (Below B w w2) := HB1.out.trans (hb2.mono (Nat.le_trans hB HB1.out.size))
      have HW2 : Hid (Below w.heap.size w w2) := HW1.out.trans (hb2.mono HW1.out.size)
      clear hb2 HP1 HX1 HB1 b0 b1
      cases hal : alwaysF c with
      | true =>
        have HP2 := Lib.hid hP2
        clear hP2 hbox2
        go_wp2
        refine bodyPost_ret (v := .tuple #[]) (by simp [results, Tryd.results44, go_sem]) rfl ?_
        exact ⟨rfl, by rw [add_same (Or.inl hal)]; exact ⟨⟨lV, mV, HP2.out, Or.inl rfl, Or.inl rfl⟩, HB2.out, Fr.of_below HW2.out⟩⟩
      | false =>
        have hblk2 := hP2.blk
        have hrow2 := hP2.row
        have hmap2 := hP2.map
        obtain ⟨i0, hin, hz0, hz1, hz2⟩ := info_parts infoS
        have hlm := hblk2.cell 1
        clear hP2
        have heq := fun (m : Option Nat) (W : World) => run_eql_map_nil (P := Tryd.prog) W 91 68 113 m Tryd.underlying91
        rcases hmap2 with ⟨hl0, rfl⟩ | ⟨bm, rfl, hBm, hset2⟩
        · have hmm := @run_makeMap Tryd.prog
          have c1 := (hblk2.cell 1).trans (show _ = some (Value.map none) from rfl)
          have f1 := hblk2.frozen 1
          have hbnm := below_new w2 (.map #[] 0)
          have c1' : (w2.alloc (.map #[] 0)).cell? ⟨pb, 1, none⟩ = some (.map none) := (hbnm.cell (p := ⟨pb, 1, none⟩) hblk2.lt).trans c1
          have f1' : (w2.alloc (.map #[] 0)).frozen? ⟨pb, 1, none⟩ = false := (hbnm.frozen (p := ⟨pb, 1, none⟩) hblk2.lt).trans f1
          obtain ⟨bm, hbm⟩ : ∃ bm, bm = w2.heap.size := ⟨_, rfl⟩
          have hBm : B ≤ bm := by rw [hbm]; exact Nat.le_trans hB HB2.out.size
          have hset3 : SetAt ((w2.alloc (.map #[] 0)).setCell ⟨pb, 1, none⟩ (.map (some bm))) bm l := by
            rw [hbm, hl0]
            exact (SetAt.made w2).block (Below.heap_setCell _ _ _ _ (fun e => by have h := hblk2.lt; have e' : w2.heap.size = pb := e; omega))
          have hblk3 : Blk ((w2.alloc (.map #[] 0)).setCell ⟨pb, 1, none⟩ (.map (some bm))) pb 93 #[lV, .map (some bm)] := (hblk2.below hbnm hblk2.lt).set (i := 1)
          have hrow3 : ((w2.alloc (.map #[] 0)).setCell ⟨pb, 1, none⟩ (.map (some bm))).ownsRow B 68 2 lV l.length (scells l) := ownsRow_setCell_other (row_new' hrow2 hbnm) (ownBlock_ne' (row_new' hrow2 hbnm) (hblk2.below hbnm hblk2.lt) (by decide)) _
          have hbox3 : Blk ((w2.alloc (.map #[] 0)).setCell ⟨pb, 1, none⟩ (.map (some bm))) w.heap.size 68 #[.int .u64 (c.1 : Int), .int .u64 (c.2 : Int)] := (hbox2.below hbnm hbox2.lt).other (fun e => hpne e.symm)
          have HB3 : Hid (Below B w ((w2.alloc (.map #[] 0)).setCell ⟨pb, 1, none⟩ (.map (some bm)))) := (HB2.out.trans (hbnm.mono (Nat.le_trans hB HB2.out.size))).setCell hBp _
          have HFR3 : Hid (∀ k, k < w.heap.size → k ≠ pb → ((w2.alloc (.map #[] 0)).setCell ⟨pb, 1, none⟩ (.map (some bm))).heap[k]? = w.heap[k]? ∧ k ≠ bm) := fun k hk h1 => by
            have hz := HW2.out.size
            exact ⟨(Below.heap_setCell _ _ _ k (fun e => h1 e)).trans ((hbnm.block k (by omega)).trans (HW2.out.block k hk)), by omega⟩
          have HNW : Hid ((Value.map (some bm)) = Value.map none ∨ ∃ g, (Value.map (some bm)) = Value.map (some g) ∧ w.heap.size ≤ g) := Or.inr ⟨bm, rfl, by rw [hbm]; exact HW2.out.size⟩
          have HFR4 : Hid (∀ k, k < w.heap.size → k ≠ pb → lV.ownBlock ≠ some k → Value.map none ≠ Value.map (some k) → ((w2.alloc (.map #[] 0)).setCell ⟨pb, 1, none⟩ (.map (some bm))).heap[k]? = w.heap[k]? ∧ k ≠ bm) := fun k hk h1 _ _ => HFR3.out k hk h1
          clear HFR3
          clear hlm hl0
          go_wp2_with fail
          rw [← hbm]
          clear c1 f1 c1' f1' hbnm hblk2 hrow2 hbox2 hmm hbm HB2
          have HW2s : Hid (w.heap.size ≤ ((w2.alloc (.map #[] 0)).setCell ⟨pb, 1, none⟩ (.map (some bm))).heap.size) := by show _ ≤ _; have := HW2.out.size; simp [World.setCell]; omega
          clear HW2
          generalize (w2.alloc (.map #[] 0)).setCell ⟨pb, 1, none⟩ (.map (some bm)) = W3 at *
          have hsetd : SetAt W3.drew bm l := hset3.block rfl
          obtain ⟨w5, hput, hset5, hg5⟩ := hsetd.put (by omega) hc hm
          have c1 := (hblk3.cell 1).trans (show _ = some (Value.map (some bm)) from rfl)
          have b0 := (hbox3.cell 0).trans (show _ = some (Value.int .u64 (c.1 : Int)) from rfl)
          have b1 := (hbox3.cell 1).trans (show _ = some (Value.int .u64 (c.2 : Int)) from rfl)
          have hpm := set_ne hset3 hblk3
          have hxm := set_ne hset3 hbox3
          have hrm := set_row hset3 hrow3
          have hblk5 : Blk w5 pb 93 #[lV, .map (some bm)] := Blk.kept (W := W3.drew) hblk3 hg5 (fun e => hpm (Option.some.inj e))
          have hbox5 : Blk w5 w.heap.size 68 #[.int .u64 (c.1 : Int), .int .u64 (c.2 : Int)] := Blk.kept (W := W3.drew) hbox3 hg5 (fun e => hxm (Option.some.inj e))
          have hrow5 : w5.ownsRow B 68 2 lV l.length (scells l) := hrow3.drew.kept hg5 (Or.inr hrm)
          have HB5 : Hid (Below B w w5) := HB3.out.drew.grown hg5 (by have := HB3.out.size; show B ≤ W3.heap.size; omega) (fun k hk => by injection hk; omega)
          have HNA : Hid (alwaysF c = false) := hal
          have HF5 : Hid (∀ k, k < w.heap.size → k ≠ pb → lV.ownBlock ≠ some k → Value.map none ≠ .map (some k) → w5.heap[k]? = w.heap[k]?) := fun k hk h1 h2 h3 => by
            obtain ⟨q1, q2⟩ := HFR4.out k hk h1 h2 h3
            have hz := HW2s.out
            exact (hg5.block k (by show k < W3.heap.size; omega) (fun e => q2 (Option.some.inj e))).trans q1
          have HW5 : Hid (w.heap.size ≤ w5.heap.size) := Nat.le_trans HW2s.out hg5.size
          have HNM : Hid (c ∉ l) := hm
          have hBX : B ≤ (w5.alloc (.cells #[.int .u64 (c.1 : Int), .int .u64 (c.2 : Int)] 68)).drew.heap.size := by
            have := HB5.out.size
            show B ≤ (w5.alloc _).heap.size
            rw [World.size_alloc]; omega
          have hbnX := (below_new w5 (.cells #[.int .u64 (c.1 : Int), .int .u64 (c.2 : Int)] 68)).drew
          have HROX : Hid ((w5.alloc (.cells #[.int .u64 (c.1 : Int), .int .u64 (c.2 : Int)] 68)).drew.ownsRow B 68 2 lV l.length (scells l)) := row_new' hrow5 hbnX
          have HBX := Lib.hid hBX
          have hbl5 : lV.ownBlock ≠ some w.heap.size := HBLN.out
          have HGR : Hid (∀ (g cap : Nat) (w7 : World), w7.ownsRow B 68 2 (.slice (some ⟨g, 0, none⟩) (l.length + 1) cap) (l.length + 1) (scells l ++ [.int .u64 (c.1 : Int), .int .u64 (c.2 : Int)]) → (w5.alloc (.cells #[.int .u64 (c.1 : Int), .int .u64 (c.2 : Int)] 68)).drew.grownBy w7 lV.ownBlock → (w7.cell? ⟨pb, 0, none⟩ = some lV ∧ w7.frozen? ⟨pb, 0, none⟩ = false) ∧ PileM B (w7.setCell ⟨pb, 0, none⟩ (.slice (some ⟨g, 0, none⟩) (l.length + 1) cap)) pb (l ++ [c]) (.slice (some ⟨g, 0, none⟩) (l.length + 1) cap) (.map (some bm)) ∧ (Below B w5 (w7.setCell ⟨pb, 0, none⟩ (.slice (some ⟨g, 0, none⟩) (l.length + 1) cap)) ∧ ∀ k, k < w5.heap.size → k ≠ pb → lV.ownBlock ≠ some k → (w7.setCell ⟨pb, 0, none⟩ (.slice (some ⟨g, 0, none⟩) (l.length + 1) cap)).heap[k]? = w5.heap[k]?) ∧ (w7.cell? ⟨w.heap.size, 0, none⟩ = some (.int .u64 (c.1 : Int)) ∧ w7.cell? ⟨w.heap.size, 1, none⟩ = some (.int .u64 (c.2 : Int))) ∧ ((w7.setCell ⟨pb, 0, none⟩ (.slice (some ⟨g, 0, none⟩) (l.length + 1) cap)).cell? ⟨w.heap.size, 0, none⟩ = some (.int .u64 (c.1 : Int)) ∧ (w7.setCell ⟨pb, 0, none⟩ (.slice (some ⟨g, 0, none⟩) (l.length + 1) cap)).cell? ⟨w.heap.size, 1, none⟩ = some (.int .u64 (c.2 : Int)))) := fun g cap w7 ho hgw => by
            obtain ⟨q1, q2, q3, q4, q5⟩ := pile_grow (hblk5.below hbnX hblk5.lt) HROX.out (hset5.block (hbnX.block bm hset5.lt)) (hbox5.below hbnX hbox5.lt) hbl5 ho hgw hBX hBp hBm hsm hc
            exact ⟨q1, q2, ⟨(hbnX.mono (by have := HB5.out.size; omega)).trans q3.1, fun k hk h1 h2 => (q3.2 k (Nat.lt_of_lt_of_le hk hbnX.size) h1 h2).trans (hbnX.block k hk)⟩, q4, q5⟩
          have d0 := (hblk5.cell 0).trans (show _ = some lV from rfl)
          have x0 := (hbox5.cell 0).trans (show _ = some (Value.int .u64 (c.1 : Int)) from rfl)
          have x1 := (hbox5.cell 1).trans (show _ = some (Value.int .u64 (c.2 : Int)) from rfl)
          have S0 : w5.drew.cell? ⟨w.heap.size, 0, none⟩ = some (.int .u64 (c.1 : Int)) ∧ w5.drew.cell? ⟨w.heap.size, 1, none⟩ = some (.int .u64 (c.2 : Int)) := ⟨x0, x1⟩
          have hboxX := hbox5.below hbnX hbox5.lt
          have S1 : (w5.alloc (.cells #[.int .u64 (c.1 : Int), .int .u64 (c.2 : Int)] 68)).drew.cell? ⟨w.heap.size, 0, none⟩ = some (.int .u64 (c.1 : Int)) ∧ (w5.alloc (.cells #[.int .u64 (c.1 : Int), .int .u64 (c.2 : Int)] 68)).drew.cell? ⟨w.heap.size, 1, none⟩ = some (.int .u64 (c.2 : Int)) := ⟨hboxX.cell 0, hboxX.cell 1⟩
          have r0 : w5.drew.cell? ⟨pb, 0, none⟩ = some lV := d0
          have r1 : (w5.alloc (.cells #[.int .u64 (c.1 : Int), .int .u64 (c.2 : Int)] 68)).drew.cell? ⟨pb, 0, none⟩ = some lV := (hblk5.below hbnX hblk5.lt).cell 0
          have r1' : (w5.alloc (.cells #[.int .u64 (c.1 : Int), .int .u64 (c.2 : Int)] 68)).cell? ⟨pb, 0, none⟩ = some lV := r1
          have HONE : Hid (∀ u ∈ [Value.int .u64 (c.1 : Int), .int .u64 (c.2 : Int)], u.oneCell' = true) := fun u hu => by
            simp only [List.mem_cons, List.not_mem_nil, or_false] at hu
            rcases hu with rfl | rfl <;> rfl
          clear hsetd hset5 hblk5 hbox5 hrow5 hboxX hbnX hBX hg5 hset3 hblk3 hbox3 hrow3 hpm hxm hrm
          go_wp2_with fail
          go_region
          all_goals
            clear c1 b0 b1 hput
            go_wp2_with fail
            refine wp_region_noPanic ?_
            refine wp_region_held_drew (S := (fun X => X.cell? ⟨w.heap.size, 0, none⟩ = some (.int .u64 (c.1 : Int)) ∧ X.cell? ⟨w.heap.size, 1, none⟩ = some (.int .u64 (c.2 : Int)))) (by kernel_rfl) S0 (fun hHeld => ?_)
            refine wpAnyH_take (i := 0) (oi := ⟨_, _, _, _, _, _⟩) (v := ?_) rfl (by as_aux_lemma => kernel_rfl) (by as_aux_lemma => kernel_rfl) (by as_aux_lemma => kernel_rfl) (fun _ _ _ h => h) (Or.inl ⟨by rfl, ?_⟩) (by assumption) ?_
            rotate_left
            · (intro w hSw; (try dsimp only at hSw); first | (go_simp; done) | (go_simp; with_reducible rfl))
            try simp only [Act.put, List.setIfInBounds_toArray, List.set_cons_zero, List.set_cons_succ]
            refine wpAnyH_take (i := 1) (oi := ⟨_, _, _, _, _, _⟩) (v := ?_) rfl (by as_aux_lemma => kernel_rfl) (by as_aux_lemma => kernel_rfl) (by as_aux_lemma => kernel_rfl) (fun _ _ _ h => h) (Or.inl ⟨by rfl, ?_⟩) (by assumption) ?_
            rotate_left
            · (intro w hSw; (try dsimp only at hSw); first | (go_simp; done) | (go_simp; with_reducible rfl))
            try simp only [Act.put, List.setIfInBounds_toArray, List.set_cons_zero, List.set_cons_succ]
            refine wpAnyH_take (i := 2) (oi := ⟨_, _, _, _, _, _⟩) (v := ?_) rfl (by as_aux_lemma => kernel_rfl) (by as_aux_lemma => kernel_rfl) (by as_aux_lemma => kernel_rfl) (fun _ _ _ h => h) (Or.inl ⟨by rfl, ?_⟩) (by assumption) ?_
            rotate_left
            · (intro w hSw; (try dsimp only at hSw); first | (go_simp; done) | (go_simp; with_reducible rfl))
            try simp only [Act.put, List.setIfInBounds_toArray, List.set_cons_zero, List.set_cons_succ]
            refine wpAnyH_take (i := 3) (oi := ⟨_, _, _, _, _, _⟩) (v := ?_) rfl (by as_aux_lemma => kernel_rfl) (by as_aux_lemma => kernel_rfl) (by as_aux_lemma => kernel_rfl) (fun _ _ _ h => h) (Or.inl ⟨by rfl, ?_⟩) (by assumption) ?_
            rotate_left
            · (intro w hSw; (try dsimp only at hSw); first | (go_simp; done) | (go_simp; with_reducible rfl))
            try simp only [Act.put, List.setIfInBounds_toArray, List.set_cons_zero, List.set_cons_succ]
            refine wpAnyH_take (i := 5) (oi := ⟨_, _, _, _, _, _⟩) (v := ?_) rfl (by as_aux_lemma => kernel_rfl) (by as_aux_lemma => kernel_rfl) (by as_aux_lemma => kernel_rfl) (fun _ _ _ h => h) (Or.inl ⟨by rfl, ?_⟩) (by assumption) ?_
            rotate_left
            · (intro w hSw; (try dsimp only at hSw); first | (go_simp; done) | (go_simp; with_reducible rfl))
            try simp only [Act.put, List.setIfInBounds_toArray, List.set_cons_zero, List.set_cons_succ]
            refine wpAnyH_ready (rs := [4, 6]) (by as_aux_lemma => kernel_rfl) (by simp) ?_
            refine AllReadyH.cons (o := ⟨_, _, _, _, _, _⟩) rfl (fun K hK => ?_) (AllReadyH.cons (o := ⟨_, _, _, _, _, _⟩) rfl (fun K hK => ?_) AllReadyH.nil)
            · go_simp
              refine hK.out _ _ ?_ (fun hNew => ?_)
              · exact hHeld
              clear hK K
              replace hHeld := hNew
              clear hNew
              try simp only [Act.put, List.setIfInBounds_toArray, List.set_cons_zero, List.set_cons_succ]
              refine wpAnyH_ready (rs := [6]) (by as_aux_lemma => kernel_rfl) (by simp) ?_
              refine AllReadyH.cons (o := ⟨_, _, _, _, _, _⟩) rfl (fun K hK => ?_) AllReadyH.nil
              go_simp
              refine hK.out _ _ ?_ (fun hNew => ?_)
              · exact S1
              clear hK K
              replace hHeld := hNew
              clear hNew
              try simp only [Act.put, List.setIfInBounds_toArray, List.set_cons_zero, List.set_cons_succ]
              refine wpAnyH_ready (rs := [7]) (by as_aux_lemma => kernel_rfl) (by simp) ?_
              refine AllReadyH.cons (o := ⟨_, _, _, _, _, _⟩) rfl (fun K hK => ?_) AllReadyH.nil
              refine step_append_lies _ (by rfl) _ _ _ (by rfl) B 68 i0 (.agg #[.int .u64 0, .int .u64 0]) 2 16 Tryd.underlying90 hin hz0 hz1 hz2 rfl (by decide) lV l.length (scells l) (by rfl) HROX.out ⟨w5.heap.size, 0, none⟩ 1 1 [.int .u64 (c.1 : Int), .int .u64 (c.2 : Int)] (by rfl) (by rfl) (World.news_of_block (heap_alloc_new w5 _)) HONE.out (by decide) (by unfold maxLen; omega) (by omega) HBX.out _ rfl ?_
              intro g cap w7 hown hgrow hat hlt
              obtain ⟨⟨C2, F2⟩, hpile, hbel, R1, R2⟩ := HGR.out g cap w7 hown hgrow
              have HP7 := Lib.hid hpile
              have HAT : Hid ((Value.slice (some ⟨g, 0, none⟩) (l.length + 1) cap).ownBlock = lV.ownBlock ∨ ∃ g', (Value.slice (some ⟨g, 0, none⟩) (l.length + 1) cap).ownBlock = some g' ∧ w.heap.size ≤ g') := (hat.imp (fun e => e.symm) (fun e => ⟨g, rfl, by rw [e]; exact Nat.le_trans HW5.out (below_new w5 _).size⟩))
              clear hat
              have HB7 := Lib.hid hbel
              clear hown hgrow hlt hpile hbel
              refine hK.out _ _ ?_ (fun hNew => ?_)
              · exact R1
              clear hK K
              replace hHeld := hNew
              clear hNew
              try simp only [Act.put, List.setIfInBounds_toArray, List.set_cons_zero, List.set_cons_succ]
              refine wpAnyH_take (i := 8) (oi := ⟨_, _, _, _, _, _⟩) (v := ?_) rfl (by as_aux_lemma => kernel_rfl) (by as_aux_lemma => kernel_rfl) (by as_aux_lemma => kernel_rfl) (fun _ _ _ h => h) (Or.inl ⟨by rfl, ?_⟩) (by assumption) ?_
              rotate_left
              · (intro w hSw; (try dsimp only at hSw); first | (go_simp; done) | (go_simp; with_reducible rfl))
              try simp only [Act.put, List.setIfInBounds_toArray, List.set_cons_zero, List.set_cons_succ]
              refine wpAnyH_take (i := 9) (oi := ⟨_, _, _, _, _, _⟩) (v := ?_) rfl (by as_aux_lemma => kernel_rfl) (by as_aux_lemma => kernel_rfl) (by as_aux_lemma => kernel_rfl) (fun _ _ _ h => h) (Or.inl ⟨by rfl, ?_⟩) (by assumption) ?_
              rotate_left
              · (intro w hSw; (try dsimp only at hSw); first | (go_simp; done) | (go_simp; with_reducible rfl))
              try simp only [Act.put, List.setIfInBounds_toArray, List.set_cons_zero, List.set_cons_succ]
              refine wpAnyH_ready (rs := [10]) (by as_aux_lemma => kernel_rfl) (by simp) ?_
              refine AllReadyH.cons (o := ⟨_, _, _, _, _, _⟩) rfl (fun K hK => ?_) AllReadyH.nil
              go_simp
              refine hK.out _ _ ?_ (fun hNew => ?_)
              · exact R2
              clear hK K
              replace hHeld := hNew
              clear hNew
              try simp only [Act.put, List.setIfInBounds_toArray, List.set_cons_zero, List.set_cons_succ]
              refine wpAnyH_done (by kernel_rfl) (NoPanic.normal ?_) _
              as_aux_lemma =>
                clear hHeld R1 R2 C2 F2 r0 r1
                go_wp2
                refine bodyPost_end (v := .tuple #[]) (by simp [results, Tryd.results44, go_sem]) rfl ?_
                exact ⟨rfl, by rw [small_add HNA.out HNM.out]; exact ⟨⟨_, _, HP7.out, HAT.out, HNW.out⟩, HB5.out.trans HB7.out.1, fun k hk h1 h2 h3 => (HB7.out.2 k (Nat.lt_of_lt_of_le hk HW5.out) h1 h2).trans (HF5.out k hk h1 h2 h3)⟩⟩
            · go_simp
              refine hK.out _ _ ?_ (fun hNew => ?_)
              · exact S1
              clear hK K
              replace hHeld := hNew
              clear hNew
              try simp only [Act.put, List.setIfInBounds_toArray, List.set_cons_zero, List.set_cons_succ]
              refine wpAnyH_ready (rs := [4]) (by as_aux_lemma => kernel_rfl) (by simp) ?_
              refine AllReadyH.cons (o := ⟨_, _, _, _, _, _⟩) rfl (fun K hK => ?_) AllReadyH.nil
              go_simp
              refine hK.out _ _ ?_ (fun hNew => ?_)
              · exact hHeld
              clear hK K
              replace hHeld := hNew
              clear hNew
              try simp only [Act.put, List.setIfInBounds_toArray, List.set_cons_zero, List.set_cons_succ]
              refine wpAnyH_ready (rs := [7]) (by as_aux_lemma => kernel_rfl) (by simp) ?_
              refine AllReadyH.cons (o := ⟨_, _, _, _, _, _⟩) rfl (fun K hK => ?_) AllReadyH.nil
              refine step_append_lies _ (by rfl) _ _ _ (by rfl) B 68 i0 (.agg #[.int .u64 0, .int .u64 0]) 2 16 Tryd.underlying90 hin hz0 hz1 hz2 rfl (by decide) lV l.length (scells l) (by rfl) HROX.out ⟨w5.heap.size, 0, none⟩ 1 1 [.int .u64 (c.1 : Int), .int .u64 (c.2 : Int)] (by rfl) (by rfl) (World.news_of_block (heap_alloc_new w5 _)) HONE.out (by decide) (by unfold maxLen; omega) (by omega) HBX.out _ rfl ?_
              intro g cap w7 hown hgrow hat hlt
              obtain ⟨⟨C2, F2⟩, hpile, hbel, R1, R2⟩ := HGR.out g cap w7 hown hgrow
              have HP7 := Lib.hid hpile
              have HAT : Hid ((Value.slice (some ⟨g, 0, none⟩) (l.length + 1) cap).ownBlock = lV.ownBlock ∨ ∃ g', (Value.slice (some ⟨g, 0, none⟩) (l.length + 1) cap).ownBlock = some g' ∧ w.heap.size ≤ g') := (hat.imp (fun e => e.symm) (fun e => ⟨g, rfl, by rw [e]; exact Nat.le_trans HW5.out (below_new w5 _).size⟩))
              clear hat
              have HB7 := Lib.hid hbel
              clear hown hgrow hlt hpile hbel
              refine hK.out _ _ ?_ (fun hNew => ?_)
              · exact R1
              clear hK K
              replace hHeld := hNew
              clear hNew
              try simp only [Act.put, List.setIfInBounds_toArray, List.set_cons_zero, List.set_cons_succ]
              refine wpAnyH_take (i := 8) (oi := ⟨_, _, _, _, _, _⟩) (v := ?_) rfl (by as_aux_lemma => kernel_rfl) (by as_aux_lemma => kernel_rfl) (by as_aux_lemma => kernel_rfl) (fun _ _ _ h => h) (Or.inl ⟨by rfl, ?_⟩) (by assumption) ?_
              rotate_left
              · (intro w hSw; (try dsimp only at hSw); first | (go_simp; done) | (go_simp; with_reducible rfl))
              try simp only [Act.put, List.setIfInBounds_toArray, List.set_cons_zero, List.set_cons_succ]
              refine wpAnyH_take (i := 9) (oi := ⟨_, _, _, _, _, _⟩) (v := ?_) rfl (by as_aux_lemma => kernel_rfl) (by as_aux_lemma => kernel_rfl) (by as_aux_lemma => kernel_rfl) (fun _ _ _ h => h) (Or.inl ⟨by rfl, ?_⟩) (by assumption) ?_
              rotate_left
              · (intro w hSw; (try dsimp only at hSw); first | (go_simp; done) | (go_simp; with_reducible rfl))
              try simp only [Act.put, List.setIfInBounds_toArray, List.set_cons_zero, List.set_cons_succ]
              refine wpAnyH_ready (rs := [10]) (by as_aux_lemma => kernel_rfl) (by simp) ?_
              refine AllReadyH.cons (o := ⟨_, _, _, _, _, _⟩) rfl (fun K hK => ?_) AllReadyH.nil
              go_simp
              refine hK.out _ _ ?_ (fun hNew => ?_)
              · exact R2
              clear hK K
              replace hHeld := hNew
              clear hNew
              try simp only [Act.put, List.setIfInBounds_toArray, List.set_cons_zero, List.set_cons_succ]
              refine wpAnyH_done (by kernel_rfl) (NoPanic.normal ?_) _
              as_aux_lemma =>
                clear hHeld R1 R2 C2 F2 r0 r1
                go_wp2
                refine bodyPost_end (v := .tuple #[]) (by simp [results, Tryd.results44, go_sem]) rfl ?_
                exact ⟨rfl, by rw [small_add HNA.out HNM.out]; exact ⟨⟨_, _, HP7.out, HAT.out, HNW.out⟩, HB5.out.trans HB7.out.1, fun k hk h1 h2 h3 => (HB7.out.2 k (Nat.lt_of_lt_of_le hk HW5.out) h1 h2).trans (HF5.out k hk h1 h2 h3)⟩⟩
        · have c1 := (hblk2.cell 1).trans (show _ = some (Value.map (some bm)) from rfl)
          clear hlm
          go_wp2_with fail
          have HB3 := HB2
          have HFR4 : Hid (∀ k, k < w.heap.size → k ≠ pb → lV.ownBlock ≠ some k → Value.map (some bm) ≠ Value.map (some k) → w2.heap[k]? = w.heap[k]? ∧ k ≠ bm) := fun k hk _ _ h => ⟨HW2.out.block k hk, fun e => h (by rw [e])⟩
          have hset3 := hset2
          have hblk3 := hblk2
          have hrow3 := hrow2
          have hbox3 := hbox2
          have HW2s := Lib.hid HW2.out.size
          clear hset2 hblk2 hrow2 hbox2 c1 HB2 HW2
          generalize w2 = W3 at *
          have hsetd : SetAt W3.drew bm l := hset3.block rfl
          obtain ⟨w5, hput, hset5, hg5⟩ := hsetd.put (by omega) hc hm
          have c1 := (hblk3.cell 1).trans (show _ = some (Value.map (some bm)) from rfl)
          have b0 := (hbox3.cell 0).trans (show _ = some (Value.int .u64 (c.1 : Int)) from rfl)
          have b1 := (hbox3.cell 1).trans (show _ = some (Value.int .u64 (c.2 : Int)) from rfl)
          have hpm := set_ne hset3 hblk3
          have hxm := set_ne hset3 hbox3
          have hrm := set_row hset3 hrow3
          have hblk5 : Blk w5 pb 93 #[lV, .map (some bm)] := Blk.kept (W := W3.drew) hblk3 hg5 (fun e => hpm (Option.some.inj e))
          have hbox5 : Blk w5 w.heap.size 68 #[.int .u64 (c.1 : Int), .int .u64 (c.2 : Int)] := Blk.kept (W := W3.drew) hbox3 hg5 (fun e => hxm (Option.some.inj e))
          have hrow5 : w5.ownsRow B 68 2 lV l.length (scells l) := hrow3.drew.kept hg5 (Or.inr hrm)
          have HB5 : Hid (Below B w w5) := HB3.out.drew.grown hg5 (by have := HB3.out.size; show B ≤ W3.heap.size; omega) (fun k hk => by injection hk; omega)
          have HNA : Hid (alwaysF c = false) := hal
          have HF5 : Hid (∀ k, k < w.heap.size → k ≠ pb → lV.ownBlock ≠ some k → Value.map (some bm) ≠ .map (some k) → w5.heap[k]? = w.heap[k]?) := fun k hk h1 h2 h3 => by
            obtain ⟨q1, q2⟩ := HFR4.out k hk h1 h2 h3
            have hz := HW2s.out
            exact (hg5.block k (by show k < W3.heap.size; omega) (fun e => q2 (Option.some.inj e))).trans q1
          have HW5 : Hid (w.heap.size ≤ w5.heap.size) := Nat.le_trans HW2s.out hg5.size
          have HNM : Hid (c ∉ l) := hm
          have hBX : B ≤ (w5.alloc (.cells #[.int .u64 (c.1 : Int), .int .u64 (c.2 : Int)] 68)).drew.heap.size := by
            have := HB5.out.size
            show B ≤ (w5.alloc _).heap.size
            rw [World.size_alloc]; omega
          have hbnX := (below_new w5 (.cells #[.int .u64 (c.1 : Int), .int .u64 (c.2 : Int)] 68)).drew
          have HROX : Hid ((w5.alloc (.cells #[.int .u64 (c.1 : Int), .int .u64 (c.2 : Int)] 68)).drew.ownsRow B 68 2 lV l.length (scells l)) := row_new' hrow5 hbnX
          have HBX := Lib.hid hBX
          have hbl5 : lV.ownBlock ≠ some w.heap.size := HBLN.out
          have HGR : Hid (∀ (g cap : Nat) (w7 : World), w7.ownsRow B 68 2 (.slice (some ⟨g, 0, none⟩) (l.length + 1) cap) (l.length + 1) (scells l ++ [.int .u64 (c.1 : Int), .int .u64 (c.2 : Int)]) → (w5.alloc (.cells #[.int .u64 (c.1 : Int), .int .u64 (c.2 : Int)] 68)).drew.grownBy w7 lV.ownBlock → (w7.cell? ⟨pb, 0, none⟩ = some lV ∧ w7.frozen? ⟨pb, 0, none⟩ = false) ∧ PileM B (w7.setCell ⟨pb, 0, none⟩ (.slice (some ⟨g, 0, none⟩) (l.length + 1) cap)) pb (l ++ [c]) (.slice (some ⟨g, 0, none⟩) (l.length + 1) cap) (.map (some bm)) ∧ (Below B w5 (w7.setCell ⟨pb, 0, none⟩ (.slice (some ⟨g, 0, none⟩) (l.length + 1) cap)) ∧ ∀ k, k < w5.heap.size → k ≠ pb → lV.ownBlock ≠ some k → (w7.setCell ⟨pb, 0, none⟩ (.slice (some ⟨g, 0, none⟩) (l.length + 1) cap)).heap[k]? = w5.heap[k]?) ∧ (w7.cell? ⟨w.heap.size, 0, none⟩ = some (.int .u64 (c.1 : Int)) ∧ w7.cell? ⟨w.heap.size, 1, none⟩ = some (.int .u64 (c.2 : Int))) ∧ ((w7.setCell ⟨pb, 0, none⟩ (.slice (some ⟨g, 0, none⟩) (l.length + 1) cap)).cell? ⟨w.heap.size, 0, none⟩ = some (.int .u64 (c.1 : Int)) ∧ (w7.setCell ⟨pb, 0, none⟩ (.slice (some ⟨g, 0, none⟩) (l.length + 1) cap)).cell? ⟨w.heap.size, 1, none⟩ = some (.int .u64 (c.2 : Int)))) := fun g cap w7 ho hgw => by
            obtain ⟨q1, q2, q3, q4, q5⟩ := pile_grow (hblk5.below hbnX hblk5.lt) HROX.out (hset5.block (hbnX.block bm hset5.lt)) (hbox5.below hbnX hbox5.lt) hbl5 ho hgw hBX hBp hBm hsm hc
            exact ⟨q1, q2, ⟨(hbnX.mono (by have := HB5.out.size; omega)).trans q3.1, fun k hk h1 h2 => (q3.2 k (Nat.lt_of_lt_of_le hk hbnX.size) h1 h2).trans (hbnX.block k hk)⟩, q4, q5⟩
          have d0 := (hblk5.cell 0).trans (show _ = some lV from rfl)
          have x0 := (hbox5.cell 0).trans (show _ = some (Value.int .u64 (c.1 : Int)) from rfl)
          have x1 := (hbox5.cell 1).trans (show _ = some (Value.int .u64 (c.2 : Int)) from rfl)
          have S0 : w5.drew.cell? ⟨w.heap.size, 0, none⟩ = some (.int .u64 (c.1 : Int)) ∧ w5.drew.cell? ⟨w.heap.size, 1, none⟩ = some (.int .u64 (c.2 : Int)) := ⟨x0, x1⟩
          have hboxX := hbox5.below hbnX hbox5.lt
          have S1 : (w5.alloc (.cells #[.int .u64 (c.1 : Int), .int .u64 (c.2 : Int)] 68)).drew.cell? ⟨w.heap.size, 0, none⟩ = some (.int .u64 (c.1 : Int)) ∧ (w5.alloc (.cells #[.int .u64 (c.1 : Int), .int .u64 (c.2 : Int)] 68)).drew.cell? ⟨w.heap.size, 1, none⟩ = some (.int .u64 (c.2 : Int)) := ⟨hboxX.cell 0, hboxX.cell 1⟩
          have r0 : w5.drew.cell? ⟨pb, 0, none⟩ = some lV := d0
          have r1 : (w5.alloc (.cells #[.int .u64 (c.1 : Int), .int .u64 (c.2 : Int)] 68)).drew.cell? ⟨pb, 0, none⟩ = some lV := (hblk5.below hbnX hblk5.lt).cell 0
          have r1' : (w5.alloc (.cells #[.int .u64 (c.1 : Int), .int .u64 (c.2 : Int)] 68)).cell? ⟨pb, 0, none⟩ = some lV := r1
          have HONE : Hid (∀ u ∈ [Value.int .u64 (c.1 : Int), .int .u64 (c.2 : Int)], u.oneCell' = true) := fun u hu => by
            simp only [List.mem_cons, List.not_mem_nil, or_false] at hu
            rcases hu with rfl | rfl <;> rfl
          clear hsetd hset5 hblk5 hbox5 hrow5 hboxX hbnX hBX hg5 hset3 hblk3 hbox3 hrow3 hpm hxm hrm
          go_wp2_with fail
          go_region
          all_goals
            clear c1 b0 b1 hput
            go_wp2_with fail
            refine wp_region_noPanic ?_
            refine wp_region_held_drew (S := (fun X => X.cell? ⟨w.heap.size, 0, none⟩ = some (.int .u64 (c.1 : Int)) ∧ X.cell? ⟨w.heap.size, 1, none⟩ = some (.int .u64 (c.2 : Int)))) (by kernel_rfl) S0 (fun hHeld => ?_)
            refine wpAnyH_take (i := 0) (oi := ⟨_, _, _, _, _, _⟩) (v := ?_) rfl (by as_aux_lemma => kernel_rfl) (by as_aux_lemma => kernel_rfl) (by as_aux_lemma => kernel_rfl) (fun _ _ _ h => h) (Or.inl ⟨by rfl, ?_⟩) (by assumption) ?_
            rotate_left
            · (intro w hSw; (try dsimp only at hSw); first | (go_simp; done) | (go_simp; with_reducible rfl))
            try simp only [Act.put, List.setIfInBounds_toArray, List.set_cons_zero, List.set_cons_succ]
            refine wpAnyH_take (i := 1) (oi := ⟨_, _, _, _, _, _⟩) (v := ?_) rfl (by as_aux_lemma => kernel_rfl) (by as_aux_lemma => kernel_rfl) (by as_aux_lemma => kernel_rfl) (fun _ _ _ h => h) (Or.inl ⟨by rfl, ?_⟩) (by assumption) ?_
            rotate_left
            · (intro w hSw; (try dsimp only at hSw); first | (go_simp; done) | (go_simp; with_reducible rfl))
            try simp only [Act.put, List.setIfInBounds_toArray, List.set_cons_zero, List.set_cons_succ]
            refine wpAnyH_take (i := 2) (oi := ⟨_, _, _, _, _, _⟩) (v := ?_) rfl (by as_aux_lemma => kernel_rfl) (by as_aux_lemma => kernel_rfl) (by as_aux_lemma => kernel_rfl) (fun _ _ _ h => h) (Or.inl ⟨by rfl, ?_⟩) (by assumption) ?_
            rotate_left
            · (intro w hSw; (try dsimp only at hSw); first | (go_simp; done) | (go_simp; with_reducible rfl))
            try simp only [Act.put, List.setIfInBounds_toArray, List.set_cons_zero, List.set_cons_succ]
            refine wpAnyH_take (i := 3) (oi := ⟨_, _, _, _, _, _⟩) (v := ?_) rfl (by as_aux_lemma => kernel_rfl) (by as_aux_lemma => kernel_rfl) (by as_aux_lemma => kernel_rfl) (fun _ _ _ h => h) (Or.inl ⟨by rfl, ?_⟩) (by assumption) ?_
            rotate_left
            · (intro w hSw; (try dsimp only at hSw); first | (go_simp; done) | (go_simp; with_reducible rfl))
            try simp only [Act.put, List.setIfInBounds_toArray, List.set_cons_zero, List.set_cons_succ]
            refine wpAnyH_take (i := 5) (oi := ⟨_, _, _, _, _, _⟩) (v := ?_) rfl (by as_aux_lemma => kernel_rfl) (by as_aux_lemma => kernel_rfl) (by as_aux_lemma => kernel_rfl) (fun _ _ _ h => h) (Or.inl ⟨by rfl, ?_⟩) (by assumption) ?_
            rotate_left
            · (intro w hSw; (try dsimp only at hSw); first | (go_simp; done) | (go_simp; with_reducible rfl))
            try simp only [Act.put, List.setIfInBounds_toArray, List.set_cons_zero, List.set_cons_succ]
            refine wpAnyH_ready (rs := [4, 6]) (by as_aux_lemma => kernel_rfl) (by simp) ?_
            refine AllReadyH.cons (o := ⟨_, _, _, _, _, _⟩) rfl (fun K hK => ?_) (AllReadyH.cons (o := ⟨_, _, _, _, _, _⟩) rfl (fun K hK => ?_) AllReadyH.nil)
            · go_simp
              refine hK.out _ _ ?_ (fun hNew => ?_)
              · exact hHeld
              clear hK K
              replace hHeld := hNew
              clear hNew
              try simp only [Act.put, List.setIfInBounds_toArray, List.set_cons_zero, List.set_cons_succ]
              refine wpAnyH_ready (rs := [6]) (by as_aux_lemma => kernel_rfl) (by simp) ?_
              refine AllReadyH.cons (o := ⟨_, _, _, _, _, _⟩) rfl (fun K hK => ?_) AllReadyH.nil
              go_simp
              refine hK.out _ _ ?_ (fun hNew => ?_)
              · exact S1
              clear hK K
              replace hHeld := hNew
              clear hNew
              try simp only [Act.put, List.setIfInBounds_toArray, List.set_cons_zero, List.set_cons_succ]
              refine wpAnyH_ready (rs := [7]) (by as_aux_lemma => kernel_rfl) (by simp) ?_
              refine AllReadyH.cons (o := ⟨_, _, _, _, _, _⟩) rfl (fun K hK => ?_) AllReadyH.nil
              refine step_append_lies _ (by rfl) _ _ _ (by rfl) B 68 i0 (.agg #[.int .u64 0, .int .u64 0]) 2 16 Tryd.underlying90 hin hz0 hz1 hz2 rfl (by decide) lV l.length (scells l) (by rfl) HROX.out ⟨w5.heap.size, 0, none⟩ 1 1 [.int .u64 (c.1 : Int), .int .u64 (c.2 : Int)] (by rfl) (by rfl) (World.news_of_block (heap_alloc_new w5 _)) HONE.out (by decide) (by unfold maxLen; omega) (by omega) HBX.out _ rfl ?_
              intro g cap w7 hown hgrow hat hlt
              obtain ⟨⟨C2, F2⟩, hpile, hbel, R1, R2⟩ := HGR.out g cap w7 hown hgrow
              have HP7 := Lib.hid hpile
              have HAT : Hid ((Value.slice (some ⟨g, 0, none⟩) (l.length + 1) cap).ownBlock = lV.ownBlock ∨ ∃ g', (Value.slice (some ⟨g, 0, none⟩) (l.length + 1) cap).ownBlock = some g' ∧ w.heap.size ≤ g') := (hat.imp (fun e => e.symm) (fun e => ⟨g, rfl, by rw [e]; exact Nat.le_trans HW5.out (below_new w5 _).size⟩))
              clear hat
              have HB7 := Lib.hid hbel
              clear hown hgrow hlt hpile hbel
              refine hK.out _ _ ?_ (fun hNew => ?_)
              · exact R1
              clear hK K
              replace hHeld := hNew
              clear hNew
              try simp only [Act.put, List.setIfInBounds_toArray, List.set_cons_zero, List.set_cons_succ]
              refine wpAnyH_take (i := 8) (oi := ⟨_, _, _, _, _, _⟩) (v := ?_) rfl (by as_aux_lemma => kernel_rfl) (by as_aux_lemma => kernel_rfl) (by as_aux_lemma => kernel_rfl) (fun _ _ _ h => h) (Or.inl ⟨by rfl, ?_⟩) (by assumption) ?_
              rotate_left
              · (intro w hSw; (try dsimp only at hSw); first | (go_simp; done) | (go_simp; with_reducible rfl))
              try simp only [Act.put, List.setIfInBounds_toArray, List.set_cons_zero, List.set_cons_succ]
              refine wpAnyH_take (i := 9) (oi := ⟨_, _, _, _, _, _⟩) (v := ?_) rfl (by as_aux_lemma => kernel_rfl) (by as_aux_lemma => kernel_rfl) (by as_aux_lemma => kernel_rfl) (fun _ _ _ h => h) (Or.inl ⟨by rfl, ?_⟩) (by assumption) ?_
              rotate_left
              · (intro w hSw; (try dsimp only at hSw); first | (go_simp; done) | (go_simp; with_reducible rfl))
              try simp only [Act.put, List.setIfInBounds_toArray, List.set_cons_zero, List.set_cons_succ]
              refine wpAnyH_ready (rs := [10]) (by as_aux_lemma => kernel_rfl) (by simp) ?_
              refine AllReadyH.cons (o := ⟨_, _, _, _, _, _⟩) rfl (fun K hK => ?_) AllReadyH.nil
              go_simp
              refine hK.out _ _ ?_ (fun hNew => ?_)
              · exact R2
              clear hK K
              replace hHeld := hNew
              clear hNew
              try simp only [Act.put, List.setIfInBounds_toArray, List.set_cons_zero, List.set_cons_succ]
              refine wpAnyH_done (by kernel_rfl) (NoPanic.normal ?_) _
              as_aux_lemma =>
                clear hHeld R1 R2 C2 F2 r0 r1
                go_wp2
                refine bodyPost_end (v := .tuple #[]) (by simp [results, Tryd.results44, go_sem]) rfl ?_
                exact ⟨rfl, by rw [small_add HNA.out HNM.out]; exact ⟨⟨_, _, HP7.out, HAT.out, Or.inl rfl⟩, HB5.out.trans HB7.out.1, fun k hk h1 h2 h3 => (HB7.out.2 k (Nat.lt_of_lt_of_le hk HW5.out) h1 h2).trans (HF5.out k hk h1 h2 h3)⟩⟩
            · go_simp
              refine hK.out _ _ ?_ (fun hNew => ?_)
              · exact S1
              clear hK K
              replace hHeld := hNew
              clear hNew
              try simp only [Act.put, List.setIfInBounds_toArray, List.set_cons_zero, List.set_cons_succ]
              refine wpAnyH_ready (rs := [4]) (by as_aux_lemma => kernel_rfl) (by simp) ?_
              refine AllReadyH.cons (o := ⟨_, _, _, _, _, _⟩) rfl (fun K hK => ?_) AllReadyH.nil
              go_simp
              refine hK.out _ _ ?_ (fun hNew => ?_)
              · exact hHeld
              clear hK K
              replace hHeld := hNew
              clear hNew
              try simp only [Act.put, List.setIfInBounds_toArray, List.set_cons_zero, List.set_cons_succ]
              refine wpAnyH_ready (rs := [7]) (by as_aux_lemma => kernel_rfl) (by simp) ?_
              refine AllReadyH.cons (o := ⟨_, _, _, _, _, _⟩) rfl (fun K hK => ?_) AllReadyH.nil
              refine step_append_lies _ (by rfl) _ _ _ (by rfl) B 68 i0 (.agg #[.int .u64 0, .int .u64 0]) 2 16 Tryd.underlying90 hin hz0 hz1 hz2 rfl (by decide) lV l.length (scells l) (by rfl) HROX.out ⟨w5.heap.size, 0, none⟩ 1 1 [.int .u64 (c.1 : Int), .int .u64 (c.2 : Int)] (by rfl) (by rfl) (World.news_of_block (heap_alloc_new w5 _)) HONE.out (by decide) (by unfold maxLen; omega) (by omega) HBX.out _ rfl ?_
              intro g cap w7 hown hgrow hat hlt
              obtain ⟨⟨C2, F2⟩, hpile, hbel, R1, R2⟩ := HGR.out g cap w7 hown hgrow
              have HP7 := Lib.hid hpile
              have HAT : Hid ((Value.slice (some ⟨g, 0, none⟩) (l.length + 1) cap).ownBlock = lV.ownBlock ∨ ∃ g', (Value.slice (some ⟨g, 0, none⟩) (l.length + 1) cap).ownBlock = some g' ∧ w.heap.size ≤ g') := (hat.imp (fun e => e.symm) (fun e => ⟨g, rfl, by rw [e]; exact Nat.le_trans HW5.out (below_new w5 _).size⟩))
              clear hat
              have HB7 := Lib.hid hbel
              clear hown hgrow hlt hpile hbel
              refine hK.out _ _ ?_ (fun hNew => ?_)
              · exact R1
              clear hK K
              replace hHeld := hNew
              clear hNew
              try simp only [Act.put, List.setIfInBounds_toArray, List.set_cons_zero, List.set_cons_succ]
              refine wpAnyH_take (i := 8) (oi := ⟨_, _, _, _, _, _⟩) (v := ?_) rfl (by as_aux_lemma => kernel_rfl) (by as_aux_lemma => kernel_rfl) (by as_aux_lemma => kernel_rfl) (fun _ _ _ h => h) (Or.inl ⟨by rfl, ?_⟩) (by assumption) ?_
              rotate_left
              · (intro w hSw; (try dsimp only at hSw); first | (go_simp; done) | (go_simp; with_reducible rfl))
              try simp only [Act.put, List.setIfInBounds_toArray, List.set_cons_zero, List.set_cons_succ]
              refine wpAnyH_take (i := 9) (oi := ⟨_, _, _, _, _, _⟩) (v := ?_) rfl (by as_aux_lemma => kernel_rfl) (by as_aux_lemma => kernel_rfl) (by as_aux_lemma => kernel_rfl) (fun _ _ _ h => h) (Or.inl ⟨by rfl, ?_⟩) (by assumption) ?_
              rotate_left
              · (intro w hSw; (try dsimp only at hSw); first | (go_simp; done) | (go_simp; with_reducible rfl))
              try simp only [Act.put, List.setIfInBounds_toArray, List.set_cons_zero, List.set_cons_succ]
              refine wpAnyH_ready (rs := [10]) (by as_aux_lemma => kernel_rfl) (by simp) ?_
              refine AllReadyH.cons (o := ⟨_, _, _, _, _, _⟩) rfl (fun K hK => ?_) AllReadyH.nil
              go_simp
              refine hK.out _ _ ?_ (fun hNew => ?_)
              · exact R2
              clear hK K
              replace hHeld := hNew
              clear hNew
              try simp only [Act.put, List.setIfInBounds_toArray, List.set_cons_zero, List.set_cons_succ]
              refine wpAnyH_done (by kernel_rfl) (NoPanic.normal ?_) _
              as_aux_lemma =>
                clear hHeld R1 R2 C2 F2 r0 r1
                go_wp2
                refine bodyPost_end (v := .tuple #[]) (by simp [results, Tryd.results44, go_sem]) rfl ?_
                exact ⟨rfl, by rw [small_add HNA.out HNM.out]; exact ⟨⟨_, _, HP7.out, HAT.out, Or.inl rfl⟩, HB5.out.trans HB7.out.1, fun k hk h1 h2 h3 => (HB7.out.2 k (Nat.lt_of_lt_of_le hk HW5.out) h1 h2).trans (HF5.out k hk h1 h2 h3)⟩⟩
end Go.Proofs.YtcmmoinkhodjfaaDoor
