/- takeBack. -/
import Derived.Test.YtpmpnbbihmgdpaaGreatDoorClSearch
set_option maxHeartbeats 4000000
set_option maxRecDepth 100000
namespace Go.Proofs.YtpmpnbbihmgdpaaGreatDoor
section
open Go.RowKit Go.Deep
theorem infoDec : (Tryz.prog.info? 231).map (fun i => (i.zero.map (·.cells.size), i.size, i.bytes)) = some (some 25, 25, 32) := by kernel_rfl
theorem infoVals : (Tryz.prog.info? 146).map (·.size) = some 24 := by kernel_rfl
theorem dec_parts : ∃ (i : TypeInfo) (z : Value), Tryz.prog.info? 231 = some i /\ i.zero = some z /\ i.size = 25 /\ i.bytes = 32 /\ z.cells.size = 25 := by
 obtain ⟨i, hi, h⟩ := Option.map_eq_some_iff.1 infoDec
 simp only [Prod.mk.injEq, Option.map_eq_some_iff] at h
 obtain ⟨⟨z, hz, hs⟩, h1, h2⟩ := h
 exact ⟨i, z, hi, hz, h1, h2, hs⟩
theorem set0 (cV dV pV u : Value) (told : List Int) : ([cV] ++ tvl told ++ [dV, pV]).toArray.setIfInBounds 0 u = ([u] ++ tvl told ++ [dV, pV]).toArray := by
 rw [List.setIfInBounds_toArray]; rfl
theorem set25 (cV dV pV u : Value) (told : List Int) : ([cV] ++ tvl told ++ [dV, pV]).toArray.setIfInBounds 25 u = ([cV] ++ tvl told ++ [u, pV]).toArray := by
 rw [List.setIfInBounds_toArray, List.set_append_right _ _ (by simp [tvl_len])]; simp [tvl_len]
theorem set26 (cV dV pV u : Value) (told : List Int) : ([cV] ++ tvl told ++ [dV, pV]).toArray.setIfInBounds 26 u = ([cV] ++ tvl told ++ [dV, u]).toArray := by
 rw [List.setIfInBounds_toArray, List.set_append_right _ _ (by simp [tvl_len])]; simp [tvl_len]
theorem range_far {w w' : World} {row : Option Nat} {b o : Nat} {cs : List Value} (h : w.rangeAt b o cs) (hg : w.grownBy w' row) (hlt : b < w.heap.size) (hne : some b ≠ row) : w'.rangeAt b o cs := fun j v hv => by
 rw [hg.cell_far ⟨b, o + j, none⟩ hlt hne]; exact h j v hv
theorem SAt.grow_d {B sb : Nat} {W w1 : World} {l : List (List Int)} {s : St} {cV dV pV dV' : Value} {ds : List (Int × List Int)} (h : SAt B W sb l s cV dV pV) (hown : w1.ownsRow B 231 25 dV' ds.length (dcells ds)) (hg : W.grownBy w1 dV.ownBlock) (hB : B <= W.heap.size) :
  w1.cell? ⟨sb, 25, none⟩ = some dV /\ w1.frozen? ⟨sb, 25, none⟩ = false /\ SAt B (w1.setCell ⟨sb, 25, none⟩ dV') sb l ⟨s.told, ds, s.prf⟩ cV dV' pV /\ Below B W (w1.setCell ⟨sb, 25, none⟩ dV') := by
 obtain ⟨cs, h1, h2⟩ := h.crow
 obtain ⟨ps, h3, h4⟩ := h.prow
 have hne : some sb ≠ dV.ownBlock := fun e => ownBlock_ne' h.drow h.blk (by decide) e.symm
 have hb : Blk w1 sb 149 _ := h.blk.kept hg hne
 have hk := Kp.grown h.drow hg (by decide)
 have h1' := h1.kept hg (ownBlocks_ne h1 h.drow (by decide))
 have h3' := h3.kept hg (ownBlocks_ne h3 h.drow (by decide))
 have hk2 : Kp B w1 (w1.setCell ⟨sb, 25, none⟩ dV') := Kp.set h.Bsb hb (by decide)
 have hbw : Below B W w1 := (Below.refl _ _).grown hg hB (fun k hk => (h.drow.lt k hk).1)
 refine ⟨by rw [hb.cell, List.getElem?_toArray, List.getElem?_append_right (by simp [tvl_len])]; simp [tvl_len], hb.frozen _, ⟨?_, h.Bsb, ⟨cs, ownsRow_setCell_other h1' (ownBlock_ne' h1' hb (by decide)) _, (h2.kp hk).kp hk2⟩, ⟨ps, ownsRow_setCell_other h3' (ownBlock_ne' h3' hb (by decide)) _, (h4.kp hk.zero).kp hk2.zero⟩, ownsRow_setCell_other hown (ownBlock_ne' hown hb (by decide)) _, h.apart⟩, hbw.setCell h.Bsb _⟩
 have := hb.set (i := 25) (v := dV')
 rw [set25] at this
 exact this
theorem decide_any (B sb : Nat) (l : List (List Int)) (s : St) (cV dV pV : Value) (x : Int) (hx : litB 24 x = true) (h1 : -x ∉ s.told) (hd : s.decs.length <= 24) (w : World) (h : SAt B w sb l s cV dV pV) :
  Calls Tryz.prog 77 #[.pointer (some ⟨sb, 0, none⟩), .int .i64 x] w fun e w' => e = .returned (.tuple #[]) /\ (∃ dV', SAt B w' sb l ⟨s.told ++ [x], s.decs ++ [(x, s.told)], s.prf⟩ cV dV' pV) /\ Below B w w' := by
 obtain ⟨i0, z, hin, hz0, hz1, hz2, hz3⟩ := dec_parts
 have c25 := h.c25
 have S0 : w.drew.cell? ⟨sb, 25, none⟩ = some dV /\ w.drew.rangeAt sb 1 (tvl s.told) := by
  refine ⟨by simpa using c25, ?_⟩
  rw [World.rangeAt_drew]
  intro j v hj
  have hj24 : j < 24 := by have := (List.getElem?_eq_some_iff.1 hj).1; rw [tvl_len] at this; exact this
  have := h.vals.cell j hj24
  rw [add_plain] at this
  rw [this, <- tvl_at _ _ hj24]; exact hj
 have hu := Tryz.underlying146
 have hi : (Tryz.prog.info? 146).map (·.size) = some (tvl s.told).length := by rw [tvl_len]; exact infoVals
 have hl : (tvl s.told).length = 24 := tvl_len _
 have ho : ∀ v ∈ tvl s.told, v.oneCell' = true := fun v hv => by
  unfold tvl at hv
  obtain ⟨i, _, rfl⟩ := List.mem_map.1 hv
  rfl
 have HD := Lib.hid h
 obtain ⟨V, hV⟩ : ∃ V, V = tvl s.told := ⟨_, rfl⟩
 rw [<- hV] at S0 hi hl ho
 have HV := Lib.hid hV
 clear h hV
 match V, hl with
 | [v0, v1, v2, v3, v4, v5, v6, v7, v8, v9, v10, v11, v12, v13, v14, v15, v16, v17, v18, v19, v20, v21, v22, v23], hl =>
  clear hl
  have cb := HD.out.blk
  have hws := cb.lt
  have S1 : (w.alloc (.cells #[.int .i64 x, v0, v1, v2, v3, v4, v5, v6, v7, v8, v9, v10, v11, v12, v13, v14, v15, v16, v17, v18, v19, v20, v21, v22, v23] 231)).drew.cell? ⟨sb, 25, none⟩ = some dV /\ (w.alloc (.cells #[.int .i64 x, v0, v1, v2, v3, v4, v5, v6, v7, v8, v9, v10, v11, v12, v13, v14, v15, v16, v17, v18, v19, v20, v21, v22, v23] 231)).drew.rangeAt sb 1 [v0, v1, v2, v3, v4, v5, v6, v7, v8, v9, v10, v11, v12, v13, v14, v15, v16, v17, v18, v19, v20, v21, v22, v23] := by
   refine ⟨?_, ?_⟩
   ·rw [World.cell?_drew, World.cell?_alloc_lt _ _ ⟨sb, 25, none⟩ hws]; exact c25
   ·rw [World.rangeAt_drew]
    exact World.rangeAt_alloc ((World.rangeAt_drew _ _ _ _).1 S0.2) _
  have hsz := HD.out.drow.lt
  have hW : SAt B (w.alloc (.cells #[.int .i64 x, v0, v1, v2, v3, v4, v5, v6, v7, v8, v9, v10, v11, v12, v13, v14, v15, v16, v17, v18, v19, v20, v21, v22, v23] 231)).drew sb l s cV dV pV := HD.out.new ((below_new w _).drew)
  have HOW := Lib.hid hW.drow
  have hws2 := hW.blk.lt
  have hnr : some sb ≠ dV.ownBlock := fun e => ownBlock_ne' hW.drow hW.blk (by decide) e.symm
  have hBw : B <= w.heap.size := by have := HD.out.Bsb; omega
  have hB2 : B <= (w.alloc (.cells #[.int .i64 x, v0, v1, v2, v3, v4, v5, v6, v7, v8, v9, v10, v11, v12, v13, v14, v15, v16, v17, v18, v19, v20, v21, v22, v23] 231)).drew.heap.size := by show B <= (w.alloc _).heap.size; rw [World.size_alloc]; omega
  have one : ∀ u ∈ [Value.int .i64 x, v0, v1, v2, v3, v4, v5, v6, v7, v8, v9, v10, v11, v12, v13, v14, v15, v16, v17, v18, v19, v20, v21, v22, v23], u.oneCell' = true := fun u hu => by
   rcases List.mem_cons.1 hu with h | h
   ·rw [h]; rfl
   ·exact ho u h
  have GR : Hid (∀ (g cap : Nat) (w1 : World), w1.ownsRow B 231 25 (.slice (some ⟨g, 0, none⟩) (s.decs.length + 1) cap) (s.decs.length + 1) (dcells s.decs ++ [.int .i64 x, v0, v1, v2, v3, v4, v5, v6, v7, v8, v9, v10, v11, v12, v13, v14, v15, v16, v17, v18, v19, v20, v21, v22, v23]) -> (w.alloc (.cells #[.int .i64 x, v0, v1, v2, v3, v4, v5, v6, v7, v8, v9, v10, v11, v12, v13, v14, v15, v16, v17, v18, v19, v20, v21, v22, v23] 231)).drew.grownBy w1 dV.ownBlock ->
    w1.cell? ⟨sb, 25, none⟩ = some dV /\ w1.frozen? ⟨sb, 25, none⟩ = false /\ SAt B (w1.setCell ⟨sb, 25, none⟩ (.slice (some ⟨g, 0, none⟩) (s.decs.length + 1) cap)) sb l ⟨s.told, s.decs ++ [(x, s.told)], s.prf⟩ cV (.slice (some ⟨g, 0, none⟩) (s.decs.length + 1) cap) pV /\ Below B w (w1.setCell ⟨sb, 25, none⟩ (.slice (some ⟨g, 0, none⟩) (s.decs.length + 1) cap))) := fun g cap w1 hown hgrow => by
   have e : dcells s.decs ++ [.int .i64 x, v0, v1, v2, v3, v4, v5, v6, v7, v8, v9, v10, v11, v12, v13, v14, v15, v16, v17, v18, v19, v20, v21, v22, v23] = dcells (s.decs ++ [(x, s.told)]) := by rw [dcells_snoc]; unfold dcell; rw [HV.out]
   rw [e] at hown
   obtain ⟨g1, g2, g3, g4⟩ := hW.grow_d (ds := s.decs ++ [(x, s.told)]) (by simpa using hown) hgrow hB2
   exact ⟨g1, g2, g3, ((below_new w (.cells #[.int .i64 x, v0, v1, v2, v3, v4, v5, v6, v7, v8, v9, v10, v11, v12, v13, v14, v15, v16, v17, v18, v19, v20, v21, v22, v23] 231)).drew.mono hBw).trans g4⟩
  obtain ⟨r0, S0⟩ := S0
  obtain ⟨r1, S1⟩ := S1
  clear cb ho hsz hW HD HV
  go_enter Tryz.func77, Tryz.ntmps77
  go_wp2_with fail
  refine wp_region_noPanic ?_
  refine wp_region_held_drew (S := (fun X => X.rangeAt sb 1 [v0, v1, v2, v3, v4, v5, v6, v7, v8, v9, v10, v11, v12, v13, v14, v15, v16, v17, v18, v19, v20, v21, v22, v23])) (by kernel_rfl) S0 (fun hHeld => ?_)
  refine wpAnyH_take (i := 0) (oi := ⟨_, _, _, _, _, _⟩) (v := ?_) rfl (by as_aux_lemma => kernel_rfl) (by as_aux_lemma => kernel_rfl) (by as_aux_lemma => kernel_rfl) (fun _ _ _ h => h) (Or.inl ⟨by rfl, ?_⟩) (by assumption) ?_
  rotate_left
  ·(intro w hSw; (try dsimp only at hSw); first | (go_simp; done) | (go_simp; with_reducible rfl))
  try simp only [Act.put, List.setIfInBounds_toArray, List.set_cons_zero, List.set_cons_succ]
  refine wpAnyH_take (i := 1) (oi := ⟨_, _, _, _, _, _⟩) (v := ?_) rfl (by as_aux_lemma => kernel_rfl) (by as_aux_lemma => kernel_rfl) (by as_aux_lemma => kernel_rfl) (fun _ _ _ h => h) (Or.inl ⟨by rfl, ?_⟩) (by assumption) ?_
  rotate_left
  ·(intro w hSw; (try dsimp only at hSw); first | (go_simp; done) | (go_simp; with_reducible rfl))
  try simp only [Act.put, List.setIfInBounds_toArray, List.set_cons_zero, List.set_cons_succ]
  refine wpAnyH_take (i := 2) (oi := ⟨_, _, _, _, _, _⟩) (v := ?_) rfl (by as_aux_lemma => kernel_rfl) (by as_aux_lemma => kernel_rfl) (by as_aux_lemma => kernel_rfl) (fun _ _ _ h => h) (Or.inl ⟨by rfl, ?_⟩) (by assumption) ?_
  rotate_left
  ·(intro w hSw; (try dsimp only at hSw); first | (go_simp; done) | (go_simp; with_reducible rfl))
  try simp only [Act.put, List.setIfInBounds_toArray, List.set_cons_zero, List.set_cons_succ]
  refine wpAnyH_take (i := 3) (oi := ⟨_, _, _, _, _, _⟩) (v := ?_) rfl (by as_aux_lemma => kernel_rfl) (by as_aux_lemma => kernel_rfl) (by as_aux_lemma => kernel_rfl) (fun _ _ _ h => h) (Or.inl ⟨by rfl, ?_⟩) (by assumption) ?_
  rotate_left
  ·(intro w hSw; (try dsimp only at hSw); first | (go_simp; done) | (go_simp; with_reducible rfl))
  try simp only [Act.put, List.setIfInBounds_toArray, List.set_cons_zero, List.set_cons_succ]
  refine wpAnyH_take (i := 5) (oi := ⟨_, _, _, _, _, _⟩) (v := ?_) rfl (by as_aux_lemma => kernel_rfl) (by as_aux_lemma => kernel_rfl) (by as_aux_lemma => kernel_rfl) (fun _ _ _ h => h) (Or.inl ⟨by rfl, ?_⟩) (by assumption) ?_
  rotate_left
  ·(intro w hSw; (try dsimp only at hSw); first | (go_simp; done) | (go_simp; with_reducible rfl))
  try simp only [Act.put, List.setIfInBounds_toArray, List.set_cons_zero, List.set_cons_succ]
  refine wpAnyH_take (i := 6) (oi := ⟨_, _, _, _, _, _⟩) (v := ?_) rfl (by as_aux_lemma => kernel_rfl) (by as_aux_lemma => kernel_rfl) (by as_aux_lemma => kernel_rfl) (fun _ _ _ h => h) (Or.inl ⟨by rfl, ?_⟩) (by assumption) ?_
  rotate_left
  ·(intro w hSw; (try dsimp only at hSw); first | (go_simp; done) | (go_simp; with_reducible rfl))
  try simp only [Act.put, List.setIfInBounds_toArray, List.set_cons_zero, List.set_cons_succ]
  refine wpAnyH_take (i := 7) (oi := ⟨_, _, _, _, _, _⟩) (v := ?_) rfl (by as_aux_lemma => kernel_rfl) (by as_aux_lemma => kernel_rfl) (by as_aux_lemma => kernel_rfl) (fun _ _ _ h => h) (Or.inl ⟨by rfl, ?_⟩) (by assumption) ?_
  rotate_left
  ·(intro w hSw; (try dsimp only at hSw); first | (go_simp; done) | (go_simp; with_reducible rfl))
  try simp only [Act.put, List.setIfInBounds_toArray, List.set_cons_zero, List.set_cons_succ]
  refine wpAnyH_take (i := 8) (oi := ⟨_, _, _, _, _, _⟩) (v := ?_) rfl (by as_aux_lemma => kernel_rfl) (by as_aux_lemma => kernel_rfl) (by as_aux_lemma => kernel_rfl) (fun _ _ _ h => h) (Or.inl ⟨by rfl, ?_⟩) (by assumption) ?_
  rotate_left
  ·(intro w hSw; (try dsimp only at hSw); first | (go_simp; done) | (go_simp; with_reducible rfl))
  try simp only [Act.put, List.setIfInBounds_toArray, List.set_cons_zero, List.set_cons_succ]
  refine wpAnyH_take (i := 9) (oi := ⟨_, _, _, _, _, _⟩) (v := .agg #[v0, v1, v2, v3, v4, v5, v6, v7, v8, v9, v10, v11, v12, v13, v14, v15, v16, v17, v18, v19, v20, v21, v22, v23]) rfl (by as_aux_lemma => kernel_rfl) (by as_aux_lemma => kernel_rfl) (by as_aux_lemma => kernel_rfl) (fun _ _ _ h => h) (yieldsIf_load_mid (by rfl) 146 _ rfl sb 1 rfl [v0, v1, v2, v3, v4, v5, v6, v7, v8, v9, v10, v11, v12, v13, v14, v15, v16, v17, v18, v19, v20, v21, v22, v23] _ (fun _ h => h) hu rfl hi) (by assumption) ?_
  try simp only [Act.put, List.setIfInBounds_toArray, List.set_cons_zero, List.set_cons_succ]
  refine wpAnyH_take (i := 10) (oi := ⟨_, _, _, _, _, _⟩) (v := ?_) rfl (by as_aux_lemma => kernel_rfl) (by as_aux_lemma => kernel_rfl) (by as_aux_lemma => kernel_rfl) (fun _ _ _ h => h) (Or.inl ⟨by rfl, ?_⟩) (by assumption) ?_
  rotate_left
  ·(intro w hSw; (try dsimp only at hSw); first | (go_simp; done) | (go_simp; with_reducible rfl))
  try simp only [Act.put, List.setIfInBounds_toArray, List.set_cons_zero, List.set_cons_succ]
  refine wpAnyH_ready (rs := [4, 11]) (by as_aux_lemma => kernel_rfl) (by simp) ?_
  refine AllReadyH.cons (o := ⟨_, _, _, _, _, _⟩) rfl (fun K hK => ?_) (AllReadyH.cons (o := ⟨_, _, _, _, _, _⟩) rfl (fun K hK => ?_) AllReadyH.nil)
  ·go_simp
   refine hK.out _ _ ?_ (fun hNew => ?_)
   ·exact hHeld
   clear hK K
   replace hHeld := hNew
   clear hNew
   try simp only [Act.put, List.setIfInBounds_toArray, List.set_cons_zero, List.set_cons_succ]
   refine wpAnyH_ready (rs := [11]) (by as_aux_lemma => kernel_rfl) (by simp) ?_
   refine AllReadyH.cons (o := ⟨_, _, _, _, _, _⟩) rfl (fun K hK => ?_) AllReadyH.nil
   go_simp
   refine hK.out _ _ ?_ (fun hNew => ?_)
   ·exact S1
   clear hK K
   replace hHeld := hNew
   clear hNew
   try simp only [Act.put, List.setIfInBounds_toArray, List.set_cons_zero, List.set_cons_succ]
   refine wpAnyH_ready (rs := [12]) (by as_aux_lemma => kernel_rfl) (by simp) ?_
   refine AllReadyH.cons (o := ⟨_, _, _, _, _, _⟩) rfl (fun K hK => ?_) AllReadyH.nil
   refine step_append_lies _ (by rfl) _ _ _ (by rfl) B 231 i0 z 25 32 Tryz.underlying147 hin hz0 hz1 hz2 hz3 (by decide) dV s.decs.length (dcells s.decs) (by rfl) HOW.out ⟨w.heap.size, 0, none⟩ 1 1 [.int .i64 x, v0, v1, v2, v3, v4, v5, v6, v7, v8, v9, v10, v11, v12, v13, v14, v15, v16, v17, v18, v19, v20, v21, v22, v23] (by rfl) (by rfl) (World.news_of_block (heap_alloc_new w _)) one (by decide) (by unfold maxLen; omega) (by omega) hB2 _ rfl ?_
   intro g cap w1 hown hgrow hat hlt
   obtain ⟨C2, F2, HS, HBB⟩ := GR.out g cap w1 hown hgrow
   have R1 := range_far S1 hgrow hws2 hnr
   have R2 := World.rangeAt_setCells_apart R1 sb 25 [.slice (some ⟨g, 0, none⟩) (s.decs.length + 1) cap] (Or.inr (Or.inl (by simp)))
   have HS2 := Lib.hid HS
   have HB2 := Lib.hid HBB
   clear hown hgrow hat hlt HS HBB GR HOW
   refine hK.out _ _ ?_ (fun hNew => ?_)
   ·exact R1
   clear hK K
   replace hHeld := hNew
   clear hNew
   try simp only [Act.put, List.setIfInBounds_toArray, List.set_cons_zero, List.set_cons_succ]
   refine wpAnyH_take (i := 13) (oi := ⟨_, _, _, _, _, _⟩) (v := ?_) rfl (by as_aux_lemma => kernel_rfl) (by as_aux_lemma => kernel_rfl) (by as_aux_lemma => kernel_rfl) (fun _ _ _ h => h) (Or.inl ⟨by rfl, ?_⟩) (by assumption) ?_
   rotate_left
   ·(intro w hSw; (try dsimp only at hSw); first | (go_simp; done) | (go_simp; with_reducible rfl))
   try simp only [Act.put, List.setIfInBounds_toArray, List.set_cons_zero, List.set_cons_succ]
   refine wpAnyH_take (i := 14) (oi := ⟨_, _, _, _, _, _⟩) (v := ?_) rfl (by as_aux_lemma => kernel_rfl) (by as_aux_lemma => kernel_rfl) (by as_aux_lemma => kernel_rfl) (fun _ _ _ h => h) (Or.inl ⟨by rfl, ?_⟩) (by assumption) ?_
   rotate_left
   ·(intro w hSw; (try dsimp only at hSw); first | (go_simp; done) | (go_simp; with_reducible rfl))
   try simp only [Act.put, List.setIfInBounds_toArray, List.set_cons_zero, List.set_cons_succ]
   refine wpAnyH_ready (rs := [15]) (by as_aux_lemma => kernel_rfl) (by simp) ?_
   refine AllReadyH.cons (o := ⟨_, _, _, _, _, _⟩) rfl (fun K hK => ?_) AllReadyH.nil
   go_simp
   refine hK.out _ _ ?_ (fun hNew => ?_)
   ·exact R2
   clear hK K
   replace hHeld := hNew
   clear hNew
   try simp only [Act.put, List.setIfInBounds_toArray, List.set_cons_zero, List.set_cons_succ]
   refine wpAnyH_done (by kernel_rfl) (NoPanic.normal ?_) _
   as_aux_lemma =>
    clear hHeld
    clear r0 r1 C2 F2 R1 R2 S1
    have HT := Lib.hid (tell_any ⟨sb, 1, none⟩ s.told x hx _ HS2.out.vals)
    have HS3 := Lib.hid (HS2.out.tell hx h1)
    have HB3 : Hid (Below B w _) := HB2.out.setCell (p := (⟨sb, 1, none⟩ : Addr).add (tellAt x)) (by rw [addr_block]; exact HS2.out.Bsb) (.int .i8 (tellV x))
    generalize w1.setCell ⟨sb, 25, none⟩ (.slice (some ⟨g, 0, none⟩) (s.decs.length + 1) cap) = W3 at *
    go_wp2_with fail
    refine HT.out.mono ?_
    rintro e w4 ⟨rfl, hw4⟩
    have HS4 : Hid (SAt B w4 sb l ⟨s.told ++ [x], s.decs ++ [(x, s.told)], s.prf⟩ cV (.slice (some ⟨g, 0, none⟩) (s.decs.length + 1) cap) pV) := by rw [hw4]; exact HS3.out
    have HB4 : Hid (Below B w w4) := by rw [hw4]; exact HB3.out
    clear hw4 HS3 HB3 HT
    go_wp2
    refine bodyPost_end (v := .tuple #[]) (by simp [results, Tryz.results77, go_sem]) rfl ?_
    exact ⟨rfl, ⟨_, HS4.out⟩, HB4.out⟩
  ·go_simp
   refine hK.out _ _ ?_ (fun hNew => ?_)
   ·exact S1
   clear hK K
   replace hHeld := hNew
   clear hNew
   try simp only [Act.put, List.setIfInBounds_toArray, List.set_cons_zero, List.set_cons_succ]
   refine wpAnyH_ready (rs := [4]) (by as_aux_lemma => kernel_rfl) (by simp) ?_
   refine AllReadyH.cons (o := ⟨_, _, _, _, _, _⟩) rfl (fun K hK => ?_) AllReadyH.nil
   go_simp
   refine hK.out _ _ ?_ (fun hNew => ?_)
   ·exact hHeld
   clear hK K
   replace hHeld := hNew
   clear hNew
   try simp only [Act.put, List.setIfInBounds_toArray, List.set_cons_zero, List.set_cons_succ]
   refine wpAnyH_ready (rs := [12]) (by as_aux_lemma => kernel_rfl) (by simp) ?_
   refine AllReadyH.cons (o := ⟨_, _, _, _, _, _⟩) rfl (fun K hK => ?_) AllReadyH.nil
   refine step_append_lies _ (by rfl) _ _ _ (by rfl) B 231 i0 z 25 32 Tryz.underlying147 hin hz0 hz1 hz2 hz3 (by decide) dV s.decs.length (dcells s.decs) (by rfl) HOW.out ⟨w.heap.size, 0, none⟩ 1 1 [.int .i64 x, v0, v1, v2, v3, v4, v5, v6, v7, v8, v9, v10, v11, v12, v13, v14, v15, v16, v17, v18, v19, v20, v21, v22, v23] (by rfl) (by rfl) (World.news_of_block (heap_alloc_new w _)) one (by decide) (by unfold maxLen; omega) (by omega) hB2 _ rfl ?_
   intro g cap w1 hown hgrow hat hlt
   obtain ⟨C2, F2, HS, HBB⟩ := GR.out g cap w1 hown hgrow
   have R1 := range_far S1 hgrow hws2 hnr
   have R2 := World.rangeAt_setCells_apart R1 sb 25 [.slice (some ⟨g, 0, none⟩) (s.decs.length + 1) cap] (Or.inr (Or.inl (by simp)))
   have HS2 := Lib.hid HS
   have HB2 := Lib.hid HBB
   clear hown hgrow hat hlt HS HBB GR HOW
   refine hK.out _ _ ?_ (fun hNew => ?_)
   ·exact R1
   clear hK K
   replace hHeld := hNew
   clear hNew
   try simp only [Act.put, List.setIfInBounds_toArray, List.set_cons_zero, List.set_cons_succ]
   refine wpAnyH_take (i := 13) (oi := ⟨_, _, _, _, _, _⟩) (v := ?_) rfl (by as_aux_lemma => kernel_rfl) (by as_aux_lemma => kernel_rfl) (by as_aux_lemma => kernel_rfl) (fun _ _ _ h => h) (Or.inl ⟨by rfl, ?_⟩) (by assumption) ?_
   rotate_left
   ·(intro w hSw; (try dsimp only at hSw); first | (go_simp; done) | (go_simp; with_reducible rfl))
   try simp only [Act.put, List.setIfInBounds_toArray, List.set_cons_zero, List.set_cons_succ]
   refine wpAnyH_take (i := 14) (oi := ⟨_, _, _, _, _, _⟩) (v := ?_) rfl (by as_aux_lemma => kernel_rfl) (by as_aux_lemma => kernel_rfl) (by as_aux_lemma => kernel_rfl) (fun _ _ _ h => h) (Or.inl ⟨by rfl, ?_⟩) (by assumption) ?_
   rotate_left
   ·(intro w hSw; (try dsimp only at hSw); first | (go_simp; done) | (go_simp; with_reducible rfl))
   try simp only [Act.put, List.setIfInBounds_toArray, List.set_cons_zero, List.set_cons_succ]
   refine wpAnyH_ready (rs := [15]) (by as_aux_lemma => kernel_rfl) (by simp) ?_
   refine AllReadyH.cons (o := ⟨_, _, _, _, _, _⟩) rfl (fun K hK => ?_) AllReadyH.nil
   go_simp
   refine hK.out _ _ ?_ (fun hNew => ?_)
   ·exact R2
   clear hK K
   replace hHeld := hNew
   clear hNew
   try simp only [Act.put, List.setIfInBounds_toArray, List.set_cons_zero, List.set_cons_succ]
   refine wpAnyH_done (by kernel_rfl) (NoPanic.normal ?_) _
   as_aux_lemma =>
    clear hHeld
    clear r0 r1 C2 F2 R1 R2 S1
    have HT := Lib.hid (tell_any ⟨sb, 1, none⟩ s.told x hx _ HS2.out.vals)
    have HS3 := Lib.hid (HS2.out.tell hx h1)
    have HB3 : Hid (Below B w _) := HB2.out.setCell (p := (⟨sb, 1, none⟩ : Addr).add (tellAt x)) (by rw [addr_block]; exact HS2.out.Bsb) (.int .i8 (tellV x))
    generalize w1.setCell ⟨sb, 25, none⟩ (.slice (some ⟨g, 0, none⟩) (s.decs.length + 1) cap) = W3 at *
    go_wp2_with fail
    refine HT.out.mono ?_
    rintro e w4 ⟨rfl, hw4⟩
    have HS4 : Hid (SAt B w4 sb l ⟨s.told ++ [x], s.decs ++ [(x, s.told)], s.prf⟩ cV (.slice (some ⟨g, 0, none⟩) (s.decs.length + 1) cap) pV) := by rw [hw4]; exact HS3.out
    have HB4 : Hid (Below B w w4) := by rw [hw4]; exact HB3.out
    clear hw4 HS3 HB3 HT
    go_wp2
    refine bodyPost_end (v := .tuple #[]) (by simp [results, Tryz.results77, go_sem]) rfl ?_
    exact ⟨rfl, ⟨_, HS4.out⟩, HB4.out⟩
end
section
open Go.RowKit Go.Deep
theorem set_range {W : World} {b : Nat} {t : TypeId} {cs : List Value} (h : Blk W b t cs.toArray) (vs : List Value) (o : Nat) (ho : o + vs.length <= cs.length) : Blk (W.setCells b o vs) b t (cs.take o ++ vs ++ cs.drop (o + vs.length)).toArray := by
 induction vs generalizing W o cs with
 | nil => simpa [World.setCells] using h
 | cons v vs ih =>
  have h1 := h.set (i := o) (v := v)
  rw [List.setIfInBounds_toArray] at h1
  simp only [List.length_cons] at ho
  have h2 := ih h1 (o + 1) (by rw [List.length_set]; omega)
  show Blk ((W.setCell ⟨b, o, none⟩ v).setCells b (o + 1) vs) b t _
  have e : (cs.set o v).take (o + 1) ++ vs ++ (cs.set o v).drop (o + 1 + vs.length) = cs.take o ++ v :: vs ++ cs.drop (o + (vs.length + 1)) := by
   rw [List.take_succ_eq_append_getElem (by rw [List.length_set]; omega), List.take_set_of_le (Nat.le_refl _), List.getElem_set_self, List.drop_set_of_lt (by omega)]
   simp [Nat.add_assoc, Nat.add_comm 1]
  rw [e] at h2
  exact h2
theorem kp_cells {B : Nat} {b : Nat} {t : TypeId} (hB : B <= b) (ht : t ≠ 3) : ∀ (vs : List Value) (o : Nat) (W : World) (cs : Array Value), Blk W b t cs -> Kp B W (W.setCells b o vs)
 | [], _, W, _, _ => Kp.refl B W
 | _ :: vs, o, _, _, h => (Kp.set hB h ht).trans (kp_cells hB ht vs (o + 1) _ _ h.set)
theorem clRow_cells {B : Nat} {e : TypeId} {size n b : Nat} {V : Value} {xs : List Value} (hne : V.ownBlock ≠ some b) : ∀ (vs : List Value) (o : Nat) (W : World), W.ownsRow B e size V n xs -> (W.setCells b o vs).ownsRow B e size V n xs
 | [], _, _, h => h
 | v :: vs, o, _, h => clRow_cells hne vs (o + 1) _ (ownsRow_setCell_other h (a := ⟨b, o, none⟩) hne v)
theorem below_cells {B b : Nat} (hB : B <= b) {W0 : World} : ∀ (vs : List Value) (o : Nat) (W : World), Below B W0 W -> Below B W0 (W.setCells b o vs)
 | [], _, _, h => h
 | v :: vs, o, _, h => below_cells hB vs (o + 1) _ (h.setCell (p := ⟨b, o, none⟩) hB v)
theorem back_mid {B sb : Nat} {w : World} {l : List (List Int)} {s : St} {cV dV pV : Value} (h : SAt B w sb l s cV dV pV) (t : List Int) : SAt B (w.setCells sb 1 (tvl t)) sb l ⟨t, s.decs, s.prf⟩ cV dV pV /\ Below B w (w.setCells sb 1 (tvl t)) := by
 obtain ⟨cs, h1, h2⟩ := h.crow
 obtain ⟨ps, h3, h4⟩ := h.prow
 have hk : Kp B w (w.setCells sb 1 (tvl t)) := kp_cells h.Bsb (by decide) _ _ _ _ h.blk
 refine ⟨⟨?_, h.Bsb, ⟨cs, clRow_cells (ownBlock_ne' h1 h.blk (by decide)) _ _ _ h1, h2.kp hk⟩, ⟨ps, clRow_cells (ownBlock_ne' h3 h.blk (by decide)) _ _ _ h3, h4.kp hk.zero⟩, clRow_cells (ownBlock_ne' h.drow h.blk (by decide)) _ _ _ h.drow, h.apart⟩, below_cells h.Bsb _ _ _ (Below.refl _ _)⟩
 have := set_range h.blk (tvl t) 1 (by simp [tvl_len])
 have e : ([cV] ++ tvl s.told ++ [dV, pV]).take 1 ++ tvl t ++ ([cV] ++ tvl s.told ++ [dV, pV]).drop (1 + (tvl t).length) = [cV] ++ tvl t ++ [dV, pV] := by
  rw [tvl_len, List.append_assoc [cV], List.take_append_of_le_length (by simp), List.drop_append, List.drop_append_of_le_length (by simp [tvl_len])]
  have : (tvl s.told).drop 24 = [] := List.drop_eq_nil_of_le (by rw [tvl_len]; exact Nat.le_refl _)
  simp [this]
 rw [e] at this
 exact this
theorem infoVals' (told : List Int) : (Tryz.prog.info? 146).map (·.size) = some (tvl told).length := by rw [tvl_len]; exact infoVals
theorem one_tvl (told : List Int) : ∀ v ∈ tvl told, v.oneCell' = true := fun v hv => by
 unfold tvl at hv
 obtain ⟨i, _, rfl⟩ := List.mem_map.1 hv
 rfl
theorem back_any (B sb : Nat) (l : List (List Int)) (s : St) (cV dV pV : Value) (ds : List (Int × List Int)) (x : Int) (t : List Int) (hds : s.decs = ds ++ [(x, t)]) (hd : s.decs.length <= 24) (w : World) (h : SAt B w sb l s cV dV pV) :
  Calls Tryz.prog 74 #[.pointer (some ⟨sb, 0, none⟩)] w fun e w' => e = .returned (.tuple #[]) /\ (∃ dV', SAt B w' sb l ⟨t, ds, s.prf⟩ cV dV' pV) /\ Below B w w' := by
 have hrow := h.drow
 rw [hds, dcells_snoc] at hrow
 have hlen : (ds ++ [(x, t)]).length = ds.length + 1 := by simp
 rw [hlen] at hrow
 obtain ⟨g, cap, rfl, hBg, hgl⟩ := hrow.form (by omega)
 have hcap : ds.length + 1 <= cap /\ cap <= 9223372036854775807 := by
  rcases hrow.2 with ⟨e, _⟩ | ⟨g', cap', cur, e, -, -, q1, q2, -⟩
  ·cases e
  ·cases e; unfold maxLen at q2; exact ⟨q1, q2⟩
 have hr : w.rangeAt g (ds.length * 25 + 1) (tvl t) := by
  intro j v hj
  have hj24 : j < 24 := by have := (List.getElem?_eq_some_iff.1 hj).1; rw [tvl_len] at this; exact this
  have := hrow.cellAt (ds.length * 25 + 1 + j) (by omega)
  rw [this, List.getElem?_append_right (by rw [dcells_len]; omega), dcells_len, show ds.length * 25 + 1 + j - ds.length * 25 = j + 1 by omega]
  exact hj
 have hth : w.there sb 1 (tvl t).toArray.size := by
  intro j hj
  have hj24 : j < 24 := by simpa [tvl_len] using hj
  have := h.vals.cell j hj24
  rw [add_plain] at this
  exact ⟨by rw [this]; rfl, h.fz _⟩
 have c25 := h.c25
 obtain ⟨hm, hmb⟩ := back_mid h t
 have m25 := hm.c25
 have mf := hm.fz 25
 have hset := hm.blk.set (i := 25) (v := .slice (some ⟨g, 0, none⟩) ds.length cap)
 rw [set25] at hset
 have hrows := hm.rows 25 (.slice (some ⟨g, 0, none⟩) ds.length cap)
 have hpop : (((w.setCells sb 1 (tvl t)).setCell ⟨sb, 25, none⟩ (.slice (some ⟨g, 0, none⟩) ds.length cap))).ownsRow B 231 25 (.slice (some ⟨g, 0, none⟩) ds.length cap) ds.length (dcells ds) := by
  have := hrows.2.2
  simp only [hds, dcells_snoc, hlen] at this
  exact ownsRow_pop (dcells_len ds) this
 have HS : Hid (SAt B ((w.setCells sb 1 (tvl t)).setCell ⟨sb, 25, none⟩ (.slice (some ⟨g, 0, none⟩) ds.length cap)) sb l ⟨t, ds, s.prf⟩ cV (.slice (some ⟨g, 0, none⟩) ds.length cap) pV) := ⟨hset, hm.Bsb, hrows.1, hrows.2.1, hpop, hm.apart⟩
 have HB : Hid (Below B w ((w.setCells sb 1 (tvl t)).setCell ⟨sb, 25, none⟩ (.slice (some ⟨g, 0, none⟩) ds.length cap))) := hmb.setCell hm.Bsb _
 have hu := Lib.hid Tryz.underlying146
 have hi := Lib.hid (infoVals' t)
 have ho := Lib.hid (all_oneCell_toArray (one_tvl t))
 have HR := Lib.hid hr
 have HTH := Lib.hid hth
 rw [hds, hlen] at hd
 clear h hm hmb hset hrows hpop hr hth hrow hlen hds
 have e1 : (ds.length : Int) + 1 - 1 = (ds.length : Int) := by omega
 generalize tvl t = V at *
 generalize ds.length = n at *
 go_enter Tryz.func74, Tryz.ntmps74
 go_wp2_with (first
  | (refine wpList_load_mid (by rfl) 146 _ (by rfl) g (n * 25 + 1) (by rfl) V _ HR.out hu.out (by rfl) hi.out ?_)
  | (refine wpList_store_mid (by rfl) 146 _ _ (by rfl) sb 1 V.toArray (by rfl) (by rfl) HTH.out (by simpa using hi.out) ho.out ?_)
  | fail)
 refine bodyPost_end (v := .tuple #[]) (by simp [results, Tryz.results74, go_sem]) rfl ?_
 exact ⟨rfl, ⟨_, HS.out⟩, HB.out⟩
end
end Go.Proofs.YtpmpnbbihmgdpaaGreatDoor
