/- Follow, as the reference has it. -/
import Derived.Test.YtcmmoinkhodjfaaDoorPfFollow
import Derived.Test.YtcmmoinkhodjfaaDoorPfRRes
import Derived.Test.YtcmmoinkhodjfaaDoorClRCheck
namespace Go.Proofs.YtcmmoinkhodjfaaDoor
open Go.RowKit Go.Deep

def GetAns (K : List (List Int)) (n : Int) (e : Ending) (w : World) : Prop :=
  ((0 ≤ n ∧ n < (K.length : Int)) ∧ ∃ a c, e = .returned (.tuple #[.slice a (K.getD n.toNat []).length c, .bool true]) ∧ IntsIn w a (K.getD n.toNat []) ∧ (K.getD n.toNat []).length ≤ c ∧ c ≤ 9223372036854775807) ∨
  (¬ (0 ≤ n ∧ n < (K.length : Int)) ∧ e = .returned (.tuple #[.slice none 0 0, .bool false]))
set_option maxRecDepth 100000 in
set_option maxHeartbeats 1000000 in
theorem get_any (n : Int) (l o : List (List Int)) (la oa : Option Addr) (lc oc : Nat) (b1 b2 : Nat) (w : World) (hc1 : w.cell? ⟨b1, 0, none⟩ = some (.slice la l.length lc)) (hc2 : w.cell? ⟨b2, 0, none⟩ = some (.slice oa o.length oc)) (hL : ClsIn w la l) (hO : ClsIn w oa o) (h1 : l.length ≤ 200) (h2 : o.length ≤ 1100) :
    Calls Tryd.prog 32 #[.int .i64 n, .pointer (some ⟨b1, 0, none⟩), .pointer (some ⟨b2, 0, none⟩)] w fun e w' => GetAns (l ++ o) n e w ∧ w = w' := by
  have HL := Lib.hid hL
  have HO := Lib.hid hO
  have HLEN : Hid ((l ++ o).length = l.length + o.length) := List.length_append
  clear hL hO
  by_cases h0 : 0 ≤ n
  · by_cases h3 : n < (l.length : Int) + (o.length : Int)
    · obtain ⟨k, rfl⟩ : ∃ k : Nat, n = (k : Int) := ⟨n.toNat, by omega⟩
      have HIN : Hid (0 ≤ (k : Int) ∧ (k : Int) < ((l ++ o).length : Int)) := ⟨h0, by rw [HLEN.out]; omega⟩
      by_cases h4 : k < l.length
      · obtain ⟨ad, a', cap', rfl, q1, q2, q3, q4, q5⟩ := HL.out k h4
        have eg : (l ++ o).getD ((k : Int)).toNat [] = l.getD k [] := by rw [show ((k : Int)).toNat = k by omega, List.getD_eq_getElem?_getD, List.getElem?_append_left h4, ← List.getD_eq_getElem?_getD]
        have HEG := Lib.hid eg
        have HQ5 := Lib.hid q5
        generalize l.getD k [] = c at *
        clear eg q5
        go_enter Tryd.func32, Tryd.ntmps32
        go_wp2
        go_ret2
        refine ⟨Or.inl ⟨HIN.out, a', cap', ?_⟩, rfl⟩
        rw [HEG.out]
        exact ⟨rfl, HQ5.out, q3, q4⟩
      · obtain ⟨j, rfl⟩ : ∃ j, k = l.length + j := ⟨k - l.length, by omega⟩
        have hj : j < o.length := by omega
        obtain ⟨ad, a', cap', rfl, q1, q2, q3, q4, q5⟩ := HO.out j hj
        have eg : (l ++ o).getD (((l.length + j : Nat) : Int)).toNat [] = o.getD j [] := by
          rw [show (((l.length + j : Nat) : Int)).toNat = l.length + j by omega, List.getD_eq_getElem?_getD, List.getElem?_append_right (by omega), Nat.add_sub_cancel_left, ← List.getD_eq_getElem?_getD]
        have HEG := Lib.hid eg
        have HQ5 := Lib.hid q5
        have esub : ((l.length + j : Nat) : Int) - (l.length : Int) = (j : Int) := by omega
        generalize o.getD j [] = c at *
        clear eg q5
        go_enter Tryd.func32, Tryd.ntmps32
        go_wp2
        go_ret2
        refine ⟨Or.inl ⟨HIN.out, a', cap', ?_⟩, rfl⟩
        rw [HEG.out]
        exact ⟨rfl, HQ5.out, q3, q4⟩
    · have HIN : Hid (¬ (0 ≤ n ∧ n < ((l ++ o).length : Int))) := fun h => h3 (by have := h.2; rw [HLEN.out] at this; omega)
      go_enter Tryd.func32, Tryd.ntmps32
      go_wp2
      go_ret2
      exact ⟨Or.inr ⟨HIN.out, rfl⟩, rfl⟩
  · have HIN : Hid (¬ (0 ≤ n ∧ n < ((l ++ o).length : Int))) := fun h => h0 h.1
    go_enter Tryd.func32, Tryd.ntmps32
    go_wp2
    go_ret2
    exact ⟨Or.inr ⟨HIN.out, rfl⟩, rfl⟩

/-- The boxes, and what follows so far. -/
structure RF (l : List (List Int)) (st : List Stp) (w wr : World) (a1 : Option Addr) (c1 : Nat) (i : Nat) (oV : Value) (o : List (List Int)) : Prop where
  bl : Blk wr w.heap.size 37 #[.slice a1 l.length c1]
  bf : Blk wr (w.heap.size + 1) 41 #[.int .i64 0, .int .i64 0]
  bo : Blk wr (w.heap.size + 2) 37 #[oV]
  row : ∃ cs, wr.ownsRow w.heap.size 23 1 oV o.length cs ∧ ClsK 0 wr cs o
  fol : folK l st i = some (l ++ o)
  below : Below w.heap.size w wr
section
variable {l : List (List Int)} {st : List Stp} {w wr w' : World} {a1 : Option Addr} {c1 i : Nat} {oV : Value} {o : List (List Int)}
theorem clsK_more {B : Nat} {cs : List Value} {l : List (List Int)} (h : ClsK 0 wr cs l) : ClsK B wr cs l := ⟨h.1, fun i hi => by
  obtain ⟨a, cap, h1, h2, h3, h4⟩ := h.2 i hi
  exact ⟨a, cap, h1, h2, h3, h4.more⟩⟩
theorem RF.kb (h : RF l st w wr a1 c1 i oV o) : KB w.heap.size wr oV o := by
  obtain ⟨cs, h1, h2⟩ := h.row
  exact ⟨⟨cs, h1, clsK_more h2⟩⟩
theorem RF.new (h : RF l st w wr a1 c1 i oV o) (hb : Below wr.heap.size wr w') : RF l st w w' a1 c1 i oV o :=
  ⟨h.bl.below hb h.bl.lt, h.bf.below hb h.bf.lt, h.bo.below hb h.bo.lt, (by obtain ⟨cs, h1, h2⟩ := h.row; exact ⟨cs, row_new' h1 hb, h2.kp (Kp.new hb)⟩), h.fol, h.below.trans (hb.mono h.below.size)⟩
theorem RF.start (w : World) (l : List (List Int)) (st : List Stp) (a1 : Option Addr) (c1 : Nat) : RF l st w (((w.alloc (.cells #[.slice a1 l.length c1] 37)).alloc (.cells #[.int .i64 0, .int .i64 0] 41)).alloc (.cells #[.slice none 0 0] 37)) a1 c1 0 (.slice none 0 0) [] := by
  have b1 := ((Blk.new w 37 #[.slice a1 l.length c1]).alloc (.cells #[.int .i64 0, .int .i64 0] 41)).alloc (.cells #[.slice none 0 0] 37)
  have b2 := (Blk.new (w.alloc (.cells #[.slice a1 l.length c1] 37)) 41 #[.int .i64 0, .int .i64 0]).alloc (.cells #[.slice none 0 0] 37)
  have b3 := Blk.new ((w.alloc (.cells #[.slice a1 l.length c1] 37)).alloc (.cells #[.int .i64 0, .int .i64 0] 41)) 37 #[.slice none 0 0]
  rw [World.size_alloc] at b2
  rw [World.size_alloc, World.size_alloc] at b3
  exact ⟨b1, b2, b3, ⟨[], World.ownsRow_nil _ _ _ _, ClsK.nil⟩, by rw [List.append_nil]; rfl, ((below_new w _).alloc (by simp) _).alloc (by simp; omega) _⟩
theorem blk_grown {b : Nat} {t : TypeId} {cs : Array Value} {B n : Nat} {v : Value} {ys : List Value} (hb : Blk wr b t cs) (hr : wr.ownsRow B 23 1 v n ys) (hg : wr.grownBy w' v.ownBlock) (ht : t ≠ 23) : Blk w' b t cs :=
  (hg.block b hb.lt (fun e => ownBlock_ne' hr hb ht e.symm)).trans hb
theorem RF.app {cs : List Value} {v7 : Value} {a : Option Addr} {cap : Nat} {c : List Int} (h : RF l st w wr a1 c1 i oV o) (ob : Obj) (hrow : wr.ownsRow w.heap.size 23 1 oV o.length cs) (hck : ClsK 0 wr cs o) (hown : w'.ownsRow w.heap.size 23 1 v7 (o.length + 1) (cs ++ [.slice a c.length cap])) (hg : (wr.alloc ob).grownBy w' oV.ownBlock) (hc1 : c.length ≤ cap) (hc2 : cap ≤ 9223372036854775807) (hi : IntsK 0 wr a c) (hf : folK l st (i + 1) = some (l ++ (o ++ [c]))) :
    RF l st w (w'.setCell ⟨w.heap.size + 2, 0, none⟩ v7) a1 c1 (i + 1) v7 (o ++ [c]) ∧ Blk w' (w.heap.size + 2) 37 #[oV] := by
  have hbn := below_new wr ob
  have hn := h.new hbn
  have hr2 := row_new' hrow hbn
  have hk := Kp.grown (B := 0) (ownsRow_base hr2 (Nat.zero_le _)) hg (by decide)
  have e1 := blk_grown hn.bl hr2 hg (by decide)
  have e2 := blk_grown hn.bf hr2 hg (by decide)
  have e3 := blk_grown hn.bo hr2 hg (by decide)
  have q2 := ((hck.kp (Kp.new hbn)).kp hk).snoc hc1 hc2 ((hi.kp (Kp.new hbn)).kp hk)
  have q1 : w'.ownsRow w.heap.size 23 1 v7 (o ++ [c]).length (cs ++ [.slice a c.length cap]) := by simpa using hown
  refine ⟨⟨(Below.heap_setCell _ _ _ _ (by show w.heap.size ≠ w.heap.size + 2; omega)).trans e1, (Below.heap_setCell _ _ _ _ (by show w.heap.size + 1 ≠ w.heap.size + 2; omega)).trans e2, e3.set (i := 0), ⟨_, ownsRow_setCell_other q1 (a := ⟨w.heap.size + 2, 0, none⟩) (ownBlock_ne' q1 e3 (by decide)) v7, q2.kp (Kp.set (Nat.zero_le _) e3 (by decide))⟩, hf, ?_⟩, e3⟩
  exact (hn.below.grown hg hn.below.size (fun k hk => (hr2.lt k hk).1)).setCell (by show w.heap.size ≤ w.heap.size + 2; omega) _
end
theorem fol_short {l : List (List Int)} {st : List Stp} (hl : ∀ c ∈ l, c.length ≤ 48) : ∀ {k : Nat} {K : List (List Int)}, folK l st k = some K → ∀ c ∈ K, c.length ≤ 48
  | 0, K, h => by
    simp [folK] at h
    subst h
    exact hl
  | k + 1, K, h => by
    unfold folK at h
    cases hk : folK l st k with
    | none => rw [hk] at h; cases h
    | some K' =>
      rw [hk] at h
      simp only at h
      split at h
      · simp only [Option.some.injEq] at h
        subst h
        intro c hc
        rcases List.mem_append.1 hc with hc | hc
        · exact fol_short hl hk c hc
        · rw [List.mem_singleton] at hc
          subst hc
          have := step_len (K := K') (s := st.getD k ⟨0, 0, 0⟩)
          omega
      · cases h
/-- The fault, laid into its box. -/
theorem bf_put {W : World} {b : Nat} {m p : Int} (hk : Blk W b 41 #[.int .i64 0, .int .i64 0]) : (W.cell? ⟨b, 0, none⟩ = some (.int .i64 0) ∧ W.frozen? ⟨b, 0, none⟩ = false) ∧ ((W.setCell ⟨b, 0, none⟩ (.int .i64 m)).cell? ⟨b, 1, none⟩ = some (.int .i64 0) ∧ (W.setCell ⟨b, 0, none⟩ (.int .i64 m)).frozen? ⟨b, 1, none⟩ = false) ∧ ((W.setCell ⟨b, 0, none⟩ (.int .i64 m)).setCell ⟨b, 1, none⟩ (.int .i64 p)).cell? ⟨b, 0, none⟩ = some (.int .i64 m) ∧ ((W.setCell ⟨b, 0, none⟩ (.int .i64 m)).setCell ⟨b, 1, none⟩ (.int .i64 p)).cell? ⟨b, 1, none⟩ = some (.int .i64 p) := by
  have hk2 := hk.set (i := 0) (v := .int .i64 m)
  have hk3 := hk2.set (i := 1) (v := .int .i64 p)
  exact ⟨⟨hk.cell 0, hk.frozen 0⟩, ⟨hk2.cell 1, hk2.frozen 1⟩, hk3.cell 0, hk3.cell 1⟩
theorem KB.put {w : World} {kV v : Value} {ks : List (List Int)} {b j : Nat} {t : TypeId} {cs : Array Value} (h : KB 0 w kV ks) (hb : Blk w b t cs) (h1 : t ≠ 3) (h2 : t ≠ 23) : KB 0 (w.setCell ⟨b, j, none⟩ v) kV ks := by
  obtain ⟨cs', q1, q2⟩ := h.row
  exact ⟨⟨cs', ownsRow_setCell_other q1 (a := ⟨b, j, none⟩) (ownBlock_ne' q1 hb h2) v, q2.kp (Kp.set (Nat.zero_le _) hb h1)⟩⟩
def RFolAns (l : List (List Int)) (st : List Stp) (e : Ending) (w' : World) : Prop :=
  (1000 < st.length ∧ e = .returned (.tuple #[.slice none 0 0, .agg #[.int .i64 4, .int .i64 (-1)]])) ∨
  (st.length ≤ 1000 ∧ ∃ m p o, FolR l st m p o ∧ ∃ a c, e = .returned (.tuple #[.slice a o.length c, .agg #[.int .i64 m, .int .i64 p]]) ∧ KB 0 w' (.slice a o.length c) o)

set_option maxRecDepth 100000 in
set_option maxHeartbeats 1000000 in
theorem rfollow_any (l : List (List Int)) (st : List Stp) (h200 : l.length ≤ 200) (h48 : ∀ c ∈ l, c.length ≤ 48) (a1 a2 : Option Addr) (c1 c2 : Nat) (w : World) (hI : ClsIn w a1 l) (hI2 : StpsIn w a2 st) (hm2 : st.length ≤ 9223372036854775807) (hF : Fine w) :
    Calls Tryd.prog 16 #[.slice a1 l.length c1, .slice a2 st.length c2] w fun e w' => RFolAns l st e w' ∧ Below w.heap.size w w' := by
  have HI := Lib.hid hI
  have HI2 := Lib.hid hI2
  have HF := Lib.hid hF
  have HST := Lib.hid (RF.start w l st a1 c1)
  clear hI hI2 hF
  by_cases h5 : 1000 < st.length
  · have hb0 : Below w.heap.size w ((w.alloc (.cells #[.slice a1 l.length c1] 37)).alloc (.cells #[.int .i64 0, .int .i64 0] 41)) := (below_new w _).alloc (by simp) _
    have hbf := Blk.new (w.alloc (.cells #[.slice a1 l.length c1] 37)) 41 #[.int .i64 0, .int .i64 0]
    rw [World.size_alloc] at hbf
    have HBF := Lib.hid hbf
    have HB0 := Lib.hid hb0
    have HBA := Lib.hid (refBare 4 ((w.alloc (.cells #[.slice a1 l.length c1] 37)).alloc (.cells #[.int .i64 0, .int .i64 0] 41)))
    clear hb0 hbf HST
    go_enter Tryd.func16, Tryd.ntmps16
    go_wp2_with fail
    refine HBA.out.mono ?_
    rintro e w1 ⟨rfl, hb1⟩
    have hk := HBF.out.below hb1 HBF.out.lt
    have k0 := (hk.cell 0).trans (show _ = some (Value.int .i64 0) from rfl)
    have f0 := hk.frozen 0
    have hk2 := hk.set (i := 0) (v := .int .i64 4)
    have k1 := (hk2.cell 1).trans (show _ = some (Value.int .i64 0) from rfl)
    have f1 := hk2.frozen 1
    have hk3 := hk2.set (i := 1) (v := .int .i64 (-1))
    have e0 := (hk3.cell 0).trans (show _ = some (Value.int .i64 4) from rfl)
    have e1 := (hk3.cell 1).trans (show _ = some (Value.int .i64 (-1)) from rfl)
    have HBX : Hid (Below w.heap.size w ((w1.setCell ⟨w.heap.size + 1, 0, none⟩ (.int .i64 4)).setCell ⟨w.heap.size + 1, 1, none⟩ (.int .i64 (-1)))) := ((HB0.out.trans (hb1.mono HB0.out.size)).setCell (by show w.heap.size ≤ w.heap.size + 1; omega) _).setCell (by show w.heap.size ≤ w.heap.size + 1; omega) _
    clear hb1 hk hk2 hk3 HBA HBF
    go_wp2
    refine bodyPost_ret (v := .tuple #[.slice none 0 0, .agg #[.int .i64 4, .int .i64 (-1)]]) (by simp [results, Tryd.results16, go_sem, e0, e1]) rfl ?_
    exact ⟨Or.inl ⟨h5, rfl⟩, HBX.out⟩
  · have HL5 : Hid (st.length ≤ 1000) := by show st.length ≤ 1000; omega
    go_enter Tryd.func16, Tryd.ntmps16
    go_wp2_with fail
    go_loopw [23] (fun iV wr => ∃ (i : Nat) (oV : Value) (o : List (List Int)), i ≤ st.length ∧ iV = .int .i64 (i : Int) ∧ RF l st w wr a1 c1 i oV o) (fun iV _ => st.length - (intOf iV).toNat)
    case atStart => exact ⟨0, _, _, Nat.zero_le _, rfl, HST.out⟩
    case round =>
      obtain ⟨i, oV, o, hi, rfl, hrf⟩ := hrel
      obtain ⟨wo, rfl⟩ : ∃ wo, wo = wr := ⟨_, rfl⟩
      obtain ⟨oa, oc, rfl, ho1, ho2⟩ := hrf.kb.form
      have HRF := Lib.hid hrf
      have hol : o.length = i := by
        have := (folK_len hrf.fol).1
        rw [List.length_append] at this
        omega
      have hob : o.length ≤ 1000 := by omega
      have HOL := Lib.hid hol
      clear hrf HST hol
      by_cases hlt : i < st.length
      · obtain ⟨ad, rfl, hst⟩ := HI2.out.below HRF.out.below i hlt
        have k0 := hst.c0
        have k1 := hst.c1
        have k2 := hst.c2
        have HSP := Lib.hid (folK_step (st := st) HRF.out.fol)
        have HBAD : Hid ((stepK (l ++ o) (st.getD i ⟨0, 0, 0⟩)).1 ≠ 0 → FolR l st (stepK (l ++ o) (st.getD i ⟨0, 0, 0⟩)).1 (i : Int) []) := fun h => .bad hlt HRF.out.fol h
        generalize hs : (st.getD i ⟨0, 0, 0⟩) = s at *
        obtain ⟨sa, sb, sv⟩ := s
        simp only at *
        have hbn := below_new wo (.cells #[.int .i64 sa, .int .i64 sb, .int .i64 sv] 46)
        have hbs := Blk.new wo 46 #[.int .i64 sa, .int .i64 sb, .int .i64 sv]
        have HF2 := Lib.hid (HRF.out.new hbn)
        obtain ⟨bs, hbse⟩ : ∃ bs, bs = wo.heap.size := ⟨_, rfl⟩
        obtain ⟨W1, hW1⟩ : ∃ W1, W1 = wo.alloc (.cells #[.int .i64 sa, .int .i64 sb, .int .i64 sv] 46) := ⟨_, rfl⟩
        rw [← hW1] at HF2 hbs
        rw [← hbse] at hbs
        have HBS := Lib.hid hbs
        have HW1 := Lib.hid hW1
        have HBSE := Lib.hid hbse
        have HG1 := Lib.hid (get_any sa l o a1 oa c1 oc w.heap.size (w.heap.size + 2) W1 (HF2.out.bl.cell 0) (HF2.out.bo.cell 0) (HI.out.below HF2.out.below) HF2.out.kb.cls h200 (by omega))
        have HG2 := Lib.hid (get_any sb l o a1 oa c1 oc w.heap.size (w.heap.size + 2) W1 (HF2.out.bl.cell 0) (HF2.out.bo.cell 0) (HI.out.below HF2.out.below) HF2.out.kb.cls h200 (by omega))
        clear hs hbn hst hbs hW1 hbse HRF
        go_wp2_with fail
        rw [← HW1.out, ← HBSE.out]
        clear HW1 HBSE k0 k1 k2
        refine HG1.out.mono ?_
        rintro e w2 ⟨hga, rfl⟩
        have s0 := (HBS.out.cell 0).trans (show _ = some (Value.int .i64 sa) from rfl)
        have s1 := (HBS.out.cell 1).trans (show _ = some (Value.int .i64 sb) from rfl)
        have s2 := (HBS.out.cell 2).trans (show _ = some (Value.int .i64 sv) from rfl)
        rcases hga with ⟨hra, pa, pc, rfl, hpi, hp1, hp2⟩ | ⟨hra, rfl⟩
        · obtain ⟨P, hP⟩ : ∃ P, (l ++ o).getD sa.toNat [] = P := ⟨_, rfl⟩
          rw [hP] at hpi hp1 ⊢
          have HP := Lib.hid hP
          have HPI := Lib.hid hpi
          have HRA := Lib.hid hra
          clear hP
          clear hpi hra HG1
          go_wp2_with fail
          refine HG2.out.mono ?_
          rintro e w2 ⟨hgb, rfl⟩
          rcases hgb with ⟨hrb, qa, qc, rfl, hqi, hq1, hq2⟩ | ⟨hrb, rfl⟩
          · obtain ⟨R, hR⟩ : ∃ R, (l ++ o).getD sb.toNat [] = R := ⟨_, rfl⟩
            rw [hR] at hqi hq1 ⊢
            have HEQ : Hid (stepK (l ++ o) ⟨sa, sb, sv⟩ = resF P R sv) := by
              show _ = _
              unfold stepK
              rw [if_pos ⟨HRA.out.1, HRA.out.2, hrb.1, hrb.2⟩, HP.out, hR]
            have hsh := fol_short h48 HF2.out.fol
            have hsa : P.length ≤ 48 := by rw [← HP.out]; exact hsh _ (getD_mem (by have := HRA.out; omega))
            have hsb : R.length ≤ 48 := by rw [← hR]; exact hsh _ (getD_mem (by omega))
            have hsl := step_len (K := l ++ o) (s := ⟨sa, sb, sv⟩)
            have HRR := Lib.hid (rresolve_any P R sv pa qa pc qc W1 HPI.out (by omega) hqi (by omega))
            rw [HEQ.out] at HSP HBAD hsl
            generalize resF P R sv = r at *
            obtain ⟨r1, r2⟩ := r
            simp only at *
            have hws1 := HF2.out.below.size
            clear hsh hqi hrb HRA HPI HG2 HEQ hR HP
            go_wp2_with fail
            refine HRR.out.mono ?_
            rintro e w3 ⟨⟨ra, rc, rfl, hrow⟩, hb3⟩
            have HF3 := Lib.hid (HF2.out.new hb3)
            obtain ⟨ra2, rc2, hre, hr1, hr2⟩ := row_form hrow
            injection hre with e1 e2 e3
            subst e1 e3
            have HIK := Lib.hid (row_ints hrow)
            clear hb3 HRR HF2 hrow s0 s1 s2 HBS
            simp only at *
            by_cases h0 : r1 = 0
            · subst h0
              have HFS := Lib.hid (HSP.out rfl)
              obtain ⟨cs, hcs, hck⟩ := HF3.out.row
              obtain ⟨ic, hic, hc0, hc1, hc2⟩ := info_parts infoCls
              have HCS := Lib.hid hcs
              have HCK := Lib.hid hck
              have hws3 := HF3.out.below.size
              have b0 := (HF3.out.bo.cell 0).trans (show _ = some (.slice oa o.length oc) from rfl)
              clear hcs hck HSP HBAD
              go_wp2_with (first | (at_builtin; refine wpList_append_own_at _ rfl _ _ 37 rfl w.heap.size 23 ic (.slice none 0 0) 1 24 Tryd.underlying37 hic hc0 hc1 hc2 rfl (by decide) _ _ _ rfl (HCS.out.alloc _) ⟨w3.heap.size, 0, none⟩ 1 1 [.slice ra r2.length rc] rfl rfl ?c1 ?c2 ?c3 ?c4 ?c5 ?_))
              all_goals try exact kclit _ _ _
              case c2 => first | rfl | exact kcone _ _ _
              case c3 => unfold maxLen; omega
              case c4 => omega
              case c5 => first | omega | (simp; omega)
              intro v7 w7 hown7 hgrow7 _ _
              obtain ⟨hx7, hb7⟩ := HF3.out.app _ HCS.out HCK.out hown7 hgrow7 hr1 hr2 HIK.out (by rw [HFS.out, List.append_assoc])
              have HX := Lib.hid hx7
              have q0 := (hb7.cell 0).trans (show _ = some (.slice oa o.length oc) from rfl)
              have g0 := hb7.frozen 0
              obtain ⟨va, vc, rfl, -, -⟩ := hx7.kb.form
              clear hown7 hgrow7 hx7 hb7 b0
              go_wp2
              go_roundw
              case rel => exact ⟨i + 1, .slice va (o.length + 1) vc, o ++ [r2], hlt, by go_num, by have h := HX.out; rw [List.length_append, List.length_singleton] at h; exact h⟩
              case measure => simp [intOf]; omega
            · have hrz : (r1 != 0) = true := by simpa using h0
              have HB := Lib.hid (HBAD.out h0)
              have HBX : Hid (Below w.heap.size w ((w3.setCell ⟨w.heap.size + 1, 0, none⟩ (.int .i64 r1)).setCell ⟨w.heap.size + 1, 1, none⟩ (.int .i64 (i : Int)))) := (HF3.out.below.setCell (by show w.heap.size ≤ w.heap.size + 1; omega) _).setCell (by show w.heap.size ≤ w.heap.size + 1; omega) _
              obtain ⟨⟨k0, f0⟩, ⟨k1, f1⟩, e0, e1⟩ := bf_put (m := r1) (p := (i : Int)) HF3.out.bf
              clear HSP HBAD HF3 HIK
              go_wp2
              refine bodyPost_ret (v := .tuple #[.slice none 0 0, .agg #[.int .i64 r1, .int .i64 (i : Int)]]) (by simp [results, Tryd.results16, go_sem, e0, e1]) rfl ?_
              exact ⟨Or.inr ⟨HL5.out, r1, (i : Int), [], HB.out, none, 0, rfl, KB.nil _ _⟩, HBX.out⟩
          · have HEQ : Hid (stepK (l ++ o) ⟨sa, sb, sv⟩ = (2, [])) := by
              show _ = _
              unfold stepK
              rw [if_neg (fun h => hrb ⟨h.2.2.1, h.2.2.2⟩)]
            have HB : Hid (FolR l st 2 (i : Int) []) := by
              have := HBAD.out (by rw [HEQ.out]; decide)
              rw [HEQ.out] at this
              exact this
            have HBX : Hid (Below w.heap.size w ((W1.setCell ⟨w.heap.size + 1, 0, none⟩ (.int .i64 2)).setCell ⟨w.heap.size + 1, 1, none⟩ (.int .i64 (i : Int)))) := (HF2.out.below.setCell (by show w.heap.size ≤ w.heap.size + 1; omega) _).setCell (by show w.heap.size ≤ w.heap.size + 1; omega) _
            obtain ⟨⟨k0, f0⟩, ⟨k1, f1⟩, e0, e1⟩ := bf_put (m := 2) (p := (i : Int)) HF2.out.bf
            clear HSP HBAD HF2 HG2 HEQ hrb HRA HPI
            go_wp2
            refine bodyPost_ret (v := .tuple #[.slice none 0 0, .agg #[.int .i64 2, .int .i64 (i : Int)]]) (by simp [results, Tryd.results16, go_sem, e0, e1]) rfl ?_
            exact ⟨Or.inr ⟨HL5.out, 2, (i : Int), [], HB.out, none, 0, rfl, KB.nil _ _⟩, HBX.out⟩
        · have HEQ : Hid (stepK (l ++ o) ⟨sa, sb, sv⟩ = (2, [])) := by
            show _ = _
            unfold stepK
            rw [if_neg (fun h => hra ⟨h.1, h.2.1⟩)]
          have HB : Hid (FolR l st 2 (i : Int) []) := by
            have := HBAD.out (by rw [HEQ.out]; decide)
            rw [HEQ.out] at this
            exact this
          clear hra HG1
          go_wp2_with fail
          refine HG2.out.mono ?_
          rintro e w2 ⟨hgb, rfl⟩
          obtain ⟨qv, qb, rfl⟩ : ∃ qv qb, e = .returned (.tuple #[qv, .bool qb]) := by
            rcases hgb with ⟨_, qa, qc, h, _⟩ | ⟨_, h⟩ <;> exact ⟨_, _, h⟩
          have HBX : Hid (Below w.heap.size w ((W1.setCell ⟨w.heap.size + 1, 0, none⟩ (.int .i64 2)).setCell ⟨w.heap.size + 1, 1, none⟩ (.int .i64 (i : Int)))) := (HF2.out.below.setCell (by show w.heap.size ≤ w.heap.size + 1; omega) _).setCell (by show w.heap.size ≤ w.heap.size + 1; omega) _
          obtain ⟨⟨k0, f0⟩, ⟨k1, f1⟩, e0, e1⟩ := bf_put (m := 2) (p := (i : Int)) HF2.out.bf
          clear HSP HBAD HF2 HG2 HEQ hgb
          go_wp2
          refine bodyPost_ret (v := .tuple #[.slice none 0 0, .agg #[.int .i64 2, .int .i64 (i : Int)]]) (by simp [results, Tryd.results16, go_sem, e0, e1]) rfl ?_
          exact ⟨Or.inr ⟨HL5.out, 2, (i : Int), [], HB.out, none, 0, rfl, KB.nil _ _⟩, HBX.out⟩
      · obtain rfl : i = st.length := by omega
        have HGD : Hid (FolR l st 0 (-1) o) := .good HRF.out.fol
        have b0 := (HRF.out.bo.cell 0).trans (show _ = some (.slice oa o.length oc) from rfl)
        have hFi := HF.out.below HRF.out.below
        have y0 := hFi.c0
        have y1 := hFi.c1
        obtain ⟨⟨k0, f0⟩, ⟨k1, f1⟩, e0, e1⟩ := bf_put (m := 0) (p := -1) HRF.out.bf
        have HCI : Hid (KB 0 ((wo.setCell ⟨w.heap.size + 1, 0, none⟩ (.int .i64 0)).setCell ⟨w.heap.size + 1, 1, none⟩ (.int .i64 (-1))) (.slice oa o.length oc) o) := by
          obtain ⟨cs, q1, q2⟩ := HRF.out.row
          exact (KB.put (KB.put ⟨⟨cs, ownsRow_base q1 (Nat.zero_le _), q2⟩⟩ HRF.out.bf (by decide) (by decide)) (HRF.out.bf.set (i := 0)) (by decide) (by decide))
        have HBX : Hid (Below w.heap.size w ((wo.setCell ⟨w.heap.size + 1, 0, none⟩ (.int .i64 0)).setCell ⟨w.heap.size + 1, 1, none⟩ (.int .i64 (-1)))) := (HRF.out.below.setCell (by show w.heap.size ≤ w.heap.size + 1; omega) _).setCell (by show w.heap.size ≤ w.heap.size + 1; omega) _
        have HE0 := Lib.hid e0
        have HE1 := Lib.hid e1
        go_wp2_with fail
        go_region
        go_wp2
        have E0 := HE0.out
        have E1 := HE1.out
        refine bodyPost_ret (v := .tuple #[.slice oa o.length oc, .agg #[.int .i64 0, .int .i64 (-1)]]) (by simp [results, Tryd.results16, go_sem, E0, E1]) rfl ?_
        exact ⟨Or.inr ⟨HL5.out, 0, -1, o, HGD.out, oa, oc, rfl, HCI.out.new (Below.refl _ _).drew⟩, HBX.out.drew⟩
end Go.Proofs.YtcmmoinkhodjfaaDoor
