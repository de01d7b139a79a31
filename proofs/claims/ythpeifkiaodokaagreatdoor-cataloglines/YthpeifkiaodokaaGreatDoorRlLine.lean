/- The reference: LineParse. -/
import Derived.Test.YthpeifkiaodokaaGreatDoorRlNext
import Derived.Test.YthpeifkiaodokaaGreatDoorSvRParW
namespace Go.Proofs.YthpeifkiaodokaaGreatDoor
open Go.RowKit Go.Shelf Sv

/-- solspaceref.kinds is laid as the program's text lays it. -/
structure KindsAt (w : World) (ad : Addr) (cap : Nat) : Prop where
  c : w.cell? ⟨1, 0, none⟩ = some (.slice (some ad) 5 cap)
  s : ∀ j, j < 5 → w.cell? (ad.add j) = some (.string ⟨(wl j).toArray⟩)
  lt : 1 < w.heap.size
  la : ad.block < w.heap.size
theorem KindsAt.below {w w' : World} {ad : Addr} {cap : Nat} (h : KindsAt w ad cap) (hb : Below w.heap.size w w') : KindsAt w' ad cap :=
  ⟨(hb.cell (p := ⟨1, 0, none⟩) h.lt).trans h.c, fun j hj => (hb.cell (p := ad.add j) (by rw [addr_block]; exact h.la)).trans (h.s j hj), Nat.lt_of_lt_of_le h.lt hb.size, Nat.lt_of_lt_of_le h.la hb.size⟩
def placeO : Option Nat → Int
  | none => -1
  | some i => (i : Int)
def zeroLn : Ln := ⟨0, ⟨#[]⟩, 0, 0, 0, ⟨#[]⟩, []⟩
def RlOk (x : Ln) (k p : Int) : Except (Int × Option Nat) Ln → Prop
  | .ok y => x = y ∧ k = 0 ∧ p = -1
  | .error (q, o) => x = zeroLn ∧ k = q ∧ p = placeO o
def RlRes (w : World) (r : Except (Int × Option Nat) Ln) (e : Ending) (w' : World) : Prop := ∃ (x : Ln) (a : Option Addr) (c : Nat) (k p : Int), e = .returned (.tuple #[.agg #[.int .i64 x.kind, .string x.name, .int .i64 x.a, .int .i64 x.b, .int .i64 x.c, .string x.other, .slice a (tp x.rng).length c], .agg #[.int .i64 k, .int .i64 p]]) ∧ NsAt w' (.slice a (tp x.rng).length c) (tp x.rng) ∧ Rg x.rng ∧ (∀ g, (Value.slice a (tp x.rng).length c).ownBlock = some g → w.heap.size ≤ g) ∧ Below w.heap.size w w' ∧ RlOk x k p r
/-- RangeParse of a text of any length. -/
theorem rrng_any (s : ByteArray) (W : World) (hs : s.size ≤ 100000) (hw : Lb W) (hF : FineR W) : Calls Tryz.prog 12 #[.string s] W fun e w' => ∃ (l : List Span) (a : Option Addr) (c : Nat) (k p : Int), e = .returned (.tuple #[.slice a (tp l).length c, .agg #[.int .i64 k, .int .i64 p]]) ∧ NsAt w' (.slice a (tp l).length c) (tp l) ∧ Rg l ∧ (∀ g, (Value.slice a (tp l).length c).ownBlock = some g → W.heap.size ≤ g) ∧ Below W.heap.size W w' ∧ (match rngF s with
    | .ok m => l = m ∧ k = 0 ∧ p = -1
    | .error (q, o) => l = [] ∧ k = q ∧ p = placeO o) := by
  unfold rngF
  by_cases h : 1000 < s.size
  · rw [if_pos h]
    exact (rrange_long s W (by omega)).mono fun e w' ⟨he, hb⟩ => ⟨[], none, 0, 4, -1, he, nsAt_nil _, rg_nil, (fun g hg => by simp [Value.ownBlock] at hg), hb, rfl, rfl, rfl⟩
  · rw [if_neg h]
    refine (rrange_any s W (by omega) hw hF).mono fun e w' ⟨m, a, c, k, p, he, h1, h2, h3, h4⟩ => ?_
    cases hx : rangeF s with
    | ok l =>
      rw [hx] at h4
      obtain ⟨rfl, rfl, rfl⟩ := h4
      exact ⟨l, a, c, 0, -1, he, h1, rangeF_rg hx, h2, h3, rfl, rfl, rfl⟩
    | error q =>
      obtain ⟨q1, q2⟩ := q
      rw [hx] at h4
      obtain ⟨rfl, rfl, rfl⟩ := h4
      exact ⟨[], a, c, _, _, he, h1, rg_nil, h2, h3, rfl, rfl, rfl⟩
theorem kind_lt {s : ByteArray} {k : Nat} (hk : 1 ≤ k) (hk4 : k ≤ 4) : ((⟨(wl k).toArray⟩ : ByteArray).toList == s.toList) = decide (kindF s = k) := by
  have e : (⟨(wl k).toArray⟩ : ByteArray).toList = wl k := ByteArray.toList_eq _
  rw [e, Bool.eq_iff_iff, beq_iff_eq, decide_eq_true_iff]
  constructor
  · intro h; exact kindF_at hk hk4 h.symm
  · intro h
    unfold kindF at h
    split at h
    · rename_i h1; subst h; rw [h1]; rfl
    · split at h
      · rename_i h1; subst h; rw [h1]; rfl
      · split at h
        · rename_i h1; subst h; rw [h1]; rfl
        · split at h
          · rename_i h1; subst h; rw [h1]; rfl
          · omega

/-- Inside LineParse: the results' blocks, the line's block. -/
structure LR (w W : World) (b : Nat) (cs : Array Value) : Prop where
  z : Blk W w.heap.size 79 z7
  f : Blk W (w.heap.size + 1) 26 #[.int .i64 0, .int .i64 0]
  x : Blk W b 79 cs
  ne : w.heap.size + 1 < b
  B : Below w.heap.size w W
theorem LR.step {w W W' : World} {b : Nat} {cs : Array Value} (h : LR w W b cs) (hb : Below W.heap.size W W') : LR w W' b cs := ⟨h.z.below hb h.z.lt, h.f.below hb h.f.lt, h.x.below hb h.x.lt, h.ne, h.B.trans (hb.mono h.B.size)⟩
theorem LR.set {w W : World} {b : Nat} {cs : Array Value} (h : LR w W b cs) (i : Nat) (v : Value) : LR w (W.setCell ⟨b, i, none⟩ v) b (cs.setIfInBounds i v) :=
  ⟨h.z.other (by have := h.ne; omega), h.f.other (by have := h.ne; omega), h.x.set, h.ne, h.B.setCell (p := ⟨b, i, none⟩) (by have := h.ne; show w.heap.size ≤ b; omega) _⟩
/-- The results' blocks, written. -/
theorem LR.done {w W : World} {b : Nat} {cs : Array Value} (h : LR w W b cs) (v0 v1 v2 v3 v4 v5 v6 u0 u1 : Value) : ∃ Z, (((((((((W.setCell ⟨w.heap.size, 0, none⟩ v0).setCell ⟨w.heap.size, 1, none⟩ v1).setCell ⟨w.heap.size, 2, none⟩ v2).setCell ⟨w.heap.size, 3, none⟩ v3).setCell ⟨w.heap.size, 4, none⟩ v4).setCell ⟨w.heap.size, 5, none⟩ v5).setCell ⟨w.heap.size, 6, none⟩ v6).setCell ⟨w.heap.size + 1, 0, none⟩ u0).setCell ⟨w.heap.size + 1, 1, none⟩ u1) = Z ∧
    Blk Z w.heap.size 79 #[v0, v1, v2, v3, v4, v5, v6] ∧ Blk Z (w.heap.size + 1) 26 #[u0, u1] ∧ Below w.heap.size w Z ∧ (∀ (v : Value) (l : List Nat), (∀ g, v.ownBlock = some g → w.heap.size + 1 < g) → NsAt W v l → NsAt Z v l) := by
  refine ⟨_, rfl, ?_, ?_, ?_, ?_⟩
  · exact ((((((((h.z.set (i := 0) (v := v0)).set (i := 1) (v := v1)).set (i := 2) (v := v2)).set (i := 3) (v := v3)).set (i := 4) (v := v4)).set (i := 5) (v := v5)).set (i := 6) (v := v6)).other (by omega)).other (by omega)
  · exact (((((((((h.f.other (by omega)).other (by omega)).other (by omega)).other (by omega)).other (by omega)).other (by omega)).other (by omega)).set (i := 0) (v := u0)).set (i := 1) (v := u1))
  · exact ((((((((h.B.setCell (p := ⟨w.heap.size, 0, none⟩) (Nat.le_refl _) _).setCell (p := ⟨w.heap.size, 1, none⟩) (Nat.le_refl _) _).setCell (p := ⟨w.heap.size, 2, none⟩) (Nat.le_refl _) _).setCell (p := ⟨w.heap.size, 3, none⟩) (Nat.le_refl _) _).setCell (p := ⟨w.heap.size, 4, none⟩) (Nat.le_refl _) _).setCell (p := ⟨w.heap.size, 5, none⟩) (Nat.le_refl _) _).setCell (p := ⟨w.heap.size, 6, none⟩) (Nat.le_refl _) _).setCell (p := ⟨w.heap.size + 1, 0, none⟩) (Nat.le_succ _) _).setCell (p := ⟨w.heap.size + 1, 1, none⟩) (Nat.le_succ _) _
  · intro v l hv hn
    refine ⟨hn.form, fun i hi => ?_⟩
    obtain ⟨g, cap, e, hg, hc⟩ := hn.cells i hi
    have hgt := hv g (by rw [e]; rfl)
    refine ⟨g, cap, e, by simp [World.setCell]; exact hg, ?_⟩
    rw [cell_set_other (by omega), cell_set_other (by omega), cell_set_other (by omega), cell_set_other (by omega), cell_set_other (by omega), cell_set_other (by omega), cell_set_other (by omega), cell_set_other (by omega), cell_set_other (by omega)]
    exact hc
def kup (K k : Nat) : Nat := if K < k then K else 0
abbrev x7 (K : Nat) (nm : ByteArray) (a b c : Int) (ot : ByteArray) (r : Value) : Array Value := #[.int .i64 (K : Int), .string nm, .int .i64 a, .int .i64 b, .int .i64 c, .string ot, r]

set_option maxRecDepth 100000 in
set_option maxHeartbeats 4000000 in
theorem rline_none (s : ByteArray) (w : World) (hs : s.size ≤ 100000) (hw : Lb w) (hF : FineR w) (ad : Addr) (cap : Nat) (hK : KindsAt w ad cap) (hk : kindF (cutF s 32).1 = 0) : Calls Tryz.prog 44 #[.string s] w (RlRes w (.error (3, none))) := by
  have k0 := (Blk.new w 79 z7).alloc (.cells #[.int .i64 0, .int .i64 0] 26)
  have k1 := Blk.new (w.alloc (.cells z7 79)) 26 #[.int .i64 0, .int .i64 0]
  rw [World.size_alloc] at k1
  have hB0 : Below w.heap.size w ((w.alloc (.cells z7 79)).alloc (.cells #[.int .i64 0, .int .i64 0] 26)) := ((Below.refl _ w).alloc (Nat.le_refl _) _).alloc (by simp) _
  have HK0 := Lib.hid k0
  have HK1 := Lib.hid k1
  have HB0 := Lib.hid hB0
  have HN1 := Lib.hid (fun W => rnext_any s W hs)
  have hz2 := (cutF_size s 32).2
  have HLW := Lib.hid hw
  have HFN := Lib.hid hF
  have HKD := Lib.hid hK
  obtain ⟨w1, hw1⟩ : ∃ w1, (cutF s 32).1 = w1 := ⟨_, rfl⟩
  obtain ⟨s2, hs2⟩ : ∃ s2, (cutF s 32).2 = s2 := ⟨_, rfl⟩
  rw [hw1] at hk HN1
  rw [hs2] at hz2 HN1
  have hz2' : s2.size ≤ 100000 := by omega
  have HKX : Hid (∀ k, 1 ≤ k → k ≤ 4 → ((⟨(wl k).toArray⟩ : ByteArray).toList == w1.toList) = decide (kindF w1 = k)) := fun k h1 h4 => kind_lt h1 h4
  rw [hk] at HKX

  clear k0 k1 hB0 hw hF hK hz2 hs
  go_enter Tryz.func44, Tryz.ntmps44
  go_wp2_with fail
  generalize (w.alloc (.cells z7 79)).alloc (.cells #[.int .i64 0, .int .i64 0] 26) = W0 at *
  refine (HN1.out _).mono ?_
  rintro e wA ⟨rfl, hbA⟩
  have hx := Blk.new wA 79 z7
  have hA : Below wA.heap.size wA (wA.alloc (.cells z7 79)) := (Below.refl _ _).alloc (Nat.le_refl _) _
  have hA0 : Below W0.heap.size W0 (wA.alloc (.cells z7 79)) := hbA.trans (hA.mono hbA.size)
  have hLR : LR w (wA.alloc (.cells z7 79)) wA.heap.size z7 := ⟨HK0.out.below hA0 HK0.out.lt, HK1.out.below hA0 HK1.out.lt, hx, Nat.lt_of_lt_of_le HK1.out.lt hbA.size, HB0.out.trans (hA0.mono HB0.out.size)⟩
  have HLR := Lib.hid hLR
  clear hbA hx hA hA0 hLR HN1 HK0 HK1 HB0
  go_wp2_with fail
  generalize wA.alloc (.cells z7 79) = W1 at *
  obtain ⟨b, hb⟩ : ∃ b, wA.heap.size = b := ⟨_, rfl⟩
  rw [hb] at HLR ⊢
  clear hb
  go_loopw [7] (fun kV wr => ∃ k : Nat, 1 ≤ k ∧ k ≤ 5 ∧ kV = .int .i64 (k : Int) ∧ LR w wr b (x7 (kup 0 k) ⟨#[]⟩ 0 0 0 ⟨#[]⟩ (.slice none 0 0))) (fun kV _ => 5 - (intOf kV).toNat)
  case atStart => exact ⟨1, by omega, by omega, rfl, by rw [show kup 0 1 = 0 by unfold kup; split <;> omega]; exact HLR.out⟩
  case round =>
    clear HLR
    obtain ⟨k, hk1, hk5, rfl, hLR⟩ := hrel
    have HL := Lib.hid hLR
    clear hLR
    by_cases hlt : k ≤ 4
    · have hkd := HKD.out.below HL.out.B
      have g0 := hkd.c
      have g1 := hkd.s k (by omega)
      have hc := HKX.out k hk1 hlt
      have x0 : wr.cell? ⟨b, 0, none⟩ = some (.int .i64 ((kup 0 k : Nat) : Int)) := HL.out.x.cell 0
      have xf := HL.out.x.frozen 0
      clear hkd
      by_cases he : 0 = k
      · have hst := HL.out.set 0 (.int .i64 (k : Int))
        have HST : Hid (LR w (wr.setCell ⟨b, 0, none⟩ (.int .i64 (k : Int))) b (x7 (kup 0 (k + 1)) ⟨#[]⟩ 0 0 0 ⟨#[]⟩ (.slice none 0 0))) := by
          have e : kup 0 (k + 1) = k := by unfold kup; rw [if_pos (by omega)]; exact he
          rw [e]; exact hst
        rw [decide_eq_true he] at hc
        generalize kup 0 k = KU at *
        generalize (⟨(wl k).toArray⟩ : ByteArray) = WK at *
        clear hst he
        go_wp2
        go_roundw
        case rel => exact ⟨k + 1, by omega, by omega, by go_num, HST.out⟩
        case measure => simp [intOf]; omega
      · have HST : Hid (LR w wr b (x7 (kup 0 (k + 1)) ⟨#[]⟩ 0 0 0 ⟨#[]⟩ (.slice none 0 0))) := by
          have e : kup 0 (k + 1) = kup 0 k := by
            unfold kup
            by_cases h : 0 < k
            · rw [if_pos h, if_pos (by omega)]
            · rw [if_neg h, if_neg (by omega)]
          rw [e]; exact HL.out
        rw [decide_eq_false he] at hc
        generalize kup 0 k = KU at *
        generalize (⟨(wl k).toArray⟩ : ByteArray) = WK at *
        clear he
        go_wp2
        go_roundw
        case rel => exact ⟨k + 1, by omega, by omega, by go_num, HST.out⟩
        case measure => simp [intOf]; omega
    · obtain rfl : k = 5 := by omega
      have hku : kup 0 5 = 0 := by unfold kup; rw [if_pos (by omega)]
      rw [hku] at HL
      clear hku
      have xc0 : wr.cell? ⟨b, 0, none⟩ = some (.int .i64 (0 : Int)) := HL.out.x.cell 0
      have HBR := Lib.hid (refBare 3 wr)

      go_wp2_with fail
      refine HBR.out.mono ?_
      rintro e wE ⟨rfl, hbE⟩
      have hE := HL.out.step hbE
      have zc0 : wE.cell? ⟨w.heap.size, 0, none⟩ = some (.int .i64 0) := hE.z.cell 0
      have zc1 : wE.cell? ⟨w.heap.size, 1, none⟩ = some (.string ⟨#[]⟩) := hE.z.cell 1
      have zc2 : wE.cell? ⟨w.heap.size, 2, none⟩ = some (.int .i64 0) := hE.z.cell 2
      have zc3 : wE.cell? ⟨w.heap.size, 3, none⟩ = some (.int .i64 0) := hE.z.cell 3
      have zc4 : wE.cell? ⟨w.heap.size, 4, none⟩ = some (.int .i64 0) := hE.z.cell 4
      have zc5 : wE.cell? ⟨w.heap.size, 5, none⟩ = some (.string ⟨#[]⟩) := hE.z.cell 5
      have zc6 : wE.cell? ⟨w.heap.size, 6, none⟩ = some (.slice none 0 0) := hE.z.cell 6
      have zf0 := hE.z.frozen 0
      have zf1 := hE.z.frozen 1
      have zf2 := hE.z.frozen 2
      have zf3 := hE.z.frozen 3
      have zf4 := hE.z.frozen 4
      have zf5 := hE.z.frozen 5
      have zf6 := hE.z.frozen 6
      have fc0 : wE.cell? ⟨w.heap.size + 1, 0, none⟩ = some (.int .i64 0) := hE.f.cell 0
      have fc1 : wE.cell? ⟨w.heap.size + 1, 1, none⟩ = some (.int .i64 0) := hE.f.cell 1
      have ff0 := hE.f.frozen 0
      have ff1 := hE.f.frozen 1
      obtain ⟨Z, hZ, qz, qf, qB, -⟩ := hE.done (.int .i64 0) (.string ⟨#[]⟩) (.int .i64 0) (.int .i64 0) (.int .i64 0) (.string ⟨#[]⟩) (.slice none 0 0) (.int .i64 3) (.int .i64 (-1))
      have HZ := Lib.hid hZ
      have HQZ := Lib.hid qz
      have HQF := Lib.hid qf
      have HQB := Lib.hid qB
      clear hZ qz qf qB hE hbE HBR HL
      go_wp2
      clear zc0 zc1 zc2 zc3 zc4 zc5 zc6 zf0 zf1 zf2 zf3 zf4 zf5 zf6 fc0 fc1 ff0 ff1
      rw [HZ.out]
      have r0 := HQZ.out.cell 0
      have r1 := HQZ.out.cell 1
      have r2 := HQZ.out.cell 2
      have r3 := HQZ.out.cell 3
      have r4 := HQZ.out.cell 4
      have r5 := HQZ.out.cell 5
      have r6 := HQZ.out.cell 6
      have s0 := HQF.out.cell 0
      have s1 := HQF.out.cell 1
      refine bodyPost_ret (v := .tuple #[.agg z7, .agg #[.int .i64 3, .int .i64 (-1)]]) (by simp [results, Tryz.results44, go_sem, r0, r1, r2, r3, r4, r5, r6, s0, s1]) rfl ?_
      exact ⟨zeroLn, none, 0, 3, -1, rfl, nsAt_nil _, rg_nil, fun g hg => by simp [Value.ownBlock] at hg, HQB.out, rfl, rfl, rfl⟩
end Go.Proofs.YthpeifkiaodokaaGreatDoor
