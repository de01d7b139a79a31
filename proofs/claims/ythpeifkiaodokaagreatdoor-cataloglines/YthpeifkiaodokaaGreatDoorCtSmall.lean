/- pair, kind. -/
import Derived.Test.YthpeifkiaodokaaGreatDoorCtMem
import Derived.Test.YthpeifkiaodokaaGreatDoorErTell
namespace Go.Proofs.YthpeifkiaodokaaGreatDoor
open Go.RowKit Sv

set_option maxRecDepth 100000 in
set_option maxHeartbeats 1000000 in
theorem pair_any (x : Ln) (v : Value) (w : World) :
    Calls Tryz.prog 87 #[.agg #[.int .i64 x.kind, .string x.name, .int .i64 x.a, .int .i64 x.b, .int .i64 x.c, .string x.other, v]] w fun e w' => e = .returned (.bool (decide x.pair)) ∧ w' = w.alloc (.cells #[.int .i64 x.kind, .string x.name, .int .i64 x.a, .int .i64 x.b, .int .i64 x.c, .string x.other, v] 76) := by
  have hd : decide x.pair = (decide (x.kind = 2) || decide (x.kind = 3)) := by
    by_cases h2 : x.kind = 2 <;> by_cases h3 : x.kind = 3 <;> simp [Ln.pair, h2, h3]
  rw [hd]
  clear hd
  generalize x.kind = k
  by_cases h2 : k = 2
  · subst h2
    go_enter Tryz.func87, Tryz.ntmps87
    go_wp2
    go_ret
    exact ⟨rfl, rfl⟩
  · by_cases h3 : k = 3
    · subst h3
      go_enter Tryz.func87, Tryz.ntmps87
      go_wp2
      go_ret
      exact ⟨rfl, rfl⟩
    · have e2 : (k == 2) = false := by simpa using h2
      have e3 : (k == 3) = false := by simpa using h3
      have HD : Hid ((decide (k = 2) || decide (k = 3)) = false) := by show _ = _; simp [h2, h3]
      go_enter Tryz.func87, Tryz.ntmps87
      go_wp2
      go_ret
      exact ⟨by rw [HD.out]; rfl, rfl⟩

/-- The words that lines begin with. -/
def wl : Nat → List UInt8
  | 1 => [112, 97, 99, 107, 97, 103, 101]
  | 2 => [110, 101, 101, 100, 115]
  | 3 => [99, 108, 97, 115, 104, 101, 115]
  | 4 => [114, 111, 111, 116]
  | _ => []
structure WordsAt (w : World) : Prop where
  c0 : w.cell? ⟨2, 0, none⟩ = some (.string ⟨#[]⟩)
  c1 : w.cell? ⟨2, 1, none⟩ = some (.string ⟨#[112, 97, 99, 107, 97, 103, 101]⟩)
  c2 : w.cell? ⟨2, 2, none⟩ = some (.string ⟨#[110, 101, 101, 100, 115]⟩)
  c3 : w.cell? ⟨2, 3, none⟩ = some (.string ⟨#[99, 108, 97, 115, 104, 101, 115]⟩)
  c4 : w.cell? ⟨2, 4, none⟩ = some (.string ⟨#[114, 111, 111, 116]⟩)
theorem WordsAt.below {B : Nat} {w w' : World} (h : WordsAt w) (hb : Below B w w') (hB : 2 < B) : WordsAt w' :=
  ⟨(hb.cell (p := ⟨2, 0, none⟩) hB).trans h.c0, (hb.cell (p := ⟨2, 1, none⟩) hB).trans h.c1, (hb.cell (p := ⟨2, 2, none⟩) hB).trans h.c2, (hb.cell (p := ⟨2, 3, none⟩) hB).trans h.c3, (hb.cell (p := ⟨2, 4, none⟩) hB).trans h.c4⟩

abbrev wordsV : Value := .agg #[.string ⟨#[]⟩, .string ⟨#[112, 97, 99, 107, 97, 103, 101]⟩, .string ⟨#[110, 101, 101, 100, 115]⟩, .string ⟨#[99, 108, 97, 115, 104, 101, 115]⟩, .string ⟨#[114, 111, 111, 116]⟩]
set_option maxRecDepth 100000 in
theorem wix (W : World) : (Instr.index 202 wordsV (.int .i64 0)).run Tryz.prog W = .ok (.string ⟨#[]⟩) W ∧ (Instr.index 202 wordsV (.int .i64 1)).run Tryz.prog W = .ok (.string ⟨#[112, 97, 99, 107, 97, 103, 101]⟩) W ∧ (Instr.index 202 wordsV (.int .i64 2)).run Tryz.prog W = .ok (.string ⟨#[110, 101, 101, 100, 115]⟩) W ∧ (Instr.index 202 wordsV (.int .i64 3)).run Tryz.prog W = .ok (.string ⟨#[99, 108, 97, 115, 104, 101, 115]⟩) W ∧ (Instr.index 202 wordsV (.int .i64 4)).run Tryz.prog W = .ok (.string ⟨#[114, 111, 111, 116]⟩) W := by
  refine ⟨?_, ?_, ?_, ?_, ?_⟩ <;> kernel_rfl

theorem kindF_at {s : ByteArray} {k : Nat} (hk : 1 ≤ k) (hk4 : k ≤ 4) (h : s.toList = wl k) : kindF s = k := by
  match k, hk, hk4, h with
  | 1, _, _, h => unfold kindF; rw [h]; rfl
  | 2, _, _, h => unfold kindF; rw [h]; rfl
  | 3, _, _, h => unfold kindF; rw [h]; rfl
  | 4, _, _, h => unfold kindF; rw [h]; rfl
theorem kindF_none {s : ByteArray} (h : s.toList = [] ∨ ∀ j, j < 5 → s.toList ≠ wl j) : kindF s = 0 := by
  rcases h with h | h
  · unfold kindF; rw [h]; rfl
  · unfold kindF
    have h1 : s.toList ≠ [112, 97, 99, 107, 97, 103, 101] := h 1 (by omega)
    have h2 : s.toList ≠ [110, 101, 101, 100, 115] := h 2 (by omega)
    have h3 : s.toList ≠ [99, 108, 97, 115, 104, 101, 115] := h 3 (by omega)
    have h4 : s.toList ≠ [114, 111, 111, 116] := h 4 (by omega)
    rw [if_neg h1, if_neg h2, if_neg h3, if_neg h4]

set_option maxRecDepth 100000 in
set_option maxHeartbeats 1000000 in
theorem kind_any (s : ByteArray) (w : World) (hw : WordsAt w) :
    Calls Tryz.prog 99 #[.string s] w fun e w' => e = .returned (.int .i64 (kindF s : Nat)) ∧ w' = w := by
  obtain ⟨c0, c1, c2, c3, c4⟩ := hw
  go_enter Tryz.func99, Tryz.ntmps99
  go_wp2_with fail
  clear c0 c1 c2 c3 c4
  go_loop [6] (fun i => ∃ k : Nat, k ≤ 5 ∧ i = .int .i64 (k : Int) ∧ ∀ j, j < k → s.toList ≠ wl j) (fun i => 5 - (intOf i).toNat)
  case atStart => exact ⟨0, by omega, rfl, fun j h => by omega⟩
  case round =>
    obtain ⟨k, hk, rfl, hne⟩ := hrel
    obtain ⟨x0, x1, x2, x3, x4⟩ := wix w
    have HNE := Lib.hid hne
    clear hne
    by_cases h5 : k = 5
    · subst h5
      have HK : Hid (kindF s = 0) := kindF_none (Or.inr HNE.out)
      go_wp2
      go_ret
      exact ⟨by rw [HK.out]; rfl, rfl⟩
    · have h4 : k < 5 := by omega
      clear h5 hk
      by_cases hs : s.toList = wl k
      · have HK : Hid (kindF s = k) := by
          show _ = _
          by_cases h0 : k = 0
          · subst h0; exact kindF_none (Or.inl hs)
          · exact kindF_at (by omega) (by omega) hs
        match k, h4 with
        | 0, _ =>
          have hb : (([] : List UInt8) == s.toList) = true := by rw [hs]; rfl
          have hb2 : s.toList.isEmpty = true := by rw [hs]; rfl
          clear hs
          go_wp2
          go_ret
          exact ⟨by rw [HK.out]; rfl, rfl⟩
        | 1, _ =>
          have hb : ([112, 97, 99, 107, 97, 103, 101] == s.toList) = true := by rw [hs]; rfl
          clear hs
          go_wp2
          go_ret
          exact ⟨by rw [HK.out]; rfl, rfl⟩
        | 2, _ =>
          have hb : ([110, 101, 101, 100, 115] == s.toList) = true := by rw [hs]; rfl
          clear hs
          go_wp2
          go_ret
          exact ⟨by rw [HK.out]; rfl, rfl⟩
        | 3, _ =>
          have hb : ([99, 108, 97, 115, 104, 101, 115] == s.toList) = true := by rw [hs]; rfl
          clear hs
          go_wp2
          go_ret
          exact ⟨by rw [HK.out]; rfl, rfl⟩
        | 4, _ =>
          have hb : ([114, 111, 111, 116] == s.toList) = true := by rw [hs]; rfl
          clear hs
          go_wp2
          go_ret
          exact ⟨by rw [HK.out]; rfl, rfl⟩
      · have HN2 : Hid (∀ j, j < k + 1 → s.toList ≠ wl j) := fun j hj => by
          rcases Nat.lt_succ_iff_lt_or_eq.1 hj with h | h
          · exact HNE.out j h
          · rw [h]; exact hs
        have hs' : (wl k == s.toList) = false := by rw [beq_eq_false_iff_ne]; exact fun e => hs e.symm
        clear hs
        match k, h4 with
        | 0, _ =>
          have hb : (([] : List UInt8) == s.toList) = false := hs'
          have hb2 : s.toList.isEmpty = false := by
            cases h : s.toList with
            | nil => rw [h] at hb; cases hb
            | cons a t => rfl
          clear hs'
          go_wp2
          go_round
          case rel => exact ⟨1, by omega, rfl, HN2.out⟩
          case measure => simp [intOf]
        | 1, _ =>
          have hb : ([112, 97, 99, 107, 97, 103, 101] == s.toList) = false := hs'
          clear hs'
          go_wp2
          go_round
          case rel => exact ⟨2, by omega, rfl, HN2.out⟩
          case measure => simp [intOf]
        | 2, _ =>
          have hb : ([110, 101, 101, 100, 115] == s.toList) = false := hs'
          clear hs'
          go_wp2
          go_round
          case rel => exact ⟨3, by omega, rfl, HN2.out⟩
          case measure => simp [intOf]
        | 3, _ =>
          have hb : ([99, 108, 97, 115, 104, 101, 115] == s.toList) = false := hs'
          clear hs'
          go_wp2
          go_round
          case rel => exact ⟨4, by omega, rfl, HN2.out⟩
          case measure => simp [intOf]
        | 4, _ =>
          have hb : ([114, 111, 111, 116] == s.toList) = false := hs'
          clear hs'
          go_wp2
          go_round
          case rel => exact ⟨5, by omega, rfl, HN2.out⟩
          case measure => simp [intOf]
end Go.Proofs.YthpeifkiaodokaaGreatDoor
