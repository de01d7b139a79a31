/- The reference: Told of three numbers, and a version's text. -/
import Derived.Test.YtbohpflbifoohaaGreatDoorSvRepl
import Derived.Test.YtbohpflbifoohaaGreatDoorSvCmpI
namespace Go.Proofs.YtbohpflbifoohaaGreatDoor
open Go.RowKit Go.Shelf Go.Sort Sv

theorem infoStr : (Tryz.prog.info? 9).map (fun i => (i.zero, i.size, i.bytes)) = some (some (.string ⟨#[]⟩), 1, 16) := by kernel_rfl
theorem row1_form {w : World} {base : Nat} {e : TypeId} {v : Value} {n : Nat} {xs : List Value} (h : w.ownsRow base e 1 v n xs) : ∃ a cap, v = .slice a n cap ∧ n ≤ cap := by
  rcases h.2 with ⟨h1, h2⟩ | ⟨g, cap, cur, h1, _, _, h2, _⟩
  · exact ⟨none, 0, by rw [h1, h2], by omega⟩
  · exact ⟨_, cap, h1, h2⟩
theorem row1_below {B n b : Nat} {w w' : World} {v : Value} {t : TypeId} {cs : List Value} (h : w.ownsRow B t 1 v n cs) (hb : Below b w w') (hB : w.heap.size ≤ b) : w'.ownsRow B t 1 v n cs := by
  refine ⟨h.1, ?_⟩
  rcases h.2 with h1 | ⟨g, cap, cur, h1, h2, h3, h4⟩
  · exact .inl h1
  · exact .inr ⟨g, cap, cur, h1, h2, (hb.block g (by have := (h.lt g (by rw [h1]; rfl)).2; omega)).trans h3, h4⟩

/-- What strings.Join is asked for here. -/
def JoinC : Prop := ∀ (bk c : Nat) (x y z : List UInt8) (W : World), x.length ≤ 100 → y.length ≤ 100 → z.length ≤ 100 → bk < W.heap.size → 3 ≤ c →
  W.cell? ⟨bk, 0, none⟩ = some (.string ⟨x.toArray⟩) → W.cell? ⟨bk, 1, none⟩ = some (.string ⟨y.toArray⟩) → W.cell? ⟨bk, 2, none⟩ = some (.string ⟨z.toArray⟩) →
  Calls Tryz.prog 52 #[.slice (some ⟨bk, 0, none⟩) 3 c, .string ⟨#[32]⟩] W fun e w' => e = .returned (.string ⟨(x ++ 32 :: (y ++ 32 :: z)).toArray⟩) ∧ Below W.heap.size W w'
def strs (a b c : Int) : List Value := [.string ⟨(Lib.itoa a).toArray⟩, .string ⟨(Lib.itoa b).toArray⟩, .string ⟨(Lib.itoa c).toArray⟩]
theorem strs_take (a b c : Int) {k : Nat} (hk : k < 3) : (strs a b c).take (k + 1) = (strs a b c).take k ++ [.string ⟨(Lib.itoa (tI a b c k)).toArray⟩] := by
  match k, hk with
  | 0, _ => rfl
  | 1, _ => rfl
  | 2, _ => rfl

set_option maxRecDepth 100000 in
set_option maxHeartbeats 1000000 in
theorem told3_any (HJ : JoinC) (a b c : Int) (ha : -9223372036854775808 ≤ a ∧ a ≤ 9223372036854775807) (hb : -9223372036854775808 ≤ b ∧ b ≤ 9223372036854775807) (hc : -9223372036854775808 ≤ c ∧ c ≤ 9223372036854775807) (bs cp : Nat) (w : World) (hw : Lb w) (hbs : bs < w.heap.size) (h0 : ∀ j, j < 3 → w.cell? ⟨bs, j, none⟩ = some (.int .i64 (tI a b c j))) :
    Calls Tryz.prog 43 #[.slice (some ⟨bs, 0, none⟩) 3 cp] w fun e w' => e = .returned (.string ⟨(Lib.itoa a ++ 32 :: (Lib.itoa b ++ 32 :: Lib.itoa c)).toArray⟩) ∧ Below w.heap.size w w' := by
  obtain ⟨i0, hi, hz0, hz1, hz2⟩ := info_parts infoStr
  have HI : Hid (∀ k, k < 3 → ∀ W, Below w.heap.size w W → Calls Tryz.prog 41 #[.int .i64 (tI a b c k)] W fun e w' => e = .returned (.string ⟨(Lib.itoa (tI a b c k)).toArray⟩) ∧ Below W.heap.size W w') := fun k hk W hB => by
    match k, hk with
    | 0, _ => exact itoa_int a ha W (hw.below hB)
    | 1, _ => exact itoa_int b hb W (hw.below hB)
    | 2, _ => exact itoa_int c hc W (hw.below hB)
  have HST : Hid (∀ k, k < 3 → (strs a b c).take (k + 1) = (strs a b c).take k ++ [.string ⟨(Lib.itoa (tI a b c k)).toArray⟩]) := fun k hk => strs_take a b c hk
  have HJN : Hid (∀ (bk c' : Nat) (W : World), bk < W.heap.size → 3 ≤ c' → (∀ j, j < 3 → W.cell? ⟨bk, j, none⟩ = (strs a b c)[j]?) → Calls Tryz.prog 52 #[.slice (some ⟨bk, 0, none⟩) 3 c', .string ⟨#[32]⟩] W fun e w' => e = .returned (.string ⟨(Lib.itoa a ++ 32 :: (Lib.itoa b ++ 32 :: Lib.itoa c)).toArray⟩) ∧ Below W.heap.size W w') := fun bk c' W h1 h2 h3 => HJ bk c' _ _ _ W (Nat.le_trans (Lib.itoa_length_le a ha.1 ha.2) (by omega)) (Nat.le_trans (Lib.itoa_length_le b hb.1 hb.2) (by omega)) (Nat.le_trans (Lib.itoa_length_le c hc.1 hc.2) (by omega)) h1 h2 (h3 0 (by omega)) (h3 1 (by omega)) (h3 2 (by omega))
  have HC0 : Hid (∀ W, Below w.heap.size w W → ∀ j, j < 3 → W.cell? ⟨bs, j, none⟩ = some (.int .i64 (tI a b c j))) := fun W hB j hj => (hB.cell (p := ⟨bs, j, none⟩) hbs).trans (h0 j hj)
  have HL3 : Hid ((strs a b c).length = 3) := rfl
  clear hw ha hb hc HJ h0
  generalize strs a b c = S at *
  generalize (⟨(Lib.itoa a ++ 32 :: (Lib.itoa b ++ 32 :: Lib.itoa c)).toArray⟩ : ByteArray) = R at *
  generalize tI a b c = X at *
  go_enter Tryz.func43, Tryz.ntmps43
  go_wp2_with fail
  go_loopw [3, 8] (fun v i wr => ∃ k : Nat, k ≤ 3 ∧ i = .int .i64 (k : Int) ∧ wr.ownsRow w.heap.size 9 1 v k (S.take k) ∧ Below w.heap.size w wr) (fun _ i _ => 3 - (intOf i).toNat)
  case atStart => exact ⟨0, by omega, rfl, World.ownsRow_nil _ _ _ _, Below.refl _ _⟩
  case round =>
    obtain ⟨k, hk, rfl, hrow, hbr⟩ := hrel
    obtain ⟨va, vc, rfl, hvc⟩ := row1_form hrow
    have HROW := Lib.hid hrow
    have HBR := Lib.hid hbr
    clear hrow hbr
    by_cases hlt : k < 3
    · have c0 := HC0.out _ HBR.out k hlt
      have HIk := Lib.hid (HI.out k hlt)
      have HSk := Lib.hid (HST.out k hlt)
      generalize X k = x at *
      go_wp2_with fail
      refine (HIk.out _ HBR.out).mono ?_
      rintro e w1 ⟨rfl, hb1⟩
      have hsz := hb1.size
      have hsw := HBR.out.size
      have HR1 := Lib.hid (row1_below HROW.out hb1 (Nat.le_refl _))
      have HB1 : Hid (Below w.heap.size w w1) := HBR.out.trans (hb1.mono HBR.out.size)
      clear hb1 c0
      generalize Lib.itoa x = l at *
      go_wp2_with (at_builtin; refine wpList_append_own _ rfl _ _ 65 rfl w.heap.size 9 i0 (.string ⟨#[]⟩) 1 16 Tryz.underlying65 hi hz0 hz1 hz2 rfl (by decide) _ _ _ rfl (HR1.out.alloc _) ⟨w1.heap.size, 0, none⟩ 1 1 [.string ⟨l.toArray⟩] rfl rfl ?c1 ?c2 ?c3 ?c4 ?c5 ?_)
      case c1 => exact cell_one_new _ _ _
      case c2 => intro u hu; simp at hu; subst hu; rfl
      case c3 => unfold maxLen; omega
      case c4 => omega
      case c5 => simp; omega
      intro v' w2 hown hgrow _
      have hb2 : Below w.heap.size w w2 := (HB1.out.alloc (by omega) _).grown hgrow (by simp; omega) (fun j hj => (HR1.out.lt j hj).1)
      rw [← HSk.out] at hown
      have HO := Lib.hid hown
      have HB2 := Lib.hid hb2
      clear hown hgrow hb2
      go_wp2
      go_roundw
      case rel => exact ⟨k + 1, by omega, by go_num, HO.out, HB2.out⟩
      case measure => simp [intOf]; omega
    · obtain rfl : k = 3 := by omega
      have hr := HROW.out
      rw [List.take_of_length_le (by rw [HL3.out]; omega)] at hr
      rcases hr.2 with ⟨h1, h2⟩ | ⟨g, cap, cur, h1, _⟩
      · exact absurd h2 (by omega)
      · cases h1
        have hcells : ∀ j, j < 3 → wr.cell? ⟨g, j, none⟩ = S[j]? := fun j hj => by
          have := hr.cellAt j hj
          simpa using this
        have HJ3 := Lib.hid (HJN.out g vc wr (hr.lt g rfl).2 hvc hcells)
        clear hr hcells
        go_wp2_with fail
        refine HJ3.out.mono ?_
        rintro e w2 ⟨rfl, hb2⟩
        have HB2 : Hid (Below w.heap.size w w2) := HBR.out.trans (hb2.mono HBR.out.size)
        clear hb2
        go_wp2
        go_ret
        exact ⟨rfl, HB2.out⟩
end Go.Proofs.YtbohpflbifoohaaGreatDoor
