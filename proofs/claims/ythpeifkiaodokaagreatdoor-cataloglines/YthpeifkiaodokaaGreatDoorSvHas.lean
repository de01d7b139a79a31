/- Has. -/
import Derived.Test.YthpeifkiaodokaaGreatDoorSvNum
namespace Go.Proofs.YthpeifkiaodokaaGreatDoor
open Go.RowKit Sv

theorem canon_mono : ∀ {l : List Span} {lo : Nat}, Canon lo l → ∀ i j, i ≤ j → j < l.length → (sp l i).1 ≤ (sp l j).1 ∧ (sp l i).2 ≤ (sp l j).2 := by
  intro l
  induction l with
  | nil => intro lo _ i j _ h; simp at h
  | cons s r ih =>
    intro lo h i j hij hj
    obtain ⟨h1, h2, h3, h4⟩ := h
    cases i with
    | zero =>
      cases j with
      | zero => exact ⟨Nat.le_refl _, Nat.le_refl _⟩
      | succ j =>
        rw [sp_cons_succ]
        have hj' : j < r.length := by simpa using hj
        have := ih h4 0 j (Nat.zero_le _) hj'
        have h0 : s.2 + 1 ≤ (sp r 0).1 ∧ (sp r 0).1 < (sp r 0).2 := by
          cases r with
          | nil => simp at hj'
          | cons t r => exact ⟨h4.1, h4.2.1⟩
        show s.1 ≤ _ ∧ s.2 ≤ _
        omega
    | succ i =>
      cases j with
      | zero => omega
      | succ j => rw [sp_cons_succ, sp_cons_succ]; exact ih h4 i j (by omega) (by simpa using hj)

theorem mem_sp {l : List Span} {n : Nat} : mem l n ↔ ∃ j, j < l.length ∧ (sp l j).1 ≤ n ∧ n < (sp l j).2 := by
  constructor
  · rintro ⟨s, hs, h⟩
    obtain ⟨j, hj, rfl⟩ := List.getElem_of_mem hs
    exact ⟨j, hj, by rw [sp_at l j hj]; exact h⟩
  · rintro ⟨j, hj, h⟩
    rw [sp_at l j hj] at h
    exact ⟨_, List.getElem_mem hj, h⟩
theorem has_spec {l : List Span} (hl : Rg l) {n i : Nat} (hi : i ≤ l.length) (h1 : ∀ j, j < i → (sp l j).2 ≤ n) (h2 : i < l.length → n < (sp l i).2) : mem l n ↔ i < l.length ∧ (sp l i).1 ≤ n := by
  rw [mem_sp]
  constructor
  · rintro ⟨j, hj, h3, h4⟩
    have hij : i ≤ j := by
      rcases Nat.lt_or_ge j i with h | h
      · have := h1 j h; omega
      · exact h
    have := canon_mono hl i j hij hj
    exact ⟨by omega, by omega⟩
  · rintro ⟨h3, h4⟩
    exact ⟨i, h3, h4, h2 h3⟩

set_option maxRecDepth 100000 in
set_option maxHeartbeats 1000000 in
theorem has1_any (l : List Span) (N bn br : Nat) (v : Value) (w : World) (hv : SpAt w v l) (kn : w.cell? ⟨bn, 0, none⟩ = some (.int .i64 (N : Int))) (kr : w.cell? ⟨br, 0, none⟩ = some v) (i : Nat) (hi : i < l.length) :
    Calls Tryz.prog 77 #[.int .i64 (i : Int), .pointer (some ⟨bn, 0, none⟩), .pointer (some ⟨br, 0, none⟩)] w fun e w' => e = .returned (.bool (decide (N < (sp l i).2))) ∧ Below w.heap.size w w' := by
  obtain ⟨g, cap, rfl, hg, c0, c1⟩ := hv.cells i hi
  clear hv
  generalize (sp l i).1 = A at *
  generalize (sp l i).2 = T at *
  have hd : decide ((N : Int) < (T : Int)) = decide (N < T) := by by_cases h : N < T <;> simp [h]
  have HD := Lib.hid hd
  clear hd
  go_enter Tryz.func77, Tryz.ntmps77
  go_wp2_with fail
  go_quiet (fail)
  have hbn : Below w.heap.size w (w.drewN nq) := ⟨rfl, rfl, rfl, Nat.le_refl _, fun _ _ => rfl⟩
  have HBN := Lib.hid hbn
  clear hbn
  go_wp2
  go_ret
  exact ⟨by first | (rw [← HD.out]; rfl) | rfl, HBN.out⟩

set_option maxRecDepth 100000 in
set_option maxHeartbeats 1000000 in
theorem search_any (n : Nat) (hn : n ≤ 500000000) (F : Nat) (cb : Array Value) (p : Nat → Bool) (w : World) (hent : ∀ args w, (callFunc F args).run Tryz.prog w = .ok (.enter F args) w)
    (hf : ∀ W i, Below w.heap.size w W → i < n → Calls Tryz.prog F (#[.int .i64 (i : Int)] ++ cb) W fun e w' => e = .returned (.bool (p i)) ∧ Below W.heap.size W w')
    (hmono : ∀ a b, a ≤ b → b < n → p a = true → p b = true) :
    Calls Tryz.prog 76 #[.int .i64 (n : Int), .func (.func F) #[] cb] w fun e w' => ∃ i : Nat, e = .returned (.int .i64 (i : Int)) ∧ i ≤ n ∧ (∀ j, j < i → p j = false) ∧ (i < n → p i = true) ∧ Below w.heap.size w w' := by
  have HF := Lib.hid hf
  have HM := Lib.hid hmono
  clear hf hmono
  go_enter Tryz.func76, Tryz.ntmps76
  go_wp2_with fail
  go_loopw [5, 6] (fun iV jV wr => ∃ i j : Nat, i ≤ j ∧ j ≤ n ∧ iV = .int .i64 (i : Int) ∧ jV = .int .i64 (j : Int) ∧ (∀ q, q < i → p q = false) ∧ (j < n → p j = true) ∧ Below w.heap.size w wr) (fun iV jV _ => (intOf jV).toNat - (intOf iV).toNat)
  case atStart => exact ⟨0, n, Nat.zero_le _, Nat.le_refl _, rfl, rfl, fun q h => by omega, fun h => by omega, Below.refl _ _⟩
  case round =>
    obtain ⟨i, j, hij, hjn, rfl, rfl, h1, h2, hbr⟩ := hrel
    have H1 := Lib.hid h1
    have H2 := Lib.hid h2
    have HBR := Lib.hid hbr
    clear h1 h2 hbr
    by_cases hlt : i < j
    · have hm : ((i : Int) + (j : Int)) / 2 = (((i + j) / 2 : Nat) : Int) := by omega
      have hmi : i ≤ (i + j) / 2 := by omega
      have hmj : (i + j) / 2 < j := by omega
      have HC := Lib.hid (HF.out _ ((i + j) / 2) HBR.out (by omega))
      generalize (i + j) / 2 = m at *
      cases hp : p m with
      | true =>
        rw [hp] at HC
        have HP := Lib.hid hp
        clear hp
        go_wp2_with fail
        refine HC.out.mono ?_
        rintro e w1 ⟨rfl, hb1⟩
        have HB1 : Hid (Below w.heap.size w w1) := HBR.out.trans (hb1.mono HBR.out.size)
        clear hb1 HC
        go_wp2
        go_roundw
        case rel => exact ⟨i, m, hmi, by omega, rfl, rfl, H1.out, fun _ => HP.out, HB1.out⟩
        case measure => simp [intOf]; omega
      | false =>
        rw [hp] at HC
        have HP := Lib.hid hp
        clear hp
        go_wp2_with fail
        refine HC.out.mono ?_
        rintro e w1 ⟨rfl, hb1⟩
        have HB1 : Hid (Below w.heap.size w w1) := HBR.out.trans (hb1.mono HBR.out.size)
        clear hb1 HC
        go_wp2
        go_roundw
        case rel => exact ⟨m + 1, j, hmj, hjn, by go_num, rfl, (fun q hq => by
          cases hpq : p q with
          | false => rfl
          | true =>
            have := HM.out q m (by omega) (by omega) hpq
            rw [HP.out] at this
            cases this), H2.out, HB1.out⟩
        case measure => simp [intOf]; omega
    · obtain rfl : i = j := by omega
      go_wp2
      go_ret
      exact ⟨i, rfl, hjn, H1.out, H2.out, HBR.out⟩

set_option maxRecDepth 100000 in
theorem ent_has1 : ∀ args w, (callFunc 77 args).run Tryz.prog w = .ok (.enter 77 args) w := by intro args w; kernel_rfl

set_option maxRecDepth 100000 in
theorem idx0 (A B C : Int) (W : World) : (Instr.index 42 (.agg #[.int .i64 A, .int .i64 B, .int .i64 C]) (.int .i64 0)).run Tryz.prog W = .ok (.int .i64 A) W := by kernel_rfl
set_option maxRecDepth 100000 in
theorem idx1 (A B C : Int) (W : World) : (Instr.index 42 (.agg #[.int .i64 A, .int .i64 B, .int .i64 C]) (.int .i64 1)).run Tryz.prog W = .ok (.int .i64 B) W := by kernel_rfl
set_option maxRecDepth 100000 in
theorem idx2 (A B C : Int) (W : World) : (Instr.index 42 (.agg #[.int .i64 A, .int .i64 B, .int .i64 C]) (.int .i64 2)).run Tryz.prog W = .ok (.int .i64 C) W := by kernel_rfl

def numV (a b c : Nat) : Nat := (a * 1000 + b) * 1000 + c

set_option maxRecDepth 100000 in
set_option maxHeartbeats 1000000 in
theorem has_any (l : List Span) (hl : Rg l) (v : Value) (a b c : Nat) (ha : a ≤ 999) (hb : b ≤ 999) (hc : c ≤ 999) (w : World) (hv : SpAt w v l) :
    Calls Tryz.prog 25 #[.agg #[v], .agg #[.int .i64 (a : Int), .int .i64 (b : Int), .int .i64 (c : Int)]] w fun e w' => ∃ B, e = .returned (.bool B) ∧ (B = true ↔ mem l (numV a b c)) ∧ Below w.heap.size w w' := by
  obtain ⟨va, vc, rfl⟩ := hv.form
  have HN : Hid (∀ W, Calls Tryz.prog 75 #[.agg #[.int .i64 (a : Int), .int .i64 (b : Int), .int .i64 (c : Int)]] W fun e w' => e = .returned (.int .i64 (numV a b c : Nat)) ∧ Below W.heap.size W w') := fun W => number_any a b c (by omega) (by omega) (by omega) W
  have hll := rg_len hl
  have HV := Lib.hid hv
  have HL := Lib.hid hl
  clear hv hl
  generalize numV a b c = N at *
  have kr := (Blk.new w 31 #[.slice va l.length vc]).alloc (.cells #[.int .i64 (a : Int), .int .i64 (b : Int), .int .i64 (c : Int)] 42)
  have kv := Blk.new (w.alloc (.cells #[.slice va l.length vc] 31)) 42 #[.int .i64 (a : Int), .int .i64 (b : Int), .int .i64 (c : Int)]
  rw [World.size_alloc] at kv
  have hB0 : Below w.heap.size w ((w.alloc (.cells #[.slice va l.length vc] 31)).alloc (.cells #[.int .i64 (a : Int), .int .i64 (b : Int), .int .i64 (c : Int)] 42)) := ((Below.refl _ w).alloc (Nat.le_refl _) _).alloc (by simp only [World.size_alloc]; omega) _
  have HKR := Lib.hid kr
  have HKV := Lib.hid kv
  have HB0 := Lib.hid hB0
  clear kr kv hB0
  go_enter Tryz.func25, Tryz.ntmps25
  go_wp2_with fail
  generalize (w.alloc (.cells #[.slice va l.length vc] 31)).alloc (.cells #[.int .i64 (a : Int), .int .i64 (b : Int), .int .i64 (c : Int)] 42) = W0 at *
  have ia : (a : Int) ≤ 999 := by omega
  have ib : (b : Int) ≤ 999 := by omega
  have ic : (c : Int) ≤ 999 := by omega
  go_loop [10] (fun i => ∃ k : Nat, k ≤ 3 ∧ i = .int .i64 (k : Int)) (fun i => 3 - (intOf i).toNat)
  case atStart => exact ⟨0, by omega, rfl⟩
  case round =>
    obtain ⟨k, hk, rfl⟩ := hrel
    match k, hk with
    | 0, _ =>
      have hix := idx0 (a : Int) (b : Int) (c : Int) W0
      go_wp2
      go_round
      case rel => exact ⟨1, by omega, rfl⟩
      case measure => simp [intOf]
    | 1, _ =>
      have hix := idx1 (a : Int) (b : Int) (c : Int) W0
      go_wp2
      go_round
      case rel => exact ⟨2, by omega, rfl⟩
      case measure => simp [intOf]
    | 2, _ =>
      have hix := idx2 (a : Int) (b : Int) (c : Int) W0
      go_wp2
      go_round
      case rel => exact ⟨3, by omega, rfl⟩
      case measure => simp [intOf]
    | 3, _ =>
      have d0 : W0.cell? ⟨w.heap.size + 1, 0, none⟩ = some (.int .i64 (a : Int)) := HKV.out.cell 0
      have d1 : W0.cell? ⟨w.heap.size + 1, 1, none⟩ = some (.int .i64 (b : Int)) := HKV.out.cell 1
      have d2 : W0.cell? ⟨w.heap.size + 1, 2, none⟩ = some (.int .i64 (c : Int)) := HKV.out.cell 2
      go_wp2_with fail
      refine (HN.out _).mono ?_
      rintro e w1 ⟨rfl, hb1⟩
      have k1 := HKR.out.below hb1 HKR.out.lt
      have kn := Blk.new w1 3 #[.int .i64 (N : Int)]
      have k2 := k1.alloc (.cells #[.int .i64 (N : Int)] 3)
      have hb01 : Below w.heap.size w w1 := HB0.out.trans (hb1.mono HB0.out.size)
      have hb02 := hb01.alloc hb01.size (.cells #[.int .i64 (N : Int)] 3)
      have q1 : (w1.alloc (.cells #[.int .i64 (N : Int)] 3)).cell? ⟨w.heap.size, 0, none⟩ = some (.slice va l.length vc) := k2.cell 0
      have HKN := Lib.hid kn
      have HK2 := Lib.hid k2
      have HB02 := Lib.hid hb02
      clear d0 d1 d2 hb1 k1 kn k2 hb01 hb02
      have hl1 : w.heap.size < (w1.alloc (.cells #[.int .i64 (N : Int)] 3)).heap.size := HK2.out.lt
      have hl2 : w1.heap.size < (w1.alloc (.cells #[.int .i64 (N : Int)] 3)).heap.size := HKN.out.lt
      have HS := Lib.hid (search_any l.length hll 77 #[.pointer (some ⟨w1.heap.size, 0, none⟩), .pointer (some ⟨w.heap.size, 0, none⟩)] (fun i => decide (N < (sp l i).2)) (w1.alloc (.cells #[.int .i64 (N : Int)] 3)) ent_has1
        (fun W i hW hi => has1_any l N w1.heap.size w.heap.size (.slice va l.length vc) W (HV.out.below (HB02.out.trans (hW.mono HB02.out.size)) (Nat.le_refl _)) ((HKN.out.below hW hl2).cell 0) ((HK2.out.below hW hl1).cell 0) i hi)
        (fun x y hxy hy hx => by
          simp only [decide_eq_true_eq] at hx ⊢
          have := (canon_mono HL.out x y hxy hy).2
          omega))
      go_wp2_with fail
      generalize w1.alloc (.cells #[.int .i64 (N : Int)] 3) = W2 at *
      refine HS.out.mono ?_
      rintro e w3 ⟨i, rfl, hi, hbef, hat, hb3⟩
      have hspec := has_spec HL.out (n := N) hi (fun j hj => by have := hbef j hj; simpa using this) (fun h => by have := hat h; simpa using this)
      have k3 := HK2.out.below hb3 hl1
      have kn3 := HKN.out.below hb3 hl2
      have q3 : w3.cell? ⟨w.heap.size, 0, none⟩ = some (.slice va l.length vc) := k3.cell 0
      have q4 : w3.cell? ⟨w1.heap.size, 0, none⟩ = some (.int .i64 (N : Int)) := kn3.cell 0
      have hb03 : Below w.heap.size w w3 := HB02.out.trans (hb3.mono HB02.out.size)
      have HSP := Lib.hid hspec
      have HB03 := Lib.hid hb03
      clear HS hbef hat hspec hb3 hb03 k3 kn3 q1 hl1 hl2
      by_cases hil : i < l.length
      · obtain ⟨g, cap', e1, hg, c0, c1⟩ := (HV.out.below HB03.out (Nat.le_refl _)).cells i hil
        simp at e1
        obtain ⟨rfl, rfl⟩ := e1
        have HS2 : Hid (mem l N ↔ (sp l i).1 ≤ N) := by show _ ↔ _; rw [HSP.out]; exact ⟨fun h => h.2, fun h => ⟨hil, h⟩⟩
        clear HSP
        generalize (sp l i).1 = A at *
        generalize (sp l i).2 = T at *
        go_wp2_with fail
        go_quiet (fail)
        have hbn : Below w.heap.size w (w3.drewN nq) := ⟨HB03.out.os, HB03.out.tape, HB03.out.output, HB03.out.size, HB03.out.block⟩
        have HBN := Lib.hid hbn
        clear hbn
        go_wp2
        go_ret
        refine ⟨_, rfl, ?_, HBN.out⟩
        rw [HS2.out]
        simp
      · have HS2 : Hid (¬ mem l N) := by show ¬ _; rw [HSP.out]; exact fun h => hil h.1
        clear HSP
        go_wp2_with fail
        go_quiet (fail)
        have hbn : Below w.heap.size w (w3.drewN nq) := ⟨HB03.out.os, HB03.out.tape, HB03.out.output, HB03.out.size, HB03.out.block⟩
        have HBN := Lib.hid hbn
        clear hbn
        go_wp2
        go_ret
        refine ⟨false, rfl, ⟨(fun h => by cases h), fun h => absurd h HS2.out⟩, HBN.out⟩
end Go.Proofs.YthpeifkiaodokaaGreatDoor
