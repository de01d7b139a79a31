/- A catalog, plain: lines, what there is, and its clauses. -/
import Derived.Test.YtpmpnbbihmgdpaaGreatDoorSvNum
import Derived.Test.YtpmpnbbihmgdpaaGreatDoorSvSigned
import Derived.Test.YtpmpnbbihmgdpaaGreatDoorSvCuts
import Derived.Sort.Grow
import Derived.Test.YtpmpnbbihmgdpaaGreatDoorCtName
import Derived.Lib.IndexMore
set_option maxHeartbeats 1000000
set_option maxRecDepth 100000
namespace Go.Proofs.YtpmpnbbihmgdpaaGreatDoor
section
open Go.RowKit Sv
theorem canon_mono : ∀ {l : List Span} {lo : Nat}, Canon lo l -> ∀ i j, i <= j -> j < l.length -> (sp l i).1 <= (sp l j).1 /\ (sp l i).2 <= (sp l j).2 := by
 intro l
 induction l with
 | nil => intro lo _ i j _ h; simp at h
 | cons s r ih =>
  intro lo h i j hij hj
  obtain ⟨h1, h2, h3, h4⟩ := h
  cases i with
  | zero =>
   cases j with
   | zero => exact ⟨Nat.le_refl _, Nat.le_refl _⟩
   | succ j =>
    rw [sp_cons_succ]
    have hj' : j < r.length := by simpa using hj
    have := ih h4 0 j (Nat.zero_le _) hj'
    have h0 : s.2 + 1 <= (sp r 0).1 /\ (sp r 0).1 < (sp r 0).2 := by
     cases r with
     | nil => simp at hj'
     | cons t r => exact ⟨h4.1, h4.2.1⟩
    show s.1 <= _ /\ s.2 <= _
    omega
  | succ i =>
   cases j with
   | zero => omega
   | succ j => rw [sp_cons_succ, sp_cons_succ]; exact ih h4 i j (by omega) (by simpa using hj)
theorem mem_sp {l : List Span} {n : Nat} : mem l n ↔ ∃ j, j < l.length /\ (sp l j).1 <= n /\ n < (sp l j).2 := by
 constructor
 ·rintro ⟨s, hs, h⟩
  obtain ⟨j, hj, rfl⟩ := List.getElem_of_mem hs
  exact ⟨j, hj, by rw [sp_at l j hj]; exact h⟩
 ·rintro ⟨j, hj, h⟩
  rw [sp_at l j hj] at h
  exact ⟨_, List.getElem_mem hj, h⟩
theorem has_spec {l : List Span} (hl : Rg l) {n i : Nat} (hi : i <= l.length) (h1 : ∀ j, j < i -> (sp l j).2 <= n) (h2 : i < l.length -> n < (sp l i).2) : mem l n ↔ i < l.length /\ (sp l i).1 <= n := by
 rw [mem_sp]
 constructor
 ·rintro ⟨j, hj, h3, h4⟩
  have hij : i <= j := by
   rcases Nat.lt_or_ge j i with h | h
   ·have := h1 j h; omega
   ·exact h
  have := canon_mono hl i j hij hj
  exact ⟨by omega, by omega⟩
 ·rintro ⟨h3, h4⟩
  exact ⟨i, h3, h4, h2 h3⟩
theorem has1_any (l : List Span) (N bn br : Nat) (v : Value) (w : World) (hv : SpAt w v l) (kn : w.cell? ⟨bn, 0, none⟩ = some (.int .i64 (N : Int))) (kr : w.cell? ⟨br, 0, none⟩ = some v) (i : Nat) (hi : i < l.length) :
  Calls Tryz.prog 152 #[.int .i64 (i : Int), .pointer (some ⟨bn, 0, none⟩), .pointer (some ⟨br, 0, none⟩)] w fun e w' => e = .returned (.bool (decide (N < (sp l i).2))) /\ Below w.heap.size w w' := by
 obtain ⟨g, cap, rfl, hg, c0, c1⟩ := hv.cells i hi
 clear hv
 generalize (sp l i).1 = A at *
 generalize (sp l i).2 = T at *
 have hd : decide ((N : Int) < (T : Int)) = decide (N < T) := by by_cases h : N < T <;> simp [h]
 have HD := Lib.hid hd
 clear hd
 go_enter Tryz.func152, Tryz.ntmps152
 go_wp2_with fail
 go_quiet (fail)
 have hbn : Below w.heap.size w (w.drewN nq) := ⟨rfl, rfl, rfl, Nat.le_refl _, fun _ _ => rfl⟩
 have HBN := Lib.hid hbn
 clear hbn
 go_wp2
 go_ret
 exact ⟨by first | (rw [<- HD.out]; rfl) | rfl, HBN.out⟩
theorem search_any (n : Nat) (hn : n <= 500000000) (F : Nat) (cb : Array Value) (p : Nat -> Bool) (w : World) (hent : ∀ args w, (callFunc F args).run Tryz.prog w = .ok (.enter F args) w)
  (hf : ∀ W i, Below w.heap.size w W -> i < n -> Calls Tryz.prog F (#[.int .i64 (i : Int)] ++ cb) W fun e w' => e = .returned (.bool (p i)) /\ Below W.heap.size W w')
  (hmono : ∀ a b, a <= b -> b < n -> p a = true -> p b = true) :
  Calls Tryz.prog 151 #[.int .i64 (n : Int), .func (.func F) #[] cb] w fun e w' => ∃ i : Nat, e = .returned (.int .i64 (i : Int)) /\ i <= n /\ (∀ j, j < i -> p j = false) /\ (i < n -> p i = true) /\ Below w.heap.size w w' := by
 have HF := Lib.hid hf
 have HM := Lib.hid hmono
 clear hf hmono
 go_enter Tryz.func151, Tryz.ntmps151
 go_wp2_with fail
 go_loopw [5, 6] (fun iV jV wr => ∃ i j : Nat, i <= j /\ j <= n /\ iV = .int .i64 (i : Int) /\ jV = .int .i64 (j : Int) /\ (∀ q, q < i -> p q = false) /\ (j < n -> p j = true) /\ Below w.heap.size w wr) (fun iV jV _ => (intOf jV).toNat - (intOf iV).toNat)
 case atStart => exact ⟨0, n, Nat.zero_le _, Nat.le_refl _, rfl, rfl, fun q h => by omega, fun h => by omega, Below.refl _ _⟩
 case round =>
  obtain ⟨i, j, hij, hjn, rfl, rfl, h1, h2, hbr⟩ := hrel
  have H1 := Lib.hid h1
  have H2 := Lib.hid h2
  have HBR := Lib.hid hbr
  clear h1 h2 hbr
  by_cases hlt : i < j
  ·have hm : ((i : Int) + (j : Int)) / 2 = (((i + j) / 2 : Nat) : Int) := by omega
   have hmi : i <= (i + j) / 2 := by omega
   have hmj : (i + j) / 2 < j := by omega
   have HC := Lib.hid (HF.out _ ((i + j) / 2) HBR.out (by omega))
   generalize (i + j) / 2 = m at *
   cases hp : p m with
   | true =>
    rw [hp] at HC
    have HP := Lib.hid hp
    clear hp
    go_wp2_with fail
    refine HC.out.mono ?_
    rintro e w1 ⟨rfl, hb1⟩
    have HB1 : Hid (Below w.heap.size w w1) := HBR.out.trans (hb1.mono HBR.out.size)
    clear hb1 HC
    go_wp2
    go_roundw
    case rel => exact ⟨i, m, hmi, by omega, rfl, rfl, H1.out, fun _ => HP.out, HB1.out⟩
    case measure => simp [intOf]; omega
   | false =>
    rw [hp] at HC
    have HP := Lib.hid hp
    clear hp
    go_wp2_with fail
    refine HC.out.mono ?_
    rintro e w1 ⟨rfl, hb1⟩
    have HB1 : Hid (Below w.heap.size w w1) := HBR.out.trans (hb1.mono HBR.out.size)
    clear hb1 HC
    go_wp2
    go_roundw
    case rel => exact ⟨m + 1, j, hmj, hjn, by go_num, rfl, (fun q hq => by
     cases hpq : p q with
     | false => rfl
     | true =>
      have := HM.out q m (by omega) (by omega) hpq
      rw [HP.out] at this
      cases this), H2.out, HB1.out⟩
    case measure => simp [intOf]; omega
  ·obtain rfl : i = j := by omega
   go_wp2
   go_ret
   exact ⟨i, rfl, hjn, H1.out, H2.out, HBR.out⟩
theorem ent_has1 : ∀ args w, (callFunc 152 args).run Tryz.prog w = .ok (.enter 152 args) w := by intro args w; kernel_rfl
theorem idx0 (A B C : Int) (W : World) : (Instr.index 23 (.agg #[.int .i64 A, .int .i64 B, .int .i64 C]) (.int .i64 0)).run Tryz.prog W = .ok (.int .i64 A) W := by kernel_rfl
theorem idx1 (A B C : Int) (W : World) : (Instr.index 23 (.agg #[.int .i64 A, .int .i64 B, .int .i64 C]) (.int .i64 1)).run Tryz.prog W = .ok (.int .i64 B) W := by kernel_rfl
theorem idx2 (A B C : Int) (W : World) : (Instr.index 23 (.agg #[.int .i64 A, .int .i64 B, .int .i64 C]) (.int .i64 2)).run Tryz.prog W = .ok (.int .i64 C) W := by kernel_rfl
def numV (a b c : Nat) : Nat := (a * 1000 + b) * 1000 + c
theorem has_any (l : List Span) (hl : Rg l) (v : Value) (a b c : Nat) (ha : a <= 999) (hb : b <= 999) (hc : c <= 999) (w : World) (hv : SpAt w v l) :
  Calls Tryz.prog 98 #[.agg #[v], .agg #[.int .i64 (a : Int), .int .i64 (b : Int), .int .i64 (c : Int)]] w fun e w' => ∃ B, e = .returned (.bool B) /\ (B = true ↔ mem l (numV a b c)) /\ Below w.heap.size w w' := by
 obtain ⟨va, vc, rfl⟩ := hv.form
 have HN : Hid (∀ W, Calls Tryz.prog 150 #[.agg #[.int .i64 (a : Int), .int .i64 (b : Int), .int .i64 (c : Int)]] W fun e w' => e = .returned (.int .i64 (numV a b c : Nat)) /\ Below W.heap.size W w') := fun W => number_any a b c (by omega) (by omega) (by omega) W
 have hll := rg_len hl
 have HV := Lib.hid hv
 have HL := Lib.hid hl
 clear hv hl
 generalize numV a b c = N at *
 have kr := (Blk.new w 96 #[.slice va l.length vc]).alloc (.cells #[.int .i64 (a : Int), .int .i64 (b : Int), .int .i64 (c : Int)] 23)
 have kv := Blk.new (w.alloc (.cells #[.slice va l.length vc] 96)) 23 #[.int .i64 (a : Int), .int .i64 (b : Int), .int .i64 (c : Int)]
 rw [World.size_alloc] at kv
 have hB0 : Below w.heap.size w ((w.alloc (.cells #[.slice va l.length vc] 96)).alloc (.cells #[.int .i64 (a : Int), .int .i64 (b : Int), .int .i64 (c : Int)] 23)) := ((Below.refl _ w).alloc (Nat.le_refl _) _).alloc (by simp only [World.size_alloc]; omega) _
 have HKR := Lib.hid kr
 have HKV := Lib.hid kv
 have HB0 := Lib.hid hB0
 clear kr kv hB0
 go_enter Tryz.func98, Tryz.ntmps98
 go_wp2_with fail
 generalize (w.alloc (.cells #[.slice va l.length vc] 96)).alloc (.cells #[.int .i64 (a : Int), .int .i64 (b : Int), .int .i64 (c : Int)] 23) = W0 at *
 have ia : (a : Int) <= 999 := by omega
 have ib : (b : Int) <= 999 := by omega
 have ic : (c : Int) <= 999 := by omega
 go_loop [10] (fun i => ∃ k : Nat, k <= 3 /\ i = .int .i64 (k : Int)) (fun i => 3 - (intOf i).toNat)
 case atStart => exact ⟨0, by omega, rfl⟩
 case round =>
  obtain ⟨k, hk, rfl⟩ := hrel
  match k, hk with
  | 0, _ =>
   have hix := idx0 (a : Int) (b : Int) (c : Int) W0
   go_wp2
   go_round
   case rel => exact ⟨1, by omega, rfl⟩
   case measure => simp [intOf]
  | 1, _ =>
   have hix := idx1 (a : Int) (b : Int) (c : Int) W0
   go_wp2
   go_round
   case rel => exact ⟨2, by omega, rfl⟩
   case measure => simp [intOf]
  | 2, _ =>
   have hix := idx2 (a : Int) (b : Int) (c : Int) W0
   go_wp2
   go_round
   case rel => exact ⟨3, by omega, rfl⟩
   case measure => simp [intOf]
  | 3, _ =>
   have d0 : W0.cell? ⟨w.heap.size + 1, 0, none⟩ = some (.int .i64 (a : Int)) := HKV.out.cell 0
   have d1 : W0.cell? ⟨w.heap.size + 1, 1, none⟩ = some (.int .i64 (b : Int)) := HKV.out.cell 1
   have d2 : W0.cell? ⟨w.heap.size + 1, 2, none⟩ = some (.int .i64 (c : Int)) := HKV.out.cell 2
   go_wp2_with fail
   refine (HN.out _).mono ?_
   rintro e w1 ⟨rfl, hb1⟩
   have k1 := HKR.out.below hb1 HKR.out.lt
   have kn := Blk.new w1 3 #[.int .i64 (N : Int)]
   have k2 := k1.alloc (.cells #[.int .i64 (N : Int)] 3)
   have hb01 : Below w.heap.size w w1 := HB0.out.trans (hb1.mono HB0.out.size)
   have hb02 := hb01.alloc hb01.size (.cells #[.int .i64 (N : Int)] 3)
   have q1 : (w1.alloc (.cells #[.int .i64 (N : Int)] 3)).cell? ⟨w.heap.size, 0, none⟩ = some (.slice va l.length vc) := k2.cell 0
   have HKN := Lib.hid kn
   have HK2 := Lib.hid k2
   have HB02 := Lib.hid hb02
   clear d0 d1 d2 hb1 k1 kn k2 hb01 hb02
   have hl1 : w.heap.size < (w1.alloc (.cells #[.int .i64 (N : Int)] 3)).heap.size := HK2.out.lt
   have hl2 : w1.heap.size < (w1.alloc (.cells #[.int .i64 (N : Int)] 3)).heap.size := HKN.out.lt
   have HS := Lib.hid (search_any l.length hll 152 #[.pointer (some ⟨w1.heap.size, 0, none⟩), .pointer (some ⟨w.heap.size, 0, none⟩)] (fun i => decide (N < (sp l i).2)) (w1.alloc (.cells #[.int .i64 (N : Int)] 3)) ent_has1
    (fun W i hW hi => has1_any l N w1.heap.size w.heap.size (.slice va l.length vc) W (HV.out.below (HB02.out.trans (hW.mono HB02.out.size)) (Nat.le_refl _)) ((HKN.out.below hW hl2).cell 0) ((HK2.out.below hW hl1).cell 0) i hi)
    (fun x y hxy hy hx => by
     simp only [decide_eq_true_eq] at hx ⊢
     have := (canon_mono HL.out x y hxy hy).2
     omega))
   go_wp2_with fail
   generalize w1.alloc (.cells #[.int .i64 (N : Int)] 3) = W2 at *
   refine HS.out.mono ?_
   rintro e w3 ⟨i, rfl, hi, hbef, hat, hb3⟩
   have hspec := has_spec HL.out (n := N) hi (fun j hj => by have := hbef j hj; simpa using this) (fun h => by have := hat h; simpa using this)
   have k3 := HK2.out.below hb3 hl1
   have kn3 := HKN.out.below hb3 hl2
   have q3 : w3.cell? ⟨w.heap.size, 0, none⟩ = some (.slice va l.length vc) := k3.cell 0
   have q4 : w3.cell? ⟨w1.heap.size, 0, none⟩ = some (.int .i64 (N : Int)) := kn3.cell 0
   have hb03 : Below w.heap.size w w3 := HB02.out.trans (hb3.mono HB02.out.size)
   have HSP := Lib.hid hspec
   have HB03 := Lib.hid hb03
   clear HS hbef hat hspec hb3 hb03 k3 kn3 q1 hl1 hl2
   by_cases hil : i < l.length
   ·obtain ⟨g, cap', e1, hg, c0, c1⟩ := (HV.out.below HB03.out (Nat.le_refl _)).cells i hil
    simp at e1
    obtain ⟨rfl, rfl⟩ := e1
    have HS2 : Hid (mem l N ↔ (sp l i).1 <= N) := by show _ ↔ _; rw [HSP.out]; exact ⟨fun h => h.2, fun h => ⟨hil, h⟩⟩
    clear HSP
    generalize (sp l i).1 = A at *
    generalize (sp l i).2 = T at *
    go_wp2_with fail
    go_quiet (fail)
    have hbn : Below w.heap.size w (w3.drewN nq) := ⟨HB03.out.os, HB03.out.tape, HB03.out.output, HB03.out.size, HB03.out.block⟩
    have HBN := Lib.hid hbn
    clear hbn
    go_wp2
    go_ret
    refine ⟨_, rfl, ?_, HBN.out⟩
    rw [HS2.out]
    simp
   ·have HS2 : Hid (¬ mem l N) := by show ¬ _; rw [HSP.out]; exact fun h => hil h.1
    clear HSP
    go_wp2_with fail
    go_quiet (fail)
    have hbn : Below w.heap.size w (w3.drewN nq) := ⟨HB03.out.os, HB03.out.tape, HB03.out.output, HB03.out.size, HB03.out.block⟩
    have HBN := Lib.hid hbn
    clear hbn
    go_wp2
    go_ret
    refine ⟨false, rfl, ⟨(fun h => by cases h), fun h => absurd h HS2.out⟩, HBN.out⟩
end
section
open Go.RowKit Sv
def cmpI (x y : Int) : Int := if x < y then -1 else if y < x then 1 else 0
theorem nan_any (x : Int) (w : World) : Calls Tryz.prog 266 #[.int .i64 x] w fun e w' => e = .returned (.bool false) /\ w' = w := by
 go_enter Tryz.func266, Tryz.ntmps266
 go_wp2
 go_ret
 exact ⟨rfl, rfl⟩
theorem cmp_any (x y : Int) (w : World) : Calls Tryz.prog 246 #[.int .i64 x, .int .i64 y] w fun e w' => e = .returned (.int .i64 (cmpI x y)) /\ w' = w := by
 have H1 : Hid (∀ W, Calls Tryz.prog 266 #[.int .i64 x] W fun e w' => e = .returned (.bool false) /\ w' = W) := fun W => nan_any x W
 have H2 : Hid (∀ W, Calls Tryz.prog 266 #[.int .i64 y] W fun e w' => e = .returned (.bool false) /\ w' = W) := fun W => nan_any y W
 by_cases h : x < y
 ·have HC : Hid (cmpI x y = -1) := by show _ = _; unfold cmpI; rw [if_pos h]
  go_enter Tryz.func246, Tryz.ntmps246
  go_wp2_with fail
  refine (H1.out _).mono ?_
  rintro e w1 ⟨rfl, rfl⟩
  go_wp2_with fail
  refine (H2.out _).mono ?_
  rintro e w2 ⟨rfl, rfl⟩
  go_wp2
  go_ret
  exact ⟨by rw [HC.out]; rfl, rfl⟩
 ·by_cases h' : y < x
  ·have HC : Hid (cmpI x y = 1) := by show _ = _; unfold cmpI; rw [if_neg h, if_pos h']
   go_enter Tryz.func246, Tryz.ntmps246
   go_wp2_with fail
   refine (H1.out _).mono ?_
   rintro e w1 ⟨rfl, rfl⟩
   go_wp2_with fail
   refine (H2.out _).mono ?_
   rintro e w2 ⟨rfl, rfl⟩
   go_wp2
   go_ret
   exact ⟨by rw [HC.out]; rfl, rfl⟩
  ·have HC : Hid (cmpI x y = 0) := by show _ = _; unfold cmpI; rw [if_neg h, if_neg h']
   go_enter Tryz.func246, Tryz.ntmps246
   go_wp2_with fail
   refine (H1.out _).mono ?_
   rintro e w1 ⟨rfl, rfl⟩
   go_wp2_with fail
   refine (H2.out _).mono ?_
   rintro e w2 ⟨rfl, rfl⟩
   go_wp2
   go_ret
   exact ⟨by rw [HC.out]; rfl, rfl⟩
def cmp3 (x y : Nat -> Int) : Nat -> Int
 | 0 => 0
 | n + 1 => if cmpI (x (2 - n)) (y (2 - n)) ≠ 0 then cmpI (x (2 - n)) (y (2 - n)) else cmp3 x y n
end
section
open Go.RowKit Sv
def tI (a b c : Int) (j : Nat) : Int := if j = 0 then a else if j = 1 then b else c
end
section
open Go.RowKit Go.Sort Sv
def Gr (w w' : World) : Prop := ∃ q os, w' = grow (w.drewN q) os
theorem Gr.refl (w : World) : Gr w w := ⟨0, #[], by rw [grow_empty]; rfl⟩
theorem grow_drewN (w : World) (os : Array Obj) (q : Nat) : (grow w os).drewN q = grow (w.drewN q) os := rfl
theorem drewN_drewN (w : World) (p q : Nat) : (w.drewN p).drewN q = w.drewN (p + q) := by unfold World.drewN; simp [Nat.add_assoc]
theorem Gr.trans {a b c : World} (h : Gr a b) (k : Gr b c) : Gr a c := by
 obtain ⟨q, os, rfl⟩ := h
 obtain ⟨q', os', rfl⟩ := k
 exact ⟨q + q', os ++ os', by rw [grow_drewN, drewN_drewN, grow_grow]⟩
theorem Gr.alloc {a b : World} (h : Gr a b) (o : Obj) : Gr a (b.alloc o) := h.trans ⟨0, #[o], by rw [alloc_eq_grow]; rfl⟩
theorem Gr.drew {a b : World} (h : Gr a b) : Gr a b.drew := h.trans ⟨1, #[], by rw [grow_empty]; rfl⟩
theorem Gr.below {a b : World} (h : Gr a b) : Below a.heap.size a b := by
 obtain ⟨q, os, rfl⟩ := h
 refine ⟨rfl, rfl, rfl, by simp [grow, World.drewN], fun k hk => ?_⟩
 show (a.heap ++ os)[k]? = a.heap[k]?
 rw [Array.getElem?_append_left hk]
theorem compare_gr (x y : Nat -> Int) (bx bv : Nat) (w : World) (lx : bx < w.heap.size) (ly : bv < w.heap.size) (hx : ∀ j, j < 3 -> w.cell? ⟨bx, j, none⟩ = some (.int .i64 (x j))) (hy : ∀ j, j < 3 -> w.cell? ⟨bv, j, none⟩ = some (.int .i64 (y j))) :
  Calls Tryz.prog 220 #[.slice (some ⟨bx, 0, none⟩) 3 3, .slice (some ⟨bv, 0, none⟩) 3 3] w fun e w' => e = .returned (.int .i64 (cmp3 x y 3)) /\ Gr w w' := by
 have HC : Hid (∀ X Y W, Calls Tryz.prog 246 #[.int .i64 X, .int .i64 Y] W fun e w' => e = .returned (.int .i64 (cmpI X Y)) /\ w' = W) := fun X Y W => cmp_any X Y W
 have hcell : Hid ((∀ W, Below w.heap.size w W -> ∀ j, j < 3 -> W.cell? ⟨bx, j, none⟩ = some (.int .i64 (x j))) /\ (∀ W, Below w.heap.size w W -> ∀ j, j < 3 -> W.cell? ⟨bv, j, none⟩ = some (.int .i64 (y j)))) := ⟨fun W hb j hj => (hb.cell (p := ⟨bx, j, none⟩) lx).trans (hx j hj), fun W hb j hj => (hb.cell (p := ⟨bv, j, none⟩) ly).trans (hy j hj)⟩
 clear hx hy lx ly
 go_enter Tryz.func220, Tryz.ntmps220
 go_wp2_with fail
 go_loopw [11] (fun iV wr => ∃ k : Nat, k <= 3 /\ iV = .int .i64 (k : Int) /\ cmp3 x y 3 = cmp3 x y (3 - k) /\ Gr w wr) (fun iV _ => 3 - (intOf iV).toNat)
 case atStart => exact ⟨0, by omega, rfl, rfl, Gr.refl _⟩
 case round =>
  obtain ⟨k, hk, rfl, heq, hbr⟩ := hrel
  have HE := Lib.hid heq
  have HBR := Lib.hid hbr
  clear heq hbr
  by_cases hlt : k < 3
  ·have c0 := hcell.out.1 _ HBR.out.below k hlt
   have c1 := hcell.out.2 _ HBR.out.below k hlt
   have HS : Hid (cmp3 x y (3 - k) = if cmpI (x k) (y k) ≠ 0 then cmpI (x k) (y k) else cmp3 x y (3 - (k + 1))) := by
    show _ = _
    match k, hlt with
    | 0, _ => rfl
    | 1, _ => rfl
    | 2, _ => rfl
   generalize x k = X at *
   generalize y k = Y at *
   go_wp2_with fail
   refine (HC.out _ _ _).mono ?_
   rintro e w1 ⟨rfl, rfl⟩
   generalize cmpI X Y = Z at *
   by_cases hz : Z = 0
   ·subst hz
    go_wp2
    go_roundw
    case rel => exact ⟨k + 1, by omega, by go_num, by rw [HE.out, HS.out, if_neg (by simp)], HBR.out⟩
    case measure => simp [intOf]; omega
   ·have hz2 : (Z == 0) = false := by rw [beq_eq_false_iff_ne]; exact hz
    go_wp2
    go_ret
    exact ⟨by rw [HE.out, HS.out, if_pos hz]; rfl, HBR.out⟩
  ·obtain rfl : k = 3 := by omega
   go_wp2
   go_ret
   exact ⟨by rw [HE.out]; rfl, HBR.out⟩
theorem cmpw_gr (a b c d e f : Int) (w : World) :
  Calls Tryz.prog 183 #[.agg #[.int .i64 a, .int .i64 b, .int .i64 c], .agg #[.int .i64 d, .int .i64 e, .int .i64 f]] w fun r w' => r = .returned (.int .i64 (cmp3 (tI a b c) (tI d e f) 3)) /\ Gr w w' := by
 have kv := (Blk.new w 23 #[.int .i64 a, .int .i64 b, .int .i64 c]).alloc (.cells #[.int .i64 d, .int .i64 e, .int .i64 f] 23)
 have kw := Blk.new (w.alloc (.cells #[.int .i64 a, .int .i64 b, .int .i64 c] 23)) 23 #[.int .i64 d, .int .i64 e, .int .i64 f]
 rw [World.size_alloc] at kw
 have hB0 : Gr w ((w.alloc (.cells #[.int .i64 a, .int .i64 b, .int .i64 c] 23)).alloc (.cells #[.int .i64 d, .int .i64 e, .int .i64 f] 23)) := ((Gr.refl w).alloc _).alloc _
 have HX : Hid (Calls Tryz.prog 220 #[.slice (some ⟨w.heap.size, 0, none⟩) 3 3, .slice (some ⟨w.heap.size + 1, 0, none⟩) 3 3] ((w.alloc (.cells #[.int .i64 a, .int .i64 b, .int .i64 c] 23)).alloc (.cells #[.int .i64 d, .int .i64 e, .int .i64 f] 23)).drew fun r w' => r = .returned (.int .i64 (cmp3 (tI a b c) (tI d e f) 3)) /\ Gr w w') := by
  generalize (w.alloc (.cells #[.int .i64 a, .int .i64 b, .int .i64 c] 23)).alloc (.cells #[.int .i64 d, .int .i64 e, .int .i64 f] 23) = W0 at *
  have hd : Below W0.heap.size W0 W0.drew := (Below.refl _ _).drew
  have kv2 := kv.below hd kv.lt
  have kw2 := kw.below hd kw.lt
  refine (compare_gr (tI a b c) (tI d e f) w.heap.size (w.heap.size + 1) W0.drew kv2.lt kw2.lt ?_ ?_).mono ?_
  ·intro j hj
   rw [kv2.cell j]
   match j, hj with
   | 0, _ => rfl
   | 1, _ => rfl
   | 2, _ => rfl
  ·intro j hj
   rw [kw2.cell j]
   match j, hj with
   | 0, _ => rfl
   | 1, _ => rfl
   | 2, _ => rfl
  ·rintro r w1 ⟨h1, h2⟩
   have hb : Gr w W0.drew := hB0.drew
   exact ⟨h1, hb.trans h2⟩
 clear kv kw hB0
 go_enter Tryz.func183, Tryz.ntmps183
 go_wp2_with fail
 go_region_held3 (fun _ => True) (exact trivial)
  (((with_reducible refine HX.out.mono ?_); rintro r w1 ⟨rfl, hb1⟩; have HB1 := Lib.hid hb1; clear hb1))
 go_wp2
 go_ret
 exact ⟨rfl, HB1.out⟩
end
section
open Sv
instance lawfulBA : LawfulBEq ByteArray where
 eq_of_beq {a b} h := ByteArray.ext (eq_of_beq (show (a.data == b.data) = true from h))
 rfl {a} := beq_self_eq_true a.data
structure Ln where
 kind : Int
 name : ByteArray
 a : Int
 b : Int
 c : Int
 other : ByteArray
 rng : List Span
structure It where
 name : ByteArray
 a : Int
 b : Int
 c : Int
deriving DecidableEq, Inhabited
instance : Inhabited Ln := ⟨⟨0, ⟨#[]⟩, 0, 0, 0, ⟨#[]⟩, []⟩⟩
def Ln.it (x : Ln) : It := ⟨x.name, x.a, x.b, x.c⟩
def Ln.pair (x : Ln) : Prop := x.kind = 2 \/ x.kind = 3
instance (x : Ln) : Decidable x.pair := inferInstanceAs (Decidable (_ \/ _))
def cutF (s : ByteArray) (c : UInt8) : ByteArray × ByteArray := (⟨(Lib.cut s.data.toList [c]).1.toArray⟩, ⟨(Lib.cut s.data.toList [c]).2.1.toArray⟩)
theorem cutF_size (s : ByteArray) (c : UInt8) : (cutF s c).1.size <= s.size /\ (cutF s c).2.size <= s.size := by
 unfold cutF Lib.cut
 have hl : s.data.toList.length = s.size := by simp
 split
 ·simp only [ByteArray.size, List.size_toArray, List.length_take, List.length_drop, Array.length_toList]
  omega
 ·simp only [ByteArray.size, List.size_toArray, Array.length_toList, List.length_nil]
  omega
def kindF (w : ByteArray) : Nat :=
 if w.toList = [112, 97, 99, 107, 97, 103, 101] then 1 else if w.toList = [110, 101, 101, 100, 115] then 2 else if w.toList = [99, 108, 97, 115, 104, 101, 115] then 3 else if w.toList = [114, 111, 111, 116] then 4 else 0
theorem kindF_le (w : ByteArray) : kindF w <= 4 := by
 unfold kindF
 repeat' split
 all_goals omega
def rngF (s : ByteArray) : Except (Int × Option Nat) (List Span) :=
 if 1000 < s.size then .error (4, none) else match rangeF s with
  | .error (k, p) => .error (k, some p)
  | .ok l => .ok l
def tailF (k : Nat) (name : ByteArray) (ns : List Nat) (other rest : ByteArray) : Except (Int × Option Nat) Ln :=
 match rngF rest with
 | .error e => .error e
 | .ok l => .ok ⟨(k : Int), name, ((ns.getD 0 0 : Nat) : Int), ((ns.getD 1 0 : Nat) : Int), ((ns.getD 2 0 : Nat) : Int), other, l⟩
def lineF (s : ByteArray) : Except (Int × Option Nat) Ln :=
 if kindF (cutF s 32).1 = 0 then .error (3, none)
 else if kindF (cutF s 32).1 = 4 then tailF 4 (cutF (cutF s 32).2 32).1 [] ⟨#[]⟩ (cutF (cutF s 32).2 32).2
 else match versF (cutF (cutF (cutF s 32).2 32).2 32).1 with
  | .error e => .error (e, none)
  | .ok ns =>
   if kindF (cutF s 32).1 = 1 then
    if (cutF (cutF (cutF s 32).2 32).2 32).2.size = 0 then .ok ⟨1, (cutF (cutF s 32).2 32).1, ((ns.getD 0 0 : Nat) : Int), ((ns.getD 1 0 : Nat) : Int), ((ns.getD 2 0 : Nat) : Int), ⟨#[]⟩, []⟩ else .error (3, none)
   else tailF (kindF (cutF s 32).1) (cutF (cutF s 32).2 32).1 ns (cutF (cutF (cutF (cutF s 32).2 32).2 32).2 32).1 (cutF (cutF (cutF (cutF s 32).2 32).2 32).2 32).2
def lnsF (s : ByteArray) : Nat -> Nat -> List (Nat × ByteArray)
 | 0, _ => []
 | f + 1, k => if s.size <= k then [] else
  (if (cutF (s.extract k s.size) 10).1.size = 0 then [] else [(k, (cutF (s.extract k s.size) 10).1)]) ++ lnsF s f (k + (cutF (s.extract k s.size) 10).1.size + 1)
def plF : List (Nat × ByteArray) -> List (Nat × Ln) -> Except (Int × Nat) (List (Nat × Ln))
 | [], acc => .ok acc
 | x :: r, acc => match lineF x.2 with
  | .error e => .error (e.1, x.1)
  | .ok l => plF r (acc ++ [(x.1, l)])
theorem plF_app (l r : List (Nat × ByteArray)) : ∀ (acc : List (Nat × Ln)), plF (l ++ r) acc = match plF l acc with
  | .error e => .error e
  | .ok acc' => plF r acc' := by
 induction l with
 | nil => intro acc; rfl
 | cons x l ih =>
  intro acc
  rw [List.cons_append, plF, plF]
  split
  ·rfl
  ·exact ih _
theorem plF_len : ∀ (l : List (Nat × ByteArray)) (acc : List (Nat × Ln)) (out : List (Nat × Ln)), plF l acc = .ok out -> out.length = acc.length + l.length := by
 intro l
 induction l with
 | nil => intro acc out h; cases h; rfl
 | cons x l ih =>
  intro acc out h
  unfold plF at h
  split at h
  ·cases h
  ·have := ih _ _ h
   simp at this ⊢; omega
def InV (a b c : Int) : Prop := (0 <= a /\ a <= 999) /\ (0 <= b /\ b <= 999) /\ 0 <= c /\ c <= 999
instance (a b c : Int) : Decidable (InV a b c) := inferInstanceAs (Decidable (_ /\ _))
open Classical in
noncomputable def ctCheck (x : Ln) : Int :=
 if x.kind < 1 \/ 4 < x.kind then 1
 else if ¬ NameOk x.name \/ (x.pair /\ ¬ NameOk x.other) then 5
 else if ¬ x.pair /\ x.other.size ≠ 0 then 1
 else if x.kind = 1 /\ x.rng ≠ [] then 1
 else if x.kind = 4 /\ (x.a ≠ 0 \/ x.b ≠ 0 \/ x.c ≠ 0) then 1
 else if ¬ InV x.a x.b x.c then 2 else 0
def namesN (l : List It) : Nat := ((l.map It.name).eraseDups).length
noncomputable def gathF : List Ln -> Nat -> List It -> Except (Int × Nat) (List It)
 | [], _, its => .ok its
 | x :: r, i, its =>
  if ctCheck x ≠ 0 then .error (ctCheck x, i)
  else if x.kind = 1 then
   if x.it ∈ its then .error (9, i)
   else if 8 < namesN (its ++ [x.it]) \/ its.length = 24 then .error (4, i)
   else gathF r (i + 1) (its ++ [x.it])
  else gathF r (i + 1) its
def ctCmp (x y : It) : Int := if x.name.toList = y.name.toList then cmp3 (tI y.a y.b y.c) (tI x.a x.b x.c) 3 else Lib.compareBytes x.name.data.toList y.name.data.toList
def sortF (l : List It) : List It := l.mergeSort fun x y => !decide (ctCmp y x < 0)
def missF : List Ln -> Nat -> List It -> Option Nat
 | [], _, _ => none
 | x :: r, i, its => if x.pair /\ x.it ∉ its then some i else missF r (i + 1) its
noncomputable def newF (ls : List Ln) : Except (Int × Option Nat) (List It) :=
 if 100 < ls.length then .error (4, none)
 else match gathF ls 0 [] with
  | .error e => .error (e.1, some e.2)
  | .ok its => match missF ls 0 (sortF its) with
   | some i => .error (7, some i)
   | none => .ok (sortF its)
noncomputable def parseF (s : ByteArray) : Except (Int × Option Nat) (List Ln × List It) :=
 if 20000 < s.size then .error (4, none)
 else match plF (lnsF s s.size 0) [] with
  | .error e => .error (e.1, some e.2)
  | .ok ps => match newF (ps.map Prod.snd) with
   | .error (e, none) => .error (e, none)
   | .error (e, some i) => .error (e, some ((ps.map Prod.fst).getD i 0))
   | .ok its => .ok (ps.map Prod.snd, its)
def ctRowO (its : List It) (name : ByteArray) : Option (Nat × Nat) :=
 its.zipIdx.foldl (fun r x => if x.1.name = name then some ((r.map Prod.fst).getD x.2, x.2 + 1) else r) none
theorem ctRowO_snoc (l : List It) (x : It) (name : ByteArray) : ctRowO (l ++ [x]) name = if x.name = name then some (((ctRowO l name).map Prod.fst).getD l.length, l.length + 1) else ctRowO l name := by
 unfold ctRowO
 rw [List.zipIdx_append, List.foldl_append]
 simp
def ctRow (its : List It) (name : ByteArray) : Nat × Nat := (ctRowO its name).getD (0, 0)
def hasF (rng : List Span) (x : It) : Prop := InV x.a x.b x.c /\ mem rng (numV x.a.toNat x.b.toNat x.c.toNat)
open Classical in
noncomputable def amongF (its : List It) (name : ByteArray) (rng : List Span) : List Nat :=
 (List.range' (ctRow its name).1 ((ctRow its name).2 - (ctRow its name).1)).filter fun i => decide (hasF rng (its.getD i default))
def ctNumb (its : List It) (x : It) : Int := match its.findIdx? (fun y => decide (x = y)) with | some i => (i : Int) | none => -1
def notF1 (k : Int) : Int := -(k + 1)
noncomputable def lineC (its : List It) (n : Nat) (x : Ln) : List (Int × List Int) :=
 if x.kind = 4 then [((n : Int), (amongF its x.name x.rng).map fun (k : Nat) => ((k : Int) + 1))]
 else if x.kind = 2 then [((n : Int), notF1 (ctNumb its x.it) :: (amongF its x.other x.rng).map fun (k : Nat) => ((k : Int) + 1))]
 else if x.kind = 3 then (amongF its x.other x.rng).map fun (k : Nat) => ((n : Int), [notF1 (ctNumb its x.it), notF1 (k : Int)])
 else []
end
end Go.Proofs.YtpmpnbbihmgdpaaGreatDoor
