/- Places in memory: the reference's ranges; In, row, num. -/
import Derived.Test.YtmhophccdfmngaaGreatDoorSvWText
import Derived.Test.YtmhophccdfmngaaGreatDoorSvOr
import Derived.Lib.Join
import Derived.Test.YtmhophccdfmngaaGreatDoorSvMem
set_option maxHeartbeats 2000000
set_option maxRecDepth 100000
namespace Go.Proofs.YtmhophccdfmngaaGreatDoor
open Go.RowKit Go.Shelf Sv
def vnx (n : Nat) : List UInt8 := vtx (n / 1000000) (n / 1000 % 1000) (n % 1000)
def spanT (s : Span) : List UInt8 :=
 if s.2 = s.1 + 1 then vnx s.1
 else if s.1 = 0 /\ s.2 = ALL then [97, 110, 121]
 else if s.2 = ALL then 62 :: 61 :: vnx s.1
 else if s.1 = 0 then 60 :: vnx s.2
 else 62 :: 61 :: (vnx s.1 ++ 32 :: 60 :: vnx s.2)
def sepT : List UInt8 := [32, 124, 124, 32]
def rgT (l : List Span) : List UInt8 := if l = [] then [110, 111, 110, 101] else Lib.join (l.map spanT) sepT
theorem ptx_len {n : Nat} (h : n <= 1000000000) : (ptx n).length <= 21 := Lib.itoa_length_le (n : Int) (by omega) (by omega)
theorem vnx_len {n : Nat} (h : n <= ALL) : (vnx n).length <= 65 := by
 unfold ALL at h
 unfold vnx vtx
 have h1 := ptx_len (n := n / 1000000) (by omega)
 have h2 := ptx_len (n := n / 1000 % 1000) (by omega)
 have h3 := ptx_len (n := n % 1000) (by omega)
 simp only [List.length_append, List.length_cons]; omega
theorem spanT_len {s : Span} (h1 : s.1 <= ALL) (h2 : s.2 <= ALL) : (spanT s).length <= 134 := by
 have a := vnx_len h1
 have b := vnx_len h2
 unfold spanT
 split
 ·omega
 ·split
  ·decide
  ·split
   ·simp only [List.length_cons]; omega
   ·split
    ·simp only [List.length_cons]; omega
    ·simp only [List.length_cons, List.length_append]; omega
theorem version_any (n : Nat) (hn : n <= 1000000000) (w : World) : Calls Tryz.prog 118 #[.int .i64 (n : Int)] w fun e w' => e = .returned (.agg #[.int .i64 ((n / 1000000 : Nat) : Int), .int .i64 ((n / 1000 % 1000 : Nat) : Int), .int .i64 ((n % 1000 : Nat) : Int)]) /\ Below w.heap.size w w' := by
 have e1 : (n : Int) / 1000 / 1000 = ((n / 1000000 : Nat) : Int) := by omega
 have e2 : (n : Int) / 1000 % 1000 = ((n / 1000 % 1000 : Nat) : Int) := by omega
 have e3 : (n : Int) % 1000 = ((n % 1000 : Nat) : Int) := by omega
 have E1 := Lib.hid e1
 have E2 := Lib.hid e2
 have E3 := Lib.hid e3
 clear e1 e2 e3
 go_enter Tryz.func118, Tryz.ntmps118
 go_wp2_with fail
 rw [E1.out, E2.out, E3.out]
 have k := Blk.new w 42 #[.int .i64 ((n / 1000000 : Nat) : Int), .int .i64 ((n / 1000 % 1000 : Nat) : Int), .int .i64 ((n % 1000 : Nat) : Int)]
 have hB : Below w.heap.size w (w.alloc (.cells #[.int .i64 ((n / 1000000 : Nat) : Int), .int .i64 ((n / 1000 % 1000 : Nat) : Int), .int .i64 ((n % 1000 : Nat) : Int)] 42)) := (Below.refl _ w).alloc (Nat.le_refl _) _
 generalize ((n / 1000000 : Nat) : Int) = A1 at *
 generalize ((n / 1000 % 1000 : Nat) : Int) = A2 at *
 generalize ((n % 1000 : Nat) : Int) = A3 at *
 have r0 := k.cell 0
 have r1 := k.cell 1
 have r2 := k.cell 2
 refine bodyPost_ret (v := .agg #[.int .i64 A1, .int .i64 A2, .int .i64 A3]) (by simp [results, Tryz.results118, go_sem, r0, r1, r2]) rfl ?_
 exact ⟨rfl, hB⟩
theorem vnum_text (n : Nat) (hn : n <= 1000000000) (w : World) (hw : Lb w) : Calls Tryz.prog 119 #[.agg #[.int .i64 ((n / 1000000 : Nat) : Int), .int .i64 ((n / 1000 % 1000 : Nat) : Int), .int .i64 ((n % 1000 : Nat) : Int)]] w fun e w' => e = .returned (.string ⟨(vnx n).toArray⟩) /\ Below w.heap.size w w' :=
 wtext_any _ _ _ (by omega) (by omega) (by omega) w hw
theorem app_str (x y : List UInt8) : ((⟨x.toArray⟩ : ByteArray) ++ ⟨y.toArray⟩) = ⟨(x ++ y).toArray⟩ := by
 apply ByteArray.ext
 simp [ByteArray.data_append]
theorem spanText_any (s : Span) (h1 : s.1 < s.2) (h2 : s.2 <= ALL) (w : World) (hw : Lb w) :
  Calls Tryz.prog 66 #[.agg #[.int .i64 (s.1 : Int), .int .i64 (s.2 : Int)]] w fun e w' => e = .returned (.string ⟨(spanT s).toArray⟩) /\ Below w.heap.size w w' := by
 obtain ⟨x, y⟩ := s
 simp only at h1 h2
 have h2' : y <= 1000000000 := h2
 have HVX : Hid (∀ W, Calls Tryz.prog 118 #[.int .i64 (x : Int)] W fun e w' => e = .returned (.agg #[.int .i64 ((x / 1000000 : Nat) : Int), .int .i64 ((x / 1000 % 1000 : Nat) : Int), .int .i64 ((x % 1000 : Nat) : Int)]) /\ Below W.heap.size W w') := fun W => version_any x (by omega) W
 have HVY : Hid (∀ W, Calls Tryz.prog 118 #[.int .i64 (y : Int)] W fun e w' => e = .returned (.agg #[.int .i64 ((y / 1000000 : Nat) : Int), .int .i64 ((y / 1000 % 1000 : Nat) : Int), .int .i64 ((y % 1000 : Nat) : Int)]) /\ Below W.heap.size W w') := fun W => version_any y (by omega) W
 have HTX : Hid (∀ W, Below w.heap.size w W -> Calls Tryz.prog 119 #[.agg #[.int .i64 ((x / 1000000 : Nat) : Int), .int .i64 ((x / 1000 % 1000 : Nat) : Int), .int .i64 ((x % 1000 : Nat) : Int)]] W fun e w' => e = .returned (.string ⟨(vnx x).toArray⟩) /\ Below W.heap.size W w') := fun W hb => vnum_text x (by omega) W (hw.below hb)
 have HTY : Hid (∀ W, Below w.heap.size w W -> Calls Tryz.prog 119 #[.agg #[.int .i64 ((y / 1000000 : Nat) : Int), .int .i64 ((y / 1000 % 1000 : Nat) : Int), .int .i64 ((y % 1000 : Nat) : Int)]] W fun e w' => e = .returned (.string ⟨(vnx y).toArray⟩) /\ Below W.heap.size W w') := fun W hb => vnum_text y (by omega) W (hw.below hb)
 have k0 := Blk.new w 127 #[.int .i64 (x : Int), .int .i64 (y : Int)]
 have hB0 : Below w.heap.size w (w.alloc (.cells #[.int .i64 (x : Int), .int .i64 (y : Int)] 127)) := (Below.refl _ w).alloc (Nat.le_refl _) _
 have HK0 := Lib.hid k0
 have HB0 := Lib.hid hB0
 have HSX : Hid (spanT (x, y) = if y = x + 1 then vnx x else if x = 0 /\ y = ALL then [97, 110, 121] else if y = ALL then 62 :: 61 :: vnx x else if x = 0 then 60 :: vnx y else 62 :: 61 :: (vnx x ++ 32 :: 60 :: vnx y)) := rfl
 have lx := vnx_len (n := x) (by unfold ALL; omega)
 have ly := vnx_len (n := y) h2
 clear k0 hB0 hw
 generalize ((x / 1000000 : Nat) : Int) = A1 at *
 generalize ((x / 1000 % 1000 : Nat) : Int) = A2 at *
 generalize ((x % 1000 : Nat) : Int) = A3 at *
 generalize ((y / 1000000 : Nat) : Int) = C1 at *
 generalize ((y / 1000 % 1000 : Nat) : Int) = C2 at *
 generalize ((y % 1000 : Nat) : Int) = C3 at *
 generalize vnx x = X at *
 generalize vnx y = Y at *
 generalize spanT (x, y) = R at *
 go_enter Tryz.func66, Tryz.ntmps66
 go_wp2_with fail
 generalize w.alloc (.cells #[.int .i64 (x : Int), .int .i64 (y : Int)] 127) = W0 at *
 have SC : Hid (∀ W, Below W0.heap.size W0 W -> W.cell? ⟨w.heap.size, 0, none⟩ = some (.int .i64 (x : Int)) /\ W.cell? ⟨w.heap.size, 1, none⟩ = some (.int .i64 (y : Int))) := fun W hb => ⟨(HK0.out.below hb HK0.out.lt).cell 0, (HK0.out.below hb HK0.out.lt).cell 1⟩
 have D0 : Below W0.heap.size W0 W0.drew := (Below.refl _ _).drew
 go_region_held3 (fun W => W.cell? ⟨w.heap.size, 0, none⟩ = some (.int .i64 (x : Int)) /\ W.cell? ⟨w.heap.size, 1, none⟩ = some (.int .i64 (y : Int))) (first | exact SC.out _ D0 | exact SC.out _ D1 | exact SC.out _ D2 | exact SC.out _ D3 | exact SC.out _ D4)
  (first
   | ((with_reducible refine (HVX.out _).mono ?_); rintro r x1 ⟨rfl, hb1⟩; have D1 : Below W0.heap.size W0 x1 := D0.trans (hb1.mono D0.size); have E1 : Below w.heap.size w x1 := HB0.out.trans (D1.mono HB0.out.size); clear HVX D0 hb1)
   | ((with_reducible refine (HTX.out _ E1).mono ?_); rintro r x2 ⟨rfl, hb2⟩; have D2 : Below W0.heap.size W0 x2 := D1.trans (hb2.mono D1.size); clear HTX D1 E1 hb2)
   | ((with_reducible refine (HVY.out _).mono ?_); rintro r x3 ⟨rfl, hb3⟩; have D3 : Below W0.heap.size W0 x3 := D2.trans (hb3.mono D2.size); have E3 : Below w.heap.size w x3 := HB0.out.trans (D3.mono HB0.out.size); clear HVY D2 hb3)
   | ((with_reducible refine (HTY.out _ E3).mono ?_); rintro r x4 ⟨rfl, hb4⟩; have D4 : Below W0.heap.size W0 x4 := D3.trans (hb4.mono D3.size); clear HTY D3 E3 hb4))
 have HBZ : Hid (Below w.heap.size w x4) := HB0.out.trans (D4.mono HB0.out.size)
 obtain ⟨c0, c1⟩ := SC.out _ D4
 clear D4 SC HK0 HB0
 have hxz : (x : Int) = 0 ↔ x = 0 := by omega
 by_cases a1 : y = x + 1
 ·have a1' : ((y : Int) == (x : Int) + 1) = true := by rw [beq_iff_eq]; omega
  have hR : R = X := by rw [HSX.out, if_pos a1]
  clear HSX a1 hxz
  go_wp2
  go_ret
  exact ⟨by rw [hR]; rfl, HBZ.out⟩
 ·have a1' : ((y : Int) == (x : Int) + 1) = false := by rw [beq_eq_false_iff_ne]; omega
  have hR := HSX.out
  rw [if_neg a1] at hR
  clear HSX a1
  by_cases a2 : x = 0
  ·have a2' : ((x : Int) == 0) = true := by rw [beq_iff_eq]; omega
   by_cases a3 : y = ALL
   ·have a3' : ((y : Int) == 1000000000) = true := by rw [beq_iff_eq]; unfold ALL at a3; omega
    rw [if_pos ⟨a2, a3⟩] at hR
    clear a2 a3 hxz
    go_wp2
    go_ret
    exact ⟨by rw [hR]; rfl, HBZ.out⟩
   ·have a3' : ((y : Int) == 1000000000) = false := by rw [beq_eq_false_iff_ne]; unfold ALL at a3; omega
    rw [if_neg (fun h => a3 h.2), if_neg a3, if_pos a2] at hR
    clear a2 a3 hxz
    go_wp2
    go_ret
    exact ⟨by rw [hR]; rfl, HBZ.out⟩
  ·have a2' : ((x : Int) == 0) = false := by rw [beq_eq_false_iff_ne]; omega
   by_cases a3 : y = ALL
   ·have a3' : ((y : Int) == 1000000000) = true := by rw [beq_iff_eq]; unfold ALL at a3; omega
    rw [if_neg (fun h => a2 h.1), if_pos a3] at hR
    clear a2 a3 hxz
    go_wp2
    go_ret
    exact ⟨by rw [hR]; rfl, HBZ.out⟩
   ·have a3' : ((y : Int) == 1000000000) = false := by rw [beq_eq_false_iff_ne]; unfold ALL at a3; omega
    rw [if_neg (fun h => a3 h.2), if_neg a3, if_neg a2] at hR
    clear a2 a3 hxz
    go_wp2
    go_ret
    refine ⟨congrArg (fun b => Ending.returned (.string b)) ?_, HBZ.out⟩
    show ((⟨[62, 61].toArray⟩ : ByteArray) ++ ⟨X.toArray⟩ ++ ⟨[32, 60].toArray⟩ ++ ⟨Y.toArray⟩) = _
    rw [app_str, app_str, app_str, hR]
    simp
end Go.Proofs.YtmhophccdfmngaaGreatDoor
namespace Go.Proofs.YtmhophccdfmngaaGreatDoor
open Go.RowKit Go.Shelf Sv
def pre (b : Bool) : List (List UInt8) := if b then [[]] else []
end Go.Proofs.YtmhophccdfmngaaGreatDoor
namespace Go.Proofs.YtmhophccdfmngaaGreatDoor.Sv
def inP : List Nat -> Nat -> Bool
 | [], _ => false
 | a :: r, n => if a <= n then !inP r n else false
def Up : List Nat -> Prop
 | [] => True
 | a :: r => (∀ x ∈ r, a < x) /\ Up r
def tp : List Span -> List Nat
 | [] => []
 | s :: r => s.1 :: s.2 :: tp r
theorem inP_low {l : List Nat} {n : Nat} (h : ∀ x ∈ l, n < x) : inP l n = false := by
 cases l with
 | nil => rfl
 | cons a r => rw [inP, if_neg (by have := h a List.mem_cons_self; omega)]
theorem up_ext {l m : List Nat} : Up l -> Up m -> (∀ n, inP l n = inP m n) -> l = m := by
 induction l generalizing m with
 | nil =>
  intro _ hm h
  cases m with
  | nil => rfl
  | cons b q =>
   have := h b
   rw [inP, inP, if_pos (Nat.le_refl _), inP_low (fun x hx => hm.1 x hx)] at this
   cases this
 | cons a r ih =>
  intro hl hm h
  cases m with
  | nil =>
   have := h a
   rw [inP, inP, if_pos (Nat.le_refl _), inP_low (fun x hx => hl.1 x hx)] at this
   cases this
  | cons b q =>
   have hab : a = b := by
    rcases Nat.lt_trichotomy a b with hlt | heq | hlt
    ·have := h a
     rw [inP, inP, if_pos (Nat.le_refl _), if_neg (by omega), inP_low (fun x hx => hl.1 x hx)] at this
     cases this
    ·exact heq
    ·have := h b
     rw [inP, inP, if_neg (by omega), if_pos (Nat.le_refl _), inP_low (fun x hx => hm.1 x hx)] at this
     cases this
   subst hab
   rw [ih hl.2 hm.2 fun n => ?_]
   by_cases hn : a <= n
   ·have := h n
    rw [inP, inP, if_pos hn, if_pos hn] at this
    cases hx : inP r n <;> cases hy : inP q n <;> simp_all
   ·rw [inP_low (fun x hx => by have := hl.1 x hx; omega), inP_low (fun x hx => by have := hm.1 x hx; omega)]
theorem tp_ge : ∀ {l : List Span} {lo : Nat}, Canon lo l -> ∀ x ∈ tp l, lo <= x := by
 intro l
 induction l with
 | nil => intro lo _ x hx; cases hx
 | cons s r ih =>
  intro lo h x hx
  obtain ⟨h1, h2, h3, h4⟩ := h
  rw [tp] at hx
  rcases List.mem_cons.1 hx with rfl | hx
  ·exact h1
  ·rcases List.mem_cons.1 hx with rfl | hx
   ·omega
   ·have := ih h4 x hx; omega
theorem tp_up : ∀ {l : List Span} {lo : Nat}, Canon lo l -> Up (tp l) := by
 intro l
 induction l with
 | nil => intro lo _; trivial
 | cons s r ih =>
  intro lo h
  obtain ⟨h1, h2, h3, h4⟩ := h
  refine ⟨fun x hx => ?_, fun x hx => ?_, ih h4⟩
  ·rcases List.mem_cons.1 hx with rfl | hx
   ·exact h2
   ·have := tp_ge h4 x hx; omega
  ·have := tp_ge h4 x hx; omega
theorem tp_in : ∀ {l : List Span} {lo n : Nat}, Canon lo l -> (inP (tp l) n = true ↔ mem l n) := by
 intro l
 induction l with
 | nil => intro lo n _; simp [tp, inP, mem_nil]
 | cons s r ih =>
  intro lo n h
  obtain ⟨h1, h2, h3, h4⟩ := h
  have hr := ih (n := n) h4
  have hg : mem r n -> s.2 + 1 <= n := h4.ge
  rw [tp, inP, inP, mem_cons]
  by_cases a : s.1 <= n
  ·rw [if_pos a]
   by_cases b : s.2 <= n
   ·rw [if_pos b]; simp only [Bool.not_not, hr]
    constructor
    ·exact Or.inr
    ·rintro (⟨_, h⟩ | h)
     ·omega
     ·exact h
   ·rw [if_neg b]; simp only [Bool.not_false, true_iff]; left; omega
  ·rw [if_neg a]; simp only [Bool.false_eq_true, false_iff]
   rintro (⟨h, _⟩ | h)
   ·omega
   ·have := hg h; omega
theorem tp_len (l : List Span) : (tp l).length = l.length * 2 := by
 induction l with
 | nil => rfl
 | cons s r ih => rw [tp, List.length_cons, List.length_cons, ih, List.length_cons]; omega
theorem tp_row {a b : Nat} : tp (rowF a b) = if a < b then [a, b] else [] := by
 unfold rowF; split <;> rfl
def Srt : List Nat -> Prop
 | [] => True
 | a :: r => (∀ x ∈ r, a <= x) /\ Srt r
theorem srt_app {l r : List Nat} : Srt (l ++ r) ↔ Srt l /\ Srt r /\ ∀ x ∈ l, ∀ y ∈ r, x <= y := by
 induction l with
 | nil => simp [Srt]
 | cons a l ih =>
  rw [List.cons_append, Srt, Srt, ih]
  constructor
  ·rintro ⟨h1, h2, h3, h4⟩
   refine ⟨⟨fun x hx => h1 x (List.mem_append_left _ hx), h2⟩, h3, fun x hx y hy => ?_⟩
   rcases List.mem_cons.1 hx with rfl | hx
   ·exact h1 y (List.mem_append_right _ hy)
   ·exact h4 x hx y hy
  ·rintro ⟨⟨h1, h2⟩, h3, h4⟩
   refine ⟨fun x hx => ?_, h2, h3, fun x hx y hy => h4 x (List.mem_cons_of_mem _ hx) y hy⟩
   rcases List.mem_append.1 hx with hx | hx
   ·exact h1 x hx
   ·exact h4 a List.mem_cons_self x hx
def posF (l : List Nat) (n : Nat) : Nat -> Nat
 | 0 => 0
 | k + 1 => if n < l.getD k 0 then posF l n k else k + 1
theorem pos_le (l : List Nat) (n k : Nat) : posF l n k <= k := by
 induction k with
 | zero => exact Nat.le_refl _
 | succ k ih => unfold posF; split <;> omega
def insP (l : List Nat) (n : Nat) : List Nat := l.take (posF l n l.length) ++ n :: l.drop (posF l n l.length)
theorem pos_hi (l : List Nat) (n : Nat) : ∀ k j, posF l n k <= j -> j < k -> n < l.getD j 0 := by
 intro k
 induction k with
 | zero => intro j _ h; omega
 | succ k ih =>
  intro j h1 h2
  unfold posF at h1
  split at h1
  ·rename_i hlt
   by_cases hj : j < k
   ·exact ih j h1 hj
   ·obtain rfl : j = k := by omega
    exact hlt
  ·omega
theorem pos_lo (l : List Nat) (n : Nat) : ∀ k, 0 < posF l n k -> l.getD (posF l n k - 1) 0 <= n := by
 intro k
 induction k with
 | zero => intro h; exact absurd h (by simp [posF])
 | succ k ih =>
  unfold posF
  split
  ·exact ih
  ·rename_i h; intro _; simpa using h
theorem ins_mem {l : List Nat} {n x : Nat} : x ∈ insP l n ↔ x = n \/ x ∈ l := by
 unfold insP
 rw [List.mem_append, List.mem_cons]
 have : x ∈ l ↔ x ∈ l.take (posF l n l.length) \/ x ∈ l.drop (posF l n l.length) := by
  rw [<- List.mem_append, List.take_append_drop]
 rw [this]
 constructor
 ·rintro (h | h | h) <;> simp [h]
 ·rintro (h | h | h) <;> simp [h]
theorem ins_srt {l : List Nat} {n : Nat} (h : Srt l) : Srt (insP l n) := by
 unfold insP
 have hsplit := h
 rw [<- List.take_append_drop (posF l n l.length) l, srt_app] at hsplit
 obtain ⟨h1, h2, h3⟩ := hsplit
 have hp := pos_le l n l.length
 rw [srt_app]
 refine ⟨h1, ⟨fun x hx => ?_, h2⟩, fun x hx y hy => ?_⟩
 ·obtain ⟨i, hi, rfl⟩ := List.getElem_of_mem hx
  rw [List.length_drop] at hi
  have := pos_hi l n l.length (posF l n l.length + i) (by omega) (by omega)
  rw [List.getD_eq_getElem?_getD, List.getElem?_eq_getElem (by omega)] at this
  rw [List.getElem_drop]
  simp at this
  omega
 ·rcases List.mem_cons.1 hy with rfl | hy
  ·by_cases hz : 0 < posF l y l.length
   ·have hlo := pos_lo l y l.length hz
    -- the last one of the first part is not greater, and all of them are not greater than it
    have hlast : l.getD (posF l y l.length - 1) 0 ∈ l.take (posF l y l.length) := by
     rw [List.getD_eq_getElem?_getD, List.getElem?_eq_getElem (by omega)]
     simp only [Option.getD_some]
     exact List.mem_iff_getElem.2 ⟨posF l y l.length - 1, by rw [List.length_take]; omega, by rw [List.getElem_take]⟩
    obtain ⟨i, hi, rfl⟩ := List.getElem_of_mem hx
    rw [List.length_take] at hi
    rw [List.getElem_take]
    have hsr : ∀ (a b : Nat) (hb : b < l.length), (hab : a <= b) -> l[a]'(by omega) <= l[b] := by
     intro a b hb hab
     rcases Nat.lt_or_eq_of_le hab with hlt | rfl
     ·have hs2 := h
      rw [<- List.take_append_drop (a + 1) l, srt_app] at hs2
      refine hs2.2.2 _ ?_ _ ?_
      ·exact List.mem_iff_getElem.2 ⟨a, by rw [List.length_take]; omega, by rw [List.getElem_take]⟩
      ·exact List.mem_iff_getElem.2 ⟨b - (a + 1), by rw [List.length_drop]; omega, by rw [List.getElem_drop]; congr 1; omega⟩
     ·exact Nat.le_refl _
    have := hsr i (posF l y l.length - 1) (by omega) (by omega)
    rw [List.getD_eq_getElem?_getD, List.getElem?_eq_getElem (by omega)] at hlo
    simp only [Option.getD_some] at hlo
    omega
   ·rw [show posF l y l.length = 0 by omega] at hx; simp at hx
  ·exact h3 x hx y hy
def allP (acc : List Nat) (l : List Nat) : List Nat := l.foldl insP acc
theorem allP_srt : ∀ {l acc : List Nat}, Srt acc -> Srt (allP acc l) := by
 intro l
 induction l with
 | nil => intro acc h; exact h
 | cons a r ih => intro acc h; exact ih (acc := insP acc a) (ins_srt h)
theorem allP_mem : ∀ {l acc : List Nat} {x : Nat}, x ∈ allP acc l ↔ x ∈ acc \/ x ∈ l := by
 intro l
 induction l with
 | nil => intro acc x; simp [allP]
 | cons a r ih =>
  intro acc x
  show x ∈ allP (insP acc a) r ↔ _
  rw [ih, ins_mem, List.mem_cons]
  constructor
  ·rintro ((h | h) | h) <;> simp [h]
  ·rintro (h | h | h) <;> simp [h]
def turnsF (f : Nat -> Bool) : Bool -> List Nat -> List Nat
 | _, [] => []
 | is, n :: r => if f n = is then turnsF f is r else n :: turnsF f (f n) r
def lastF (f : Nat -> Bool) : Bool -> List Nat -> Nat -> Bool
 | is, [], _ => is
 | is, n :: r, x => if n <= x then lastF f (f n) r x else is
theorem turns_mem {f : Nat -> Bool} : ∀ {l : List Nat} {is : Bool}, ∀ x ∈ turnsF f is l, x ∈ l := by
 intro l
 induction l with
 | nil => intro is x hx; cases hx
 | cons n r ih =>
  intro is x hx
  unfold turnsF at hx
  split at hx
  ·exact List.mem_cons_of_mem _ (ih x hx)
  ·rcases List.mem_cons.1 hx with rfl | hx
   ·exact List.mem_cons_self
   ·exact List.mem_cons_of_mem _ (ih x hx)
theorem turns_gt {f : Nat -> Bool} {n : Nat} : ∀ {l : List Nat}, Srt l -> (∀ x ∈ l, n <= x) -> ∀ x ∈ turnsF f (f n) l, n < x := by
 intro l
 induction l with
 | nil => intro _ _ x hx; cases hx
 | cons m r ih =>
  intro hs hl x hx
  have hm := hl m List.mem_cons_self
  unfold turnsF at hx
  split at hx
  ·exact ih hs.2 (fun y hy => hl y (List.mem_cons_of_mem _ hy)) x hx
  ·rename_i hne
   have hlt : n < m := by
    rcases Nat.lt_or_eq_of_le hm with h | rfl
    ·exact h
    ·exact absurd rfl hne
   rcases List.mem_cons.1 hx with rfl | hx
   ·exact hlt
   ·have := hs.1 x (turns_mem x hx); omega
theorem turns_up {f : Nat -> Bool} : ∀ {l : List Nat} {is : Bool}, Srt l -> Up (turnsF f is l) := by
 intro l
 induction l with
 | nil => intro is _; trivial
 | cons n r ih =>
  intro is hs
  unfold turnsF
  split
  ·exact ih hs.2
  ·exact ⟨turns_gt hs.2 hs.1, ih hs.2⟩
theorem turns_in {f : Nat -> Bool} {x : Nat} : ∀ {l : List Nat} {is : Bool}, Srt l -> (inP (turnsF f is l) x ^^ is) = lastF f is l x := by
 intro l
 induction l with
 | nil => intro is _; simp [turnsF, inP, lastF]
 | cons n r ih =>
  intro is hs
  have h1 := ih (is := f n) hs.2
  unfold turnsF lastF
  by_cases hn : n <= x
  ·rw [if_pos hn]
   split
   ·rename_i e; rw [<- e]; exact h1
   ·rename_i e
    rw [inP, if_pos hn, <- h1]
    cases hf : f n <;> cases is <;> simp_all
  ·rw [if_neg hn]
   split
   ·rw [inP_low (fun y hy => by have := hs.1 y (turns_mem y hy); omega)]; simp
   ·rw [inP, if_neg hn]; simp
theorem last_is {f : Nat -> Bool} {x : Nat} : ∀ {l : List Nat} {is : Bool}, Srt l -> (∃ e ∈ l, e <= x) -> ∃ m ∈ l, (∀ e ∈ l, e <= m ↔ e <= x) /\ lastF f is l x = f m := by
 intro l
 induction l with
 | nil => rintro is _ ⟨e, he, _⟩; cases he
 | cons n r ih =>
  intro is hs hex
  have hn : n <= x := by
   obtain ⟨e, he, hle⟩ := hex
   rcases List.mem_cons.1 he with rfl | he
   ·exact hle
   ·have := hs.1 e he; omega
  unfold lastF
  rw [if_pos hn]
  by_cases h : ∃ e ∈ r, e <= x
  ·obtain ⟨m, hm, h1, h2⟩ := ih (is := f n) hs.2 h
   refine ⟨m, List.mem_cons_of_mem _ hm, fun e he => ?_, h2⟩
   rcases List.mem_cons.1 he with rfl | he
   ·have := hs.1 m hm; exact ⟨fun _ => hn, fun _ => this⟩
   ·exact h1 e he
  ·refine ⟨n, List.mem_cons_self, fun e he => ?_, ?_⟩
   ·rcases List.mem_cons.1 he with rfl | he
    ·exact ⟨fun _ => hn, fun _ => Nat.le_refl _⟩
    ·have hgt : ¬ e <= x := fun hle => h ⟨e, he, hle⟩
     constructor
     ·intro hle; omega
     ·intro hle; exact absurd hle hgt
   ·cases r with
    | nil => rfl
    | cons m q =>
     unfold lastF
     rw [if_neg (fun hle => h ⟨m, List.mem_cons_self, hle⟩)]
theorem inP_congr {m x : Nat} : ∀ {l : List Nat}, (∀ e ∈ l, e <= m ↔ e <= x) -> inP l m = inP l x := by
 intro l
 induction l with
 | nil => intro _; rfl
 | cons a r ih =>
  intro h
  have := h a List.mem_cons_self
  unfold inP
  rw [ih (fun e he => h e (List.mem_cons_of_mem _ he))]
  by_cases ha : a <= x
  ·rw [if_pos ha, if_pos (this.2 ha)]
  ·rw [if_neg ha, if_neg (fun hm => ha (this.1 hm))]
def ruleF (a b : List Nat) (rule : Bool -> Bool -> Bool) (n : Nat) : Bool := decide (n < ALL) && rule (inP a n) (inP b n)
def placesF (a b : List Nat) : List Nat := allP (allP (allP [] [0, ALL]) a) b
def mixF (a b : List Nat) (rule : Bool -> Bool -> Bool) : List Nat := turnsF (ruleF a b rule) false (placesF a b)
theorem places_srt (a b : List Nat) : Srt (placesF a b) := allP_srt (allP_srt (allP_srt trivial))
theorem places_mem {a b : List Nat} {x : Nat} : x ∈ placesF a b ↔ (x = 0 \/ x = ALL) \/ x ∈ a \/ x ∈ b := by
 unfold placesF
 rw [allP_mem, allP_mem, allP_mem]
 simp [or_assoc]
theorem mix_in (a b : List Nat) (rule : Bool -> Bool -> Bool) (x : Nat) : inP (mixF a b rule) x = ruleF a b rule x := by
 have h := turns_in (f := ruleF a b rule) (x := x) (is := false) (places_srt a b)
 obtain ⟨m, hm, h1, h2⟩ := last_is (f := ruleF a b rule) (x := x) (is := false) (places_srt a b) ⟨0, places_mem.2 (Or.inl (Or.inl rfl)), Nat.zero_le _⟩
 rw [h2] at h
 simp only [Bool.xor_false] at h
 unfold mixF
 rw [h]
 unfold ruleF
 have hA := h1 ALL (places_mem.2 (Or.inl (Or.inr rfl)))
 rw [inP_congr (l := a) (fun e he => h1 e (places_mem.2 (Or.inr (Or.inl he)))), inP_congr (l := b) (fun e he => h1 e (places_mem.2 (Or.inr (Or.inr he))))]
 congr 1
 rw [decide_eq_decide]
 omega
theorem mix_up (a b : List Nat) (rule : Bool -> Bool -> Bool) : Up (mixF a b rule) := turns_up (places_srt a b)
open Classical in
theorem mix_and {l m : List Span} (hl : Rg l) (hm : Rg m) : mixF (tp l) (tp m) (fun x y => x && y) = tp (nd l m) :=
 up_ext (mix_up _ _ _) (tp_up (rg_nd hl hm)) fun n => by
  rw [mix_in, Bool.eq_iff_iff, tp_in (rg_nd hl hm), mem_nd hl hm]
  unfold ruleF
  rw [Bool.and_eq_true, Bool.and_eq_true, tp_in hl, tp_in hm, decide_eq_true_iff]
  exact ⟨fun h => h.2, fun h => ⟨hl.lt h.1, h⟩⟩
theorem mix_or {l m : List Span} (hl : Rg l) (hm : Rg m) : mixF (tp l) (tp m) (fun x y => x || y) = tp (orr l m) :=
 up_ext (mix_up _ _ _) (tp_up (rg_orr hl hm)) fun n => by
  rw [mix_in, Bool.eq_iff_iff, tp_in (rg_orr hl hm), mem_orr hl hm]
  unfold ruleF
  rw [Bool.and_eq_true, Bool.or_eq_true, tp_in hl, tp_in hm, decide_eq_true_iff]
  exact ⟨fun h => h.2, fun h => ⟨h.elim hl.lt hm.lt, h⟩⟩
theorem mix_not {l : List Span} (hl : Rg l) : mixF (tp l) [] (fun x _ => !x) = tp (nt l) :=
 up_ext (mix_up _ _ _) (tp_up (rg_nt hl)) fun n => by
  rw [mix_in, Bool.eq_iff_iff, tp_in (rg_nt hl), mem_nt hl]
  unfold ruleF
  rw [Bool.and_eq_true, Bool.not_eq_true', decide_eq_true_iff, <- Bool.not_eq_true, tp_in hl]
theorem places_len (a b : List Nat) : (placesF a b).length = a.length + b.length + 2 := by
 have hi : ∀ (l : List Nat) (n : Nat), (insP l n).length = l.length + 1 := fun l n => by
  unfold insP; rw [List.length_append, List.length_cons, List.length_take, List.length_drop]; have := pos_le l n l.length; omega
 have ha : ∀ (l acc : List Nat), (allP acc l).length = acc.length + l.length := fun l => by
  induction l with
  | nil => intro acc; rfl
  | cons x l ih => intro acc; show (allP (insP acc x) l).length = _; rw [ih, hi, List.length_cons]; omega
 unfold placesF
 rw [ha, ha, ha]; simp; omega
end Go.Proofs.YtmhophccdfmngaaGreatDoor.Sv
namespace Go.Proofs.YtmhophccdfmngaaGreatDoor
open Go.RowKit Sv
def ncells (l : List Nat) : List Value := l.map fun (n : Nat) => .int .i64 (n : Int)
def nv (l : List Nat) (i : Nat) : Nat := l.getD i 0
theorem nv_at (l : List Nat) (i : Nat) (h : i < l.length) : nv l i = l[i] := by unfold nv; simp [List.getD_eq_getElem?_getD, List.getElem?_eq_getElem h]
theorem ncells_length (l : List Nat) : (ncells l).length = l.length := by simp [ncells]
theorem ncells_append (a b : List Nat) : ncells (a ++ b) = ncells a ++ ncells b := by simp [ncells]
theorem ncells_at (l : List Nat) (i : Nat) (h : i < l.length) : (ncells l)[i]? = some (.int .i64 (nv l i : Int)) := by simp [ncells, h, nv_at]
structure NsAt (w : World) (v : Value) (l : List Nat) : Prop where
 form : ∃ a cap, v = .slice a l.length cap
 cells : ∀ i, i < l.length -> ∃ g cap, v = .slice (some ⟨g, 0, none⟩) l.length cap /\ g < w.heap.size /\ w.cell? ⟨g, i, none⟩ = some (.int .i64 (nv l i : Int))
theorem nsAt_nil (w : World) : NsAt w (.slice none 0 0) [] := ⟨⟨none, 0, rfl⟩, fun i h => by simp at h⟩
theorem NsAt.below {B : Nat} {w w' : World} {v : Value} {l : List Nat} (h : NsAt w v l) (hb : Below B w w') (hB : w.heap.size <= B) : NsAt w' v l :=
 ⟨h.form, fun i hi => by
  obtain ⟨g, cap, e, hg, c0⟩ := h.cells i hi
  exact ⟨g, cap, e, Nat.lt_of_lt_of_le hg hb.size, (hb.cell (p := ⟨g, i, none⟩) (by show g < B; omega)).trans c0⟩⟩
theorem NsAt.drew {w : World} {v : Value} {l : List Nat} (h : NsAt w v l) : NsAt w.drew v l := ⟨h.form, h.cells⟩
theorem nsAt_row {B : Nat} {w : World} {v : Value} {l : List Nat} (h : w.ownsRow B 3 1 v l.length (ncells l)) : NsAt w v l := by
 rcases h.2 with ⟨e, e0⟩ | ⟨g, cap, cur, e, hB, hg, hn, hm, hsz, htake⟩
 ·exact ⟨⟨none, 0, by rw [e, e0]⟩, fun i hi => by omega⟩
 ·refine ⟨⟨_, _, e⟩, fun i hi => ?_⟩
  have hlt : g < w.heap.size := (h.lt g (by rw [e]; rfl)).2
  have cell : w.cell? ⟨g, i, none⟩ = (ncells l)[i]? := by
   rw [<- htake, List.getElem?_take, if_pos (by omega)]
   simp [World.cell?, hg]
  exact ⟨g, cap, e, hlt, cell.trans (ncells_at l i hi)⟩
theorem nsrow_form {B n : Nat} {w : World} {v : Value} {t : TypeId} {cs : List Value} (h : w.ownsRow B t 1 v n cs) : ∃ a c, v = .slice a n c := by
 rcases h.2 with ⟨e, e0⟩ | ⟨g, cap, cur, e, -⟩
 ·exact ⟨none, 0, by rw [e, e0]⟩
 ·exact ⟨_, _, e⟩
theorem nsrow_below {B n b : Nat} {w w' : World} {v : Value} {t : TypeId} {cs : List Value} (h : w.ownsRow B t 1 v n cs) (hb : Below b w w') (hB : w.heap.size <= b) : w'.ownsRow B t 1 v n cs := by
 refine ⟨h.1, ?_⟩
 rcases h.2 with h1 | ⟨g, cap, cur, h1, h2, h3, h4⟩
 ·exact .inl h1
 ·exact .inr ⟨g, cap, cur, h1, h2, (hb.block g (by have := (h.lt g (by rw [h1]; rfl)).2; omega)).trans h3, h4⟩
def NsOut (w : World) (l : List Nat) (e : Ending) (w' : World) : Prop := ∃ a c, e = .returned (.slice a l.length c) /\ NsAt w' (.slice a l.length c) l /\ (∀ g, (Value.slice a l.length c).ownBlock = some g -> w.heap.size <= g) /\ Below w.heap.size w w'
theorem in_step {l : List Nat} {n k : Nat} (hk : k < l.length) (h : nv l k <= n) : inP (l.drop k) n = !inP (l.drop (k + 1)) n := by
 rw [List.drop_eq_getElem_cons hk, inP, <- nv_at l k hk, if_pos h]
theorem in_stop {l : List Nat} {n k : Nat} (hk : k < l.length) (h : ¬ nv l k <= n) : inP (l.drop k) n = false := by
 rw [List.drop_eq_getElem_cons hk, inP, <- nv_at l k hk, if_neg h]
theorem rem2 (k : Nat) : ((k : Int) % 2 == 1) = (k % 2 == 1) := by
 rw [show (k : Int) % 2 = ((k % 2 : Nat) : Int) by omega]
 rcases Nat.mod_two_eq_zero_or_one k with e | e <;> rw [e] <;> rfl
theorem odd_succ (k : Nat) (b : Bool) : (b ^^ (k % 2 == 1)) = ((!b) ^^ ((k + 1) % 2 == 1)) := by
 rcases Nat.mod_two_eq_zero_or_one k with e | e
 ·have : (k + 1) % 2 = 1 := by omega
  rw [e, this]; cases b <;> rfl
 ·have : (k + 1) % 2 = 0 := by omega
  rw [e, this]; cases b <;> rfl
theorem in_any (l : List Nat) (n : Nat) (v : Value) (w : World) (hv : NsAt w v l) (hlen : l.length <= 1000000000) :
  Calls Tryz.prog 79 #[v, .int .i64 (n : Int)] w fun e w' => e = .returned (.bool (inP l n)) /\ w' = w := by
 obtain ⟨a, cap, rfl⟩ := hv.form
 have HV := Lib.hid hv
 clear hv
 go_enter Tryz.func79, Tryz.ntmps79
 go_wp2_with fail
 go_loopw [5] (fun kV wr => ∃ k : Nat, k <= l.length /\ kV = .int .i64 (k : Int) /\ (inP (l.drop k) n ^^ (k % 2 == 1)) = inP l n /\ wr = w) (fun kV _ => l.length - (intOf kV).toNat)
 case atStart => exact ⟨0, Nat.zero_le _, rfl, by simp, rfl⟩
 case round =>
  obtain ⟨k, hk, rfl, hres, rfl⟩ := hrel
  have HR := Lib.hid hres
  clear hres
  by_cases hlt : k < l.length
  ·obtain ⟨g, cap', e1, hg, c0⟩ := HV.out.cells k hlt
   simp at e1
   obtain ⟨rfl, rfl⟩ := e1
   by_cases hle : nv l k <= n
   ·have hres := HR.out
    rw [in_step hlt hle, odd_succ, Bool.not_not] at hres
    have HRS := Lib.hid hres
    clear hres HR
    generalize nv l k = A at *
    go_wp2
    go_roundw
    case rel => exact ⟨k + 1, by omega, by go_num, HRS.out, trivial⟩
    case measure => simp [intOf]; omega
   ·have hres := HR.out
    rw [in_stop hlt hle, Bool.false_xor] at hres
    have hr2 := rem2 k
    rw [hres] at hr2
    have HRS := Lib.hid hr2
    clear hres HR hr2
    generalize nv l k = A at *
    go_wp2
    go_ret
    exact ⟨congrArg (fun b => Ending.returned (.bool b)) HRS.out, rfl⟩
  ·obtain rfl : k = l.length := by omega
   have hres := HR.out
   rw [List.drop_length, inP, Bool.false_xor] at hres
   have hr2 := rem2 l.length
   rw [hres] at hr2
   have HRS := Lib.hid hr2
   clear hres HR hr2
   go_wp2
   go_ret
   exact ⟨congrArg (fun b => Ending.returned (.bool b)) HRS.out, rfl⟩
theorem rrow_any (x y : Nat) (w : World) : Calls Tryz.prog 60 #[.int .i64 (x : Int), .int .i64 (y : Int)] w (NsOut w (tp (rowF x y))) := by
 rw [tp_row]
 by_cases h : x < y
 ·rw [if_pos h]
  have h1 : ¬ (y : Int) <= (x : Int) := by omega
  clear h
  go_enter Tryz.func60, Tryz.ntmps60
  go_wp2
  go_ret
  refine ⟨_, _, rfl, ⟨⟨_, _, rfl⟩, fun i hi => ⟨w.heap.size, 2, rfl, by simp, ?_⟩⟩, fun g hg => by simp [Value.ownBlock] at hg; omega, (Below.refl _ w).alloc (Nat.le_refl _) _⟩
  match i, hi with
  | 0, _ => simp [nv]
  | 1, _ => simp [nv]
 ·rw [if_neg h]
  have h1 : (y : Int) <= (x : Int) := by omega
  clear h
  go_enter Tryz.func60, Tryz.ntmps60
  go_wp2
  go_ret
  exact ⟨none, 0, rfl, nsAt_nil _, fun g hg => by simp [Value.ownBlock] at hg, Below.refl _ _⟩
theorem rnum_any (a b c : Nat) (ha : a <= 1000) (hb : b <= 1000) (hc : c <= 1000) (w : World) :
  Calls Tryz.prog 80 #[.agg #[.int .i64 (a : Int), .int .i64 (b : Int), .int .i64 (c : Int)]] w fun e w' => e = .returned (.int .i64 (((a * 1000 + b) * 1000 + c : Nat) : Int)) /\ Below w.heap.size w w' := by
 have hB : Hid (Below w.heap.size w (w.alloc (.cells #[.int .i64 (a : Int), .int .i64 (b : Int), .int .i64 (c : Int)] 48))) := (Below.refl _ w).alloc (Nat.le_refl _) _
 have HN : Hid ((a : Int) * 1000000 + (b : Int) * 1000 + (c : Int) = (((a * 1000 + b) * 1000 + c : Nat) : Int)) := by show _ = _; omega
 go_enter Tryz.func80, Tryz.ntmps80
 go_wp2
 go_ret
 exact ⟨congrArg (fun z => Ending.returned (Value.int .i64 z)) HN.out, hB.out⟩
end Go.Proofs.YtmhophccdfmngaaGreatDoor
