/- cut: an image's parts. -/
import Derived.Test.YtcjjekhecjmaeaaGreatDoorImThree
import Derived.Test.YtcjjekhecjmaeaaGreatDoorImFix
set_option maxHeartbeats 3000000
set_option maxRecDepth 100000
namespace Go.Proofs.YtcjjekhecjmaeaaGreatDoor
open Go.RowKit Num Go.Sort Go.PlainAid
abbrev headW : List UInt8 := [115, 112, 97, 99, 101, 32]
noncomputable def cutF (l : List UInt8) : Option (Nat × Nat × List (List UInt8)) :=
 if 1 <= l.length /\ l.drop (l.length - 1) = [10] then
  if ((splitL 10 (l.take (l.length - 1))).headD []).take 6 = headW then
   match threeF (((splitL 10 (l.take (l.length - 1))).headD []).drop 6) with
   | some (v, n, t) => if v <= 24 /\ (n : Int) = ((splitL 10 (l.take (l.length - 1))).length : Int) - 2 then some (v, t, ((splitL 10 (l.take (l.length - 1))).drop 1).dropLast) else none
   | none => none
  else none
 else none
def CutR (l : List UInt8) (e : Ending) (w' : World) : Prop :=
 (cutF l = none /\ e = .returned (.tuple #[.agg #[.int .i64 0, .int .i64 0, .slice none 0 0], .bool false])) \/
 ∃ (v t : Nat) (N : List (List UInt8)) (g c : Nat), cutF l = some (v, t, N) /\ e = .returned (.tuple #[.agg #[.int .i64 (v : Int), .int .i64 (t : Int), .slice (some ⟨g, 1, none⟩) N.length c], .bool true]) /\ g < w'.heap.size /\ N.length <= c /\ ∀ j (h : j < N.length), w'.cell? ⟨g, 1 + j, none⟩ = some (strV N[j])
theorem cell_set_other {W : World} {b b' i j : Nat} {v : Value} (h : b ≠ b') : (W.setCell ⟨b', i, none⟩ v).cell? ⟨b, j, none⟩ = W.cell? ⟨b, j, none⟩ := by
 unfold World.cell?; rw [Below.heap_setCell _ _ _ b h]
theorem split_le {c : UInt8} {l x : List UInt8} (hx : x ∈ splitL c l) : x.length <= l.length := by
 have hs := splitL_sum c l
 have : ∀ (L : List (List UInt8)), x ∈ L -> x.length + 1 <= (L.map (fun p => p.length + 1)).sum := by
  intro L
  induction L with
  | nil => intro h; cases h
  | cons y L ih =>
   intro h
   rw [List.map_cons, List.sum_cons]
   rcases List.mem_cons.1 h with rfl | h
   ·omega
   ·have := ih h; omega
 have := this _ hx
 omega
set_option pp.deepTerms true in
set_option pp.maxSteps 100000 in
theorem cut_any (l : List UInt8) (hl : l.length <= 50000) (n : Int) (w : World) (hm : w.cell? ⟨2, 0, none⟩ = some (.int .i64 n)) (hg : 2 < w.heap.size) :
  Calls Tryz.prog 54 #[strV l] w fun e w' => CutR l e w' /\ Below w.heap.size w w' := by
 have hbx := below_new w (.cells #[.int .i64 0, .int .i64 0, .slice none 0 0] 111)
 have HSU : Hid (∀ W, Calls Tryz.prog 85 #[strV l, .string ⟨#[10]⟩] W fun e w' => e = .returned (cutSufV l [10]) /\ W = w') := fun W => cutSuf_any l [10] (by omega) W
 obtain ⟨t, q1, ht, hq1, hq0, htl⟩ : ∃ t q, cutSufV l [10] = .tuple #[strV t, .bool q] /\ (q = true -> (1 <= l.length /\ l.drop (l.length - 1) = [10]) /\ t = l.take (l.length - 1)) /\ (q = false -> ¬ (1 <= l.length /\ l.drop (l.length - 1) = [10])) /\ t.length <= l.length := by
  unfold cutSufV
  by_cases h : 1 <= l.length /\ l.drop (l.length - 1) = [10]
  ·exact ⟨l.take (l.length - 1), true, by exact if_pos h, fun _ => ⟨h, rfl⟩, (fun e => by cases e), by rw [List.length_take]; omega⟩
  ·exact ⟨l, false, by exact if_neg h, (fun e => by cases e), fun _ => h, Nat.le_refl _⟩
 rw [ht] at HSU
 clear ht
 have htz := str_size t
 have htd : (⟨t.toArray⟩ : ByteArray).data.toList = t := by simp
 have HSP : Hid (∀ W, Below w.heap.size w W -> Calls Tryz.prog 86 #[strV t, .string ⟨#[10]⟩] W fun e w' => e = .returned (.slice (some ⟨W.heap.size, 0, none⟩) (splitL 10 t).length (splitL 10 t).length) /\ Blk w' W.heap.size 9 ((splitL 10 t).map strV).toArray /\ Below W.heap.size W w') := fun W hW => split_any ⟨t.toArray⟩ 10 (by rw [htz]; omega) n W ((hW.cell (p := ⟨2, 0, none⟩) hg).trans hm)
 obtain ⟨x, L, hL⟩ : ∃ x L, splitL 10 t = x :: L := by
  cases e : splitL 10 t with
  | nil => exact absurd e (splitL_ne 10 t)
  | cons x L => exact ⟨x, L, rfl⟩
 have hxl : x.length <= 50000 := by have := split_le (c := 10) (l := t) (x := x) (by rw [hL]; exact List.mem_cons_self ..); omega
 have hLl : L.length <= 50000 := by
  have h1 := splitL_len 10 t
  have h2 := List.count_le_length (a := (10 : UInt8)) (l := t)
  rw [hL, List.length_cons] at h1
  omega
 rw [hL] at HSP
 have HPR : Hid (∀ W, Calls Tryz.prog 87 #[strV x, .string ⟨#[115, 112, 97, 99, 101, 32]⟩] W fun e w' => e = .returned (cutPreV x headW) /\ W = w') := fun W => cutPre_any x headW W
 obtain ⟨y, q2, hy, hy1, hy0, hyl⟩ : ∃ y q, cutPreV x headW = .tuple #[strV y, .bool q] /\ (q = true -> x.take 6 = headW /\ y = x.drop 6) /\ (q = false -> ¬ x.take 6 = headW) /\ y.length <= x.length := by
  unfold cutPreV
  by_cases h : x.take headW.length = headW
  ·exact ⟨x.drop headW.length, true, by rw [if_pos h], fun _ => ⟨h, rfl⟩, (fun e => by cases e), by rw [List.length_drop]; omega⟩
  ·exact ⟨x, false, by rw [if_neg h], (fun e => by cases e), fun _ => h, Nat.le_refl _⟩
 rw [hy] at HPR
 clear hy
 have HTH : Hid (∀ W, Below w.heap.size w W -> Calls Tryz.prog 88 #[strV y] W fun e w' => ThreeR y e /\ Below W.heap.size W w') := fun W hW => three_any y (by omega) n W ((hW.cell (p := ⟨2, 0, none⟩) hg).trans hm) (Nat.lt_of_lt_of_le hg hW.size)
 have HN1 : Hid (q1 = false -> cutF l = none) := fun h => by unfold cutF; rw [if_neg (hq0 h)]
 have HN2 : Hid (q1 = true -> q2 = false -> cutF l = none) := fun h h' => by
  obtain ⟨h1, h2⟩ := hq1 h
  unfold cutF; rw [if_pos h1, <- h2, hL, if_neg]; exact hy0 h'
 have HN3 : Hid (q1 = true -> q2 = true -> threeF y = none -> cutF l = none) := fun h h' h3 => by
  obtain ⟨h1, h2⟩ := hq1 h
  obtain ⟨h4, h5⟩ := hy1 h'
  unfold cutF; rw [if_pos h1, <- h2, hL, if_pos (show ((x :: L).headD []).take 6 = headW from h4)]
  show (match threeF (x.drop 6) with | some (v, n, t) => _ | none => none) = _
  rw [<- h5, h3]
 have HN4 : Hid (∀ a b c, q1 = true -> q2 = true -> threeF y = some (a, b, c) -> cutF l = if a <= 24 /\ (b : Int) = ((x :: L).length : Int) - 2 then some (a, c, L.dropLast) else none) := fun a b c h h' h3 => by
  obtain ⟨h1, h2⟩ := hq1 h
  obtain ⟨h4, h5⟩ := hy1 h'
  unfold cutF; rw [if_pos h1, <- h2, hL, if_pos (show ((x :: L).headD []).take 6 = headW from h4)]
  show (match threeF (x.drop 6) with | some (v, n, t) => _ | none => none) = _
  rw [<- h5, h3]
  rfl
 have HBX := Lib.hid hbx
 have HK0 := Lib.hid (Blk.new w 111 #[.int .i64 0, .int .i64 0, .slice none 0 0])
 clear hq1 hq0 hy1 hy0 htz htd hL hm hg htl hyl hxl hbx
 generalize strV t = st at *
 generalize strV y = sy at *
 generalize strV l = sl at *
 go_enter Tryz.func54, Tryz.ntmps54
 go_wp2_with fail
 refine (HSU.out _).mono ?_
 rintro e w1 ⟨rfl, rfl⟩
 go_wp2_with fail
 refine (HSP.out _ HBX.out).mono ?_
 rintro e w2 ⟨rfl, hk, hb⟩
 rw [World.size_alloc] at hk hb
 have hB2 : Below w.heap.size w w2 := HBX.out.trans (hb.mono (by omega))
 have q0 : Blk w2 w.heap.size 111 #[.int .i64 0, .int .i64 0, .slice none 0 0] := HK0.out.below hb (by omega)
 have hcells : ∀ j (h : j < L.length), w2.cell? ⟨w.heap.size + 1, 1 + j, none⟩ = some (strV L[j]) := fun j hj => by
  rw [hk.cell (1 + j), Nat.add_comm 1 j]
  simp [hj]
 have c0 : w2.cell? ⟨w.heap.size + 1, 0, none⟩ = some (strV x) := by rw [hk.cell 0]; simp
 have hlt1 : w.heap.size + 1 < w2.heap.size := hk.lt
 have hl1 : (0 : Int) < ((x :: L).length : Int) := by simp only [List.length_cons]; omega
 have HCL := Lib.hid hcells
 have HB2 := Lib.hid hB2
 have Q0 := Lib.hid q0
 have HLL : Hid ((x :: L).length = L.length + 1) := by show _ = _; simp
 clear hk hb hB2 q0 hcells HBX HK0 HSU HSP
 generalize strV x = sx at *
 generalize (x :: L).length = R at *
 go_wp2_with fail
 refine (HPR.out _).mono ?_
 rintro e w3 ⟨rfl, rfl⟩
 go_wp2_with fail
 refine (HTH.out _ HB2.out).mono ?_
 rintro e w3 ⟨⟨a, b, c, q, rfl, hy1, hy0⟩, hb3⟩
 have HB3 := Lib.hid (HB2.out.trans (hb3.mono HB2.out.size))
 have Q3 := Lib.hid (Q0.out.below hb3 Q0.out.lt)
 have HC3 : Hid (∀ j (h : j < L.length), w3.cell? ⟨w.heap.size + 1, 1 + j, none⟩ = some (strV L[j])) := fun j hj => (hb3.cell (p := ⟨w.heap.size + 1, 1 + j, none⟩) hlt1).trans (HCL.out j hj)
 have hlt3 : w.heap.size + 1 < w3.heap.size := Nat.lt_of_lt_of_le hlt1 hb3.size
 have HY1 := Lib.hid hy1
 have HY0 := Lib.hid hy0
 clear hy1 hy0 HCL Q0 HB2 hb3 hlt1 HPR HTH c0
 have qa := Q3.out.alloc (.cells #[.int .i64 a, .int .i64 b, .int .i64 c] 152)
 have qb := Blk.new w3 152 #[.int .i64 a, .int .i64 b, .int .i64 c]
 have hba := HB3.out.alloc HB3.out.size (.cells #[.int .i64 a, .int .i64 b, .int .i64 c] 152)
 have d0 := qb.cell 0
 have d1 := qb.cell 1
 have d2 := qb.cell 2
 have e0 := qa.cell 0
 have e1 := qa.cell 1
 have e2 := qa.cell 2
 have f0 := qa.frozen 0
 have f1 := qa.frozen 1
 have f2 := qa.frozen 2
 simp at d0 d1 d2 e0 e1 e2
 have HBA := Lib.hid hba
 have QA := Lib.hid qa
 have QB := Lib.hid qb
 clear hba qa qb
 have HZ : Hid (Blk ((((w3.alloc (.cells #[.int .i64 a, .int .i64 b, .int .i64 c] 152)).setCell ⟨w.heap.size, 0, none⟩ (.int .i64 0)).setCell ⟨w.heap.size, 1, none⟩ (.int .i64 0)).setCell ⟨w.heap.size, 2, none⟩ (.slice none 0 0)) w.heap.size 111 #[.int .i64 0, .int .i64 0, .slice none 0 0] /\ Below w.heap.size w ((((w3.alloc (.cells #[.int .i64 a, .int .i64 b, .int .i64 c] 152)).setCell ⟨w.heap.size, 0, none⟩ (.int .i64 0)).setCell ⟨w.heap.size, 1, none⟩ (.int .i64 0)).setCell ⟨w.heap.size, 2, none⟩ (.slice none 0 0))) := ⟨((QA.out.set (i := 0) (v := .int .i64 0)).set (i := 1) (v := .int .i64 0)).set (i := 2) (v := .slice none 0 0), ((HBA.out.setCell (p := ⟨w.heap.size, 0, none⟩) (Nat.le_refl _) _).setCell (p := ⟨w.heap.size, 1, none⟩) (Nat.le_refl _) _).setCell (p := ⟨w.heap.size, 2, none⟩) (Nat.le_refl _) _⟩
 have P3 := Lib.hid HZ.out.1
 have HBZ := Lib.hid HZ.out.2
 clear HZ
 cases q1 with
 | false =>
  have hN : cutF l = none := HN1.out rfl
  have HN := Lib.hid hN
  clear hN HN1 HN2 HN3 HN4 HBA QA QB HC3 Q3
  go_wp2
  have r0 := P3.out.cell 0
  have r1 := P3.out.cell 1
  have r2 := P3.out.cell 2
  simp at r0 r1 r2
  refine bodyPost_ret (v := .tuple #[.agg #[.int .i64 0, .int .i64 0, .slice none 0 0], .bool false]) (by simp [results, Tryz.results54, go_sem, r0, r1, r2]) rfl ?_
  exact ⟨.inl ⟨HN.out, rfl⟩, HBZ.out⟩
 | true =>
 cases q2 with
 | false =>
  have hN : cutF l = none := HN2.out rfl rfl
  have HN := Lib.hid hN
  clear hN HN1 HN2 HN3 HN4 HBA QA QB HC3 Q3
  go_wp2
  have r0 := P3.out.cell 0
  have r1 := P3.out.cell 1
  have r2 := P3.out.cell 2
  simp at r0 r1 r2
  refine bodyPost_ret (v := .tuple #[.agg #[.int .i64 0, .int .i64 0, .slice none 0 0], .bool false]) (by simp [results, Tryz.results54, go_sem, r0, r1, r2]) rfl ?_
  exact ⟨.inl ⟨HN.out, rfl⟩, HBZ.out⟩
 | true =>
 cases q with
 | false =>
  have hN : cutF l = none := HN3.out rfl rfl (HY0.out rfl)
  have HN := Lib.hid hN
  clear hN HN1 HN2 HN3 HN4 HBA QA QB HC3 Q3
  go_wp2
  have r0 := P3.out.cell 0
  have r1 := P3.out.cell 1
  have r2 := P3.out.cell 2
  simp at r0 r1 r2
  refine bodyPost_ret (v := .tuple #[.agg #[.int .i64 0, .int .i64 0, .slice none 0 0], .bool false]) (by simp [results, Tryz.results54, go_sem, r0, r1, r2]) rfl ?_
  exact ⟨.inl ⟨HN.out, rfl⟩, HBZ.out⟩
 | true =>
 obtain ⟨a, b, c, rfl, rfl, rfl, h3⟩ := HY1.out rfl
 have hc := HN4.out a b c rfl rfl h3
 have HC := Lib.hid hc
 clear hc HN1 HN2 HN3 HN4 HY1 HY0
 by_cases hv : a <= 24
 ·have hR := HLL.out
  by_cases hn : (b : Int) = (R : Int) - 2
  ·obtain ⟨m, hm⟩ : ∃ m : Nat, m = R - 2 := ⟨_, rfl⟩
   obtain ⟨p, hp⟩ : ∃ p : Nat, p = R - 1 := ⟨_, rfl⟩
   have HN5 : Hid (cutF l = some (a, c, L.dropLast)) := by
    show _ = _
    rw [HC.out, if_pos]
    exact ⟨hv, hn⟩
   have hv2 : decide ((24 : Int) < (a : Int)) = false := decide_eq_false (by omega)
   have hw : wrap64 ((R : Int) - 2) = (m : Int) := by unfold wrap64; omega
   have hw1 : wrap64 ((R : Int) - 1) = (p : Int) := by unfold wrap64; omega
   have hn2 : ((b : Int) != (m : Int)) = false := by simp; omega
   have hw2 : IntKind.i64.wrap ((R : Int) - 1) = (p : Int) := by rw [w64 (by omega) (by omega)]; omega
   have i0 : (0 : Int) <= (p : Int) := by omega
   have i1 : (1 : Int) <= (p : Int) := by omega
   have i2 : (p : Int) <= (R : Int) := by omega
   have i3 : 1 <= p := by omega
   have i5 : ¬ R = 1 := by omega
   have i4 : p <= R := by omega
   have hdl : L.dropLast.length = p - 1 := by rw [List.length_dropLast]; omega
   have HRR : Hid (p - 1 <= R - 1) := by show _ <= _; omega
   clear hm hp hR hn
   have HDL := Lib.hid hdl
   have HCW : Hid (∀ j (h : j < L.dropLast.length), (w3.alloc (.cells #[.int .i64 (a : Int), .int .i64 (b : Int), .int .i64 (c : Int)] 152)).cell? ⟨w.heap.size + 1, 1 + j, none⟩ = some (strV L.dropLast[j])) := fun j hj => by
    have h1 : j < L.length := by rw [List.length_dropLast] at hj; omega
    rw [cellOld (w := w3) _ hlt3, HC3.out j h1]
    simp
   obtain ⟨W3, hW3⟩ : ∃ W, W = (w3.alloc (.cells #[.int .i64 (a : Int), .int .i64 (b : Int), .int .i64 (c : Int)] 152)) := ⟨_, rfl⟩
   have hz : w3.heap.size < W3.heap.size := by rw [hW3, World.size_alloc]; omega
   clear d0 d1 d2 e0 e1 e2 f0 f1 f2
   rw [<- hW3] at HBA QA QB HCW
   have d0 : W3.cell? ⟨w3.heap.size, 0, none⟩ = some (.int .i64 (a : Int)) := QB.out.cell 0
   have d2 : W3.cell? ⟨w3.heap.size, 2, none⟩ = some (.int .i64 (c : Int)) := QB.out.cell 2
   have e0 : W3.cell? ⟨w.heap.size, 0, none⟩ = some (.int .i64 0) := QA.out.cell 0
   have e1 : W3.cell? ⟨w.heap.size, 1, none⟩ = some (.int .i64 0) := QA.out.cell 1
   have e2 : W3.cell? ⟨w.heap.size, 2, none⟩ = some (.slice none 0 0) := QA.out.cell 2
   have f0 := QA.out.frozen 0
   have f1 := QA.out.frozen 1
   have f2 := QA.out.frozen 2
   have S0 : W3.cell? ⟨w3.heap.size, 0, none⟩ = some (.int .i64 (a : Int)) /\ W3.cell? ⟨w3.heap.size, 2, none⟩ = some (.int .i64 (c : Int)) := ⟨d0, d2⟩
   clear HC hdl P3 HBZ
   go_wp2_with fail
   rw [<- hW3]
   clear hW3
   have g0 : W3.drew.cell? ⟨w.heap.size, 0, none⟩ = some (.int .i64 0) := e0
   have g1 : W3.drew.cell? ⟨w.heap.size, 1, none⟩ = some (.int .i64 0) := e1
   have g2 : W3.drew.cell? ⟨w.heap.size, 2, none⟩ = some (.slice none 0 0) := e2
   have g3 : W3.drew.frozen? ⟨w.heap.size, 0, none⟩ = false := f0
   have g4 : W3.drew.frozen? ⟨w.heap.size, 1, none⟩ = false := f1
   have g5 : W3.drew.frozen? ⟨w.heap.size, 2, none⟩ = false := f2
   have hne : w3.heap.size ≠ w.heap.size := by omega
   have qz := ((QB.out.other (i := 0) (v := .int .i64 (a : Int)) hne).other (i := 1) (v := .int .i64 (c : Int)) hne).other (i := 2) (v := .slice (some ⟨w.heap.size + 1, 1, none⟩) (p - 1) (R - 1)) hne
   have S1 : (((W3.setCell ⟨w.heap.size, 0, none⟩ (.int .i64 (a : Int))).setCell ⟨w.heap.size, 1, none⟩ (.int .i64 (c : Int))).setCell ⟨w.heap.size, 2, none⟩ (.slice (some ⟨w.heap.size + 1, 1, none⟩) (p - 1) (R - 1))).drew.cell? ⟨w3.heap.size, 0, none⟩ = some (.int .i64 (a : Int)) /\ (((W3.setCell ⟨w.heap.size, 0, none⟩ (.int .i64 (a : Int))).setCell ⟨w.heap.size, 1, none⟩ (.int .i64 (c : Int))).setCell ⟨w.heap.size, 2, none⟩ (.slice (some ⟨w.heap.size + 1, 1, none⟩) (p - 1) (R - 1))).drew.cell? ⟨w3.heap.size, 2, none⟩ = some (.int .i64 (c : Int)) := ⟨qz.cell 0, qz.cell 2⟩
   have S1 := Lib.hid S1
   clear qz hne
   go_region_held3 (fun X => X.cell? ⟨w3.heap.size, 0, none⟩ = some (.int .i64 (a : Int)) /\ X.cell? ⟨w3.heap.size, 2, none⟩ = some (.int .i64 (c : Int))) (first | exact S0 | exact S1.out) (fail)
   have p2 := ((QA.out.set (i := 0) (v := .int .i64 (a : Int))).set (i := 1) (v := .int .i64 (c : Int))).set (i := 2) (v := .slice (some ⟨w.heap.size + 1, 1, none⟩) (p - 1) (R - 1))
   have HBZ : Below w.heap.size w (((W3.setCell ⟨w.heap.size, 0, none⟩ (.int .i64 (a : Int))).setCell ⟨w.heap.size, 1, none⟩ (.int .i64 (c : Int))).setCell ⟨w.heap.size, 2, none⟩ (.slice (some ⟨w.heap.size + 1, 1, none⟩) (p - 1) (R - 1))) := ((HBA.out.setCell (p := ⟨w.heap.size, 0, none⟩) (Nat.le_refl _) _).setCell (p := ⟨w.heap.size, 1, none⟩) (Nat.le_refl _) _).setCell (p := ⟨w.heap.size, 2, none⟩) (Nat.le_refl _) _
   have hcz : ∀ j (h : j < L.dropLast.length), (((W3.setCell ⟨w.heap.size, 0, none⟩ (.int .i64 (a : Int))).setCell ⟨w.heap.size, 1, none⟩ (.int .i64 (c : Int))).setCell ⟨w.heap.size, 2, none⟩ (.slice (some ⟨w.heap.size + 1, 1, none⟩) (p - 1) (R - 1))).cell? ⟨w.heap.size + 1, 1 + j, none⟩ = some (strV L.dropLast[j]) := fun j hj => by
    rw [cell_set_other (by omega), cell_set_other (by omega), cell_set_other (by omega)]
    exact HCW.out j hj
   have p3 := p2.drew
   go_wp2
   have r0 := p3.cell 0
   have r1 := p3.cell 1
   have r2 := p3.cell 2
   simp at r0 r1 r2
   refine bodyPost_ret (v := .tuple #[.agg #[.int .i64 (a : Int), .int .i64 (c : Int), .slice (some ⟨w.heap.size + 1, 1, none⟩) (p - 1) (R - 1)], .bool true]) (by simp [results, Tryz.results54, go_sem, r0, r1, r2]) rfl ?_
   refine ⟨.inr ⟨a, c, L.dropLast, w.heap.size + 1, R - 1, HN5.out, by rw [HDL.out], ?_, by rw [HDL.out]; exact HRR.out, hcz⟩, HBZ.drew⟩
   have h6 := ((((Below.refl 0 W3).setCell (p := ⟨w.heap.size, 0, none⟩) (Nat.zero_le _) (.int .i64 (a : Int))).setCell (p := ⟨w.heap.size, 1, none⟩) (Nat.zero_le _) (.int .i64 (c : Int))).setCell (p := ⟨w.heap.size, 2, none⟩) (Nat.zero_le _) (.slice (some ⟨w.heap.size + 1, 1, none⟩) (p - 1) (R - 1))).drew.size
   exact Nat.lt_of_lt_of_le (Nat.lt_trans hlt3 hz) h6
  ·have HN5 : Hid (cutF l = none) := by
    show _ = _
    rw [HC.out, if_neg]
    rintro ⟨-, h⟩
    exact hn h
   have hv2 : decide ((24 : Int) < (a : Int)) = false := decide_eq_false (by omega)
   have hw : wrap64 ((R : Int) - 2) = (R : Int) - 2 := by unfold wrap64; omega
   have hn2 : ((b : Int) != (R : Int) - 2) = true := by simpa using hn
   clear hR
   clear HC HBA QA QB HC3 Q3 hn
   go_wp2
   have r0 := P3.out.cell 0
   have r1 := P3.out.cell 1
   have r2 := P3.out.cell 2
   simp at r0 r1 r2
   refine bodyPost_ret (v := .tuple #[.agg #[.int .i64 0, .int .i64 0, .slice none 0 0], .bool false]) (by simp [results, Tryz.results54, go_sem, r0, r1, r2]) rfl ?_
   exact ⟨.inl ⟨HN5.out, rfl⟩, HBZ.out⟩
 ·have HN5 : Hid (cutF l = none) := by
   show _ = _
   rw [HC.out, if_neg]
   rintro ⟨h, -⟩
   exact hv h
  have hv2 : (24 : Int) < (a : Int) := by omega
  clear HC HBA QA QB HC3 Q3
  go_wp2
  have r0 := P3.out.cell 0
  have r1 := P3.out.cell 1
  have r2 := P3.out.cell 2
  simp at r0 r1 r2
  refine bodyPost_ret (v := .tuple #[.agg #[.int .i64 0, .int .i64 0, .slice none 0 0], .bool false]) (by simp [results, Tryz.results54, go_sem, r0, r1, r2]) rfl ?_
  exact ⟨.inl ⟨HN5.out, rfl⟩, HBZ.out⟩
end Go.Proofs.YtcjjekhecjmaeaaGreatDoor
