/- three: three numbers, with one blank between. -/
import Derived.Test.YtcjjekhecjmaeaaGreatDoorImCutP
import Derived.Test.YtcjjekhecjmaeaaGreatDoorArTop
import Derived.Lib.SplitLaws
set_option maxHeartbeats 2000000
set_option maxRecDepth 100000
namespace Go.Proofs.YtcjjekhecjmaeaaGreatDoor
section
open Go.RowKit
def strV (l : List UInt8) : Value := .string ⟨l.toArray⟩
theorem split_any (s : ByteArray) (c : UInt8) (hs : s.size <= 100000) (n : Int) (W : World) (hm : W.cell? ⟨2, 0, none⟩ = some (.int .i64 n)) :
  Calls Tryz.prog 86 #[.string s, .string ⟨#[c]⟩] W fun e w' => e = .returned (.slice (some ⟨W.heap.size, 0, none⟩) (splitL c s.data.toList).length (splitL c s.data.toList).length) /\ Blk w' W.heap.size 9 ((splitL c s.data.toList).map strV).toArray /\ Below W.heap.size W w' := by
 have h := splitB_L c s
 have hlen : Lib.countB s ⟨#[c]⟩ + 1 = (splitL c s.data.toList).length := by
  have h2 := congrArg List.length h
  rw [List.length_map] at h2
  rw [<- h2]
  exact (Lib.splitB_all _ (show 1 <= (⟨#[c]⟩ : ByteArray).size from Nat.le_refl 1) 0 _ s rfl).symm
 refine (Tryz.strings_Split s ⟨#[c]⟩ n W (by omega) hm (show 1 <= (⟨#[c]⟩ : ByteArray).size from Nat.le_refl 1)).mono fun e w' ⟨he, hw'⟩ => ?_
 rw [hlen] at he
 rw [h, List.map_map] at hw'
 exact ⟨he, hw' ▸ Blk.new _ _ _, hw' ▸ (Below.refl _ _).alloc (Nat.le_refl _) _⟩
end
section
open Go.RowKit Num Go.Sort Go.PlainAid
noncomputable def threeF (l : List UInt8) : Option (Nat × Nat × Nat) :=
 match splitL 32 l with
 | [x, y, z] => match numF ⟨x.toArray⟩, numF ⟨y.toArray⟩, numF ⟨z.toArray⟩ with
  | some a, some b, some c => some (a, b, c)
  | _, _, _ => none
 | _ => none
theorem threeF_le {l : List UInt8} {a b c : Nat} (h : threeF l = some (a, b, c)) : a <= 9223372036854775807 /\ b <= 9223372036854775807 /\ c <= 9223372036854775807 /\ 5 <= l.length := by
 unfold threeF at h
 split at h
 ·rename_i x y z e
  split at h
  ·rename_i a' b' c' e1 e2 e3
   cases h
   have h1 := numF_le e1
   have h2 := numF_le e2
   have h3 := numF_le e3
   refine ⟨h1.1, h2.1, h3.1, ?_⟩
   have hs := splitL_sum 32 l
   rw [e] at hs
   have q1 : (⟨x.toArray⟩ : ByteArray).size = x.length := by show x.toArray.size = _; simp
   have q2 : (⟨y.toArray⟩ : ByteArray).size = y.length := by show y.toArray.size = _; simp
   have q3 : (⟨z.toArray⟩ : ByteArray).size = z.length := by show z.toArray.size = _; simp
   simp at hs
   omega
  ·cases h
 ·cases h
def ThreeR (l : List UInt8) (e : Ending) : Prop := ∃ (a b c : Int) (q : Bool), e = .returned (.tuple #[.agg #[.int .i64 a, .int .i64 b, .int .i64 c], .bool q]) /\ (q = true -> ∃ x y z : Nat, a = x /\ b = y /\ c = z /\ threeF l = some (x, y, z)) /\ (q = false -> threeF l = none)
theorem three_any (l : List UInt8) (hl : l.length <= 50000) (n : Int) (w : World) (hm : w.cell? ⟨2, 0, none⟩ = some (.int .i64 n)) (hg : 2 < w.heap.size) :
  Calls Tryz.prog 88 #[strV l] w fun e w' => ThreeR l e /\ Below w.heap.size w w' := by
 unfold strV
 have hsz : (⟨l.toArray⟩ : ByteArray).size = l.length := by show l.toArray.size = _; simp
 have b1 := below_new w (.cells #[.int .i64 0, .int .i64 0, .int .i64 0] 152)
 have b2 := b1.alloc b1.size (.cells #[.int .i64 0, .int .i64 0, .int .i64 0] 152)
 have HS := Lib.hid (split_any ⟨l.toArray⟩ 32 (by rw [hsz]; omega) n ((w.alloc (.cells #[.int .i64 0, .int .i64 0, .int .i64 0] 152)).alloc (.cells #[.int .i64 0, .int .i64 0, .int .i64 0] 152)) ((b2.cell (p := ⟨2, 0, none⟩) hg).trans hm))
 have z2 : ((w.alloc (.cells #[.int .i64 0, .int .i64 0, .int .i64 0] 152)).alloc (.cells #[.int .i64 0, .int .i64 0, .int .i64 0] 152)).heap.size = w.heap.size + 1 + 1 := by rw [World.size_alloc, World.size_alloc]
 rw [z2] at HS
 have k0 := (Blk.new w 152 #[.int .i64 0, .int .i64 0, .int .i64 0]).alloc (.cells #[.int .i64 0, .int .i64 0, .int .i64 0] 152)
 have k1 := Blk.new (w.alloc (.cells #[.int .i64 0, .int .i64 0, .int .i64 0] 152)) 152 #[.int .i64 0, .int .i64 0, .int .i64 0]
 rw [World.size_alloc] at k1
 have HK0 := Lib.hid k0
 have HK1 := Lib.hid k1
 have HB2 := Lib.hid b2
 have HLEN := splitL_sum 32 l
 have HTF : Hid (threeF l = match splitL 32 l with
 | [x, y, z] => match numF ⟨x.toArray⟩, numF ⟨y.toArray⟩, numF ⟨z.toArray⟩ with
  | some a, some b, some c => some (a, b, c)
  | _, _, _ => none
 | _ => none) := rfl
 generalize hL : splitL 32 (⟨l.toArray⟩ : ByteArray).data.toList = L at *
 have HLE : Hid (∀ x ∈ L, x.length <= 50000) := fun x hx => by
  have : ∀ (L : List (List UInt8)), x ∈ L -> x.length + 1 <= (L.map (fun p => p.length + 1)).sum := by
   intro L
   induction L with
   | nil => intro h; cases h
   | cons y L ih =>
    intro h
    rw [List.map_cons, List.sum_cons]
    rcases List.mem_cons.1 h with rfl | h
    ·omega
    ·have := ih h; omega
  have := this L hx
  omega
 have z3 : w.heap.size + 1 + 1 ≠ w.heap.size + 1 := by omega
 clear b1 b2 k0 k1 hm hg hL HLEN hsz z2
 by_cases h3 : L.length = 3
 ·obtain ⟨x, y, z, rfl⟩ : ∃ x y z, L = [x, y, z] := by
   match L, h3 with
   | [x, y, z], _ => exact ⟨x, y, z, rfl⟩
  have hx := HLE.out x (by simp)
  have hy := HLE.out y (by simp)
  have hz := HLE.out z (by simp)
  have HNx : Hid (∀ W, Calls Tryz.prog 134 #[strV x] W fun e w' => e = .returned (optV (numF ⟨x.toArray⟩)) /\ Below W.heap.size W w') := fun W => number_any ⟨x.toArray⟩ W (by show x.toArray.size <= _; simp; omega)
  have HNy : Hid (∀ W, Calls Tryz.prog 134 #[strV y] W fun e w' => e = .returned (optV (numF ⟨y.toArray⟩)) /\ Below W.heap.size W w') := fun W => number_any ⟨y.toArray⟩ W (by show y.toArray.size <= _; simp; omega)
  have HNz : Hid (∀ W, Calls Tryz.prog 134 #[strV z] W fun e w' => e = .returned (optV (numF ⟨z.toArray⟩)) /\ Below W.heap.size W w') := fun W => number_any ⟨z.toArray⟩ W (by show z.toArray.size <= _; simp; omega)
  simp only at HTF
  have HTF2 : Hid (∀ a b c, numF ⟨x.toArray⟩ = some a -> numF ⟨y.toArray⟩ = some b -> numF ⟨z.toArray⟩ = some c -> threeF l = some (a, b, c)) := fun a b c h1 h2 h3 => by rw [HTF.out, h1, h2, h3]
  have HTN : Hid ((numF ⟨x.toArray⟩ = none -> threeF l = none) /\ (numF ⟨y.toArray⟩ = none -> threeF l = none) /\ (numF ⟨z.toArray⟩ = none -> threeF l = none)) := ⟨fun h => by rw [HTF.out, h], fun h => by rw [HTF.out, h]; split <;> simp_all, fun h => by rw [HTF.out, h]; split <;> simp_all⟩
  clear HTF hx hy hz HLE h3
  generalize numF ⟨x.toArray⟩ = Fx at *
  generalize numF ⟨y.toArray⟩ = Fy at *
  generalize numF ⟨z.toArray⟩ = Fz at *
  have eM : (([x, y, z] : List (List UInt8)).map strV).toArray = #[strV x, strV y, strV z] := rfl
  rw [eM] at HS
  clear eM
  generalize strV x = sx at *
  generalize strV y = sy at *
  generalize strV z = sz at *
  go_enter Tryz.func88, Tryz.ntmps88
  go_wp2_with fail
  refine HS.out.mono ?_
  rintro e w1 ⟨rfl, hk2, hb1⟩
  have hB1 : Below w.heap.size w w1 := HB2.out.trans (hb1.mono (by omega))
  have hr0 : Blk w1 w.heap.size 152 #[.int .i64 0, .int .i64 0, .int .i64 0] := HK0.out.below hb1 (by omega)
  have hr1 : Blk w1 (w.heap.size + 1) 152 #[.int .i64 0, .int .i64 0, .int .i64 0] := HK1.out.below hb1 (by omega)
  have hr2 : Blk w1 (w.heap.size + 1 + 1) 9 #[sx, sy, sz] := hk2
  have HB1 := Lib.hid hB1
  have HR0 := Lib.hid hr0
  have HR1 := Lib.hid hr1
  have HR2 := Lib.hid hr2
  clear hk2 hb1 hB1 hr0 hr1 hr2 HS HK0 HK1 HB2
  go_wp2_with fail
  go_loopw [18] (fun i wr => ∃ (k : Nat) (a b c : Nat), k <= 3 /\ i = .int .i64 (k : Int) /\ Blk wr w.heap.size 152 #[.int .i64 0, .int .i64 0, .int .i64 0] /\ Blk wr (w.heap.size + 1) 152 #[.int .i64 (a : Int), .int .i64 (b : Int), .int .i64 (c : Int)] /\ Blk wr (w.heap.size + 1 + 1) 9 #[sx, sy, sz] /\ Below w.heap.size w wr /\ (0 < k -> Fx = some a) /\ (1 < k -> Fy = some b) /\ (2 < k -> Fz = some c)) (fun i _ => 3 - (intOf i).toNat)
  case atStart => exact ⟨0, 0, 0, 0, by omega, rfl, HR0.out, HR1.out, HR2.out, HB1.out, by omega, by omega, by omega⟩
  case round =>
   obtain ⟨k, a, b, c, hk, rfl, h0, h1, h2, hb, g0, g1, g2⟩ := hrel
   have HB := Lib.hid hb
   have G0 := Lib.hid g0
   have G1 := Lib.hid g1
   have G2 := Lib.hid g2
   have K0 := Lib.hid h0
   have K1 := Lib.hid h1
   have K2 := Lib.hid h2
   clear hb g0 g1 g2 HB1 HR0 HR1 HR2 h0 h1 h2
   rcases (by omega : k = 0 \/ k = 1 \/ k = 2 \/ k = 3) with rfl | rfl | rfl | rfl
   ·have c0 : wr.cell? ⟨w.heap.size + 1 + 1, 0, none⟩ = some sx := K2.out.cell 0
    clear HNy HNz
    go_wp2_with fail
    refine (HNx.out _).mono ?_
    rintro e w2 ⟨rfl, hb2⟩
    have q0 := K0.out.below hb2 K0.out.lt
    have q1 := K1.out.below hb2 K1.out.lt
    have q2 := K2.out.below hb2 K2.out.lt
    have HB2 : Hid (Below w.heap.size w w2) := HB.out.trans (hb2.mono HB.out.size)
    clear hb2 c0 HNx
    obtain ⟨F, hF⟩ : ∃ F, Fx = F := ⟨_, rfl⟩
    rw [hF]
    have HF := Lib.hid hF
    clear hF
    cases F with
    | none =>
     have hn := HTN.out.1 HF.out
     have HN := Lib.hid hn
     have d0 := q1.cell 0
     have d1 := q1.cell 1
     have d2 := q1.cell 2
     have e0 := q0.cell 0
     have e1 := q0.cell 1
     have e2 := q0.cell 2
     have f0 := q0.frozen 0
     have f1 := q0.frozen 1
     have f2 := q0.frozen 2
     have p1 := q0.set (i := 0) (v := .int .i64 (a : Int))
     have p2 := p1.set (i := 1) (v := .int .i64 (b : Int))
     have p3 := p2.set (i := 2) (v := .int .i64 (c : Int))
     have P3 := Lib.hid p3
     have HBZ : Hid (Below w.heap.size w (((w2.setCell ⟨w.heap.size, 0, none⟩ (.int .i64 (a : Int))).setCell ⟨w.heap.size, 1, none⟩ (.int .i64 (b : Int))).setCell ⟨w.heap.size, 2, none⟩ (.int .i64 (c : Int)))) := ((HB2.out.setCell (p := ⟨w.heap.size, 0, none⟩) (Nat.le_refl _) _).setCell (p := ⟨w.heap.size, 1, none⟩) (Nat.le_refl _) _).setCell (p := ⟨w.heap.size, 2, none⟩) (Nat.le_refl _) _
     clear hn p1 p2 p3 HTN HTF2 HF q0 q1 q2 HB2 HB K0 K1 K2
     simp at d0 d1 d2 e0 e1 e2
     unfold optV
     go_wp2
     have r0 := P3.out.cell 0
     have r1 := P3.out.cell 1
     have r2 := P3.out.cell 2
     simp at r0 r1 r2
     refine bodyPost_ret (v := .tuple #[.agg #[.int .i64 (a : Int), .int .i64 (b : Int), .int .i64 (c : Int)], .bool false]) (by simp [results, Tryz.results88, go_sem, r0, r1, r2]) rfl ?_
     exact ⟨⟨_, _, _, false, rfl, (fun h => by cases h), fun _ => HN.out⟩, HBZ.out⟩
    | some m =>
     have d0 := q1.cell 0
     have f0 := q1.frozen 0
     have z1 : w.heap.size ≠ w.heap.size + 1 := by omega
     have z2 : w.heap.size + 1 + 1 ≠ w.heap.size + 1 := by omega
     have R0 := Lib.hid (q0.other (i := 0) (v := .int .i64 (m : Int)) z1)
     have R1 : Hid (Blk (w2.setCell ⟨w.heap.size + 1, 0, none⟩ (.int .i64 (m : Int))) (w.heap.size + 1) 152 #[.int .i64 (m : Int), .int .i64 (b : Int), .int .i64 (c : Int)]) := q1.set (i := 0) (v := .int .i64 (m : Int))
     have R2 := Lib.hid (q2.other (i := 0) (v := .int .i64 (m : Int)) z2)
     have HBZ : Hid (Below w.heap.size w (w2.setCell ⟨w.heap.size + 1, 0, none⟩ (.int .i64 (m : Int)))) := HB2.out.setCell (p := ⟨w.heap.size + 1, 0, none⟩) (by show _ <= w.heap.size + 1; omega) _
     clear z1 z2 q0 q1 q2 HB2 HB K0 K1 K2 HTN HTF2
     simp at d0
     unfold optV
     go_wp2
     go_roundw
     case rel => exact ⟨1, m, b, c, by omega, by go_num, R0.out, R1.out, R2.out, HBZ.out, fun _ => HF.out, fun h => absurd h (by omega), fun h => absurd h (by omega)⟩
     case measure => simp [intOf]
   ·have c0 : wr.cell? ⟨w.heap.size + 1 + 1, 1, none⟩ = some sy := K2.out.cell 1
    clear HNx HNz
    go_wp2_with fail
    refine (HNy.out _).mono ?_
    rintro e w2 ⟨rfl, hb2⟩
    have q0 := K0.out.below hb2 K0.out.lt
    have q1 := K1.out.below hb2 K1.out.lt
    have q2 := K2.out.below hb2 K2.out.lt
    have HB2 : Hid (Below w.heap.size w w2) := HB.out.trans (hb2.mono HB.out.size)
    clear hb2 c0 HNy
    obtain ⟨F, hF⟩ : ∃ F, Fy = F := ⟨_, rfl⟩
    rw [hF]
    have HF := Lib.hid hF
    clear hF
    cases F with
    | none =>
     have hn := HTN.out.2.1 HF.out
     have HN := Lib.hid hn
     have d0 := q1.cell 0
     have d1 := q1.cell 1
     have d2 := q1.cell 2
     have e0 := q0.cell 0
     have e1 := q0.cell 1
     have e2 := q0.cell 2
     have f0 := q0.frozen 0
     have f1 := q0.frozen 1
     have f2 := q0.frozen 2
     have p1 := q0.set (i := 0) (v := .int .i64 (a : Int))
     have p2 := p1.set (i := 1) (v := .int .i64 (b : Int))
     have p3 := p2.set (i := 2) (v := .int .i64 (c : Int))
     have P3 := Lib.hid p3
     have HBZ : Hid (Below w.heap.size w (((w2.setCell ⟨w.heap.size, 0, none⟩ (.int .i64 (a : Int))).setCell ⟨w.heap.size, 1, none⟩ (.int .i64 (b : Int))).setCell ⟨w.heap.size, 2, none⟩ (.int .i64 (c : Int)))) := ((HB2.out.setCell (p := ⟨w.heap.size, 0, none⟩) (Nat.le_refl _) _).setCell (p := ⟨w.heap.size, 1, none⟩) (Nat.le_refl _) _).setCell (p := ⟨w.heap.size, 2, none⟩) (Nat.le_refl _) _
     clear hn p1 p2 p3 HTN HTF2 HF q0 q1 q2 HB2 HB K0 K1 K2
     simp at d0 d1 d2 e0 e1 e2
     unfold optV
     go_wp2
     have r0 := P3.out.cell 0
     have r1 := P3.out.cell 1
     have r2 := P3.out.cell 2
     simp at r0 r1 r2
     refine bodyPost_ret (v := .tuple #[.agg #[.int .i64 (a : Int), .int .i64 (b : Int), .int .i64 (c : Int)], .bool false]) (by simp [results, Tryz.results88, go_sem, r0, r1, r2]) rfl ?_
     exact ⟨⟨_, _, _, false, rfl, (fun h => by cases h), fun _ => HN.out⟩, HBZ.out⟩
    | some m =>
     have d0 := q1.cell 1
     have f0 := q1.frozen 1
     have z1 : w.heap.size ≠ w.heap.size + 1 := by omega
     have z2 : w.heap.size + 1 + 1 ≠ w.heap.size + 1 := by omega
     have R0 := Lib.hid (q0.other (i := 1) (v := .int .i64 (m : Int)) z1)
     have R1 : Hid (Blk (w2.setCell ⟨w.heap.size + 1, 1, none⟩ (.int .i64 (m : Int))) (w.heap.size + 1) 152 #[.int .i64 (a : Int), .int .i64 (m : Int), .int .i64 (c : Int)]) := q1.set (i := 1) (v := .int .i64 (m : Int))
     have R2 := Lib.hid (q2.other (i := 1) (v := .int .i64 (m : Int)) z2)
     have HBZ : Hid (Below w.heap.size w (w2.setCell ⟨w.heap.size + 1, 1, none⟩ (.int .i64 (m : Int)))) := HB2.out.setCell (p := ⟨w.heap.size + 1, 1, none⟩) (by show _ <= w.heap.size + 1; omega) _
     clear z1 z2 q0 q1 q2 HB2 HB K0 K1 K2 HTN HTF2
     simp at d0
     unfold optV
     go_wp2
     go_roundw
     case rel => exact ⟨2, a, m, c, by omega, by go_num, R0.out, R1.out, R2.out, HBZ.out, fun _ => G0.out (by omega), fun _ => HF.out, fun h => absurd h (by omega)⟩
     case measure => simp [intOf]
   ·have c0 : wr.cell? ⟨w.heap.size + 1 + 1, 2, none⟩ = some sz := K2.out.cell 2
    clear HNx HNy
    go_wp2_with fail
    refine (HNz.out _).mono ?_
    rintro e w2 ⟨rfl, hb2⟩
    have q0 := K0.out.below hb2 K0.out.lt
    have q1 := K1.out.below hb2 K1.out.lt
    have q2 := K2.out.below hb2 K2.out.lt
    have HB2 : Hid (Below w.heap.size w w2) := HB.out.trans (hb2.mono HB.out.size)
    clear hb2 c0 HNz
    obtain ⟨F, hF⟩ : ∃ F, Fz = F := ⟨_, rfl⟩
    rw [hF]
    have HF := Lib.hid hF
    clear hF
    cases F with
    | none =>
     have hn := HTN.out.2.2 HF.out
     have HN := Lib.hid hn
     have d0 := q1.cell 0
     have d1 := q1.cell 1
     have d2 := q1.cell 2
     have e0 := q0.cell 0
     have e1 := q0.cell 1
     have e2 := q0.cell 2
     have f0 := q0.frozen 0
     have f1 := q0.frozen 1
     have f2 := q0.frozen 2
     have p1 := q0.set (i := 0) (v := .int .i64 (a : Int))
     have p2 := p1.set (i := 1) (v := .int .i64 (b : Int))
     have p3 := p2.set (i := 2) (v := .int .i64 (c : Int))
     have P3 := Lib.hid p3
     have HBZ : Hid (Below w.heap.size w (((w2.setCell ⟨w.heap.size, 0, none⟩ (.int .i64 (a : Int))).setCell ⟨w.heap.size, 1, none⟩ (.int .i64 (b : Int))).setCell ⟨w.heap.size, 2, none⟩ (.int .i64 (c : Int)))) := ((HB2.out.setCell (p := ⟨w.heap.size, 0, none⟩) (Nat.le_refl _) _).setCell (p := ⟨w.heap.size, 1, none⟩) (Nat.le_refl _) _).setCell (p := ⟨w.heap.size, 2, none⟩) (Nat.le_refl _) _
     clear hn p1 p2 p3 HTN HTF2 HF q0 q1 q2 HB2 HB K0 K1 K2
     simp at d0 d1 d2 e0 e1 e2
     unfold optV
     go_wp2
     have r0 := P3.out.cell 0
     have r1 := P3.out.cell 1
     have r2 := P3.out.cell 2
     simp at r0 r1 r2
     refine bodyPost_ret (v := .tuple #[.agg #[.int .i64 (a : Int), .int .i64 (b : Int), .int .i64 (c : Int)], .bool false]) (by simp [results, Tryz.results88, go_sem, r0, r1, r2]) rfl ?_
     exact ⟨⟨_, _, _, false, rfl, (fun h => by cases h), fun _ => HN.out⟩, HBZ.out⟩
    | some m =>
     have d0 := q1.cell 2
     have f0 := q1.frozen 2
     have z1 : w.heap.size ≠ w.heap.size + 1 := by omega
     have z2 : w.heap.size + 1 + 1 ≠ w.heap.size + 1 := by omega
     have R0 := Lib.hid (q0.other (i := 2) (v := .int .i64 (m : Int)) z1)
     have R1 : Hid (Blk (w2.setCell ⟨w.heap.size + 1, 2, none⟩ (.int .i64 (m : Int))) (w.heap.size + 1) 152 #[.int .i64 (a : Int), .int .i64 (b : Int), .int .i64 (m : Int)]) := q1.set (i := 2) (v := .int .i64 (m : Int))
     have R2 := Lib.hid (q2.other (i := 2) (v := .int .i64 (m : Int)) z2)
     have HBZ : Hid (Below w.heap.size w (w2.setCell ⟨w.heap.size + 1, 2, none⟩ (.int .i64 (m : Int)))) := HB2.out.setCell (p := ⟨w.heap.size + 1, 2, none⟩) (by show _ <= w.heap.size + 1; omega) _
     clear z1 z2 q0 q1 q2 HB2 HB K0 K1 K2 HTN HTF2
     simp at d0
     unfold optV
     go_wp2
     go_roundw
     case rel => exact ⟨3, a, b, m, by omega, by go_num, R0.out, R1.out, R2.out, HBZ.out, fun _ => G0.out (by omega), fun _ => G1.out (by omega), fun _ => HF.out⟩
     case measure => simp [intOf]
   ·have d0 := K1.out.cell 0
    have d1 := K1.out.cell 1
    have d2 := K1.out.cell 2
    have e0 := K0.out.cell 0
    have e1 := K0.out.cell 1
    have e2 := K0.out.cell 2
    have f0 := K0.out.frozen 0
    have f1 := K0.out.frozen 1
    have f2 := K0.out.frozen 2
    have hn := HTF2.out a b c (G0.out (by omega)) (G1.out (by omega)) (G2.out (by omega))
    have HN := Lib.hid hn
    have p1 := K0.out.set (i := 0) (v := .int .i64 (a : Int))
    have p2 := p1.set (i := 1) (v := .int .i64 (b : Int))
    have p3 := p2.set (i := 2) (v := .int .i64 (c : Int))
    have P3 := Lib.hid p3
    have HBZ : Hid (Below w.heap.size w (((wr.setCell ⟨w.heap.size, 0, none⟩ (.int .i64 (a : Int))).setCell ⟨w.heap.size, 1, none⟩ (.int .i64 (b : Int))).setCell ⟨w.heap.size, 2, none⟩ (.int .i64 (c : Int)))) := ((HB.out.setCell (p := ⟨w.heap.size, 0, none⟩) (Nat.le_refl _) _).setCell (p := ⟨w.heap.size, 1, none⟩) (Nat.le_refl _) _).setCell (p := ⟨w.heap.size, 2, none⟩) (Nat.le_refl _) _
    clear hn p1 p2 p3 HTN HTF2 HB K0 K1 K2 HNx HNy HNz
    simp at d0 d1 d2 e0 e1 e2
    go_wp2
    have r0 := P3.out.cell 0
    have r1 := P3.out.cell 1
    have r2 := P3.out.cell 2
    simp at r0 r1 r2
    refine bodyPost_ret (v := .tuple #[.agg #[.int .i64 (a : Int), .int .i64 (b : Int), .int .i64 (c : Int)], .bool true]) (by simp [results, Tryz.results88, go_sem, r0, r1, r2]) rfl ?_
    exact ⟨⟨_, _, _, true, rfl, fun _ => ⟨a, b, c, rfl, rfl, rfl, HN.out⟩, (fun h => by cases h)⟩, HBZ.out⟩
 ·have HN : Hid (threeF l = none) := by
   show _ = _
   rw [HTF.out]
   match L, h3 with
   | [], _ => rfl
   | [_], _ => rfl
   | [_, _], _ => rfl
   | [_, _, _], h => exact absurd rfl h
   | _ :: _ :: _ :: _ :: _, _ => rfl
  have hm3 : ((L.length : Int) != 3) = true := by
   have : ¬ (L.length : Int) = 3 := by omega
   simpa using this
  clear HTF HLE
  generalize (L.map strV).toArray = SA at *
  generalize L.length = m at *
  clear h3
  go_enter Tryz.func88, Tryz.ntmps88
  go_wp2_with fail
  refine HS.out.mono ?_
  rintro e w1 ⟨rfl, -, hb1⟩
  have q0 : Blk w1 w.heap.size 152 #[.int .i64 0, .int .i64 0, .int .i64 0] := HK0.out.below hb1 (by omega)
  have q1 : Blk w1 (w.heap.size + 1) 152 #[.int .i64 0, .int .i64 0, .int .i64 0] := HK1.out.below hb1 (by omega)
  have HB2' : Below w.heap.size w w1 := HB2.out.trans (hb1.mono (by omega))
  have d0 := q1.cell 0
  have d1 := q1.cell 1
  have d2 := q1.cell 2
  have e0 := q0.cell 0
  have e1 := q0.cell 1
  have e2 := q0.cell 2
  have f0 := q0.frozen 0
  have f1 := q0.frozen 1
  have f2 := q0.frozen 2
  have p1 := q0.set (i := 0) (v := .int .i64 0)
  have p2 := p1.set (i := 1) (v := .int .i64 0)
  have p3 := p2.set (i := 2) (v := .int .i64 0)
  have P3 := Lib.hid p3
  have HBZ : Hid (Below w.heap.size w (((w1.setCell ⟨w.heap.size, 0, none⟩ (.int .i64 0)).setCell ⟨w.heap.size, 1, none⟩ (.int .i64 0)).setCell ⟨w.heap.size, 2, none⟩ (.int .i64 0))) := ((HB2'.setCell (p := ⟨w.heap.size, 0, none⟩) (Nat.le_refl _) _).setCell (p := ⟨w.heap.size, 1, none⟩) (Nat.le_refl _) _).setCell (p := ⟨w.heap.size, 2, none⟩) (Nat.le_refl _) _
  clear p1 p2 p3 q0 q1 hb1 HB2' HB2 HK0 HK1 HS
  simp at d0 d1 d2 e0 e1 e2
  go_wp2
  have r0 := P3.out.cell 0
  have r1 := P3.out.cell 1
  have r2 := P3.out.cell 2
  simp at r0 r1 r2
  refine bodyPost_ret (v := .tuple #[.agg #[.int .i64 0, .int .i64 0, .int .i64 0], .bool false]) (by simp [results, Tryz.results88, go_sem, r0, r1, r2]) rfl ?_
  exact ⟨⟨_, _, _, false, rfl, (fun h => by cases h), fun _ => HN.out⟩, HBZ.out⟩
end
end Go.Proofs.YtcjjekhecjmaeaaGreatDoor
