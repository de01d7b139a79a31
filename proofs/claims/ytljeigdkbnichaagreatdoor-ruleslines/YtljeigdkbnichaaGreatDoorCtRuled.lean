/- ruled. -/
import Derived.Test.YtljeigdkbnichaaGreatDoorCtReadP
import Derived.Test.YtljeigdkbnichaaGreatDoorCtParse
import Derived.Test.YtljeigdkbnichaaGreatDoorClRow
import Derived.Test.YtljeigdkbnichaaGreatDoorCtOnly
namespace Go.Proofs.YtljeigdkbnichaaGreatDoor
open Go.RowKit Go.Deep Sv

/-- What read gives. -/
def ReadRes (w : World) (r : Option (List Ln × List It)) (e : Ending) (w' : World) : Prop :=
  match r with
  | none => e = .returned (.tuple #[.pointer none, .agg #[.int .i64 0, .slice none 0 0, .slice none 0 0], .bool false]) ∧ Below w.heap.size w w'
  | some (ls, its) => ∃ bc cv fv, e = .returned (.tuple #[.pointer (some ⟨bc, 0, none⟩), .agg #[.int .i64 (its.length : Int), cv, fv], .bool true]) ∧ CatAt w' bc ls its ∧ RS w.heap.size w' cv fv ((ofL its ls).map Prod.snd) ((ofL its ls).map Prod.fst) ∧ Below w.heap.size w w'

/-- Three cells of a block, anew. -/
theorem set3 {W : World} {b : Nat} {t : TypeId} {x y z : Value} (h : Blk W b t #[x, y, z]) (p q r : Value) : Blk (((W.setCell ⟨b, 0, none⟩ p).setCell ⟨b, 1, none⟩ q).setCell ⟨b, 2, none⟩ r) b t #[p, q, r] := ((h.set (i := 0)).set (i := 1)).set (i := 2)
theorem below3 {w W : World} (h : Below w.heap.size w W) (p q r : Value) : Below w.heap.size w (((W.setCell ⟨w.heap.size, 0, none⟩ p).setCell ⟨w.heap.size, 1, none⟩ q).setCell ⟨w.heap.size, 2, none⟩ r) :=
  ((h.setCell (p := ⟨w.heap.size, 0, none⟩) (Nat.le_refl _) _).setCell (p := ⟨w.heap.size, 1, none⟩) (Nat.le_refl _) _).setCell (p := ⟨w.heap.size, 2, none⟩) (Nat.le_refl _) _

set_option maxRecDepth 100000 in
set_option maxHeartbeats 4000000 in
theorem read_c (s : ByteArray) (most : Nat) (w : World) (hw : Lw w) : Calls Tryz.prog 55 #[.string s, .int .i64 (most : Int)] w (ReadRes w (readF s most)) := by
  obtain ⟨R, hR⟩ : ∃ R, readF s most = R := ⟨_, rfl⟩
  rw [hR]
  have HRF := Lib.hid hR
  have hb0 := below_new w (.cells #[.int .i64 0, .slice none 0 0, .slice none 0 0] 97)
  have k5 := Blk.new w 97 #[.int .i64 0, .slice none 0 0, .slice none 0 0]
  have HPA := Lib.hid (parse_any_c s (w.alloc (.cells #[.int .i64 0, .slice none 0 0, .slice none 0 0] 97)) (hw.below hb0))
  clear hR hw
  have K5 := Lib.hid k5
  have HB0 := Lib.hid hb0
  have hsz : (w.alloc (.cells #[.int .i64 0, .slice none 0 0, .slice none 0 0] 97)).heap.size = w.heap.size + 1 := World.size_alloc _ _
  go_enter Tryz.func55, Tryz.ntmps55
  go_upto_region 1 with fail
  generalize w.alloc (.cells #[.int .i64 0, .slice none 0 0, .slice none 0 0] 97) = W0 at *
  have hzs : (0 : Nat) = 0 := rfl
  by_cases hs : 1500 < s.size
  · obtain rfl : R = none := by rw [← HRF.out]; unfold readF; rw [if_pos hs]
    have hsi : (1500 : Int) < (s.size : Int) := by omega
    have f0 := k5.frozen 0
    have f1 := k5.frozen 1
    have f2 := k5.frozen 2
    have c0 : W0.cell? ⟨w.heap.size, 0, none⟩ = some (.int .i64 0) := k5.cell 0
    have c1 : W0.cell? ⟨w.heap.size, 1, none⟩ = some (.slice none 0 0) := k5.cell 1
    have c2 : W0.cell? ⟨w.heap.size, 2, none⟩ = some (.slice none 0 0) := k5.cell 2
    have Q0 := Lib.hid (set3 K5.out (.int .i64 0) (.slice none 0 0) (.slice none 0 0))
    have HB := Lib.hid (below3 HB0.out (.int .i64 0) (.slice none 0 0) (.slice none 0 0))
    clear k5 hb0 HPA
    go_wp2
    generalize ((W0.setCell ⟨w.heap.size, 0, none⟩ (.int .i64 0)).setCell ⟨w.heap.size, 1, none⟩ (.slice none 0 0)).setCell ⟨w.heap.size, 2, none⟩ (.slice none 0 0) = WG at *
    have r0 := Q0.out.cell 0
    have r1 := Q0.out.cell 1
    have r2 := Q0.out.cell 2
    refine bodyPost_ret (v := .tuple #[.pointer none, .agg #[.int .i64 0, .slice none 0 0, .slice none 0 0], .bool false]) (by simp [results, Tryz.f55, go_sem, r0, r1, r2]) rfl ?_
    exact ⟨rfl, HB.out⟩
  · have hsi : ¬ (1500 : Int) < (s.size : Int) := by omega
    cases hp : parseF s with
    | error e2 =>
      obtain ⟨pk, pp⟩ := e2
      obtain rfl : R = none := by rw [← HRF.out]; unfold readF; rw [if_neg hs, hp]
      rw [hp] at HPA
      have HP2 : Hid (Calls Tryz.prog 43 #[.string s] W0 fun e w' => ∃ er, e = .returned (.tuple #[.pointer none, er]) ∧ ErrP w' er pk pp ∧ Below W0.heap.size W0 w') := HPA.out
      clear hp HPA k5 hb0
      go_wp2_with fail
      refine HP2.out.mono ?_
      rintro e w1 ⟨er, rfl, herr, hb1⟩
      obtain ⟨et, ev, rfl⟩ := herr.form
      have hlt : w.heap.size < W0.heap.size := K5.out.lt
      have k5 := K5.out.below hb1 hlt
      have f0 := k5.frozen 0
      have f1 := k5.frozen 1
      have f2 := k5.frozen 2
      have c0 : w1.cell? ⟨w.heap.size, 0, none⟩ = some (.int .i64 0) := k5.cell 0
      have c1 : w1.cell? ⟨w.heap.size, 1, none⟩ = some (.slice none 0 0) := k5.cell 1
      have c2 : w1.cell? ⟨w.heap.size, 2, none⟩ = some (.slice none 0 0) := k5.cell 2
      have Q0 := Lib.hid (set3 k5 (.int .i64 0) (.slice none 0 0) (.slice none 0 0))
      have HB := Lib.hid (below3 (HB0.out.trans (hb1.mono HB0.out.size)) (.int .i64 0) (.slice none 0 0) (.slice none 0 0))
      clear k5 hb1 HP2 herr
      go_wp2
      generalize ((w1.setCell ⟨w.heap.size, 0, none⟩ (.int .i64 0)).setCell ⟨w.heap.size, 1, none⟩ (.slice none 0 0)).setCell ⟨w.heap.size, 2, none⟩ (.slice none 0 0) = WG at *
      have r0 := Q0.out.cell 0
      have r1 := Q0.out.cell 1
      have r2 := Q0.out.cell 2
      refine bodyPost_ret (v := .tuple #[.pointer none, .agg #[.int .i64 0, .slice none 0 0, .slice none 0 0], .bool false]) (by simp [results, Tryz.f55, go_sem, r0, r1, r2]) rfl ?_
      exact ⟨rfl, HB.out⟩
    | ok li =>
      obtain ⟨ls, its⟩ := li
      have hnw := newF_ok (parseF_ok hp)
      have hrf : R = if 200 < (ofL its ls).length ∨ most < its.length then none else some (ls, its) := by rw [← HRF.out]; unfold readF; rw [if_neg hs, hp]
      rw [hp] at HPA
      have HP2 : Hid (Calls Tryz.prog 43 #[.string s] W0 fun e w' => ∃ bc vs, e = .returned (.tuple #[.pointer (some ⟨bc, 0, none⟩), .nilIface]) ∧ CatV w' bc ls vs its W0.heap.size ∧ (∀ k, k < W0.heap.size → RgN ls vs (some k)) ∧ Below W0.heap.size W0 w') := HPA.out
      have HRR := Lib.hid hrf
      clear hp HPA k5 hb0 HRF hrf
      go_wp2_with fail
      refine HP2.out.mono ?_
      rintro e w1 ⟨bc, vs, rfl, hcat, hlow, hb1⟩
      have HOF := Lib.hid (of_c bc ls its w1 hcat.cat hnw.1 (by omega) (fun x hx => check_names (hnw.2.2 x hx)))
      have HCAT := Lib.hid hcat
      have HLOW := Lib.hid hlow
      have HB1 := Lib.hid hb1
      have hs1 := hb1.size
      have hlt : w.heap.size < W0.heap.size := K5.out.lt
      have K51 := Lib.hid (K5.out.below hb1 hlt)
      have hn24 := hnw.1
      clear HP2 hcat hlow hb1 hnw K5
      obtain ⟨PF, hPF⟩ : ∃ PF, ofL its ls = PF := ⟨_, rfl⟩
      rw [hPF] at HOF HRR
      have HPF := Lib.hid hPF
      clear hPF
      go_wp2_with fail
      refine HOF.out.mono ?_
      intro e w2 hres
      rcases hres with ⟨hbig, rfl, hb2⟩ | ⟨hbig, cv, fv, rfl, hrs, hb2⟩
      · obtain rfl : R = none := by rw [HRR.out, if_pos (Or.inl hbig)]
        have k5 := ((K51.out.below hb2 K51.out.lt).alloc (.cells #[.int .i64 0, .slice none 0 0, .slice none 0 0] 97))
        have hbn := below_new w2 (.cells #[.int .i64 0, .slice none 0 0, .slice none 0 0] 97)
        have HBX := Lib.hid ((HB0.out.trans (HB1.out.mono HB0.out.size)).trans (hb2.mono (by have := HB0.out.size; omega)))
        have HBY := Lib.hid (HBX.out.trans (hbn.mono HBX.out.size))
        have K5 := Lib.hid k5
        clear k5 hbn hb2 HOF K51 HCAT HLOW HB1
        go_upto_region 7 with fail
        generalize w2.alloc (.cells #[.int .i64 0, .slice none 0 0, .slice none 0 0] 97) = W3 at *
        have k5 := K5.out
        have f0 := k5.frozen 0
        have f1 := k5.frozen 1
        have f2 := k5.frozen 2
        have c0 : W3.cell? ⟨w.heap.size, 0, none⟩ = some (.int .i64 0) := k5.cell 0
        have c1 : W3.cell? ⟨w.heap.size, 1, none⟩ = some (.slice none 0 0) := k5.cell 1
        have c2 : W3.cell? ⟨w.heap.size, 2, none⟩ = some (.slice none 0 0) := k5.cell 2
        have Q0 := Lib.hid (set3 k5 (.int .i64 0) (.slice none 0 0) (.slice none 0 0))
        have HB := Lib.hid (below3 HBY.out (.int .i64 0) (.slice none 0 0) (.slice none 0 0))
        clear k5
        go_wp2
        generalize ((W3.setCell ⟨w.heap.size, 0, none⟩ (.int .i64 0)).setCell ⟨w.heap.size, 1, none⟩ (.slice none 0 0)).setCell ⟨w.heap.size, 2, none⟩ (.slice none 0 0) = WG at *
        have r0 := Q0.out.cell 0
        have r1 := Q0.out.cell 1
        have r2 := Q0.out.cell 2
        refine bodyPost_ret (v := .tuple #[.pointer none, .agg #[.int .i64 0, .slice none 0 0, .slice none 0 0], .bool false]) (by simp [results, Tryz.f55, go_sem, r0, r1, r2]) rfl ?_
        exact ⟨rfl, HB.out⟩
      · obtain ⟨ca, cc, rfl⟩ : ∃ a c, cv = .slice a PF.length c := by obtain ⟨cs, h1, _⟩ := hrs.crow; obtain ⟨a, c, e, _⟩ := (rowAt_own h1).form; exact ⟨a, c, by simpa using e⟩
        obtain ⟨fa, fc, rfl⟩ : ∃ a c, fv = .slice a PF.length c := by obtain ⟨a, c, e, _⟩ := (rowAt_own hrs.frow).form; exact ⟨a, c, by simpa using e⟩
        have hbn := below_new w2 (.cells #[.int .i64 (its.length : Int), .slice ca PF.length cc, .slice fa PF.length fc] 97)
        have k5 := ((K51.out.below hb2 K51.out.lt).alloc (.cells #[.int .i64 (its.length : Int), .slice ca PF.length cc, .slice fa PF.length fc] 97))
        have k9 := Blk.new w2 97 #[.int .i64 (its.length : Int), .slice ca PF.length cc, .slice fa PF.length fc]
        have HBX := Lib.hid ((HB0.out.trans (HB1.out.mono HB0.out.size)).trans (hb2.mono (by have := HB0.out.size; omega)))
        have HBY := Lib.hid (HBX.out.trans (hbn.mono HBX.out.size))
        have HRS := Lib.hid (hrs.new hbn)
        have HCA := Lib.hid ((HCAT.out.below hb2 (Nat.le_refl _)).below hbn (Nat.le_refl _))
        have K5 := Lib.hid k5
        have K9 := Lib.hid k9
        have h29 : w1.heap.size ≤ w2.heap.size := hb2.size
        clear k5 k9 hbn hb2 HOF K51 HCAT hrs HB1
        go_upto_region 7 with fail
        generalize w2.alloc (.cells #[.int .i64 (its.length : Int), .slice ca PF.length cc, .slice fa PF.length fc] 97) = W3 at *
        generalize w2.heap.size = b9 at *
        have k5 := K5.out
        have f0 := k5.frozen 0
        have f1 := k5.frozen 1
        have f2 := k5.frozen 2
        have c0 : W3.cell? ⟨w.heap.size, 0, none⟩ = some (.int .i64 0) := k5.cell 0
        have c1 : W3.cell? ⟨w.heap.size, 1, none⟩ = some (.slice none 0 0) := k5.cell 1
        have c2 : W3.cell? ⟨w.heap.size, 2, none⟩ = some (.slice none 0 0) := k5.cell 2
        have e0 : W3.cell? ⟨b9, 0, none⟩ = some (.int .i64 (its.length : Int)) := K9.out.cell 0
        have e1 : W3.cell? ⟨b9, 1, none⟩ = some (.slice ca PF.length cc) := K9.out.cell 1
        have e2 : W3.cell? ⟨b9, 2, none⟩ = some (.slice fa PF.length fc) := K9.out.cell 2
        clear k5
        by_cases hmo : most < its.length
        · obtain rfl : R = none := by rw [HRR.out, if_pos (Or.inr hmo)]
          have hmi : (most : Int) < (its.length : Int) := by omega
          have Q0 := Lib.hid (set3 K5.out (.int .i64 0) (.slice none 0 0) (.slice none 0 0))
          have HB := Lib.hid (below3 HBY.out (.int .i64 0) (.slice none 0 0) (.slice none 0 0))
          clear HCA HRS HLOW
          go_wp2
          generalize ((W3.setCell ⟨w.heap.size, 0, none⟩ (.int .i64 0)).setCell ⟨w.heap.size, 1, none⟩ (.slice none 0 0)).setCell ⟨w.heap.size, 2, none⟩ (.slice none 0 0) = WG at *
          have r0 := Q0.out.cell 0
          have r1 := Q0.out.cell 1
          have r2 := Q0.out.cell 2
          refine bodyPost_ret (v := .tuple #[.pointer none, .agg #[.int .i64 0, .slice none 0 0, .slice none 0 0], .bool false]) (by simp [results, Tryz.f55, go_sem, r0, r1, r2]) rfl ?_
          exact ⟨rfl, HB.out⟩
        · obtain rfl : R = some (ls, its) := by rw [HRR.out, if_neg (by omega)]
          have hmi : ¬ (most : Int) < (its.length : Int) := by omega
          have hkl : w.heap.size < w1.heap.size := by omega
          have q0 := set3 K5.out (.int .i64 (its.length : Int)) (.slice ca PF.length cc) (.slice fa PF.length fc)
          have hB := below3 HBY.out (.int .i64 (its.length : Int)) (.slice ca PF.length cc) (.slice fa PF.length fc)
          have hR := ((HRS.out.set (i := 0) (v := .int .i64 (its.length : Int)) K5.out hkl).set (i := 1) (v := .slice ca PF.length cc) (K5.out.set (i := 0)) hkl).set (i := 2) (v := .slice fa PF.length fc) ((K5.out.set (i := 0)).set (i := 1)) hkl
          have hCA := ((HCA.out.set (k := w.heap.size) (i := 0) (x := .int .i64 (its.length : Int)) hlt (HLOW.out _ hlt)).set (k := w.heap.size) (i := 1) (x := .slice ca PF.length cc) hlt (HLOW.out _ hlt)).set (k := w.heap.size) (i := 2) (x := .slice fa PF.length fc) hlt (HLOW.out _ hlt)
          have Q0 : Hid (Blk (((W3.setCell ⟨w.heap.size, 0, none⟩ (.int .i64 (its.length : Int))).setCell ⟨w.heap.size, 1, none⟩ (.slice ca PF.length cc)).setCell ⟨w.heap.size, 2, none⟩ (.slice fa PF.length fc)).drew w.heap.size 97 #[.int .i64 (its.length : Int), .slice ca PF.length cc, .slice fa PF.length fc]) := q0
          have HB : Hid (Below w.heap.size w (((W3.setCell ⟨w.heap.size, 0, none⟩ (.int .i64 (its.length : Int))).setCell ⟨w.heap.size, 1, none⟩ (.slice ca PF.length cc)).setCell ⟨w.heap.size, 2, none⟩ (.slice fa PF.length fc)).drew) := hB.drew
          have hbd : Below (((W3.setCell ⟨w.heap.size, 0, none⟩ (.int .i64 (its.length : Int))).setCell ⟨w.heap.size, 1, none⟩ (.slice ca PF.length cc)).setCell ⟨w.heap.size, 2, none⟩ (.slice fa PF.length fc)).heap.size (((W3.setCell ⟨w.heap.size, 0, none⟩ (.int .i64 (its.length : Int))).setCell ⟨w.heap.size, 1, none⟩ (.slice ca PF.length cc)).setCell ⟨w.heap.size, 2, none⟩ (.slice fa PF.length fc)) (((W3.setCell ⟨w.heap.size, 0, none⟩ (.int .i64 (its.length : Int))).setCell ⟨w.heap.size, 1, none⟩ (.slice ca PF.length cc)).setCell ⟨w.heap.size, 2, none⟩ (.slice fa PF.length fc)).drew := (Below.refl _ _).drew
          have HR3 : Hid (RS w.heap.size (((W3.setCell ⟨w.heap.size, 0, none⟩ (.int .i64 (its.length : Int))).setCell ⟨w.heap.size, 1, none⟩ (.slice ca PF.length cc)).setCell ⟨w.heap.size, 2, none⟩ (.slice fa PF.length fc)).drew (.slice ca PF.length cc) (.slice fa PF.length fc) (PF.map Prod.snd) (PF.map Prod.fst)) := (hR.new hbd).base (Nat.le_of_lt hkl)
          have HC3 : Hid (CatAt (((W3.setCell ⟨w.heap.size, 0, none⟩ (.int .i64 (its.length : Int))).setCell ⟨w.heap.size, 1, none⟩ (.slice ca PF.length cc)).setCell ⟨w.heap.size, 2, none⟩ (.slice fa PF.length fc)).drew bc ls its) := (hCA.below hbd (Nat.le_refl _)).cat
          clear q0 hB hR hCA hbd HRS HCA HLOW
          go_upto_region 9 with fail
          go_big_region
          generalize (((W3.setCell ⟨w.heap.size, 0, none⟩ (.int .i64 (its.length : Int))).setCell ⟨w.heap.size, 1, none⟩ (.slice ca PF.length cc)).setCell ⟨w.heap.size, 2, none⟩ (.slice fa PF.length fc)).drew = WG at *
          go_wp2
          have r0 := Q0.out.cell 0
          have r1 := Q0.out.cell 1
          have r2 := Q0.out.cell 2
          refine bodyPost_ret (v := .tuple #[.pointer (some ⟨bc, 0, none⟩), .agg #[.int .i64 (its.length : Int), .slice ca PF.length cc, .slice fa PF.length fc], .bool true]) (by simp [results, Tryz.f55, go_sem, r0, r1, r2]) rfl ?_
          refine ⟨bc, _, _, rfl, HC3.out, ?_, HB.out⟩
          rw [HPF.out]
          exact HR3.out
end Go.Proofs.YtljeigdkbnichaaGreatDoor

namespace Go.Proofs.YtljeigdkbnichaaGreatDoor
open Go.RowKit Go.Deep Sv

def oneT : ByteArray := ⟨#[112, 97, 99, 107, 97, 103, 101, 32, 97, 32, 49, 46, 48, 46, 48, 10, 112, 97, 99, 107, 97, 103, 101, 32, 97, 32, 50, 46, 48, 46, 48, 10, 114, 111, 111, 116, 32, 97, 32, 97, 110, 121, 10]⟩
def nmA : ByteArray := ⟨#[97]⟩
def nmN : ByteArray := ⟨#[]⟩
def anyT : ByteArray := ⟨#[97, 110, 121]⟩
set_option maxRecDepth 100000 in
theorem one_lns : lnsF oneT 43 0 = [(0, ⟨#[112, 97, 99, 107, 97, 103, 101, 32, 97, 32, 49, 46, 48, 46, 48]⟩), (16, ⟨#[112, 97, 99, 107, 97, 103, 101, 32, 97, 32, 50, 46, 48, 46, 48]⟩), (32, ⟨#[114, 111, 111, 116, 32, 97, 32, 97, 110, 121]⟩)] := by kernel_rfl
set_option maxRecDepth 100000 in
theorem one_l1 : lineF ⟨#[112, 97, 99, 107, 97, 103, 101, 32, 97, 32, 49, 46, 48, 46, 48]⟩ = .ok ⟨1, nmA, 1, 0, 0, nmN, []⟩ := by kernel_rfl
set_option maxRecDepth 100000 in
theorem one_l2 : lineF ⟨#[112, 97, 99, 107, 97, 103, 101, 32, 97, 32, 50, 46, 48, 46, 48]⟩ = .ok ⟨1, nmA, 2, 0, 0, nmN, []⟩ := by kernel_rfl
set_option maxRecDepth 100000 in
theorem one_l3 : lineF ⟨#[114, 111, 111, 116, 32, 97, 32, 97, 110, 121]⟩ = .ok ⟨4, nmA, 0, 0, 0, nmN, [(0, 1000000000)]⟩ := by kernel_rfl
def oneL : List Ln := [⟨1, nmA, 1, 0, 0, nmN, []⟩, ⟨1, nmA, 2, 0, 0, nmN, []⟩, ⟨4, nmA, 0, 0, 0, nmN, [(0, 1000000000)]⟩]
def oneI : List It := [⟨nmA, 2, 0, 0⟩, ⟨nmA, 1, 0, 0⟩]
theorem nmA_ok : NameOk nmA := by
  refine ⟨by decide, by decide, by decide, by rw [ByteArray.toList_eq]; decide, by rw [ByteArray.toList_eq]; decide, fun k hk => ?_⟩
  obtain rfl : k = 0 := by have : nmA.size = 1 := rfl; omega
  left
  decide
theorem one_c1 : ctCheck ⟨1, nmA, 1, 0, 0, nmN, []⟩ = 0 := by
  unfold ctCheck
  rw [if_neg (by simp), if_neg (fun h => by rcases h with h | ⟨h, _⟩; exact h nmA_ok; simp [Ln.pair] at h), if_neg (fun h => h.2 rfl), if_neg (by simp), if_neg (by simp), if_neg (by simp [InV])]
theorem one_c2 : ctCheck ⟨1, nmA, 2, 0, 0, nmN, []⟩ = 0 := by
  unfold ctCheck
  rw [if_neg (by simp), if_neg (fun h => by rcases h with h | ⟨h, _⟩; exact h nmA_ok; simp [Ln.pair] at h), if_neg (fun h => h.2 rfl), if_neg (by simp), if_neg (by simp), if_neg (by simp [InV])]
theorem one_c3 : ctCheck ⟨4, nmA, 0, 0, 0, nmN, [(0, 1000000000)]⟩ = 0 := by
  unfold ctCheck
  rw [if_neg (by simp), if_neg (fun h => by rcases h with h | ⟨h, _⟩; exact h nmA_ok; simp [Ln.pair] at h), if_neg (fun h => h.2 rfl), if_neg (by simp), if_neg (by simp), if_neg (by simp [InV])]
set_option maxRecDepth 100000 in
theorem one_n1 : ¬ (8 < namesN ([] ++ [(⟨nmA, 1, 0, 0⟩ : It)]) ∨ ([] : List It).length = 24) := by
  have : namesN ([] ++ [(⟨nmA, 1, 0, 0⟩ : It)]) = 1 := by kernel_rfl
  rw [this]; simp
set_option maxRecDepth 100000 in
theorem one_n2 : ¬ (8 < namesN ([(⟨nmA, 1, 0, 0⟩ : It)] ++ [(⟨nmA, 2, 0, 0⟩ : It)]) ∨ ([(⟨nmA, 1, 0, 0⟩ : It)]).length = 24) := by
  have : namesN ([(⟨nmA, 1, 0, 0⟩ : It)] ++ [(⟨nmA, 2, 0, 0⟩ : It)]) = 1 := by kernel_rfl
  rw [this]; simp
theorem one_gath : gathF oneL 0 [] = .ok [⟨nmA, 1, 0, 0⟩, ⟨nmA, 2, 0, 0⟩] := by
  unfold oneL
  rw [gathF, if_neg (by rw [one_c1]; simp), if_pos rfl, if_neg (by simp), if_neg (show ¬ (8 < namesN ([] ++ [Ln.it ⟨1, nmA, 1, 0, 0, nmN, []⟩]) ∨ ([] : List It).length = 24) from one_n1)]
  rw [gathF, if_neg (by rw [one_c2]; simp), if_pos rfl, if_neg (by decide), if_neg (show ¬ (8 < namesN ([] ++ [Ln.it ⟨1, nmA, 1, 0, 0, nmN, []⟩] ++ [Ln.it ⟨1, nmA, 2, 0, 0, nmN, []⟩]) ∨ ([] ++ [Ln.it ⟨1, nmA, 1, 0, 0, nmN, []⟩] : List It).length = 24) from one_n2)]
  rw [gathF, if_neg (by rw [one_c3]; simp), if_neg (by simp), gathF]
  rfl
set_option maxRecDepth 100000 in
theorem one_le : (!decide (ctCmp ⟨nmA, 2, 0, 0⟩ ⟨nmA, 1, 0, 0⟩ < 0)) = false := by kernel_rfl
theorem one_sort : sortF [⟨nmA, 1, 0, 0⟩, ⟨nmA, 2, 0, 0⟩] = oneI := by
  unfold sortF oneI
  rw [List.mergeSort]
  simp [List.MergeSort.Internal.splitInTwo, List.splitAt, List.splitAt.go, one_le]
set_option maxRecDepth 100000 in
theorem one_miss : missF oneL 0 oneI = none := by kernel_rfl
theorem one_new : newF oneL = .ok oneI := by
  unfold newF
  rw [if_neg (by decide), one_gath]
  simp only [one_sort, one_miss]
theorem one_pl : plF (lnsF oneT 43 0) [] = .ok [(0, ⟨1, nmA, 1, 0, 0, nmN, []⟩), (16, ⟨1, nmA, 2, 0, 0, nmN, []⟩), (32, ⟨4, nmA, 0, 0, 0, nmN, [(0, 1000000000)]⟩)] := by
  rw [one_lns, plF, one_l1]
  simp only [plF, one_l2, one_l3]
  rfl
theorem one_parse : parseF oneT = .ok (oneL, oneI) := by
  unfold parseF
  rw [if_neg (by decide), show oneT.size = 43 from rfl, one_pl]
  have h := one_new
  unfold oneL at h
  simp only [List.map_cons, List.map_nil, h]
  rfl
theorem one_has0 : hasF [(0, 1000000000)] (oneI.getD 0 default) := by
  refine ⟨by simp [oneI, InV], ?_⟩
  simp [oneI, mem, numV]
theorem one_has1 : hasF [(0, 1000000000)] (oneI.getD 1 default) := by
  refine ⟨by simp [oneI, InV], ?_⟩
  simp [oneI, mem, numV]
set_option maxRecDepth 100000 in
theorem one_row : ctRow oneI nmA = (0, 2) := by kernel_rfl
theorem one_among : amongF oneI nmA [(0, 1000000000)] = [0, 1] := by
  unfold amongF
  rw [one_row]
  show List.filter _ [0, 1] = [0, 1]
  rw [List.filter_cons, if_pos (by simpa using one_has0), List.filter_cons, if_pos (by simpa using one_has1)]
  rfl
set_option maxRecDepth 100000 in
theorem one_pr : prF oneI 2 = [(-1, [-1, -2])] := by kernel_rfl
theorem one_of : ofL oneI oneL = [(-1, [-1, -2]), (2, [1, 2])] := by
  unfold ofL
  rw [show oneI.length = 2 from rfl, one_pr, show oneL.length = 3 from rfl]
  have h0 : lineC oneI 0 (oneL.getD 0 default) = [] := by unfold lineC; rw [if_neg (by decide), if_neg (by decide), if_neg (by decide)]
  have h1 : lineC oneI 1 (oneL.getD 1 default) = [] := by unfold lineC; rw [if_neg (by decide), if_neg (by decide), if_neg (by decide)]
  have h2 : lineC oneI 2 (oneL.getD 2 default) = [(2, [1, 2])] := by
    unfold lineC
    rw [if_pos (by decide)]
    show [(((2 : Nat) : Int), (amongF oneI nmA [(0, 1000000000)]).map fun (k : Nat) => ((k : Int) + 1))] = _
    rw [one_among]
    rfl
  rw [lnL_succ, lnL_succ, lnL_succ, h0, h1, h2]
  rfl
theorem one_read : readF oneT 5 = some (oneL, oneI) := by
  unfold readF
  rw [if_neg (by decide), one_parse]
  simp only [one_of]
  rfl
end Go.Proofs.YtljeigdkbnichaaGreatDoor

namespace Go.Proofs.YtljeigdkbnichaaGreatDoor
open Go.RowKit Go.Deep

set_option maxRecDepth 100000 in
set_option maxHeartbeats 1000000 in
theorem same_intsK (xs : List Int) (a1 a2 : Option Addr) (c1 c2 : Nat) (w : World) (h1 : IntsIn w a1 xs) (h2 : IntsIn w a2 xs) (hm : xs.length ≤ 9223372036854775807) :
    Calls Tryz.prog 108 #[.slice a1 xs.length c1, .slice a2 xs.length c2] w fun e w' => e = .returned (.bool true) ∧ Below w.heap.size w w' := by
  have H1 := Lib.hid h1
  have H2 := Lib.hid h2
  clear h1 h2
  have enn : ((xs.length : Int) != (xs.length : Int)) = false := by simp
  go_enter Tryz.func108, Tryz.ntmps108
  go_wp2_with fail
  go_loopw [5] (fun kV wr => ∃ k : Nat, k ≤ xs.length ∧ kV = .int .i64 (k : Int) ∧ Below w.heap.size w wr) (fun kV _ => xs.length - (intOf kV).toNat)
  case atStart => exact ⟨0, Nat.zero_le _, rfl, Below.refl _ _⟩
  case round =>
    obtain ⟨k, hk, rfl, hbr⟩ := hrel
    have HBR := Lib.hid hbr
    clear hbr
    by_cases hlt : k < xs.length
    · obtain ⟨ad1, rfl, hl1, hc1⟩ := H1.out.below HBR.out k hlt
      obtain ⟨ad2, rfl, hl2, hc2⟩ := H2.out.below HBR.out k hlt
      generalize xs.getD k 0 = x at *
      have exx : (x != x) = false := by simp
      have HBN : Hid (∀ q, Below w.heap.size w (wr.drewN q)) := fun q => HBR.out.trans ⟨rfl, rfl, rfl, Nat.le_refl _, fun _ _ => rfl⟩
      go_wp2_with fail
      go_quiet (fail)
      go_wp2
      go_roundw
      case rel => exact ⟨k + 1, hlt, by go_num, HBN.out _⟩
      case measure => simp [intOf]; omega
    · obtain rfl : k = xs.length := by omega
      go_wp2
      go_ret
      exact ⟨rfl, HBR.out⟩
end Go.Proofs.YtljeigdkbnichaaGreatDoor

namespace Go.Proofs.YtljeigdkbnichaaGreatDoor
open Go.RowKit Go.Deep Sv

theorem lit2_in (W : World) (x y : Int) : IntsIn (W.alloc (.cells #[.int .i64 x, .int .i64 y] 3)) (some ⟨W.heap.size, 0, none⟩) [x, y] := fun i hi => by
  have hB := Blk.new W 3 #[.int .i64 x, .int .i64 y]
  refine ⟨_, rfl, hB.lt, ?_⟩
  rw [add_plain, Nat.zero_add, hB.cell i]
  match i, hi with
  | 0, _ => rfl
  | 1, _ => rfl

set_option maxRecDepth 100000 in
set_option maxHeartbeats 4000000 in
theorem ruled_c (w : World) (hw : Lw w) : Calls Tryz.prog 56 #[] w fun e w' => e = .returned (.bool true) ∧ Below w.heap.size w w' := by
  have HRD : Hid (Calls Tryz.prog 55 #[.string ⟨#[112, 97, 99, 107, 97, 103, 101, 32, 97, 32, 49, 46, 48, 46, 48, 10, 112, 97, 99, 107, 97, 103, 101, 32, 97, 32, 50, 46, 48, 46, 48, 10, 114, 111, 111, 116, 32, 97, 32, 97, 110, 121, 10]⟩, .int .i64 5] w fun e w' => ∃ bc cv fv, e = .returned (.tuple #[.pointer (some ⟨bc, 0, none⟩), .agg #[.int .i64 2, cv, fv], .bool true]) ∧ RS w.heap.size w' cv fv ([((-1 : Int), [(-1 : Int), -2]), (2, [1, 2])].map Prod.snd) ([((-1 : Int), [(-1 : Int), -2]), (2, [1, 2])].map Prod.fst) ∧ Below w.heap.size w w') := by
    have h := read_c oneT 5 w hw
    rw [one_read] at h
    refine h.mono ?_
    rintro e w' ⟨bc, cv, fv, rfl, -, h2, h3⟩
    rw [one_of] at h2
    exact ⟨bc, cv, fv, rfl, h2, h3⟩
  clear hw
  go_enter Tryz.func56, Tryz.ntmps56
  go_wp2_with fail
  refine HRD.out.mono ?_
  rintro e w1 ⟨bc, cv, fv, rfl, hrs, hb1⟩
  have hbn := below_new w1 (.cells #[.int .i64 2, cv, fv] 97)
  have kb := Blk.new w1 97 #[.int .i64 2, cv, fv]
  have hrs2 := hrs.new hbn
  obtain ⟨cg, cc, fg, fc, a0, cap0, e1, e2, q1, q2, q3, q4⟩ := hrs2.at 0 (by simp)
  obtain ⟨cg', cc', fg', fc', a1, cap1, e1', e2', q1', q2', q3', q4'⟩ := hrs2.at 1 (by simp)
  subst e1 e2
  have hcg : cg = cg' := by have := e1'; simp at this; exact this.1
  subst hcg
  simp at q1 q1' q3 q3'
  have HB1 := Lib.hid hb1
  have HBN := Lib.hid hbn
  have H0 := Lib.hid q3.ints
  have H1 := Lib.hid q3'.ints
  clear HRD hrs hrs2 hb1 hbn q2 q2' q3 q3' q4 q4' e1' e2'
  simp only [List.length_cons, List.length_nil, Nat.zero_add, Nat.reduceAdd] at *
  have HBW := Lib.hid (HB1.out.trans (HBN.out.mono HB1.out.size))
  clear HBN HB1
  go_upto_region 2 with fail
  generalize w1.alloc (.cells #[.int .i64 2, .slice (some ⟨cg, 0, none⟩) 2 cc, .slice (some ⟨fg, 0, none⟩) 2 fc] 97) = W2 at *
  generalize w1.heap.size = b2 at *
  have hlc : cg < W2.heap.size := block_lt_of_cell q1
  have d0 : W2.cell? ⟨b2, 0, none⟩ = some (.int .i64 2) := kb.cell 0
  have d1 : W2.cell? ⟨b2, 1, none⟩ = some (.slice (some ⟨cg, 0, none⟩) 2 cc) := kb.cell 1
  have hbl := below_new W2 (.cells #[.int .i64 (-1), .int .i64 (-2)] 3)
  have HS0 := Lib.hid (same_intsK [-1, -2] a0 (some ⟨W2.heap.size, 0, none⟩) cap0 2 (W2.alloc (.cells #[.int .i64 (-1), .int .i64 (-2)] 3)) (H0.out.below hbl) (lit2_in W2 (-1) (-2)) (by simp))
  have HBL := Lib.hid hbl
  clear hbl
  go_wp2_with fail
  refine HS0.out.mono ?_
  rintro e w3 ⟨rfl, hb3⟩
  have hb4 := HBL.out.trans (hb3.mono HBL.out.size)
  have HW3 := Lib.hid (HBW.out.trans (hb4.mono HBW.out.size))
  have kb3 := kb.below hb4 kb.lt
  have d3 : w3.cell? ⟨b2, 1, none⟩ = some (.slice (some ⟨cg, 0, none⟩) 2 cc) := kb3.cell 1
  have d4 : w3.cell? ⟨cg, 1, none⟩ = some (.slice a1 2 cap1) := (hb4.cell (p := ⟨cg, 1, none⟩) hlc).trans q1'
  have hbl := below_new w3 (.cells #[.int .i64 1, .int .i64 2] 3)
  have HS1 := Lib.hid (same_intsK [1, 2] a1 (some ⟨w3.heap.size, 0, none⟩) cap1 2 (w3.alloc (.cells #[.int .i64 1, .int .i64 2] 3)) ((H1.out.below hb4).below hbl) (lit2_in w3 1 2) (by simp))
  have HBL3 := Lib.hid hbl
  clear hbl hb3 hb4 kb3 kb q1 q1' H0 H1 HS0 HBL HBW d0 d1 hlc
  go_wp2_with fail
  refine HS1.out.mono ?_
  rintro e w5 ⟨rfl, hb5⟩
  have HW5 := Lib.hid (HW3.out.trans ((HBL3.out.trans (hb5.mono HBL3.out.size)).mono HW3.out.size))
  clear hb5 HS1 HBL3 HW3 d3 d4
  go_wp2
  go_ret
  exact ⟨rfl, HW5.out⟩
end Go.Proofs.YtljeigdkbnichaaGreatDoor
