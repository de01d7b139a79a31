/- ImageLoads: the law. -/
import Derived.Test.YtcjjekhecjmaeaaGreatDoorBdFree
import Derived.Test.YtcjjekhecjmaeaaGreatDoorBdMakes
import Derived.WalkSmall
import Derived.Test.YtcjjekhecjmaeaaGreatDoorArReach
import Derived.Test.YtcjjekhecjmaeaaGreatDoorImBitP
import Derived.Test.YtcjjekhecjmaeaaGreatDoorBdErrC
import Derived.Laws.BytesArg
set_option maxHeartbeats 4000000
set_option maxRecDepth 100000
namespace Go.Proofs.YtcjjekhecjmaeaaGreatDoor
section
open Go.RowKit Go.Maps
theorem reach_taken {ns : List Nd} (hr : Ranked ns) (fs : List Int) : (reachTo (marksOf ns fs) ns.length).length = (taken (swept ns (marksOf ns fs))).length := by
 have h1 := marksOf_real hr fs
 unfold reachTo taken
 rw [List.length_map, swept_length]
 congr 1
 refine List.filter_congr fun i hi => ?_
 have hi' := List.mem_range.1 hi
 rw [swept_at ns _ i hi']
 by_cases c : mk (marksOf ns fs) i = true
 ·rw [if_pos c, c]; simp [h1 i c]
 ·rw [if_neg c]; simp [c]
section
variable {B s b : Nat} {O : Nat -> Prop} {vars : Nat} {room : Int} {ns : List Nd} {w w' : World}
theorem spLen (h : SpaceAt B w s b O vars room ns) : Calls Tryz.prog 24 #[.pointer (some ⟨b, 0, none⟩)] w fun e w' => e = .returned (.int .i64 ((taken ns).length : Int)) /\ w = w' := by
 obtain ⟨bm, v, L, next, hA, hBk, -, hO⟩ := h.arena
 rw [<- book_len hBk]; exact len_any hA
theorem spReach (h : SpaceAt B w s b O vars room ns) (hr : Ranked ns) (hl : ns.length <= 90000) (hB : B <= w.heap.size) (bf : Nat) {cp : Nat} (fs : List Int) (hF : IntsAt w bf fs) (hfl : fs.length <= 1000) :
  Calls Tryz.prog 36 #[.pointer (some ⟨b, 0, none⟩), .slice (some ⟨bf, 0, none⟩) fs.length cp] w fun e w' => ∃ a c, e = .returned (.slice a (taken (swept ns (marksOf ns fs))).length c) /\ Below w.heap.size w w' := by
 obtain ⟨bm, v, L, next, hA, hBk, -, hO⟩ := h.arena
 refine (reach_any (cp := cp) hr (by omega) hA bf fs hF hfl hB).mono ?_
 rintro e w' ⟨a, c, rfl, -, hb⟩
 exact ⟨a, c, by rw [reach_taken hr], hb⟩
theorem size_op (h : SpaceAt B w s b O vars room ns) (hr : Ranked ns) (hl : ns.length <= 90000) (hB : B <= w.heap.size) (x : Int) (hx : hasB ns x = true) :
  Calls Tryz.prog 11 #[.pointer (some ⟨s, 0, none⟩), .int .i64 x] w fun e w' => e = .returned (.tuple #[.int .i64 ((taken (swept ns (marksOf ns [x]))).length : Int), .nilIface]) /\ Below w.heap.size w w' := by
 have hi := has_i64 hx (by omega)
 have hb := below_new w (.cells #[.int .i64 x] 3)
 have h1 := h.new hb
 have HP := present_any (cp := 1) h1 (by omega) w.heap.size [x] (ints1 w x hi) (by simp) (fun y hy => by rw [List.mem_singleton] at hy; subst hy; exact hx)
 have hb2 := hb.alloc hb.size (.cells #[.int .i64 x] 3)
 have HR := spReach (cp := 1) (h.new hb2) hr hl (by have := hb2.size; omega) (w.alloc (.cells #[.int .i64 x] 3)).heap.size [x] (ints1 _ x hi) (by simp)
 have c0 := h1.c0
 rw [show [x].length = 1 from rfl] at HP HR
 have ez : (w.alloc (.cells #[.int .i64 x] 3)).heap.size = w.heap.size + 1 := by simp
 rw [ez] at HR
 have HPR := Lib.hid HP
 have HRR := Lib.hid HR
 have HB2 := Lib.hid hb2
 generalize (taken (swept ns (marksOf ns [x]))).length = m at *
 clear HP HR h h1 hr hx hb hb2 ez
 go_enter Tryz.func11, Tryz.ntmps11
 go_wp2_with fail
 refine HPR.out.mono ?_
 rintro e w1 ⟨rfl, rfl⟩
 clear HPR
 go_wp2_with fail
 refine HRR.out.mono ?_
 rintro e w2 ⟨a, c, rfl, hb3⟩
 have hb4 := HB2.out.trans (hb3.mono HB2.out.size)
 clear hb3 HRR
 go_wp2
 refine bodyPost_ret (v := .tuple #[.int .i64 (m : Int), .nilIface]) (by simp [results, Tryz.results11, go_sem]) rfl ⟨rfl, hb4⟩
end
end
section
open Go.RowKit Go.Maps
def BytesIn (W : World) (a : Option Addr) (l : List UInt8) : Prop := (a = none /\ l = []) \/ ∃ ad, a = some ad /\ ∀ i (h : i < l.length), ad.block < W.heap.size /\ W.cell? (ad.add i) = some (.int .u8 ((l[i]).toNat : Int))
theorem add_block (ad : Addr) (j : Nat) : (ad.add j).block = ad.block := by unfold Addr.add; split <;> rfl
theorem conv_in {W W' : World} {a : Option Addr} {l : List UInt8} (c : Nat) (h : BytesIn W a l) (hb : Below W.heap.size W W') : (convert 49 9 (.slice a l.length c)).run Tryz.prog W' = .ok (strV l) W' := by
 rcases h with ⟨rfl, rfl⟩ | ⟨ad, rfl, h⟩
 ·exact run_convert_bytes_nil W' 49 5 (by kernel_rfl) (by kernel_rfl) _ _ 9 (by kernel_rfl)
 ·refine run_convert_bytes_back W' _ _ 5 ad c l (by kernel_rfl) (by kernel_rfl) (by kernel_rfl) (fun j hj => ?_)
  obtain ⟨h1, h2⟩ := h j hj
  exact (hb.cell (p := ad.add j) (by rw [add_block]; exact h1)).trans h2
theorem loads_small (l : List UInt8) (a : Option Addr) (cp : Nat) (hl : l.length <= 1000) (room : Int) (hI : -9223372036854775808 <= room /\ room <= 9223372036854775807) (w : World) (hg : Glob w) (hT : Tab10 w) (n : Int) (hm : w.cell? ⟨2, 0, none⟩ = some (.int .i64 n)) (hmg : 2 < w.heap.size) (hx : BytesIn w a l) :
  Calls Tryz.prog 5 #[.slice a l.length cp, .int .i64 room] w fun e w' => e = .returned (.bool true) /\ Below w.heap.size w w' := by
 have HLD := Lib.hid (load_any l (by omega) a cp room w hT n hm hmg (fun W hW => conv_in cp hx hW))
 have HCV : Hid (∀ W, Below w.heap.size w W -> (convert 49 9 (.slice a l.length cp)).run Tryz.prog W = .ok (strV l) W) := fun W hW => conv_in cp hx hW
 have HG := Lib.hid hg
 have HT := Lib.hid hT
 have HLL : Hid (∀ N : Nat, N = l.length -> N <= 1000) := fun N e => by rw [e]; exact hl
 obtain ⟨Z, hZ⟩ : ∃ Z, Z = l.length := ⟨_, rfl⟩
 rw [<- hZ] at hl HCV HLD ⊢
 have HZ := Lib.hid hZ
 clear hg hT hx hm hZ
 go_enter Tryz.func5, Tryz.ntmps5
 go_wp2_with fail
 refine HLD.out.mono ?_
 rintro e w1 ⟨hlr, hb1⟩
 have HB1 := Lib.hid hb1
 have hsz := hb1.size
 clear HLD hb1
 rcases hlr with ⟨x, hxe, rfl⟩ | ⟨v, ns, h, s, b, O, hlo, rfl, hS⟩
 ·have TL := Lib.hid (tell_errno x w1 (HG.out.below HB1.out))
  have PL : Hid (∀ W, Below w1.heap.size w1 W -> Calls Tryz.prog 23 #[.iface 54 (.int .i64 x)] W fun e w' => e = .returned (.tuple #[.int .i64 x, .int .i64 (-1)]) /\ Below W.heap.size W w') := fun W hW => place_errno x W (HG.out.below (HB1.out.trans (hW.mono HB1.out.size)))
  have hw := load_which hxe
  have hw' : x = 3 \/ (x = 12 /\ room < 300) \/ (x = 2 /\ (room < 0 \/ 4000 < room)) := by
   have := HLL.out _ rfl
   omega
  have HW := Lib.hid hw'
  clear hxe hw hw'
  go_wp2_with fail
  refine TL.out.mono ?_
  rintro e w2 ⟨rfl, hb2⟩
  go_wp2_with fail
  refine (PL.out _ hb2).mono ?_
  rintro e w3 ⟨rfl, hb3⟩
  have HB := Lib.hid (HB1.out.trans ((hb2.trans (hb3.mono hb2.size)).mono HB1.out.size))
  clear TL PL hb2 hb3
  rcases HW.out with rfl | ⟨rfl, hr⟩ | ⟨rfl, hr⟩
  ·go_wp2
   go_ret
   exact ⟨rfl, HB.out⟩
  ·go_wp2
   go_ret
   exact ⟨rfl, HB.out⟩
  ·rcases hr with hr | hr
   ·go_wp2
    go_ret
    exact ⟨rfl, HB.out⟩
   ·have hr0 : ¬ room < 0 := by omega
    go_wp2
    go_ret
    exact ⟨rfl, HB.out⟩
 ·obtain ⟨f1, f2, f3, f4, f5, f6, f7⟩ := load_fine hlo
  have hall := load_all hlo
  have hsw := hS.slt
  have c0 := hS.c0
  have HSZ := Lib.hid (size_op hS f4.ranked (by omega) (by omega) h f5)
  rw [hall] at HSZ
  have HSV : Hid (∀ W, Below w1.heap.size w1 W -> Calls Tryz.prog 18 #[.pointer (some ⟨s, 0, none⟩), .int .i64 h] W fun e w' => ∃ v, e = .returned (.tuple #[v, .nilIface]) /\ RowM w' W.heap.size v l /\ Below W.heap.size W w') := fun W hW => by
   have := save_any (hS.new hW) f4.ranked (by omega) f1 (HT.out.below (HB1.out.trans (hW.mono HB1.out.size))) h f5
   rw [f7] at this
   exact this
  have HLN : Hid (∀ W, Below w1.heap.size w1 W -> Calls Tryz.prog 24 #[.pointer (some ⟨b, 0, none⟩)] W fun e w' => e = .returned (.int .i64 ((taken ns).length : Int)) /\ W = w') := fun W hW => spLen (hS.new hW)
  have HSC : Hid (∀ W, Below w1.heap.size w1 W -> W.cell? ⟨s, 0, none⟩ = some (.pointer (some ⟨b, 0, none⟩))) := fun W hW => (hS.new hW).c0
  have hil : 0 < l.length := by
   rw [<- f7]; unfold imgF; simp only [List.length_append, List.length_cons, List.length_nil]; omega
  have r0 : ¬ room < 0 := by omega
  have r1 : ¬ 4000 < room := by omega
  clear hall hlo hS f4 f5 f6 f7 f1
  generalize (taken ns).length = T at *
  go_wp2_with fail
  refine HSZ.out.mono ?_
  rintro e w2 ⟨rfl, hb2⟩
  have HSV2 := Lib.hid (HSV.out w2 hb2)
  have HB2 := Lib.hid hb2
  clear HSV HSZ hb2 c0
  go_wp2_with fail
  refine HSV2.out.mono ?_
  rintro e w3 ⟨v3, rfl, hM3, hb3⟩
  obtain ⟨a3, c3, rfl⟩ := hM3.form
  have hb13 := HB2.out.trans (hb3.mono HB2.out.size)
  have hbw := HB1.out.trans (hb13.mono HB1.out.size)
  have k1 := conv_bytes hM3.bytes hil
  have k2 := HCV.out w3 hbw
  have c0 := HSC.out w3 hb13
  have HLN3 := Lib.hid (HLN.out w3 hb13)
  have HBW := Lib.hid hbw
  rw [<- HZ.out] at k1 ⊢
  unfold strV at k2
  clear hM3 hb3 hb13 hbw HSV2 HCV HLN HSC
  generalize (⟨l.toArray⟩ : ByteArray) = S at *
  go_wp2_with fail
  refine HLN3.out.mono ?_
  rintro e w4 ⟨rfl, rfl⟩
  go_wp2
  go_ret
  exact ⟨rfl, HBW.out⟩
theorem loads_great (a : Option Addr) (L cp : Nat) (hl : 1000 < L) (room : Int) (w : World) (hg : Glob w) :
  Calls Tryz.prog 5 #[.slice a L cp, .int .i64 room] w fun e w' => e = .returned (.bool true) /\ Below w.heap.size w w' := by
 have i1 : (1000 : Int) < (L : Int) := by omega
 by_cases h2 : L <= 20000
 ·have i2 : (L : Int) <= 20000 := by omega
  clear h2
  go_enter Tryz.func5, Tryz.ntmps5
  go_wp2
  go_ret
  exact ⟨rfl, Below.refl _ _⟩
 ·have i2 : ¬ (L : Int) <= 20000 := by omega
  have i4 : (20000 : Int) < (L : Int) := by omega
  by_cases h3 : 25000 < L
  ·have i3 : (25000 : Int) < (L : Int) := by omega
   clear h2 h3
   go_enter Tryz.func5, Tryz.ntmps5
   go_wp2
   go_ret
   exact ⟨rfl, Below.refl _ _⟩
  ·have i3 : ¬ (25000 : Int) < (L : Int) := by omega
   have HLD := Lib.hid (load_limit a L cp (by omega) room w)
   have HBA := Lib.hid (bare_errno 4 4 w hg)
   clear h2 h3 hl
   go_enter Tryz.func5, Tryz.ntmps5
   go_wp2_with fail
   refine HLD.out.mono ?_
   rintro e w1 ⟨rfl, rfl⟩
   go_wp2_with fail
   refine HBA.out.mono ?_
   rintro e w2 ⟨rfl, hb2⟩
   have HB := Lib.hid hb2
   clear hb2 HLD HBA
   go_wp2
   go_ret
   exact ⟨rfl, HB.out⟩
theorem loads_any (l : List UInt8) (a : Option Addr) (cp : Nat) (room : Int) (hI : -9223372036854775808 <= room /\ room <= 9223372036854775807) (w : World) (hg : Glob w) (hT : Tab10 w) (n : Int) (hm : w.cell? ⟨2, 0, none⟩ = some (.int .i64 n)) (hmg : 2 < w.heap.size) (hx : BytesIn w a l) :
  Calls Tryz.prog 5 #[.slice a l.length cp, .int .i64 room] w fun e w' => e = .returned (.bool true) /\ Below w.heap.size w w' := by
 by_cases h : l.length <= 1000
 ·exact loads_small l a cp h room hI w hg hT n hm hmg hx
 ·exact loads_great a l.length cp (by omega) room w hg
end
end Go.Proofs.YtcjjekhecjmaeaaGreatDoor
