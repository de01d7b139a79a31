/- What the rows' lists give of the catalog's words and of solspaceref.kinds; a world in which the lists hold. -/
import Derived.Test.YtmhophccdfmngaaGreatDoorCtOnlyW
import Derived.Test.YtmhophccdfmngaaGreatDoorCtParse
import Derived.Test.YtmhophccdfmngaaGreatDoorCtMem
import Derived.Test.YtmhophccdfmngaaGreatDoorRlLineA
import Derived.Test.YtmhophccdfmngaaGreatDoorCtLines
import Derived.WalkSmall
import Derived.Test.YtmhophccdfmngaaGreatDoorRlRules
import Derived.Test.YtmhophccdfmngaaGreatDoorCtOf
import Derived.Deep.RegionHeld3
import Derived.Test.YtmhophccdfmngaaGreatDoorCards
import Derived.Test.YtmhophccdfmngaaGreatDoorTie
import Derived.Test.YtmhophccdfmngaaGreatDoorSvPieces
import Derived.ProofKit
import Derived.OpenShut
import Derived.Deep.DeepHandedRow
import Derived.LaidHandle
import Derived.LaidSub
import Derived.Stop.LaidErr
import Derived.Shelf.Vars
import Derived.Lib.LaidTab
import Derived.Test.YtmhophccdfmngaaGreatDoorRlLine
import Derived.Lib.SmallJoins
import Derived.ChangeSame
import Derived.Deep.Slices
set_option maxHeartbeats 8000000
set_option maxRecDepth 100000
namespace Go.Proofs.YtmhophccdfmngaaGreatDoor
section
open Go.RowKit Go.Deep Sv
theorem prI_mem (its : List It) (k i : Nat) : ∀ x ∈ prI its k i, x.2.length <= 1000 /\ x.1 = -1 := by
 intro x hx
 obtain ⟨j, _, hj⟩ := List.mem_flatMap.1 hx
 unfold pr0 at hj
 split at hj
 ·rw [List.mem_singleton] at hj
  subst hj
  exact ⟨by simp, rfl⟩
 ·cases hj
theorem ofL_mem (its : List It) (ls : List Ln) (hl : its.length <= 24) : ∀ x ∈ ofL its ls, x.2.length <= 1000 /\ (x.1 = -1 \/ ∃ n : Nat, n < ls.length /\ x.1 = (n : Int)) := by
 intro x hx
 rcases List.mem_append.1 hx with hx | hx
 ·obtain ⟨k, _, hk⟩ := List.mem_flatMap.1 hx
  exact ⟨(prI_mem its k k x hk).1, Or.inl (prI_mem its k k x hk).2⟩
 ·obtain ⟨n, hn, hk⟩ := List.mem_flatMap.1 hx
  have hn' := List.mem_range.1 hn
  have a1 := amongF_len its (ls.getD n default).name (ls.getD n default).rng
  have a2 := amongF_len its (ls.getD n default).other (ls.getD n default).rng
  unfold lineC at hk
  split at hk
  ·rw [List.mem_singleton] at hk; subst hk
   exact ⟨by show (List.map _ _).length <= 1000; rw [List.length_map]; omega, Or.inr ⟨n, hn', rfl⟩⟩
  ·split at hk
   ·rw [List.mem_singleton] at hk; subst hk
    exact ⟨by show (_ :: List.map _ _).length <= 1000; rw [List.length_cons, List.length_map]; omega, Or.inr ⟨n, hn', rfl⟩⟩
   ·split at hk
    ·obtain ⟨k, _, rfl⟩ := List.mem_map.1 hk
     exact ⟨by simp, Or.inr ⟨n, hn', rfl⟩⟩
    ·cases hk
theorem CO.cls {B : Nat} {W : World} {a : Option Addr} {cap : Nat} {K : List (List Int)} (h : CO B W (.slice a K.length cap) K) : ClsIn W a K := by
 obtain ⟨cs, h1, h2⟩ := h
 exact h2.cls (ownsRow_base h1 (Nat.zero_le _))
theorem CO.form {B : Nat} {W : World} {v : Value} {K : List (List Int)} (h : CO B W v K) : ∃ a c, v = .slice a K.length c := by
 obtain ⟨cs, h1, _⟩ := h
 obtain ⟨a, c, e, _⟩ := (rowAt_own h1).form
 exact ⟨a, c, e⟩
end
section
open Go.RowKit Go.Deep
theorem same_ints (xs : List Int) (a1 a2 : Option Addr) (c1 c2 : Nat) (w : World) (h1 : IntsIn w a1 xs) (h2 : IntsIn w a2 xs) (hm : xs.length <= 9223372036854775807) :
  Calls Tryz.prog 38 #[.slice a1 xs.length c1, .slice a2 xs.length c2] w fun e w' => e = .returned (.bool true) /\ Below w.heap.size w w' := by
 have H1 := Lib.hid h1
 have H2 := Lib.hid h2
 clear h1 h2
 have enn : ((xs.length : Int) != (xs.length : Int)) = false := by simp
 go_enter Tryz.func38, Tryz.ntmps38
 go_wp2_with fail
 go_loopw [5] (fun kV wr => ∃ k : Nat, k <= xs.length /\ kV = .int .i64 (k : Int) /\ Below w.heap.size w wr) (fun kV _ => xs.length - (intOf kV).toNat)
 case atStart => exact ⟨0, Nat.zero_le _, rfl, Below.refl _ _⟩
 case round =>
  obtain ⟨k, hk, rfl, hbr⟩ := hrel
  have HBR := Lib.hid hbr
  clear hbr
  by_cases hlt : k < xs.length
  ·obtain ⟨ad1, rfl, hl1, hc1⟩ := H1.out.below HBR.out k hlt
   obtain ⟨ad2, rfl, hl2, hc2⟩ := H2.out.below HBR.out k hlt
   generalize xs.getD k 0 = x at *
   have exx : (x != x) = false := by simp
   have HBN : Hid (∀ q, Below w.heap.size w (wr.drewN q)) := fun q => HBR.out.trans ⟨rfl, rfl, rfl, Nat.le_refl _, fun _ _ => rfl⟩
   go_wp2_with fail
   go_quiet (fail)
   go_wp2
   go_roundw
   case rel => exact ⟨k + 1, hlt, by go_num, HBN.out _⟩
   case measure => simp [intOf]; omega
  ·obtain rfl : k = xs.length := by omega
   go_wp2
   go_ret
   exact ⟨rfl, HBR.out⟩
end
section
open Go.RowKit Go.Deep
theorem same_cls (l : List (List Int)) (a1 a2 : Option Addr) (c1 c2 : Nat) (w : World) (h1 : ClsIn w a1 l) (h2 : ClsIn w a2 l) (hm : l.length <= 9223372036854775807) :
  Calls Tryz.prog 52 #[.slice a1 l.length c1, .slice a2 l.length c2] w fun e w' => e = .returned (.bool true) /\ Below w.heap.size w w' := by
 have H1 := Lib.hid h1
 have H2 := Lib.hid h2
 clear h1 h2
 have enn : ((l.length : Int) != (l.length : Int)) = false := by simp
 go_enter Tryz.func52, Tryz.ntmps52
 go_wp2_with fail
 go_loopw [5] (fun kV wr => ∃ k : Nat, k <= l.length /\ kV = .int .i64 (k : Int) /\ Below w.heap.size w wr) (fun kV _ => l.length - (intOf kV).toNat)
 case atStart => exact ⟨0, Nat.zero_le _, rfl, Below.refl _ _⟩
 case round =>
  obtain ⟨k, hk, rfl, hbr⟩ := hrel
  have HBR := Lib.hid hbr
  clear hbr
  by_cases hlt : k < l.length
  ·obtain ⟨ad1, b1, d1, rfl, hl1, hc1, g11, g12, g13⟩ := H1.out.below HBR.out k hlt
   obtain ⟨ad2, b2, d2, rfl, hl2, hc2, g21, g22, g23⟩ := H2.out.below HBR.out k hlt
   generalize l.getD k [] = c at *
   have hcl : Hid (∀ X, Below wr.heap.size wr X -> X.cell? (ad1.add k) = some (.slice b1 c.length d1) /\ X.cell? (ad2.add k) = some (.slice b2 c.length d2)) := fun X hX => ⟨(hX.cell (p := ad1.add k) (by rw [addr_block]; exact hl1)).trans hc1, (hX.cell (p := ad2.add k) (by rw [addr_block]; exact hl2)).trans hc2⟩
   have HH : Hid (∀ X, Below wr.heap.size wr X -> _) := fun X hX => same_ints c b1 b2 d1 d2 X (g13.below hX) (g23.below hX) (by omega)
   have B0 : Below wr.heap.size wr wr.drew := (Below.refl _ _).drew
   have S0 := hcl.out _ B0
   clear g13 g23 hc1 hc2
   go_wp2_with fail
   go_region_held3 (fun X => X.cell? (ad1.add k) = some (.slice b1 c.length d1) /\ X.cell? (ad2.add k) = some (.slice b2 c.length d2)) (first | exact S0 | exact S1)
    (first
     | (go_at_call 38; refine (HH.out _ B0).mono ?_; rintro e w4 ⟨rfl, hb4⟩; have B1 := B0.trans (hb4.mono B0.size); have S1 := hcl.out _ B1; clear HH))
   all_goals
    have HBX : Hid (Below w.heap.size w w4) := HBR.out.trans (B1.mono HBR.out.size)
    clear B0 B1 S0
    go_wp2
    go_roundw
    case rel => exact ⟨k + 1, hlt, by go_num, HBX.out⟩
    case measure => simp [intOf]; omega
  ·obtain rfl : k = l.length := by omega
   go_wp2
   go_ret
   exact ⟨rfl, HBR.out⟩
end
section
open Go.RowKit Go.Deep
theorem bare_any (m k : Int) (v : Value) (w : World) (hg : Glob w) (hv : ErrIs w v m (-1)) :
  Calls Tryz.prog 51 #[v, .int .i64 k] w fun e w' => e = .returned (.bool (m == k)) /\ Below w.heap.size w w' := by
 generalize hz : (m == k) = z
 have HG := Lib.hid hg
 have HV := Lib.hid hv
 clear hg hv
 go_enter Tryz.func51, Tryz.ntmps51
 go_wp2_with fail
 refine (refBare k _).mono ?_
 rintro e w1 ⟨rfl, hb1⟩
 have HA := at_any m k (-1) (-1) v w1 (HG.out.below hb1) (HV.out.below hb1)
 rw [beq_self_eq_true, Bool.and_true, hz] at HA
 clear hz
 go_wp2_with fail
 refine HA.mono ?_
 rintro e w2 ⟨rfl, hb2⟩
 go_wp2
 go_ret
 exact ⟨rfl, hb1.trans (hb2.mono hb1.size)⟩
end
section
open Go.RowKit Go.Deep Sv
theorem rumake_none (s : ByteArray) (la : Option Addr) (bs : List Bool) (lc : Nat) (w : World) (hw : Lw w) (hF : FineR w) (ad : Addr) (cap : Nat) (hK : KindsAt w ad cap) (h : bothF s = none) : Calls Tryz.prog 10 #[.string s, .slice la bs.length lc] w fun r w' => r = .returned (.bool true) /\ Below w.heap.size w w' := by
 have HB0 := both_c s w hw hF ad cap hK
 rw [h] at HB0
 have HB : Hid (Calls Tryz.prog 48 #[.string s] w fun e w' => e = .returned (.tuple #[.pointer none, .slice none 0 0, .bool false]) /\ Below w.heap.size w w') := HB0
 clear HB0 hw hF hK h
 go_enter Tryz.func10, Tryz.ntmps10
 go_wp2_with fail
 refine HB.out.mono ?_
 rintro e w1 ⟨rfl, hb1⟩
 have HB1 := Lib.hid hb1
 clear hb1 HB
 go_wp2
 go_ret
 exact ⟨rfl, HB1.out⟩
theorem rumake_some (s : ByteArray) (la : Option Addr) (bs : List Bool) (lc : Nat) (w : World) (hw : Lw w) (hF : FineR w) (ad : Addr) (cap : Nat) (hK : KindsAt w ad cap) (hbo : BoolsIn w la bs) (ls : List Ln) (its : List It) (h : bothF s = some (ls, its)) : Calls Tryz.prog 10 #[.string s, .slice la bs.length lc] w fun r w' => r = .returned (.bool true) /\ Below w.heap.size w w' := by
 have HB0 := both_c s w hw hF ad cap hK
 rw [h] at HB0
 have HB : Hid (Calls Tryz.prog 48 #[.string s] w fun e w' => ∃ bc v, e = .returned (.tuple #[.pointer (some ⟨bc, 0, none⟩), v, .bool true]) /\ CatAt w' bc ls its /\ RLs w' v ls /\ Below w.heap.size w w') := HB0
 have hN := bothF_new h
 obtain ⟨hi24, hl100, hck⟩ := newF_ok hN
 obtain ⟨hasc, hri⟩ := new_asc hN
 have HRU := Lib.hid (fun v W hv => rrules_any ls its v W hv hl100 hi24 hri hasc)
 have HIT : Hid (∀ v W, RLs W v ls -> Calls Tryz.prog 32 #[v] W fun e w' => ∃ a c, e = .returned (.slice a its.length c) /\ Below W.heap.size W w') := fun v W hv => (ritems_any ls v W hv (by omega)).mono fun e w' ⟨v', h1, h2, h3⟩ => by
  rw [hri] at h2
  obtain ⟨a, c, e1, -⟩ := (rowAt_own h2).form
  exact ⟨a, c, by rw [h1, e1], h3⟩
 have HOF := Lib.hid (fun bc W hc => of_c bc ls its W hc hi24 (by omega) (fun x hx => check_names (hck x hx)))
 have HMEM := Lib.hid (fun x hx => (ofL_mem its ls hi24 x hx).1)
 have HLEN : Hid ((ofL its ls).length <= 10000) := by
  show _ <= _
  unfold ofL
  rw [List.length_append]
  have h1 := prF_len its its.length hi24
  have h2 := lnL_len its ls hi24 ls.length
  omega
 have HBO := Lib.hid hbo
 have HG := Lib.hid hw.lb.glob
 clear HB0 hw hF hK h hN hck hasc hri hbo
 obtain ⟨P, hP⟩ : ∃ P, ofL its ls = P := ⟨_, rfl⟩
 rw [hP] at HRU HOF HMEM HLEN
 clear hP
 go_enter Tryz.func10, Tryz.ntmps10
 go_wp2_with fail
 refine HB.out.mono ?_
 rintro e w1 ⟨bc, v, rfl, hc1, hv1, hb1⟩
 obtain ⟨va, vc, rfl⟩ : ∃ va vc, v = .slice va ls.length vc := by obtain ⟨vs, _, h2⟩ := hv1; obtain ⟨a, c, e, _⟩ := h2.form; exact ⟨a, c, e⟩
 have HC1 := Lib.hid hc1
 have HV1 := Lib.hid hv1
 have HB1 := Lib.hid hb1
 have HR1 := Lib.hid (HRU.out _ w1 hv1)
 clear hc1 hv1 hb1 HB HRU
 go_wp2_with fail
 refine HR1.out.mono ?_
 rintro e w2 ⟨cv, fv, rfl, hrs2, hb2⟩
 obtain ⟨ca, cc, rfl⟩ : ∃ a c, cv = .slice a P.length c := by obtain ⟨cs, h1, _⟩ := hrs2.crow; obtain ⟨a, c, e, _⟩ := (rowAt_own h1).form; exact ⟨a, c, by simpa using e⟩
 obtain ⟨fa, fc, rfl⟩ : ∃ a c, fv = .slice a P.length c := by obtain ⟨a, c, e, _⟩ := (rowAt_own hrs2.frow).form; exact ⟨a, c, by simpa using e⟩
 have HC2 := Lib.hid (HC1.out.below hb2 (Nat.le_refl _))
 have HV2 := Lib.hid (HV1.out.below hb2 (Nat.le_refl _))
 have HB2 : Hid (Below w.heap.size w w2) := HB1.out.trans (hb2.mono HB1.out.size)
 have HRS2 := Lib.hid hrs2
 have HO2 := Lib.hid (HOF.out bc w2 HC2.out)
 clear hrs2 hb2 HR1 HC1 HV1 HB1 HOF HC2
 go_wp2_with fail
 refine HO2.out.mono ?_
 intro e w3 hres
 rcases hres with ⟨hbig, rfl, hb3⟩ | ⟨hbig, cv, fv, rfl, hrs3, hb3⟩
 ·have hd : decide (P.length <= 200) = false := decide_eq_false (by omega)
  have kb := Blk.new w3 97 #[.int .i64 0, .slice none 0 0, .slice none 0 0]
  have hA := below_new w3 (.cells #[.int .i64 0, .slice none 0 0, .slice none 0 0] 97)
  have HB3 : Hid (Below w.heap.size w w3) := HB2.out.trans (hb3.mono HB2.out.size)
  have HB4 : Hid (Below w.heap.size w (w3.alloc (.cells #[.int .i64 0, .slice none 0 0, .slice none 0 0] 97))) := HB3.out.trans (hA.mono HB3.out.size)
  have HBA := Lib.hid (bare_any 4 4 (.iface 24 (.int .i64 4)) (w3.alloc (.cells #[.int .i64 0, .slice none 0 0, .slice none 0 0] 97)) (HG.out.below HB4.out) (Or.inr (Or.inl ⟨by decide, rfl, rfl⟩)))
  have HKB := Lib.hid kb
  clear kb hA hb3 HO2 HRS2 HV2 HB2 HB3
  rw [hd]
  go_upto_region 6 with fail
  generalize w3.alloc (.cells #[.int .i64 0, .slice none 0 0, .slice none 0 0] 97) = W4 at *
  go_wp2_with fail
  refine HBA.out.mono ?_
  rintro e w5 ⟨rfl, hb5⟩
  have k5 := HKB.out.below hb5 HKB.out.lt
  have c0 : w5.cell? ⟨w3.heap.size, 0, none⟩ = some (.int .i64 0) := k5.cell 0
  have c1 : w5.cell? ⟨w3.heap.size, 1, none⟩ = some (.slice none 0 0) := k5.cell 1
  have HB5 : Hid (Below w.heap.size w w5) := HB4.out.trans (hb5.mono HB4.out.size)
  clear k5 hb5 HBA HKB HB4
  go_wp2
  go_ret
  exact ⟨rfl, HB5.out⟩
 ·have hd : decide (P.length <= 200) = true := decide_eq_true (by omega)
  obtain ⟨pa, pc, rfl⟩ : ∃ a c, cv = .slice a P.length c := by obtain ⟨cs, h1, _⟩ := hrs3.crow; obtain ⟨a, c, e, _⟩ := (rowAt_own h1).form; exact ⟨a, c, by simpa using e⟩
  obtain ⟨qa, qc, rfl⟩ : ∃ a c, fv = .slice a P.length c := by obtain ⟨a, c, e, _⟩ := (rowAt_own hrs3.frow).form; exact ⟨a, c, by simpa using e⟩
  have hA := below_new w3 (.cells #[.int .i64 (its.length : Int), .slice pa P.length pc, .slice qa P.length qc] 97)
  have HKB := Lib.hid (Blk.new w3 97 #[.int .i64 (its.length : Int), .slice pa P.length pc, .slice qa P.length qc])
  have hb4 := hb3.trans (hA.mono hb3.size)
  have HB4 : Hid (Below w.heap.size w (w3.alloc (.cells #[.int .i64 (its.length : Int), .slice pa P.length pc, .slice qa P.length qc] 97))) := HB2.out.trans (hb4.mono HB2.out.size)
  have HRS := Lib.hid (HRS2.out.new hb4)
  have HPS := Lib.hid (hrs3.new hA)
  have HV4 := Lib.hid (HV2.out.below hb4 (Nat.le_refl _))
  have HBO4 := Lib.hid (HBO.out.below HB4.out (Nat.le_refl _))
  clear hA hb3 hb4 hrs3 HO2 HRS2 HV2 HB2 HBO
  rw [hd]
  go_upto_region 8 with fail
  generalize w3.alloc (.cells #[.int .i64 (its.length : Int), .slice pa P.length pc, .slice qa P.length qc] 97) = W4 at *
  generalize w3.heap.size = b4 at *
  have cls_of : ∀ {B : Nat} {W : World} {a : Option Addr} {c : Nat} {fv : Value}, RS B W (.slice a P.length c) fv (P.map Prod.snd) (P.map Prod.fst) -> ClsIn W a (P.map Prod.snd) := fun {B W a c fv} h => by
   obtain ⟨cs, h1, h2, _⟩ := h.crow
   exact ClsK.cls (B := 0) (cap := c) h2 (by simpa using ownsRow_base h1 (Nat.zero_le _))
  have SC : Hid (∀ W, Below W4.heap.size W4 W -> W.cell? ⟨b4, 0, none⟩ = some (.int .i64 (its.length : Int)) /\ W.cell? ⟨b4, 1, none⟩ = some (.slice pa P.length pc) /\ W.cell? ⟨b4, 2, none⟩ = some (.slice qa P.length qc)) := fun W h => ⟨(HKB.out.below h HKB.out.lt).cell 0, (HKB.out.below h HKB.out.lt).cell 1, (HKB.out.below h HKB.out.lt).cell 2⟩
  have HI4 : Hid (∀ W, Below W4.heap.size W4 W -> Calls Tryz.prog 32 #[.slice va ls.length vc] W fun e w' => ∃ a c, e = .returned (.slice a its.length c) /\ Below W.heap.size W w') := fun W h => HIT.out _ W (HV4.out.below h (Nat.le_refl _))
  have HS1 : Hid (∀ W, Below W4.heap.size W4 W -> Calls Tryz.prog 52 #[.slice pa P.length pc, .slice ca P.length cc] W fun e w' => e = .returned (.bool true) /\ Below W.heap.size W w') := fun W h => by
   have := same_cls (P.map Prod.snd) pa ca pc cc W (cls_of (HPS.out.new h)) (cls_of (HRS.out.new h)) (by have := HLEN.out; simp; omega)
   simpa using this
  have HS2 : Hid (∀ W, Below W4.heap.size W4 W -> Calls Tryz.prog 38 #[.slice qa P.length qc, .slice fa P.length fc] W fun e w' => e = .returned (.bool true) /\ Below W.heap.size W w') := fun W h => by
   have i1 : ∀ {B : Nat} {W : World} {a : Option Addr} {c : Nat} {cv : Value}, RS B W cv (.slice a P.length c) (P.map Prod.snd) (P.map Prod.fst) -> IntsIn W a (P.map Prod.fst) := fun {B W a c cv} h => by
    obtain ⟨a', cap', e1, _, _, e4, _⟩ := intsK_own h.frow
    simp at e1
    obtain ⟨rfl, -⟩ := e1
    exact e4.ints
   have := same_ints (P.map Prod.fst) qa fa qc fc W (i1 (HPS.out.new h)) (i1 (HRS.out.new h)) (by have := HLEN.out; simp; omega)
   simpa using this
  have HO1 : Hid (∀ W, Below W4.heap.size W4 W -> Calls Tryz.prog 53 #[.agg #[.int .i64 (its.length : Int), .slice pa P.length pc, .slice qa P.length qc], .slice la bs.length lc] W fun e w' => ∃ a2 c2, e = .returned (.slice a2 (ctOnly P bs).length c2) /\ ClsIn w' a2 (ctOnly P bs) /\ Below W.heap.size W w') := fun W hW => by
   refine (only_c _ (its.length : Int) P (.slice pa P.length pc) (.slice qa P.length qc) bs la lc W (HPS.out.new hW) (HBO4.out.below hW (Nat.le_refl _)) HLEN.out HMEM.out).mono fun e w' ⟨v', h1, h2, h3⟩ => ?_
   obtain ⟨cs, g1, g2⟩ := h2
   obtain ⟨a1, c1, e1, -⟩ := (rowAt_own g1).form
   subst e1
   exact ⟨a1, c1, h1, ClsK.cls (B := 0) (cap := c1) g2 (ownsRow_base g1 (Nat.zero_le _)), h3⟩
  have HO2 : Hid (∀ W, Below W4.heap.size W4 W -> Calls Tryz.prog 54 #[.slice ca P.length cc, .slice fa P.length fc, .slice la bs.length lc] W fun e w' => ∃ a2 c2, e = .returned (.slice a2 (ctOnly P bs).length c2) /\ ClsIn w' a2 (ctOnly P bs) /\ Below W.heap.size W w') := fun W hW => by
   refine (ronly_any _ P (.slice ca P.length cc) (.slice fa P.length fc) bs la lc W (HRS.out.new hW) (HBO4.out.below hW (Nat.le_refl _)) HLEN.out).mono fun e w' ⟨v', h1, h2, h3⟩ => ?_
   obtain ⟨cs, g1, g2⟩ := h2
   obtain ⟨a1, c1, e1, -⟩ := (rowAt_own g1).form
   subst e1
   exact ⟨a1, c1, h1, ClsK.cls (B := 0) (cap := c1) g2 (ownsRow_base g1 (Nat.zero_le _)), h3⟩
  have hkl : (ctOnly P bs).length <= 10000 := by have h1 := onlyP_len P bs P.length; unfold onlyP at h1; rw [List.take_length] at h1; have := HLEN.out; omega
  generalize ctOnly P bs = KK at *
  have HS3 : Hid (∀ W a1 a2 c1 c2, ClsIn W a1 KK -> ClsIn W a2 KK -> Calls Tryz.prog 52 #[.slice a1 KK.length c1, .slice a2 KK.length c2] W fun e w' => e = .returned (.bool true) /\ Below W.heap.size W w') := fun W a1 a2 c1 c2 h1 h2 => same_cls KK a1 a2 c1 c2 W h1 h2 (by omega)
  have D0 : Below W4.heap.size W4 W4.drew := (Below.refl _ _).drew
  clear HRS HPS HV4 HBO4 HIT HKB HMEM cls_of HLEN
  go_region_held3 (fun W => W.cell? ⟨b4, 0, none⟩ = some (.int .i64 (its.length : Int)) /\ W.cell? ⟨b4, 1, none⟩ = some (.slice pa P.length pc) /\ W.cell? ⟨b4, 2, none⟩ = some (.slice qa P.length qc)) (first | exact SC.out _ D0 | exact SC.out _ D1 | exact SC.out _ D2 | exact SC.out _ D3 | exact SC.out _ D4 | exact SC.out _ D5 | exact SC.out _ D6)
   (first
    | ((with_reducible refine (HI4.out _ D0).mono ?_); rintro e x1 ⟨ia, ic, rfl, hb1⟩; have D1 : Below W4.heap.size W4 x1 := D0.trans (hb1.mono D0.size); clear HI4 D0 hb1)
    | ((with_reducible refine (HS1.out _ D1).mono ?_); rintro e x2 ⟨rfl, hb2⟩; have D2 : Below W4.heap.size W4 x2 := D1.trans (hb2.mono D1.size); clear HS1 D1 hb2)
    | ((with_reducible refine (HS2.out _ D2).mono ?_); rintro e x3 ⟨rfl, hb3⟩; have D3 : Below W4.heap.size W4 x3 := D2.trans (hb3.mono D2.size); clear HS2 D2 hb3)
    | ((with_reducible refine (HO1.out _ D3).mono ?_); rintro e x4 ⟨a4, c4, rfl, hcl4, hb4⟩; have D4 : Below W4.heap.size W4 x4 := D3.trans (hb4.mono D3.size); clear HO1 D3 hb4)
    | ((with_reducible refine (HO2.out _ D4).mono ?_); rintro e x5 ⟨a5, c5, rfl, hcl5, hb5⟩; have D5 : Below W4.heap.size W4 x5 := D4.trans (hb5.mono D4.size); have hcl6 := hcl4.below hb5; clear HO2 D4 hb5 hcl4)
    | ((with_reducible refine (HS3.out _ _ _ _ _ hcl6 hcl5).mono ?_); rintro e x6 ⟨rfl, hb6⟩; have D6 : Below W4.heap.size W4 x6 := D5.trans (hb6.mono D5.size); clear HS3 D5 hb6 hcl5 hcl6))
  have HB6 : Hid (Below w.heap.size w x6) := HB4.out.trans (D6.mono HB4.out.size)
  clear D6
  go_wp2
  go_ret
  exact ⟨rfl, HB6.out⟩
theorem rumake_any (s : ByteArray) (la : Option Addr) (bs : List Bool) (lc : Nat) (w : World) (hw : Lw w) (hF : FineR w) (ad : Addr) (cap : Nat) (hK : KindsAt w ad cap) (hbo : BoolsIn w la bs) : Calls Tryz.prog 10 #[.string s, .slice la bs.length lc] w fun r w' => r = .returned (.bool true) /\ Below w.heap.size w w' := by
 cases h : bothF s with
 | none => exact rumake_none s la bs lc w hw hF ad cap hK h
 | some r => exact rumake_some s la bs lc w hw hF ad cap hK hbo r.1 r.2 h
end
section
open Go.ChangeShapes Go.WideShapes Go.ChangeAt Go.RowKit
theorem own : ownKnob Tryz.prog.godebug = none := by kernel_rfl
theorem gErr : Tryz.prog.globalNamed "errors.errorType" = some 3 := by kernel_rfl
theorem rtypeIs : (Tryz.prog.cutTypes.find? (·.1 == "internal/reflectlite.rtype")).map (·.2) = some 262 := by kernel_rfl
theorem oneRow : ((List.range 341).filter fun t => Tryz.prog.rowNamed t [101, 114, 114, 111, 114]) = [33] := by kernel_rfl
theorem typesSize : Tryz.prog.types.size = 341 := by kernel_rfl
theorem glob_of {W : World} {l : List (String × DataW Unit)} (h : laidMetH Tryz.prog l W) (hk : (l.filter fun x => x.1 == "errors.errorType") = [("errors.errorType", Rows.laid_errors_errorType)]) : Glob W := by
 have h2 := h.filter fun x => x.1 == "errors.errorType"
 rw [hk] at h2
 have h3 : laidMet Tryz.prog [] W /\ handlesMet Tryz.prog [("errors.errorType", Rows.laid_errors_errorType)] W := h2
 obtain ⟨name, u, ty, e1, e2, e3, e4, e5⟩ := h3.2 _ (List.mem_singleton.2 rfl)
 have en : name = [101, 114, 114, 111, 114] := (Option.some.inj e1).symm
 subst en
 obtain rfl := Option.some.inj (rtypeIs.symm.trans e2)
 have hm : ty ∈ (List.range 341).filter fun t => Tryz.prog.rowNamed t [101, 114, 114, 111, 114] := List.mem_filter.2 ⟨List.mem_range.2 (by rw [<- typesSize]; exact e3), e4⟩
 rw [oneRow] at hm
 obtain rfl := List.mem_singleton.1 hm
 have hh : typeHandle Tryz.prog 33 = .pointer (some ⟨12, 33, none⟩) := by kernel_rfl
 rw [hh] at e5
 have h6 := World.var?_cell gErr e5 0
 unfold Glob; simpa using h6
def refill (cs : Array Value) : Obj -> Obj
 | .cells _ t frozen => .cells cs t frozen
 | o => o
end
section
open Go.ChangeShapes Go.WideShapes Go.ChangeAt Go.RowKit Go.Shelf
theorem gTab : Tryz.prog.globalNamed "internal/strconv.uint64pow10" = some 9 := by kernel_rfl
theorem gTabType : (Tryz.prog.globals[9]?).map (·.type) = some 308 := by kernel_rfl
theorem cellsTab : Tryz.prog.cellsOf 308 = 20 := by kernel_rfl
theorem cellsTabE : Tryz.prog.cellsOf 260 = 1 := by kernel_rfl
theorem gSyn : Tryz.prog.globalNamed "strconv.ErrSyntax" = some 7 := by kernel_rfl
theorem gSynType : (Tryz.prog.globals[7]?).map (·.type) = some 33 := by kernel_rfl
theorem gRng : Tryz.prog.globalNamed "strconv.ErrRange" = some 8 := by kernel_rfl
theorem gRngType : (Tryz.prog.globals[8]?).map (·.type) = some 33 := by kernel_rfl
theorem cellsEs : Tryz.prog.cellsOf 312 = 1 := by kernel_rfl
theorem cellsStr : Tryz.prog.cellsOf 9 = 1 := by kernel_rfl
theorem starEs : "*" ++ "errors.errorString" = "*errors.errorString" := by decide
theorem rowEs (u : TypeId) (h : Tryz.prog.typeName? 3 u = some "*errors.errorString") : u = 310 :=
 typeName_ptr_named (nm := "errors.errorString") (by rw [starEs]; kernel_rfl) (by kernel_rfl) (by decide) u (by rw [starEs]; exact h)
theorem tab_of {W : World} {l : List (String × DataW Unit)} (h : laidMetH Tryz.prog l W) (hk : (l.filter fun x => x.1 == "internal/strconv.uint64pow10") = [("internal/strconv.uint64pow10", Lib.tabData .u64 Lib.pow10Tab)]) : Lib.TabIs Tryz.prog W "internal/strconv.uint64pow10" .u64 Lib.pow10Tab := by
 have h2 := h.filter fun x => x.1 == "internal/strconv.uint64pow10"
 rw [hk] at h2
 have h3 : laidMet Tryz.prog [("internal/strconv.uint64pow10", Lib.tabData .u64 Lib.pow10Tab)] W := h2
 exact Lib.tabIs_of_head (rest := []) gTab gTabType Tryz.underlying308 Tryz.underlying260 cellsTabE cellsTab h3
theorem syn_of {W : World} {l : List (String × DataW Unit)} (h : laidMetH Tryz.prog l W) (hk : (l.filter fun x => x.1 == "strconv.ErrSyntax") = [("strconv.ErrSyntax", Rows.laid_strconv_ErrSyntax)]) : ∃ ev, W.cell? ⟨7, 0, none⟩ = some ev /\ (ev = .nilIface \/ ∃ te pe, ev = .iface te pe) := by
 have h2 := h.filter fun x => x.1 == "strconv.ErrSyntax"
 rw [hk] at h2
 have h3 : laidMet Tryz.prog [("strconv.ErrSyntax", Rows.laid_strconv_ErrSyntax)] W := h2
 obtain ⟨a0, s0, hv0, -, -, -⟩ := laid_sentinel h3 gSyn gSynType Tryz.underlying33 rowEs Tryz.underlying310 Tryz.underlying312 rfl rfl Tryz.underlying9 cellsEs cellsStr
 exact ⟨_, by have h0 := World.var?_cell gSyn hv0 0; simpa using h0, .inr ⟨_, _, rfl⟩⟩
theorem rng_of {W : World} {l : List (String × DataW Unit)} (h : laidMetH Tryz.prog l W) (hk : (l.filter fun x => x.1 == "strconv.ErrRange") = [("strconv.ErrRange", Rows.laid_strconv_ErrRange)]) : ∃ ev, W.cell? ⟨8, 0, none⟩ = some ev /\ (ev = .nilIface \/ ∃ te pe, ev = .iface te pe) := by
 have h2 := h.filter fun x => x.1 == "strconv.ErrRange"
 rw [hk] at h2
 have h3 : laidMet Tryz.prog [("strconv.ErrRange", Rows.laid_strconv_ErrRange)] W := h2
 obtain ⟨a0, s0, hv0, -, -, -⟩ := laid_sentinel h3 gRng gRngType Tryz.underlying33 rowEs Tryz.underlying310 Tryz.underlying312 rfl rfl Tryz.underlying9 cellsEs cellsStr
 exact ⟨_, by have h0 := World.var?_cell gRng hv0 0; simpa using h0, .inr ⟨_, _, rfl⟩⟩
theorem ml_of {W : World} (h : W.ShapedOpen Tryz.prog) : ∃ n, W.cell? ⟨4, 0, none⟩ = some (.int .i64 n) :=
 cell_of_shapedOpen_int (zero := #[.int .i64 0]) (t := 3) h (of_decide_eq_true (by kernel_rfl)) (by kernel_rfl) rfl (by kernel_rfl) (by kernel_rfl) Tryz.underlying3
theorem big_of {W : World} (h : W.ShapedOpen Tryz.prog) : 12 <= W.heap.size := by
 obtain ⟨o, _, ho, _⟩ := h.2 12 (of_decide_eq_true (by kernel_rfl)) (of_decide_eq_true (by kernel_rfl))
 have := (Array.getElem?_eq_some_iff.1 ho).1
 omega
theorem lb_of {W : World} {l : List (String × DataW Unit)} (h : laidMetH Tryz.prog l W) (hs : W.ShapedOpen Tryz.prog)
  (k1 : (l.filter fun x => x.1 == "internal/strconv.uint64pow10") = [("internal/strconv.uint64pow10", Lib.tabData .u64 Lib.pow10Tab)])
  (k2 : (l.filter fun x => x.1 == "strconv.ErrSyntax") = [("strconv.ErrSyntax", Rows.laid_strconv_ErrSyntax)])
  (k3 : (l.filter fun x => x.1 == "strconv.ErrRange") = [("strconv.ErrRange", Rows.laid_strconv_ErrRange)])
  (k4 : (l.filter fun x => x.1 == "errors.errorType") = [("errors.errorType", Rows.laid_errors_errorType)]) : Lb W :=
 ⟨ml_of hs, syn_of h k2, rng_of h k3, tab_of h k1, glob_of h k4, big_of hs⟩
def cellsIn1 : DataW Unit -> List Value
 | .lit (.int k z) => [.int k z]
 | _ => [undef]
def cellsIn2 : DataW Unit -> List Value
 | .agg l => l.flatMap cellsIn1
 | d => cellsIn1 d
def cellsIn : DataW Unit -> Array Value
 | .agg l => (l.flatMap cellsIn2).toArray
 | _ => #[]
end
section
open Go.ChangeShapes Go.WideShapes Go.ChangeAt Go.RowKit Go.Shelf
theorem gFine : Tryz.prog.globalNamed "solspace/solspaceref.Fine" = some 0 := by kernel_rfl
theorem gFineType : (Tryz.prog.globals[0]?).map (·.type) = some 26 := by kernel_rfl
theorem cellsIntF : Tryz.prog.cellsOf 3 = 1 := by kernel_rfl
theorem cellsErrno : Tryz.prog.cellsOf 24 = 1 := by kernel_rfl
theorem cellsFault : Tryz.prog.cellsOf 26 = 2 := by kernel_rfl
theorem fineR_of {W : World} {l : List (String × DataW Unit)} (h : laidMetH Tryz.prog l W) (hk : (l.filter fun x => x.1 == "solspace/solspaceref.Fine") = [("solspace/solspaceref.Fine", Rows.laid_solspace_solspaceref_Fine)]) : FineR W := by
 have h2 := h.filter fun x => x.1 == "solspace/solspaceref.Fine"
 rw [hk] at h2
 have h3 : laidMet Tryz.prog [("solspace/solspaceref.Fine", Rows.laid_solspace_solspaceref_Fine)] W := h2
 obtain ⟨ps, ⟨g', t', cs, fuel, p, q, hg', ht', hvar, hd, _, _⟩, _⟩ := h3
 obtain rfl := Option.some.inj (gFine.symm.trans hg')
 obtain rfl := Option.some.inj (gFineType.symm.trans ht')
 obtain ⟨y0, y1, n, hx, hl, g0, g1⟩ := trod_struct2 Tryz.underlying26 hd
 rw [cellsFault] at hl
 obtain ⟨cs⟩ := cs
 simp only at hl g0 g1
 match cs, hl with
 | [v0, v1], _ =>
  simp [cellsErrno, cellsIntF] at g0 g1
  obtain ⟨z0, e0, x0, -⟩ := DataW.trod_int Tryz.underlying24 g0
  obtain ⟨z1, e1, x1, -⟩ := DataW.trod_int Tryz.underlying3 g1
  simp at e0 e1
  subst e0 e1 x0 x1
  simp [Rows.laid_solspace_solspaceref_Fine] at hx
  obtain ⟨⟨rfl, rfl⟩, -⟩ := hx
  have h0 : W.cell? ⟨0, 0, none⟩ = some (.int .i64 0) := by have := World.var?_cell gFine hvar 0; simpa using this
  exact ⟨h0, by have := World.var?_cell gFine hvar 1; simpa using this, World.block_lt_of_cell? _ _ h0⟩
end
section
open Go.ChangeShapes Go.WideShapes Go.ChangeAt Go.RowKit Go.Shelf
theorem gWords : Tryz.prog.globalNamed "solspace/catalog.words" = some 2 := by kernel_rfl
theorem gWordsType : (Tryz.prog.globals[2]?).map (·.type) = some 202 := by kernel_rfl
theorem cellsWords : Tryz.prog.cellsOf 202 = 5 := by kernel_rfl
theorem cells_of_strs {H : Type} {enc : TypeId × Value -> H} {P : Program} {w : World} {base : Nat} {sp : Nat -> Bool} {held : Bool} {fuel : Nat} {t e : TypeId} {n : Nat} {cs : List Value} {zs : List ByteArray} {p : List MemPlace}
  (ht : P.underlying t = some (.array n e)) (he : P.underlying e = some .string) (hce : P.cellsOf e = 1) (hct : P.cellsOf t = n)
  (h : DataW.trod enc P w base sp held fuel t cs = some (.agg (zs.map fun z => .lit (.string z.data.toList)), p)) : cs = zs.map fun z => Value.string z := by
 cases fuel with
 | zero => simp [DataW.trod] at h
 | succ fuel =>
  simp only [DataW.trod, ht, hce, hct, Nat.mul_one] at h
  split at h
  ·rename_i hl
   obtain ⟨xs, hm, hx⟩ := Option.map_eq_some_iff.1 h
   have hxs : xs.map (·.1) = zs.map fun z => (DataW.lit (.string z.data.toList) : DataW H) := by
    have := congrArg Prod.fst hx
    simpa using this
   have hxl : xs.length = n := by simpa using Lib.mapM_length hm
   have hzl : zs.length = n := by
    have := congrArg List.length hxs
    simp at this
    omega
   apply List.ext_getElem?
   intro i
   by_cases hi : i < n
   ·obtain ⟨b, hb, hf⟩ := Lib.mapM_at hm i i (by simp [hi])
    obtain ⟨z, hc, rfl, _⟩ := DataW.trod_string he hf
    have h1 : cs[i]? = some (.string z) := by
     have := congrArg (·[0]?) hc
     simpa [List.getElem?_take, List.getElem?_drop] using this
    have h2 : (xs.map (·.1))[i]? = some (DataW.lit (.string z.data.toList) : DataW H) := by simp [hb]
    rw [hxs] at h2
    simp only [List.getElem?_map, Option.map_eq_some_iff, DataW.lit.injEq, Lit.string.injEq] at h2
    obtain ⟨z', hz', e⟩ := h2
    obtain rfl : z' = z := ByteArray.ext (Array.toList_inj.1 e)
    simp [h1, hz']
   ·rw [List.getElem?_eq_none (by omega), List.getElem?_eq_none (by simp; omega)]
  ·cases h
theorem words_of {W : World} {l : List (String × DataW Unit)} (h : laidMetH Tryz.prog l W) (hk : (l.filter fun x => x.1 == "solspace/catalog.words") = [("solspace/catalog.words", Rows.laid_solspace_catalog_words)]) : WordsAt W := by
 have h2 := h.filter fun x => x.1 == "solspace/catalog.words"
 rw [hk] at h2
 have h3 : laidMet Tryz.prog [("solspace/catalog.words", Rows.laid_solspace_catalog_words)] W := h2
 obtain ⟨ps, ⟨g', t', cs, fuel, p, q, hg', ht', hvar, hd, _, _⟩, _⟩ := h3
 obtain rfl := Option.some.inj (gWords.symm.trans hg')
 obtain rfl := Option.some.inj (gWordsType.symm.trans ht')
 have hcs := cells_of_strs (zs := [⟨#[]⟩, ⟨#[112, 97, 99, 107, 97, 103, 101]⟩, ⟨#[110, 101, 101, 100, 115]⟩, ⟨#[99, 108, 97, 115, 104, 101, 115]⟩, ⟨#[114, 111, 111, 116]⟩]) Tryz.underlying202 Tryz.underlying9 cellsStr cellsWords hd
 have H := fun (i : Nat) => World.var?_cell gWords hvar i
 obtain ⟨cs⟩ := cs
 simp only at hcs
 subst hcs
 exact ⟨by simpa using H 0, by simpa using H 1, by simpa using H 2, by simpa using H 3, by simpa using H 4⟩
theorem gKinds : Tryz.prog.globalNamed "solspace/solspaceref.kinds" = some 1 := by kernel_rfl
theorem gKindsType : (Tryz.prog.globals[1]?).map (·.type) = some 111 := by kernel_rfl
theorem kinds_of {W : World} {l : List (String × DataW Unit)} (h : laidMetH Tryz.prog l W) (hk : (l.filter fun x => x.1 == "solspace/solspaceref.kinds") = [("solspace/solspaceref.kinds", Rows.laid_solspace_solspaceref_kinds)]) : ∃ ad cap, KindsAt W ad cap := by
 have h2 := h.filter fun x => x.1 == "solspace/solspaceref.kinds"
 rw [hk] at h2
 have h3 : laidMet Tryz.prog [("solspace/solspaceref.kinds", Rows.laid_solspace_solspaceref_kinds)] W := h2
 obtain ⟨ps, ⟨g', t', cs, fuel, p, q, hg', ht', hvar, hd, _, _⟩, _⟩ := h3
 obtain rfl := Option.some.inj (gKinds.symm.trans hg')
 obtain rfl := Option.some.inj (gKindsType.symm.trans ht')
 have H := World.var?_cell gKinds hvar 0
 rcases Go.Deep.open_slice1 Tryz.underlying111 cellsStr hd with ⟨_, hx⟩ | ⟨a, len, cap, m, n, V, D, Pl, hcs, hb, hl, hm, hmm, hx, hc⟩
 ·simp [Rows.laid_solspace_solspaceref_kinds] at hx
 ·have h1 := congrArg Prod.fst hx
  simp only [Rows.laid_solspace_solspaceref_kinds, DataW.slice.injEq] at h1
  obtain ⟨h1, h1b⟩ := h1
  have hlen : len = 5 := by have := congrArg List.length h1; simpa using this.symm
  subst hlen
  have hm5 : 5 <= m := by rw [hmm]; split <;> omega
  have hD : ∀ j, j < 5 -> D j = .lit (.string (wl j)) := fun j hj => by
   have := congrArg (·[j]?) h1
   simp only [List.getElem?_map] at this
   match j, hj with
   | 0, _ => simpa [wl] using this.symm
   | 1, _ => simpa [wl] using this.symm
   | 2, _ => simpa [wl] using this.symm
   | 3, _ => simpa [wl] using this.symm
   | 4, _ => simpa [wl] using this.symm
  have hcell : ∀ j, j < 5 -> W.cell? (a.add j) = some (.string ⟨(wl j).toArray⟩) := fun j hj => by
   obtain ⟨z, hz, hzd, _⟩ := DataW.trod_string Tryz.underlying9 (hc j (by omega)).2
   rw [(hc j (by omega)).1]
   have e1 : V j = .string z := by simpa using hz
   rw [e1]
   have e2 : z.data.toList = wl j := by
    have h7 := hD j hj
    have h8 := congrArg Prod.fst hzd
    simp only at h8
    rw [h8] at h7
    simpa using h7
   rw [bytes_of e2]
  refine ⟨a, cap, ?_, hcell, ?_, ?_⟩
  ·obtain ⟨cs⟩ := cs
   simp only at hcs
   subst hcs
   simpa using H
  ·have h0 : W.cell? ⟨1, 0, none⟩ = some (.slice (some a) 5 cap) := by
    obtain ⟨cs⟩ := cs
    simp only at hcs
    subst hcs
    simpa using H
   exact World.block_lt_of_cell? _ _ h0
  ·have := World.block_lt_of_cell? _ _ (hcell 0 (by omega))
   rwa [addr_block] at this
noncomputable def laidWorldQ (os : Os) : World :=
 let w0 := World.holding Tryz.prog os ⟨#[.cells #[.string ⟨#[118, 97, 108, 117, 101, 32, 111, 117, 116, 32, 111, 102, 32, 114, 97, 110, 103, 101]⟩] 312, .cells #[.string ⟨#[105, 110, 118, 97, 108, 105, 100, 32, 115, 121, 110, 116, 97, 120]⟩] 312, .cells #[.string ⟨#[]⟩, .string ⟨#[112, 97, 99, 107, 97, 103, 101]⟩, .string ⟨#[110, 101, 101, 100, 115]⟩, .string ⟨#[99, 108, 97, 115, 104, 101, 115]⟩, .string ⟨#[114, 111, 111, 116]⟩] 9], #[], []⟩
 { w0 with heap := ((((((((((w0.heap.modify 3 (refill #[.iface 262 (.agg #[.pointer (some ⟨12, 33, none⟩)])])).modify 7 (refill #[.iface 310 (.pointer (some ⟨18, 0, none⟩))])).modify 8 (refill #[.iface 310 (.pointer (some ⟨17, 0, none⟩))])).modify 9 (refill (cellsIn Rows.laid_internal_strconv_uint64pow10))).modify 5 (refill (cellsIn Rows.laid_unicode_utf8_first))).modify 6 (refill (cellsIn Rows.laid_unicode_utf8_acceptRanges))).modify 10 (refill (cellsIn Rows.laid_math_bits_deBruijn32tab))).modify 11 (refill (cellsIn Rows.laid_math_bits_deBruijn64tab))).modify 2 (refill #[.string ⟨#[]⟩, .string ⟨#[112, 97, 99, 107, 97, 103, 101]⟩, .string ⟨#[110, 101, 101, 100, 115]⟩, .string ⟨#[99, 108, 97, 115, 104, 101, 115]⟩, .string ⟨#[114, 111, 111, 116]⟩])).modify 0 (refill #[.int .i64 0, .int .i64 (-1)])).modify 1 (refill #[.slice (some ⟨19, 0, none⟩) 5 5]) }
theorem laidOutQ : laidOutB Tryz.prog = true := by kernel_rfl
end
end Go.Proofs.YtmhophccdfmngaaGreatDoor
