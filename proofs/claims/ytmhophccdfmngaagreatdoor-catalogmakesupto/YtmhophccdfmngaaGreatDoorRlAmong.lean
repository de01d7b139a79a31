/- The reference's Among. -/
import Derived.Test.YtmhophccdfmngaaGreatDoorRlCat
import Derived.Test.YtmhophccdfmngaaGreatDoorSvRTxt
import Derived.Test.YtmhophccdfmngaaGreatDoorCtTextC
import Derived.Test.YtmhophccdfmngaaGreatDoorCtGet
import Derived.Test.YtmhophccdfmngaaGreatDoorCtMap
import Derived.Test.YtmhophccdfmngaaGreatDoorRlNum
import Derived.Test.YtmhophccdfmngaaGreatDoorSvRHas
set_option maxHeartbeats 4000000
set_option maxRecDepth 100000
namespace Go.Proofs.YtmhophccdfmngaaGreatDoor
section
open Go.RowKit Go.Shelf Sv
theorem lnT_at (x : Ln) (K : Int) (hk : x.kind = K) : lnT x = if K = 1 then wl 1 ++ 32 :: (x.name.data.toList ++ 32 :: wtx x.a x.b x.c)
 else if K = 2 then wl 2 ++ 32 :: (x.name.data.toList ++ 32 :: (wtx x.a x.b x.c ++ 32 :: (x.other.data.toList ++ 32 :: rgT x.rng)))
 else if K = 3 then wl 3 ++ 32 :: (x.name.data.toList ++ 32 :: (wtx x.a x.b x.c ++ 32 :: (x.other.data.toList ++ 32 :: rgT x.rng)))
 else wl 4 ++ 32 :: (x.name.data.toList ++ 32 :: rgT x.rng) := by subst hk; rfl
theorem rct_any (ls : List Ln) (v : Value) (w : World) (h : RLs w v ls) (hl : ls.length <= 100) (hx : ∀ i, i < ls.length -> LnOk (ls.getD i default)) (hw : Lb w) (ad : Addr) (cap : Nat) (hK : KindsAt w ad cap) :
  Calls Tryz.prog 36 #[v] w fun e w' => e = .returned (.string ⟨(ctT ls).toArray⟩) /\ Below w.heap.size w w' := by
 obtain ⟨la, lc, rfl⟩ : ∃ la lc, v = .slice la ls.length lc := by obtain ⟨vs, _, h2⟩ := h; obtain ⟨a, c, e, _⟩ := h2.form; exact ⟨a, c, e⟩
 have HL := Lib.hid h
 have HX := Lib.hid hx
 have HW := Lib.hid hw
 have HKD := Lib.hid hK
 have HSN := Lib.hid (ctT_snoc ls)
 have HCL := Lib.hid (ctT_len hx)
 have HTL : Hid (ctT (ls.take ls.length) = ctT ls) := by show _ = _; rw [List.take_length]
 clear h hx hw hK
 go_enter Tryz.func36, Tryz.ntmps36
 go_wp2_with fail
 go_loopw [3, 8] (fun sV kV wz => ∃ k : Nat, k <= ls.length /\ sV = .string ⟨(ctT (ls.take k)).toArray⟩ /\ kV = .int .i64 (k : Int) /\ Below w.heap.size w wz) (fun _ kV _ => ls.length - (intOf kV).toNat)
 case atStart => exact ⟨0, Nat.zero_le _, rfl, rfl, Below.refl _ _⟩
 case round =>
  obtain ⟨k, hk, rfl, rfl, hbr⟩ := hrel
  by_cases hlt : k < ls.length
  ·obtain ⟨g, cap', ra, rc, e, hg, hsp, hrg, c0, c1, c2, c3, c4, c5, c6⟩ := (HL.out.below hbr (Nat.le_refl _)).at k hlt
   simp at e
   obtain ⟨rfl, rfl⟩ := e
   have hsn := HSN.out k hlt
   have hln := HCL.out k
   have hok := HX.out k hlt
   have hk1 := hok.k1
   have hk4 := hok.k4
   have lVX := wtx_len _ _ _ hok.a hok.b hok.c
   have lRX := rgT_len hok.rg
   have hnm := hok.nm
   have hot := hok.ot
   have HVT : Hid (∀ W, Below w.heap.size w W -> Calls Tryz.prog 92 #[.agg #[.int .i64 (ls.getD k default).a, .int .i64 (ls.getD k default).b, .int .i64 (ls.getD k default).c]] W fun e w' => e = .returned (.string ⟨(wtx (ls.getD k default).a (ls.getD k default).b (ls.getD k default).c).toArray⟩) /\ Below W.heap.size W w') := fun W hb => rtext_any joinC replC _ _ _ hok.a hok.b hok.c W (HW.out.below hb)
   have HRT : Hid (∀ W, Below wr.heap.size wr W -> Calls Tryz.prog 17 #[.slice ra (tp (ls.getD k default).rng).length rc] W fun e w' => e = .returned (.string ⟨(rgT (ls.getD k default).rng).toArray⟩) /\ Below W.heap.size W w') := fun W hb => rgtext_any _ hrg _ W (HW.out.below (hbr.trans (hb.mono hbr.size))) (hsp.below hb (Nat.le_refl _))
   have HBR := Lib.hid hbr
   clear hok hrg hsp hbr
   generalize ls.getD k default = x at *
   have HLN := Lib.hid (lnT_at x)
   have HSN1 := Lib.hid hsn
   clear hsn
   obtain ⟨xk, xn, xa, xb, xc, xo, xr⟩ := x
   simp only at *
   obtain ⟨VX, hVX⟩ : ∃ VX, wtx xa xb xc = VX := ⟨_, rfl⟩
   obtain ⟨RX, hRX⟩ : ∃ RX, rgT xr = RX := ⟨_, rfl⟩
   obtain ⟨AX, hAX⟩ : ∃ AX, ctT (ls.take k) = AX := ⟨_, rfl⟩
   obtain ⟨LX, hLX⟩ : ∃ LX, lnT ⟨xk, xn, xa, xb, xc, xo, xr⟩ = LX := ⟨_, rfl⟩
   rw [hVX] at HVT lVX HLN
   rw [hRX] at HRT lRX HLN
   rw [hAX] at HSN1 hln ⊢
   rw [hLX] at HSN1 HLN
   clear hVX hRX hAX hLX
   generalize (tp xr).length = RL at *
   have hln' : AX.length <= 100000000000000 := by omega
   clear hln
   have kx := Blk.new wr 79 #[.int .i64 xk, .string xn, .int .i64 xa, .int .i64 xb, .int .i64 xc, .string xo, .slice ra RL rc]
   have hbx : Below wr.heap.size wr (wr.alloc (.cells #[.int .i64 xk, .string xn, .int .i64 xa, .int .i64 xb, .int .i64 xc, .string xo, .slice ra RL rc] 79)) := (Below.refl _ _).alloc (Nat.le_refl _) _
   have HX1 := Lib.hid hbx
   have HKX := Lib.hid kx
   clear kx hbx
   have h4 : xk = 1 \/ xk = 2 \/ xk = 3 \/ xk = 4 := by omega
   clear hk1 hk4
   rcases h4 with rfl | rfl | rfl | rfl
   ·have HLK : Hid (LX = wl 1 ++ 32 :: (xn.data.toList ++ 32 :: VX)) := HLN.out 1 rfl
    clear HLN
    go_upto_region 5 with fail
    clear c0 c1 c2 c3 c4 c5 c6
    generalize wr.alloc (.cells #[.int .i64 1, .string xn, .int .i64 xa, .int .i64 xb, .int .i64 xc, .string xo, .slice ra RL rc] 79) = W1 at *
    have KC : Hid (∀ W, Below W1.heap.size W1 W -> W.cell? ⟨wr.heap.size, 0, none⟩ = some (.int .i64 1) /\ W.cell? ⟨wr.heap.size, 1, none⟩ = some (.string xn) /\ W.cell? ⟨wr.heap.size, 2, none⟩ = some (.int .i64 xa) /\ W.cell? ⟨wr.heap.size, 3, none⟩ = some (.int .i64 xb) /\ W.cell? ⟨wr.heap.size, 4, none⟩ = some (.int .i64 xc) /\ W.cell? ⟨wr.heap.size, 5, none⟩ = some (.string xo) /\ W.cell? ⟨wr.heap.size, 6, none⟩ = some (.slice ra RL rc)) := fun W hb => ⟨(HKX.out.below hb HKX.out.lt).cell 0, (HKX.out.below hb HKX.out.lt).cell 1, (HKX.out.below hb HKX.out.lt).cell 2, (HKX.out.below hb HKX.out.lt).cell 3, (HKX.out.below hb HKX.out.lt).cell 4, (HKX.out.below hb HKX.out.lt).cell 5, (HKX.out.below hb HKX.out.lt).cell 6⟩
    have KW : Hid (∀ W, Below W1.heap.size W1 W -> Below wr.heap.size wr W) := fun W hb => HX1.out.trans (hb.mono HX1.out.size)
    have KV : Hid (∀ W, Below W1.heap.size W1 W -> Below w.heap.size w W) := fun W hb => HBR.out.trans ((KW.out W hb).mono HBR.out.size)
    have D0 : Below W1.heap.size W1 W1 := Below.refl _ _
    obtain ⟨c0, c1, c2, c3, c4, c5, c6⟩ := KC.out _ D0
    have hkd := HKD.out.below (KV.out _ D0)
    have gk := hkd.c
    have gs : W1.cell? { block := ad.block, off := ad.off + 1 } = some (.string ⟨#[112, 97, 99, 107, 97, 103, 101]⟩) := hkd.s 1 (by decide)
    clear hkd D0
    go_big_region
    have B2 : Hid (Below W1.heap.size W1 W1.drew) := (Below.refl _ _).drew
    clear c0 c1 c2 c3 c4 c5 c6 gk gs
    obtain ⟨c0, c1, c2, c3, c4, c5, c6⟩ := KC.out _ B2.out
    generalize W1.drew = W2 at *
    go_wp2_with fail
    refine (HVT.out _ (KV.out _ B2.out)).mono ?_
    rintro e W3 ⟨rfl, hb⟩
    have B3 : Hid (Below W1.heap.size W1 W3) := B2.out.trans (hb.mono B2.out.size)
    clear hb c0 c1 c2 c3 c4 c5 c6
    obtain ⟨c0, c1, c2, c3, c4, c5, c6⟩ := KC.out _ B3.out
    go_wp2
    go_roundw
    case rel =>
     refine ⟨k + 1, by omega, ?_, by go_num, KV.out _ B3.out⟩
     refine congrArg Value.string ?_
     rw [HSN1.out, HLK.out]
     simp only [app_bytes]
     simp [wl]
    case measure => simp [intOf]; omega
   ·have HLK : Hid (LX = wl 2 ++ 32 :: (xn.data.toList ++ 32 :: (VX ++ 32 :: (xo.data.toList ++ 32 :: RX)))) := HLN.out 2 rfl
    clear HLN
    go_upto_region 5 with fail
    clear c0 c1 c2 c3 c4 c5 c6
    generalize wr.alloc (.cells #[.int .i64 2, .string xn, .int .i64 xa, .int .i64 xb, .int .i64 xc, .string xo, .slice ra RL rc] 79) = W1 at *
    have KC : Hid (∀ W, Below W1.heap.size W1 W -> W.cell? ⟨wr.heap.size, 0, none⟩ = some (.int .i64 2) /\ W.cell? ⟨wr.heap.size, 1, none⟩ = some (.string xn) /\ W.cell? ⟨wr.heap.size, 2, none⟩ = some (.int .i64 xa) /\ W.cell? ⟨wr.heap.size, 3, none⟩ = some (.int .i64 xb) /\ W.cell? ⟨wr.heap.size, 4, none⟩ = some (.int .i64 xc) /\ W.cell? ⟨wr.heap.size, 5, none⟩ = some (.string xo) /\ W.cell? ⟨wr.heap.size, 6, none⟩ = some (.slice ra RL rc)) := fun W hb => ⟨(HKX.out.below hb HKX.out.lt).cell 0, (HKX.out.below hb HKX.out.lt).cell 1, (HKX.out.below hb HKX.out.lt).cell 2, (HKX.out.below hb HKX.out.lt).cell 3, (HKX.out.below hb HKX.out.lt).cell 4, (HKX.out.below hb HKX.out.lt).cell 5, (HKX.out.below hb HKX.out.lt).cell 6⟩
    have KW : Hid (∀ W, Below W1.heap.size W1 W -> Below wr.heap.size wr W) := fun W hb => HX1.out.trans (hb.mono HX1.out.size)
    have KV : Hid (∀ W, Below W1.heap.size W1 W -> Below w.heap.size w W) := fun W hb => HBR.out.trans ((KW.out W hb).mono HBR.out.size)
    have D0 : Below W1.heap.size W1 W1 := Below.refl _ _
    obtain ⟨c0, c1, c2, c3, c4, c5, c6⟩ := KC.out _ D0
    have hkd := HKD.out.below (KV.out _ D0)
    have gk := hkd.c
    have gs : W1.cell? { block := ad.block, off := ad.off + 2 } = some (.string ⟨#[110, 101, 101, 100, 115]⟩) := hkd.s 2 (by decide)
    clear hkd D0
    go_big_region
    have B2 : Hid (Below W1.heap.size W1 W1.drew) := (Below.refl _ _).drew
    clear c0 c1 c2 c3 c4 c5 c6 gk gs
    obtain ⟨c0, c1, c2, c3, c4, c5, c6⟩ := KC.out _ B2.out
    generalize W1.drew = W2 at *
    go_wp2_with fail
    refine (HVT.out _ (KV.out _ B2.out)).mono ?_
    rintro e W3 ⟨rfl, hb⟩
    have B3 : Hid (Below W1.heap.size W1 W3) := B2.out.trans (hb.mono B2.out.size)
    clear hb c0 c1 c2 c3 c4 c5 c6
    obtain ⟨c0, c1, c2, c3, c4, c5, c6⟩ := KC.out _ B3.out
    go_wp2_with fail
    refine (HRT.out _ (KW.out _ B3.out)).mono ?_
    rintro e W4 ⟨rfl, hb⟩
    have B4 : Hid (Below W1.heap.size W1 W4) := B3.out.trans (hb.mono B3.out.size)
    clear hb c0 c1 c2 c3 c4 c5 c6
    obtain ⟨c0, c1, c2, c3, c4, c5, c6⟩ := KC.out _ B4.out
    go_wp2
    go_roundw
    case rel =>
     refine ⟨k + 1, by omega, ?_, by go_num, KV.out _ B4.out⟩
     refine congrArg Value.string ?_
     rw [HSN1.out, HLK.out]
     simp only [app_bytes]
     simp [wl]
    case measure => simp [intOf]; omega
   ·have HLK : Hid (LX = wl 3 ++ 32 :: (xn.data.toList ++ 32 :: (VX ++ 32 :: (xo.data.toList ++ 32 :: RX)))) := HLN.out 3 rfl
    clear HLN
    go_upto_region 5 with fail
    clear c0 c1 c2 c3 c4 c5 c6
    generalize wr.alloc (.cells #[.int .i64 3, .string xn, .int .i64 xa, .int .i64 xb, .int .i64 xc, .string xo, .slice ra RL rc] 79) = W1 at *
    have KC : Hid (∀ W, Below W1.heap.size W1 W -> W.cell? ⟨wr.heap.size, 0, none⟩ = some (.int .i64 3) /\ W.cell? ⟨wr.heap.size, 1, none⟩ = some (.string xn) /\ W.cell? ⟨wr.heap.size, 2, none⟩ = some (.int .i64 xa) /\ W.cell? ⟨wr.heap.size, 3, none⟩ = some (.int .i64 xb) /\ W.cell? ⟨wr.heap.size, 4, none⟩ = some (.int .i64 xc) /\ W.cell? ⟨wr.heap.size, 5, none⟩ = some (.string xo) /\ W.cell? ⟨wr.heap.size, 6, none⟩ = some (.slice ra RL rc)) := fun W hb => ⟨(HKX.out.below hb HKX.out.lt).cell 0, (HKX.out.below hb HKX.out.lt).cell 1, (HKX.out.below hb HKX.out.lt).cell 2, (HKX.out.below hb HKX.out.lt).cell 3, (HKX.out.below hb HKX.out.lt).cell 4, (HKX.out.below hb HKX.out.lt).cell 5, (HKX.out.below hb HKX.out.lt).cell 6⟩
    have KW : Hid (∀ W, Below W1.heap.size W1 W -> Below wr.heap.size wr W) := fun W hb => HX1.out.trans (hb.mono HX1.out.size)
    have KV : Hid (∀ W, Below W1.heap.size W1 W -> Below w.heap.size w W) := fun W hb => HBR.out.trans ((KW.out W hb).mono HBR.out.size)
    have D0 : Below W1.heap.size W1 W1 := Below.refl _ _
    obtain ⟨c0, c1, c2, c3, c4, c5, c6⟩ := KC.out _ D0
    have hkd := HKD.out.below (KV.out _ D0)
    have gk := hkd.c
    have gs : W1.cell? { block := ad.block, off := ad.off + 3 } = some (.string ⟨#[99, 108, 97, 115, 104, 101, 115]⟩) := hkd.s 3 (by decide)
    clear hkd D0
    go_big_region
    have B2 : Hid (Below W1.heap.size W1 W1.drew) := (Below.refl _ _).drew
    clear c0 c1 c2 c3 c4 c5 c6 gk gs
    obtain ⟨c0, c1, c2, c3, c4, c5, c6⟩ := KC.out _ B2.out
    generalize W1.drew = W2 at *
    go_wp2_with fail
    refine (HVT.out _ (KV.out _ B2.out)).mono ?_
    rintro e W3 ⟨rfl, hb⟩
    have B3 : Hid (Below W1.heap.size W1 W3) := B2.out.trans (hb.mono B2.out.size)
    clear hb c0 c1 c2 c3 c4 c5 c6
    obtain ⟨c0, c1, c2, c3, c4, c5, c6⟩ := KC.out _ B3.out
    go_wp2_with fail
    refine (HRT.out _ (KW.out _ B3.out)).mono ?_
    rintro e W4 ⟨rfl, hb⟩
    have B4 : Hid (Below W1.heap.size W1 W4) := B3.out.trans (hb.mono B3.out.size)
    clear hb c0 c1 c2 c3 c4 c5 c6
    obtain ⟨c0, c1, c2, c3, c4, c5, c6⟩ := KC.out _ B4.out
    go_wp2
    go_roundw
    case rel =>
     refine ⟨k + 1, by omega, ?_, by go_num, KV.out _ B4.out⟩
     refine congrArg Value.string ?_
     rw [HSN1.out, HLK.out]
     simp only [app_bytes]
     simp [wl]
    case measure => simp [intOf]; omega
   ·have HLK : Hid (LX = wl 4 ++ 32 :: (xn.data.toList ++ 32 :: RX)) := HLN.out 4 rfl
    clear HLN
    go_upto_region 5 with fail
    clear c0 c1 c2 c3 c4 c5 c6
    generalize wr.alloc (.cells #[.int .i64 4, .string xn, .int .i64 xa, .int .i64 xb, .int .i64 xc, .string xo, .slice ra RL rc] 79) = W1 at *
    have KC : Hid (∀ W, Below W1.heap.size W1 W -> W.cell? ⟨wr.heap.size, 0, none⟩ = some (.int .i64 4) /\ W.cell? ⟨wr.heap.size, 1, none⟩ = some (.string xn) /\ W.cell? ⟨wr.heap.size, 2, none⟩ = some (.int .i64 xa) /\ W.cell? ⟨wr.heap.size, 3, none⟩ = some (.int .i64 xb) /\ W.cell? ⟨wr.heap.size, 4, none⟩ = some (.int .i64 xc) /\ W.cell? ⟨wr.heap.size, 5, none⟩ = some (.string xo) /\ W.cell? ⟨wr.heap.size, 6, none⟩ = some (.slice ra RL rc)) := fun W hb => ⟨(HKX.out.below hb HKX.out.lt).cell 0, (HKX.out.below hb HKX.out.lt).cell 1, (HKX.out.below hb HKX.out.lt).cell 2, (HKX.out.below hb HKX.out.lt).cell 3, (HKX.out.below hb HKX.out.lt).cell 4, (HKX.out.below hb HKX.out.lt).cell 5, (HKX.out.below hb HKX.out.lt).cell 6⟩
    have KW : Hid (∀ W, Below W1.heap.size W1 W -> Below wr.heap.size wr W) := fun W hb => HX1.out.trans (hb.mono HX1.out.size)
    have KV : Hid (∀ W, Below W1.heap.size W1 W -> Below w.heap.size w W) := fun W hb => HBR.out.trans ((KW.out W hb).mono HBR.out.size)
    have D0 : Below W1.heap.size W1 W1 := Below.refl _ _
    obtain ⟨c0, c1, c2, c3, c4, c5, c6⟩ := KC.out _ D0
    have hkd := HKD.out.below (KV.out _ D0)
    have gk := hkd.c
    have gs : W1.cell? { block := ad.block, off := ad.off + 4 } = some (.string ⟨#[114, 111, 111, 116]⟩) := hkd.s 4 (by decide)
    clear hkd D0
    go_big_region
    have B2 : Hid (Below W1.heap.size W1 W1.drew) := (Below.refl _ _).drew
    clear c0 c1 c2 c3 c4 c5 c6 gk gs
    obtain ⟨c0, c1, c2, c3, c4, c5, c6⟩ := KC.out _ B2.out
    generalize W1.drew = W2 at *
    go_wp2_with fail
    refine (HRT.out _ (KW.out _ B2.out)).mono ?_
    rintro e W3 ⟨rfl, hb⟩
    have B3 : Hid (Below W1.heap.size W1 W3) := B2.out.trans (hb.mono B2.out.size)
    clear hb c0 c1 c2 c3 c4 c5 c6
    obtain ⟨c0, c1, c2, c3, c4, c5, c6⟩ := KC.out _ B3.out
    go_wp2
    go_roundw
    case rel =>
     refine ⟨k + 1, by omega, ?_, by go_num, KV.out _ B3.out⟩
     refine congrArg Value.string ?_
     rw [HSN1.out, HLK.out]
     simp only [app_bytes]
     simp [wl]
    case measure => simp [intOf]; omega
  ·obtain rfl : k = ls.length := by omega
   have HBR := Lib.hid hbr
   clear hbr
   rw [HTL.out]
   go_wp2
   go_ret
   exact ⟨rfl, HBR.out⟩
end
section
open Go.RowKit Go.Deep Sv
section
variable {w W : World} {b5 : Nat} {n : Int} {cv fv iv : Value} {P : List (Int × List Int)} {its : List It}
end
theorem RS.set {B b i : Nat} {W : World} {cv fv v : Value} {K : List (List Int)} {F : List Int} {cs : Array Value} (h : RS B W cv fv K F) (hb : Blk W b 97 cs) (hlt : b < B) : RS B (W.setCell ⟨b, i, none⟩ v) cv fv K F := by
 obtain ⟨c, h1, h2, h3⟩ := h.crow
 exact ⟨⟨c, row_setLow h1 hlt, h2.kp (Kp.set (Nat.zero_le _) hb (by decide)), h3⟩, row_setLow h.frow hlt⟩
theorem RS.base {B B' : Nat} {W : World} {cv fv : Value} {K : List (List Int)} {F : List Int} (h : RS B W cv fv K F) (hlt : B' <= B) : RS B' W cv fv K F := by
 obtain ⟨c, h1, h2, h3⟩ := h.crow
 exact ⟨⟨c, ownsRow_base h1 hlt, h2, h3⟩, ownsRow_base h.frow hlt⟩
end
section
open Go.RowKit Go.Deep Sv
theorem gathF_24 : ∀ (ls : List Ln) (i : Nat) (its out : List It), its.length <= 24 -> gathF ls i its = .ok out -> out.length <= 24 /\ ∀ x ∈ ls, ctCheck x = 0
 | [], i, its, out, h0, h => by cases h; exact ⟨h0, fun x hx => by cases hx⟩
 | x :: r, i, its, out, h0, h => by
  rw [gathF] at h
  split at h
  ·cases h
  ·rename_i hc
   have hc' : ctCheck x = 0 := Decidable.not_not.1 hc
   have key : ∀ its', its'.length <= 24 -> gathF r (i + 1) its' = .ok out -> out.length <= 24 /\ ∀ y ∈ x :: r, ctCheck y = 0 := fun its' h1 h2 => by
    obtain ⟨g1, g2⟩ := gathF_24 r (i + 1) its' out h1 h2
    exact ⟨g1, fun y hy => by rcases List.mem_cons.1 hy with rfl | hy; exact hc'; exact g2 y hy⟩
   split at h
   ·split at h
    ·cases h
    ·split at h
     ·cases h
     ·rename_i h8
      exact key _ (by simp; omega) h
   ·exact key _ h0 h
theorem newF_ok {ls : List Ln} {its : List It} (h : newF ls = .ok its) : its.length <= 24 /\ ls.length <= 100 /\ ∀ x ∈ ls, ctCheck x = 0 := by
 unfold newF at h
 split at h
 ·cases h
 ·split at h
  ·cases h
  ·rename_i its' hg
   split at h
   ·cases h
   ·cases h
    obtain ⟨h1, h2⟩ := gathF_24 ls 0 [] its' (by simp) hg
    refine ⟨?_, by omega, h2⟩
    unfold sortF
    rw [List.length_mergeSort]
    exact h1
theorem check_names {x : Ln} (h : ctCheck x = 0) : x.name.size <= 100000 /\ x.other.size <= 100000 := by
 unfold ctCheck at h
 split at h
 ·cases h
 ·split at h
  ·cases h
  ·rename_i h5
   split at h
   ·cases h
   ·rename_i h6
    have hn : NameOk x.name := by
     apply Classical.byContradiction
     intro hc
     exact h5 (Or.inl hc)
    refine ⟨by have := hn.len; omega, ?_⟩
    by_cases hp : x.pair
    ·have ho : NameOk x.other := by
      apply Classical.byContradiction
      intro hc
      exact h5 (Or.inr ⟨hp, hc⟩)
     have := ho.len; omega
    ·have : x.other.size = 0 := by
      apply Classical.byContradiction
      intro hc
      exact h6 ⟨hp, hc⟩
     omega
end
section
open Go.RowKit Go.Shelf Sv
theorem lnOk_of {x : Ln} (h : ctCheck x = 0) (hr : Rg x.rng) : LnOk x := by
 have hi := itOk_of h
 have hn := check_name h
 obtain ⟨h1, h2, h3, h4⟩ := hi
 simp only [Ln.it] at h1 h2 h3 h4
 have hk : 1 <= x.kind /\ x.kind <= 4 := by
  unfold ctCheck at h
  split at h
  ·cases h
  ·omega
 have ho : x.other.size <= 100000 := by
  unfold ctCheck at h
  split at h
  ·cases h
  ·split at h
   ·cases h
   ·rename_i hx
    split at h
    ·cases h
    ·rename_i hy
     by_cases hp : x.pair
     ·have : NameOk x.other := Classical.byContradiction fun e => hx (Or.inr ⟨hp, e⟩)
      have := this.len
      omega
     ·have : x.other.size = 0 := Classical.byContradiction fun e => hy ⟨hp, e⟩
      omega
 exact ⟨hk.1, hk.2, by omega, ho, by omega, by omega, by omega, hr⟩
end
section
open Go.RowKit Go.Deep
theorem same_ints (xs : List Int) (a1 a2 : Option Addr) (c1 c2 : Nat) (w : World) (h1 : IntsIn w a1 xs) (h2 : IntsIn w a2 xs) (hm : xs.length <= 9223372036854775807) :
  Calls Tryz.prog 38 #[.slice a1 xs.length c1, .slice a2 xs.length c2] w fun e w' => e = .returned (.bool true) /\ Below w.heap.size w w' := by
 have H1 := Lib.hid h1
 have H2 := Lib.hid h2
 clear h1 h2
 have enn : ((xs.length : Int) != (xs.length : Int)) = false := by simp
 go_enter Tryz.func38, Tryz.ntmps38
 go_wp2_with fail
 go_loopw [5] (fun kV wr => ∃ k : Nat, k <= xs.length /\ kV = .int .i64 (k : Int) /\ Below w.heap.size w wr) (fun kV _ => xs.length - (intOf kV).toNat)
 case atStart => exact ⟨0, Nat.zero_le _, rfl, Below.refl _ _⟩
 case round =>
  obtain ⟨k, hk, rfl, hbr⟩ := hrel
  have HBR := Lib.hid hbr
  clear hbr
  by_cases hlt : k < xs.length
  ·obtain ⟨ad1, rfl, hl1, hc1⟩ := H1.out.below HBR.out k hlt
   obtain ⟨ad2, rfl, hl2, hc2⟩ := H2.out.below HBR.out k hlt
   generalize xs.getD k 0 = x at *
   have exx : (x != x) = false := by simp
   have HBN : Hid (∀ q, Below w.heap.size w (wr.drewN q)) := fun q => HBR.out.trans ⟨rfl, rfl, rfl, Nat.le_refl _, fun _ _ => rfl⟩
   go_wp2_with fail
   go_quiet (fail)
   go_wp2
   go_roundw
   case rel => exact ⟨k + 1, hlt, by go_num, HBN.out _⟩
   case measure => simp [intOf]; omega
  ·obtain rfl : k = xs.length := by omega
   go_wp2
   go_ret
   exact ⟨rfl, HBR.out⟩
end
section
open Go.RowKit Go.Deep Sv
theorem hasB_F {l : List Span} (hl : Rg l) (x : It) : (hasB l x.a x.b x.c = true /\ hasF l x) \/ (hasB l x.a x.b x.c = false /\ ¬ hasF l x) := by
 unfold hasB hasF InV
 by_cases h : (0 <= x.a /\ x.a <= 999) /\ (0 <= x.b /\ x.b <= 999) /\ 0 <= x.c /\ x.c <= 999
 ·rw [if_pos (by simp [okP, h])]
  by_cases hm : mem l (numV x.a.toNat x.b.toNat x.c.toNat)
  ·exact Or.inl ⟨(tp_in hl).2 hm, h, hm⟩
  ·refine Or.inr ⟨?_, fun e => hm e.2⟩
   rw [Bool.eq_false_iff]
   exact fun e => hm ((tp_in hl).1 e)
 ·exact Or.inr ⟨if_neg (by simp [okP]; omega), fun e => h e.1⟩
open Classical in
noncomputable def ramP (its : List It) (name : ByteArray) (rng : List Span) (k : Nat) : List Nat := (List.range k).filter fun i => decide ((its.getD i default).name = name /\ hasF rng (its.getD i default))
theorem ramP_yes {its : List It} {name : ByteArray} {rng : List Span} {k : Nat} (h1 : (its.getD k default).name = name) (h2 : hasF rng (its.getD k default)) : ramP its name rng (k + 1) = ramP its name rng k ++ [k] := by
 unfold ramP
 rw [List.range_succ, List.filter_append]
 congr 1
 rw [List.filter_cons, if_pos (by simpa using ⟨h1, h2⟩), List.filter_nil]
theorem ramP_no {its : List It} {name : ByteArray} {rng : List Span} {k : Nat} (h : ¬ ((its.getD k default).name = name /\ hasF rng (its.getD k default))) : ramP its name rng (k + 1) = ramP its name rng k := by
 unfold ramP
 rw [List.range_succ, List.filter_append, List.filter_cons, if_neg (by simpa using h), List.filter_nil, List.append_nil]
theorem ramP_len (its : List It) (name : ByteArray) (rng : List Span) (k : Nat) : (ramP its name rng k).length <= k := by
 unfold ramP
 exact Nat.le_trans (List.length_filter_le _ _) (by simp)
theorem ramP_among {its : List It} (h : Asc its) (name : ByteArray) (rng : List Span) : ramP its name rng its.length = amongF its name rng := by
 unfold ramP amongF
 refine filter_range _ _ _ (row_end its name) fun i hi => ?_
 simp only [decide_eq_true_eq]
 rw [row_iff h name i hi]
theorem ramong_any (its : List It) (name : ByteArray) (rng : List Span) (hr : Rg rng) (iv rv : Value) (w : World) (h : ItsAt w iv its) (hl : its.length <= 100000) (hv : NsAt w rv (tp rng)) :
  Calls Tryz.prog 40 #[iv, .string name, rv] w fun e w' => ∃ v', e = .returned v' /\ w'.ownsRow w.heap.size 3 1 v' (ramP its name rng its.length).length (icells ((ramP its name rng its.length).map fun (k : Nat) => (k : Int))) /\ Below w.heap.size w w' := by
 obtain ⟨va, vc, rfl⟩ := hv.form
 obtain ⟨ia, ic, rfl, -⟩ := h.form
 obtain ⟨i0, hin, hz0, hz1, hz2⟩ := info_parts infoInt
 have HHAS : Hid (∀ W (X : It), Below w.heap.size w W -> Calls Tryz.prog 26 #[.slice va (tp rng).length vc, .agg #[.int .i64 X.a, .int .i64 X.b, .int .i64 X.c]] W fun e w' => e = .returned (.bool (hasB rng X.a X.b X.c)) /\ Below W.heap.size W w') := fun W X hW => rhas_any rng hr _ X.a X.b X.c W (hv.below hW (Nat.le_refl _))
 have HBF := Lib.hid (fun X => hasB_F hr X)
 have HI := Lib.hid h
 have HY := Lib.hid (fun k => @ramP_yes its name rng k)
 have HNO := Lib.hid (fun k => @ramP_no its name rng k)
 have HLE := Lib.hid (ramP_len its name rng)
 have HS0 : Hid (ramP its name rng 0 = []) := by show _ = _; rfl
 clear h hv hr
 generalize ramP its name rng = am at *
 generalize (tp rng).length = tl at *
 go_enter Tryz.func40, Tryz.ntmps40
 go_wp2_with fail
 go_loopw [7, 12] (fun oV iV wr => ∃ (i : Nat), i <= its.length /\ iV = .int .i64 (i : Int) /\ wr.ownsRow w.heap.size 3 1 oV (am i).length (icells ((am i).map fun (k : Nat) => (k : Int))) /\ Below w.heap.size w wr) (fun _ iV _ => its.length - (intOf iV).toNat)
 case atStart => exact ⟨0, Nat.zero_le _, rfl, by rw [HS0.out]; exact World.ownsRow_nil _ _ _ _, Below.refl _ _⟩
 case round =>
  obtain ⟨i, hih, rfl, hrow, hbw⟩ := hrel
  obtain ⟨oa, oc, rfl, -⟩ := (rowAt_own hrow).form
  have HROW := Lib.hid hrow
  have HBW := Lib.hid hbw
  have hale := HLE.out i
  by_cases hlt : i < its.length
  ·obtain ⟨g, cap', e, hg, c0, c1, c2, c3⟩ := (show ItsAt wr (.slice ia its.length ic) its from HI.out.below hbw (Nat.le_refl _)).at i hlt
   simp at e
   obtain ⟨rfl, rfl⟩ := e
   have hii0 : (0 : Int) <= (i : Int) := by omega
   have hii1 : (i : Int) < (its.length : Int) := by omega
   have hY := HY.out i
   have hN := HNO.out i
   generalize its.getD i default = X at *
   have HYI := Lib.hid hY
   have HNI := Lib.hid hN
   have HBX := HBF.out X
   have HHX := Lib.hid (fun W hW => HHAS.out W X hW)
   have hA : Below wr.heap.size wr (wr.alloc (.cells #[.string X.name, .int .i64 X.a, .int .i64 X.b, .int .i64 X.c] 69)) := (Below.refl _ _).alloc (Nat.le_refl _) _
   have HKN := Lib.hid (Blk.new wr 69 #[.string X.name, .int .i64 X.a, .int .i64 X.b, .int .i64 X.c])
   have HR3 := Lib.hid (row_new' hrow hA)
   have HB3 : Hid (Below w.heap.size w (wr.alloc (.cells #[.string X.name, .int .i64 X.a, .int .i64 X.b, .int .i64 X.c] 69))) := hbw.trans (hA.mono hbw.size)
   clear hrow hbw hA hY hN HROW HBW HY HNO HHAS HBF
   go_upto_region 5 with fail
   generalize wr.alloc (.cells #[.string X.name, .int .i64 X.a, .int .i64 X.b, .int .i64 X.c] 69) = W3 at *
   clear c0 c1 c2 c3
   have c0 := HKN.out.cell 0
   have c1 := HKN.out.cell 1
   have c2 := HKN.out.cell 2
   have c3 := HKN.out.cell 3
   by_cases hnm : X.name = name
   ·have hnb : (X.name.toList == name.toList) = true := by rw [hnm]; simp
    rcases HBX with ⟨hbt, hft⟩ | ⟨hbt, hft⟩
    ·have HA : Hid (am (i + 1) = am i ++ [i]) := HYI.out hnm hft
     have HQ : Hid (∀ W, Below w.heap.size w W -> Calls Tryz.prog 26 #[.slice va tl vc, .agg #[.int .i64 X.a, .int .i64 X.b, .int .i64 X.c]] W fun e w' => e = .returned (.bool true) /\ Below W.heap.size W w') := fun W hW => by have := HHX.out W hW; rw [hbt] at this; exact this
     clear HHX hbt hft hnm HYI HNI
     go_wp2_with fail
     refine (HQ.out _ HB3.out).mono ?_
     rintro e x1 ⟨rfl, hb1⟩
     have HROW2 := Lib.hid (row_new' HR3.out hb1)
     have HBX : Hid (Below w.heap.size w x1) := HB3.out.trans (hb1.mono HB3.out.size)
     have hxs := HBX.out.size
     clear hb1 HR3 HB3 HQ c0 c1 c2 c3
     go_wp2_with (at_builtin; refine wpList_append_own_at _ rfl _ _ 22 rfl w.heap.size 3 i0 (.int .i64 0) 1 8 Tryz.underlying22 hin hz0 hz1 hz2 rfl (by decide) _ _ _ rfl (HROW2.out.alloc _) ⟨x1.heap.size, 0, none⟩ 1 1 [.int .i64 (i : Int)] rfl rfl ?c1 ?c2 ?c3 ?c4 ?c5 ?_)
     case c1 => exact cell_lit _ _ _
     case c2 => exact one_lit _
     case c3 => unfold maxLen; omega
     case c4 => omega
     case c5 => simp; omega
     intro v7 w7 hown7 hgrow7 _ hloc7
     have HR7 : Hid (w7.ownsRow w.heap.size 3 1 v7 (am (i + 1)).length (icells ((am (i + 1)).map fun (k : Nat) => (k : Int)))) := by
      show World.ownsRow _ _ _ _ _ _ _
      rw [HA.out, List.map_append, List.map_cons, List.map_nil, icells_snoc, List.length_append]
      exact hown7
     have HB7 : Hid (Below w.heap.size w w7) := (HBX.out.alloc HBX.out.size _).grown hgrow7 (by simp; omega) (fun k hk => (HROW2.out.lt k hk).1)
     clear hown7 hgrow7 hloc7 HROW2 HBX
     go_wp2
     go_roundw
     case rel => exact ⟨i + 1, by omega, by go_num, HR7.out, HB7.out⟩
     case measure => simp [intOf]; omega
    ·have HA : Hid (am (i + 1) = am i) := HNI.out fun e => hft e.2
     have HQ : Hid (∀ W, Below w.heap.size w W -> Calls Tryz.prog 26 #[.slice va tl vc, .agg #[.int .i64 X.a, .int .i64 X.b, .int .i64 X.c]] W fun e w' => e = .returned (.bool false) /\ Below W.heap.size W w') := fun W hW => by have := HHX.out W hW; rw [hbt] at this; exact this
     clear HHX hbt hft hnm HYI HNI
     go_wp2_with fail
     refine (HQ.out _ HB3.out).mono ?_
     rintro e x1 ⟨rfl, hb1⟩
     have HR7 : Hid (x1.ownsRow w.heap.size 3 1 (.slice oa (am i).length oc) (am (i + 1)).length (icells ((am (i + 1)).map fun (k : Nat) => (k : Int)))) := by
      show World.ownsRow _ _ _ _ _ _ _
      rw [HA.out]; exact row_new' HR3.out hb1
     have HBX : Hid (Below w.heap.size w x1) := HB3.out.trans (hb1.mono HB3.out.size)
     clear hb1 HR3 HB3 HQ c0 c1 c2 c3
     go_wp2
     go_roundw
     case rel => exact ⟨i + 1, by omega, by go_num, HR7.out, HBX.out⟩
     case measure => simp [intOf]; omega
   ·have hnb : (X.name.toList == name.toList) = false := by rw [beq_eq_false_iff_ne]; exact fun e => hnm (bytes_eq e)
    have HA : Hid (am (i + 1) = am i) := HNI.out fun e => hnm e.1
    have HR7 : Hid (W3.ownsRow w.heap.size 3 1 (.slice oa (am i).length oc) (am (i + 1)).length (icells ((am (i + 1)).map fun (k : Nat) => (k : Int)))) := by
     show World.ownsRow _ _ _ _ _ _ _
     rw [HA.out]; exact HR3.out
    clear HHX HBX hnm HYI HNI HR3
    go_wp2
    go_roundw
    case rel => exact ⟨i + 1, by omega, by go_num, HR7.out, HB3.out⟩
    case measure => simp [intOf]; omega
  ·have hni : ¬ (i : Int) < (its.length : Int) := by omega
   obtain rfl : i = its.length := by omega
   clear hrow hbw HHAS HBF HY HNO
   go_wp2
   go_ret
   exact ⟨_, rfl, HROW.out, HBW.out⟩
end
end Go.Proofs.YtmhophccdfmngaaGreatDoor
