/- CatalogParses: the law's walk. -/
import Derived.Test.YtmhophccdfmngaaGreatDoorCtLines
import Derived.Test.YtmhophccdfmngaaGreatDoorSvParsL
import Derived.Test.YtmhophccdfmngaaGreatDoorCtTextC
import Derived.Test.YtmhophccdfmngaaGreatDoorRlParse
set_option maxHeartbeats 4000000
set_option maxRecDepth 100000
namespace Go.Proofs.YtmhophccdfmngaaGreatDoor
open Go.RowKit Go.Shelf Sv
theorem lnT_at (x : Ln) (K : Int) (hk : x.kind = K) : lnT x = if K = 1 then wl 1 ++ 32 :: (x.name.data.toList ++ 32 :: wtx x.a x.b x.c)
 else if K = 2 then wl 2 ++ 32 :: (x.name.data.toList ++ 32 :: (wtx x.a x.b x.c ++ 32 :: (x.other.data.toList ++ 32 :: rgT x.rng)))
 else if K = 3 then wl 3 ++ 32 :: (x.name.data.toList ++ 32 :: (wtx x.a x.b x.c ++ 32 :: (x.other.data.toList ++ 32 :: rgT x.rng)))
 else wl 4 ++ 32 :: (x.name.data.toList ++ 32 :: rgT x.rng) := by subst hk; rfl
theorem rct_any (ls : List Ln) (v : Value) (w : World) (h : RLs w v ls) (hl : ls.length <= 100) (hx : ∀ i, i < ls.length -> LnOk (ls.getD i default)) (hw : Lb w) (ad : Addr) (cap : Nat) (hK : KindsAt w ad cap) :
  Calls Tryz.prog 36 #[v] w fun e w' => e = .returned (.string ⟨(ctT ls).toArray⟩) /\ Below w.heap.size w w' := by
 obtain ⟨la, lc, rfl⟩ : ∃ la lc, v = .slice la ls.length lc := by obtain ⟨vs, _, h2⟩ := h; obtain ⟨a, c, e, _⟩ := h2.form; exact ⟨a, c, e⟩
 have HL := Lib.hid h
 have HX := Lib.hid hx
 have HW := Lib.hid hw
 have HKD := Lib.hid hK
 have HSN := Lib.hid (ctT_snoc ls)
 have HCL := Lib.hid (ctT_len hx)
 have HTL : Hid (ctT (ls.take ls.length) = ctT ls) := by show _ = _; rw [List.take_length]
 clear h hx hw hK
 go_enter Tryz.func36, Tryz.ntmps36
 go_wp2_with fail
 go_loopw [3, 8] (fun sV kV wz => ∃ k : Nat, k <= ls.length /\ sV = .string ⟨(ctT (ls.take k)).toArray⟩ /\ kV = .int .i64 (k : Int) /\ Below w.heap.size w wz) (fun _ kV _ => ls.length - (intOf kV).toNat)
 case atStart => exact ⟨0, Nat.zero_le _, rfl, rfl, Below.refl _ _⟩
 case round =>
  obtain ⟨k, hk, rfl, rfl, hbr⟩ := hrel
  by_cases hlt : k < ls.length
  ·obtain ⟨g, cap', ra, rc, e, hg, hsp, hrg, c0, c1, c2, c3, c4, c5, c6⟩ := (HL.out.below hbr (Nat.le_refl _)).at k hlt
   simp at e
   obtain ⟨rfl, rfl⟩ := e
   have hsn := HSN.out k hlt
   have hln := HCL.out k
   have hok := HX.out k hlt
   have hk1 := hok.k1
   have hk4 := hok.k4
   have lVX := wtx_len _ _ _ hok.a hok.b hok.c
   have lRX := rgT_len hok.rg
   have hnm := hok.nm
   have hot := hok.ot
   have HVT : Hid (∀ W, Below w.heap.size w W -> Calls Tryz.prog 92 #[.agg #[.int .i64 (ls.getD k default).a, .int .i64 (ls.getD k default).b, .int .i64 (ls.getD k default).c]] W fun e w' => e = .returned (.string ⟨(wtx (ls.getD k default).a (ls.getD k default).b (ls.getD k default).c).toArray⟩) /\ Below W.heap.size W w') := fun W hb => rtext_any joinC replC _ _ _ hok.a hok.b hok.c W (HW.out.below hb)
   have HRT : Hid (∀ W, Below wr.heap.size wr W -> Calls Tryz.prog 17 #[.slice ra (tp (ls.getD k default).rng).length rc] W fun e w' => e = .returned (.string ⟨(rgT (ls.getD k default).rng).toArray⟩) /\ Below W.heap.size W w') := fun W hb => rgtext_any _ hrg _ W (HW.out.below (hbr.trans (hb.mono hbr.size))) (hsp.below hb (Nat.le_refl _))
   have HBR := Lib.hid hbr
   clear hok hrg hsp hbr
   generalize ls.getD k default = x at *
   have HLN := Lib.hid (lnT_at x)
   have HSN1 := Lib.hid hsn
   clear hsn
   obtain ⟨xk, xn, xa, xb, xc, xo, xr⟩ := x
   simp only at *
   obtain ⟨VX, hVX⟩ : ∃ VX, wtx xa xb xc = VX := ⟨_, rfl⟩
   obtain ⟨RX, hRX⟩ : ∃ RX, rgT xr = RX := ⟨_, rfl⟩
   obtain ⟨AX, hAX⟩ : ∃ AX, ctT (ls.take k) = AX := ⟨_, rfl⟩
   obtain ⟨LX, hLX⟩ : ∃ LX, lnT ⟨xk, xn, xa, xb, xc, xo, xr⟩ = LX := ⟨_, rfl⟩
   rw [hVX] at HVT lVX HLN
   rw [hRX] at HRT lRX HLN
   rw [hAX] at HSN1 hln ⊢
   rw [hLX] at HSN1 HLN
   clear hVX hRX hAX hLX
   generalize (tp xr).length = RL at *
   have hln' : AX.length <= 100000000000000 := by omega
   clear hln
   have kx := Blk.new wr 79 #[.int .i64 xk, .string xn, .int .i64 xa, .int .i64 xb, .int .i64 xc, .string xo, .slice ra RL rc]
   have hbx : Below wr.heap.size wr (wr.alloc (.cells #[.int .i64 xk, .string xn, .int .i64 xa, .int .i64 xb, .int .i64 xc, .string xo, .slice ra RL rc] 79)) := (Below.refl _ _).alloc (Nat.le_refl _) _
   have HX1 := Lib.hid hbx
   have HKX := Lib.hid kx
   clear kx hbx
   have h4 : xk = 1 \/ xk = 2 \/ xk = 3 \/ xk = 4 := by omega
   clear hk1 hk4
   rcases h4 with rfl | rfl | rfl | rfl
   ·have HLK : Hid (LX = wl 1 ++ 32 :: (xn.data.toList ++ 32 :: VX)) := HLN.out 1 rfl
    clear HLN
    go_upto_region 5 with fail
    clear c0 c1 c2 c3 c4 c5 c6
    generalize wr.alloc (.cells #[.int .i64 1, .string xn, .int .i64 xa, .int .i64 xb, .int .i64 xc, .string xo, .slice ra RL rc] 79) = W1 at *
    have KC : Hid (∀ W, Below W1.heap.size W1 W -> W.cell? ⟨wr.heap.size, 0, none⟩ = some (.int .i64 1) /\ W.cell? ⟨wr.heap.size, 1, none⟩ = some (.string xn) /\ W.cell? ⟨wr.heap.size, 2, none⟩ = some (.int .i64 xa) /\ W.cell? ⟨wr.heap.size, 3, none⟩ = some (.int .i64 xb) /\ W.cell? ⟨wr.heap.size, 4, none⟩ = some (.int .i64 xc) /\ W.cell? ⟨wr.heap.size, 5, none⟩ = some (.string xo) /\ W.cell? ⟨wr.heap.size, 6, none⟩ = some (.slice ra RL rc)) := fun W hb => ⟨(HKX.out.below hb HKX.out.lt).cell 0, (HKX.out.below hb HKX.out.lt).cell 1, (HKX.out.below hb HKX.out.lt).cell 2, (HKX.out.below hb HKX.out.lt).cell 3, (HKX.out.below hb HKX.out.lt).cell 4, (HKX.out.below hb HKX.out.lt).cell 5, (HKX.out.below hb HKX.out.lt).cell 6⟩
    have KW : Hid (∀ W, Below W1.heap.size W1 W -> Below wr.heap.size wr W) := fun W hb => HX1.out.trans (hb.mono HX1.out.size)
    have KV : Hid (∀ W, Below W1.heap.size W1 W -> Below w.heap.size w W) := fun W hb => HBR.out.trans ((KW.out W hb).mono HBR.out.size)
    have D0 : Below W1.heap.size W1 W1 := Below.refl _ _
    obtain ⟨c0, c1, c2, c3, c4, c5, c6⟩ := KC.out _ D0
    have hkd := HKD.out.below (KV.out _ D0)
    have gk := hkd.c
    have gs : W1.cell? { block := ad.block, off := ad.off + 1 } = some (.string ⟨#[112, 97, 99, 107, 97, 103, 101]⟩) := hkd.s 1 (by decide)
    clear hkd D0
    go_big_region
    have B2 : Hid (Below W1.heap.size W1 W1.drew) := (Below.refl _ _).drew
    clear c0 c1 c2 c3 c4 c5 c6 gk gs
    obtain ⟨c0, c1, c2, c3, c4, c5, c6⟩ := KC.out _ B2.out
    generalize W1.drew = W2 at *
    go_wp2_with fail
    refine (HVT.out _ (KV.out _ B2.out)).mono ?_
    rintro e W3 ⟨rfl, hb⟩
    have B3 : Hid (Below W1.heap.size W1 W3) := B2.out.trans (hb.mono B2.out.size)
    clear hb c0 c1 c2 c3 c4 c5 c6
    obtain ⟨c0, c1, c2, c3, c4, c5, c6⟩ := KC.out _ B3.out
    go_wp2
    go_roundw
    case rel =>
     refine ⟨k + 1, by omega, ?_, by go_num, KV.out _ B3.out⟩
     refine congrArg Value.string ?_
     rw [HSN1.out, HLK.out]
     simp only [app_bytes]
     simp [wl]
    case measure => simp [intOf]; omega
   ·have HLK : Hid (LX = wl 2 ++ 32 :: (xn.data.toList ++ 32 :: (VX ++ 32 :: (xo.data.toList ++ 32 :: RX)))) := HLN.out 2 rfl
    clear HLN
    go_upto_region 5 with fail
    clear c0 c1 c2 c3 c4 c5 c6
    generalize wr.alloc (.cells #[.int .i64 2, .string xn, .int .i64 xa, .int .i64 xb, .int .i64 xc, .string xo, .slice ra RL rc] 79) = W1 at *
    have KC : Hid (∀ W, Below W1.heap.size W1 W -> W.cell? ⟨wr.heap.size, 0, none⟩ = some (.int .i64 2) /\ W.cell? ⟨wr.heap.size, 1, none⟩ = some (.string xn) /\ W.cell? ⟨wr.heap.size, 2, none⟩ = some (.int .i64 xa) /\ W.cell? ⟨wr.heap.size, 3, none⟩ = some (.int .i64 xb) /\ W.cell? ⟨wr.heap.size, 4, none⟩ = some (.int .i64 xc) /\ W.cell? ⟨wr.heap.size, 5, none⟩ = some (.string xo) /\ W.cell? ⟨wr.heap.size, 6, none⟩ = some (.slice ra RL rc)) := fun W hb => ⟨(HKX.out.below hb HKX.out.lt).cell 0, (HKX.out.below hb HKX.out.lt).cell 1, (HKX.out.below hb HKX.out.lt).cell 2, (HKX.out.below hb HKX.out.lt).cell 3, (HKX.out.below hb HKX.out.lt).cell 4, (HKX.out.below hb HKX.out.lt).cell 5, (HKX.out.below hb HKX.out.lt).cell 6⟩
    have KW : Hid (∀ W, Below W1.heap.size W1 W -> Below wr.heap.size wr W) := fun W hb => HX1.out.trans (hb.mono HX1.out.size)
    have KV : Hid (∀ W, Below W1.heap.size W1 W -> Below w.heap.size w W) := fun W hb => HBR.out.trans ((KW.out W hb).mono HBR.out.size)
    have D0 : Below W1.heap.size W1 W1 := Below.refl _ _
    obtain ⟨c0, c1, c2, c3, c4, c5, c6⟩ := KC.out _ D0
    have hkd := HKD.out.below (KV.out _ D0)
    have gk := hkd.c
    have gs : W1.cell? { block := ad.block, off := ad.off + 2 } = some (.string ⟨#[110, 101, 101, 100, 115]⟩) := hkd.s 2 (by decide)
    clear hkd D0
    go_big_region
    have B2 : Hid (Below W1.heap.size W1 W1.drew) := (Below.refl _ _).drew
    clear c0 c1 c2 c3 c4 c5 c6 gk gs
    obtain ⟨c0, c1, c2, c3, c4, c5, c6⟩ := KC.out _ B2.out
    generalize W1.drew = W2 at *
    go_wp2_with fail
    refine (HVT.out _ (KV.out _ B2.out)).mono ?_
    rintro e W3 ⟨rfl, hb⟩
    have B3 : Hid (Below W1.heap.size W1 W3) := B2.out.trans (hb.mono B2.out.size)
    clear hb c0 c1 c2 c3 c4 c5 c6
    obtain ⟨c0, c1, c2, c3, c4, c5, c6⟩ := KC.out _ B3.out
    go_wp2_with fail
    refine (HRT.out _ (KW.out _ B3.out)).mono ?_
    rintro e W4 ⟨rfl, hb⟩
    have B4 : Hid (Below W1.heap.size W1 W4) := B3.out.trans (hb.mono B3.out.size)
    clear hb c0 c1 c2 c3 c4 c5 c6
    obtain ⟨c0, c1, c2, c3, c4, c5, c6⟩ := KC.out _ B4.out
    go_wp2
    go_roundw
    case rel =>
     refine ⟨k + 1, by omega, ?_, by go_num, KV.out _ B4.out⟩
     refine congrArg Value.string ?_
     rw [HSN1.out, HLK.out]
     simp only [app_bytes]
     simp [wl]
    case measure => simp [intOf]; omega
   ·have HLK : Hid (LX = wl 3 ++ 32 :: (xn.data.toList ++ 32 :: (VX ++ 32 :: (xo.data.toList ++ 32 :: RX)))) := HLN.out 3 rfl
    clear HLN
    go_upto_region 5 with fail
    clear c0 c1 c2 c3 c4 c5 c6
    generalize wr.alloc (.cells #[.int .i64 3, .string xn, .int .i64 xa, .int .i64 xb, .int .i64 xc, .string xo, .slice ra RL rc] 79) = W1 at *
    have KC : Hid (∀ W, Below W1.heap.size W1 W -> W.cell? ⟨wr.heap.size, 0, none⟩ = some (.int .i64 3) /\ W.cell? ⟨wr.heap.size, 1, none⟩ = some (.string xn) /\ W.cell? ⟨wr.heap.size, 2, none⟩ = some (.int .i64 xa) /\ W.cell? ⟨wr.heap.size, 3, none⟩ = some (.int .i64 xb) /\ W.cell? ⟨wr.heap.size, 4, none⟩ = some (.int .i64 xc) /\ W.cell? ⟨wr.heap.size, 5, none⟩ = some (.string xo) /\ W.cell? ⟨wr.heap.size, 6, none⟩ = some (.slice ra RL rc)) := fun W hb => ⟨(HKX.out.below hb HKX.out.lt).cell 0, (HKX.out.below hb HKX.out.lt).cell 1, (HKX.out.below hb HKX.out.lt).cell 2, (HKX.out.below hb HKX.out.lt).cell 3, (HKX.out.below hb HKX.out.lt).cell 4, (HKX.out.below hb HKX.out.lt).cell 5, (HKX.out.below hb HKX.out.lt).cell 6⟩
    have KW : Hid (∀ W, Below W1.heap.size W1 W -> Below wr.heap.size wr W) := fun W hb => HX1.out.trans (hb.mono HX1.out.size)
    have KV : Hid (∀ W, Below W1.heap.size W1 W -> Below w.heap.size w W) := fun W hb => HBR.out.trans ((KW.out W hb).mono HBR.out.size)
    have D0 : Below W1.heap.size W1 W1 := Below.refl _ _
    obtain ⟨c0, c1, c2, c3, c4, c5, c6⟩ := KC.out _ D0
    have hkd := HKD.out.below (KV.out _ D0)
    have gk := hkd.c
    have gs : W1.cell? { block := ad.block, off := ad.off + 3 } = some (.string ⟨#[99, 108, 97, 115, 104, 101, 115]⟩) := hkd.s 3 (by decide)
    clear hkd D0
    go_big_region
    have B2 : Hid (Below W1.heap.size W1 W1.drew) := (Below.refl _ _).drew
    clear c0 c1 c2 c3 c4 c5 c6 gk gs
    obtain ⟨c0, c1, c2, c3, c4, c5, c6⟩ := KC.out _ B2.out
    generalize W1.drew = W2 at *
    go_wp2_with fail
    refine (HVT.out _ (KV.out _ B2.out)).mono ?_
    rintro e W3 ⟨rfl, hb⟩
    have B3 : Hid (Below W1.heap.size W1 W3) := B2.out.trans (hb.mono B2.out.size)
    clear hb c0 c1 c2 c3 c4 c5 c6
    obtain ⟨c0, c1, c2, c3, c4, c5, c6⟩ := KC.out _ B3.out
    go_wp2_with fail
    refine (HRT.out _ (KW.out _ B3.out)).mono ?_
    rintro e W4 ⟨rfl, hb⟩
    have B4 : Hid (Below W1.heap.size W1 W4) := B3.out.trans (hb.mono B3.out.size)
    clear hb c0 c1 c2 c3 c4 c5 c6
    obtain ⟨c0, c1, c2, c3, c4, c5, c6⟩ := KC.out _ B4.out
    go_wp2
    go_roundw
    case rel =>
     refine ⟨k + 1, by omega, ?_, by go_num, KV.out _ B4.out⟩
     refine congrArg Value.string ?_
     rw [HSN1.out, HLK.out]
     simp only [app_bytes]
     simp [wl]
    case measure => simp [intOf]; omega
   ·have HLK : Hid (LX = wl 4 ++ 32 :: (xn.data.toList ++ 32 :: RX)) := HLN.out 4 rfl
    clear HLN
    go_upto_region 5 with fail
    clear c0 c1 c2 c3 c4 c5 c6
    generalize wr.alloc (.cells #[.int .i64 4, .string xn, .int .i64 xa, .int .i64 xb, .int .i64 xc, .string xo, .slice ra RL rc] 79) = W1 at *
    have KC : Hid (∀ W, Below W1.heap.size W1 W -> W.cell? ⟨wr.heap.size, 0, none⟩ = some (.int .i64 4) /\ W.cell? ⟨wr.heap.size, 1, none⟩ = some (.string xn) /\ W.cell? ⟨wr.heap.size, 2, none⟩ = some (.int .i64 xa) /\ W.cell? ⟨wr.heap.size, 3, none⟩ = some (.int .i64 xb) /\ W.cell? ⟨wr.heap.size, 4, none⟩ = some (.int .i64 xc) /\ W.cell? ⟨wr.heap.size, 5, none⟩ = some (.string xo) /\ W.cell? ⟨wr.heap.size, 6, none⟩ = some (.slice ra RL rc)) := fun W hb => ⟨(HKX.out.below hb HKX.out.lt).cell 0, (HKX.out.below hb HKX.out.lt).cell 1, (HKX.out.below hb HKX.out.lt).cell 2, (HKX.out.below hb HKX.out.lt).cell 3, (HKX.out.below hb HKX.out.lt).cell 4, (HKX.out.below hb HKX.out.lt).cell 5, (HKX.out.below hb HKX.out.lt).cell 6⟩
    have KW : Hid (∀ W, Below W1.heap.size W1 W -> Below wr.heap.size wr W) := fun W hb => HX1.out.trans (hb.mono HX1.out.size)
    have KV : Hid (∀ W, Below W1.heap.size W1 W -> Below w.heap.size w W) := fun W hb => HBR.out.trans ((KW.out W hb).mono HBR.out.size)
    have D0 : Below W1.heap.size W1 W1 := Below.refl _ _
    obtain ⟨c0, c1, c2, c3, c4, c5, c6⟩ := KC.out _ D0
    have hkd := HKD.out.below (KV.out _ D0)
    have gk := hkd.c
    have gs : W1.cell? { block := ad.block, off := ad.off + 4 } = some (.string ⟨#[114, 111, 111, 116]⟩) := hkd.s 4 (by decide)
    clear hkd D0
    go_big_region
    have B2 : Hid (Below W1.heap.size W1 W1.drew) := (Below.refl _ _).drew
    clear c0 c1 c2 c3 c4 c5 c6 gk gs
    obtain ⟨c0, c1, c2, c3, c4, c5, c6⟩ := KC.out _ B2.out
    generalize W1.drew = W2 at *
    go_wp2_with fail
    refine (HRT.out _ (KW.out _ B2.out)).mono ?_
    rintro e W3 ⟨rfl, hb⟩
    have B3 : Hid (Below W1.heap.size W1 W3) := B2.out.trans (hb.mono B2.out.size)
    clear hb c0 c1 c2 c3 c4 c5 c6
    obtain ⟨c0, c1, c2, c3, c4, c5, c6⟩ := KC.out _ B3.out
    go_wp2
    go_roundw
    case rel =>
     refine ⟨k + 1, by omega, ?_, by go_num, KV.out _ B3.out⟩
     refine congrArg Value.string ?_
     rw [HSN1.out, HLK.out]
     simp only [app_bytes]
     simp [wl]
    case measure => simp [intOf]; omega
  ·obtain rfl : k = ls.length := by omega
   have HBR := Lib.hid hbr
   clear hbr
   rw [HTL.out]
   go_wp2
   go_ret
   exact ⟨rfl, HBR.out⟩
end Go.Proofs.YtmhophccdfmngaaGreatDoor
namespace Go.Proofs.YtmhophccdfmngaaGreatDoor
open Go.RowKit Go.Deep Sv
section
variable {w W : World} {b5 : Nat} {n : Int} {cv fv iv : Value} {P : List (Int × List Int)} {its : List It}
end
theorem RS.set {B b i : Nat} {W : World} {cv fv v : Value} {K : List (List Int)} {F : List Int} {cs : Array Value} (h : RS B W cv fv K F) (hb : Blk W b 97 cs) (hlt : b < B) : RS B (W.setCell ⟨b, i, none⟩ v) cv fv K F := by
 obtain ⟨c, h1, h2, h3⟩ := h.crow
 exact ⟨⟨c, row_setLow h1 hlt, h2.kp (Kp.set (Nat.zero_le _) hb (by decide)), h3⟩, row_setLow h.frow hlt⟩
theorem RS.base {B B' : Nat} {W : World} {cv fv : Value} {K : List (List Int)} {F : List Int} (h : RS B W cv fv K F) (hlt : B' <= B) : RS B' W cv fv K F := by
 obtain ⟨c, h1, h2, h3⟩ := h.crow
 exact ⟨⟨c, ownsRow_base h1 hlt, h2, h3⟩, ownsRow_base h.frow hlt⟩
end Go.Proofs.YtmhophccdfmngaaGreatDoor
namespace Go.Proofs.YtmhophccdfmngaaGreatDoor
open Go.RowKit Go.Deep Sv
theorem gathF_24 : ∀ (ls : List Ln) (i : Nat) (its out : List It), its.length <= 24 -> gathF ls i its = .ok out -> out.length <= 24 /\ ∀ x ∈ ls, ctCheck x = 0
 | [], i, its, out, h0, h => by cases h; exact ⟨h0, fun x hx => by cases hx⟩
 | x :: r, i, its, out, h0, h => by
  rw [gathF] at h
  split at h
  ·cases h
  ·rename_i hc
   have hc' : ctCheck x = 0 := Decidable.not_not.1 hc
   have key : ∀ its', its'.length <= 24 -> gathF r (i + 1) its' = .ok out -> out.length <= 24 /\ ∀ y ∈ x :: r, ctCheck y = 0 := fun its' h1 h2 => by
    obtain ⟨g1, g2⟩ := gathF_24 r (i + 1) its' out h1 h2
    exact ⟨g1, fun y hy => by rcases List.mem_cons.1 hy with rfl | hy; exact hc'; exact g2 y hy⟩
   split at h
   ·split at h
    ·cases h
    ·split at h
     ·cases h
     ·rename_i h8
      exact key _ (by simp; omega) h
   ·exact key _ h0 h
theorem newF_ok {ls : List Ln} {its : List It} (h : newF ls = .ok its) : its.length <= 24 /\ ls.length <= 100 /\ ∀ x ∈ ls, ctCheck x = 0 := by
 unfold newF at h
 split at h
 ·cases h
 ·split at h
  ·cases h
  ·rename_i its' hg
   split at h
   ·cases h
   ·cases h
    obtain ⟨h1, h2⟩ := gathF_24 ls 0 [] its' (by simp) hg
    refine ⟨?_, by omega, h2⟩
    unfold sortF
    rw [List.length_mergeSort]
    exact h1
theorem parseF_ok {s : ByteArray} {ls : List Ln} {its : List It} (h : parseF s = .ok (ls, its)) : newF ls = .ok its := by
 unfold parseF at h
 split at h
 ·cases h
 ·split at h
  ·cases h
  ·split at h
   ·cases h
   ·cases h
   ·rename_i hn
    cases h
    exact hn
end Go.Proofs.YtmhophccdfmngaaGreatDoor
namespace Go.Proofs.YtmhophccdfmngaaGreatDoor
open Go.RowKit Go.Shelf Sv
theorem plF_err : ∀ (l : List (Nat × ByteArray)) (acc : List (Nat × Ln)) (q : Int) (i : Nat), plF l acc = .error (q, i) -> q ≠ 0 := by
 intro l
 induction l with
 | nil => intro acc q i h; cases h
 | cons x r ih =>
  intro acc q i h
  unfold plF at h
  split at h
  ·rename_i e he
   obtain ⟨e1, e2⟩ := e
   cases h
   exact lineF_err he
  ·exact ih _ _ _ h
theorem parseF_err {s : ByteArray} {q : Int} {o : Option Nat} (h : parseF s = .error (q, o)) : q ≠ 0 := by
 unfold parseF at h
 split at h
 ·cases h; decide
 ·split at h
  ·rename_i e he
   obtain ⟨e1, e2⟩ := e
   cases h
   exact plF_err _ _ _ _ he
  ·split at h
   ·rename_i he; cases h; exact newF_err he
   ·rename_i he; cases h; exact newF_err he
   ·cases h
theorem lnOk_of {x : Ln} (h : ctCheck x = 0) (hr : Rg x.rng) : LnOk x := by
 have hi := itOk_of h
 have hn := check_name h
 obtain ⟨h1, h2, h3, h4⟩ := hi
 simp only [Ln.it] at h1 h2 h3 h4
 have hk : 1 <= x.kind /\ x.kind <= 4 := by
  unfold ctCheck at h
  split at h
  ·cases h
  ·omega
 have ho : x.other.size <= 100000 := by
  unfold ctCheck at h
  split at h
  ·cases h
  ·split at h
   ·cases h
   ·rename_i hx
    split at h
    ·cases h
    ·rename_i hy
     by_cases hp : x.pair
     ·have : NameOk x.other := Classical.byContradiction fun e => hx (Or.inr ⟨hp, e⟩)
      have := this.len
      omega
     ·have : x.other.size = 0 := Classical.byContradiction fun e => hy ⟨hp, e⟩
      omega
 exact ⟨hk.1, hk.2, by omega, ho, by omega, by omega, by omega, hr⟩
theorem lnOk_all {s : ByteArray} {ls : List Ln} {its : List It} (h : parseF s = .ok (ls, its)) (hr : ∀ i, i < ls.length -> Rg (ls.getD i default).rng) : ls.length <= 100 /\ ∀ i, i < ls.length -> LnOk (ls.getD i default) := by
 obtain ⟨-, h2, h3⟩ := newF_ok (parseF_ok h)
 refine ⟨h2, fun i hi => lnOk_of (h3 _ ?_) (hr i hi)⟩
 rw [List.getD_eq_getElem?_getD, List.getElem?_eq_getElem hi]
 exact List.getElem_mem hi
theorem cparses_skip (s : ByteArray) (w : World) (h : (3000 < s.size /\ s.size <= 20000) \/ 30000 < s.size) : Calls Tryz.prog 7 #[.string s] w fun r w' => r = .returned (.bool true) /\ Below w.heap.size w w' := by
 rcases h with ⟨h1, h2⟩ | h
 ·have a1 : (3000 : Int) < (s.size : Int) := by omega
  have a2 : (s.size : Int) <= 20000 := by omega
  clear h1 h2
  go_enter Tryz.func7, Tryz.ntmps7
  go_wp2
  go_ret
  exact ⟨rfl, Below.refl _ _⟩
 ·have a1 : (3000 : Int) < (s.size : Int) := by omega
  have a2 : ¬ (s.size : Int) <= 20000 := by omega
  have a3 : (30000 : Int) < (s.size : Int) := by omega
  clear h
  go_enter Tryz.func7, Tryz.ntmps7
  go_wp2
  go_ret
  exact ⟨rfl, Below.refl _ _⟩
theorem cparses_err (s : ByteArray) (w : World) (hw : Lw w) (hF : FineR w) (ad : Addr) (cap : Nat) (hK : KindsAt w ad cap) (h : ¬ ((3000 < s.size /\ s.size <= 20000) \/ 30000 < s.size)) (q : Int) (o : Option Nat) (hx : parseF s = .error (q, o)) : Calls Tryz.prog 7 #[.string s] w fun r w' => r = .returned (.bool true) /\ Below w.heap.size w w' := by
 have hq := parseF_err hx
 have HQ0 := rcatp_any s w hw.lb hF ad cap hK
 have HP0 : ∀ W, Below w.heap.size w W -> Calls Tryz.prog 43 #[.string s] W (ParRes W (parseF s)) := fun W hb => parse_any_c s W (hw.below hb)
 rw [hx] at HQ0 HP0
 have HQ := Lib.hid HQ0
 have HP := Lib.hid HP0
 have HAT := Lib.hid (fun (er : Value) (W : World) (hb : Below w.heap.size w W) (he : ErrIs W er q (placeO o)) => at_any q q (placeO o) (placeO o) er W (hw.below hb).lb.glob he)
 have hq1 : (q == 0) = false := by rw [beq_eq_false_iff_ne]; exact hq
 have HQZ := Lib.hid hq
 have a3 : ¬ (30000 : Int) < (s.size : Int) := by omega
 have a12 : (¬ (3000 : Int) < (s.size : Int)) \/ ((3000 : Int) < (s.size : Int) /\ ¬ (s.size : Int) <= 20000) := by omega
 clear HQ0 HP0 hw hF hK h hx hq
 generalize hPO : placeO o = PO at *
 have HPO := Lib.hid hPO
 clear hPO
 rcases a12 with a1 | ⟨a1, a2⟩
 ·go_enter Tryz.func7, Tryz.ntmps7
  go_wp2_with fail
  refine HQ.out.mono ?_
  rintro e w1 ⟨v, k, p, rfl, hb1, hv, hk, hp⟩
  rw [hv, hk, hp, HPO.out]
  clear hv hk hp
  have hA : Below w1.heap.size w1 (w1.alloc (.cells #[.int .i64 q, .int .i64 PO] 26)) := (Below.refl _ _).alloc (Nat.le_refl _) _
  have kf := Blk.new w1 26 #[.int .i64 q, .int .i64 PO]
  have HB1 : Hid (Below w.heap.size w (w1.alloc (.cells #[.int .i64 q, .int .i64 PO] 26))) := hb1.trans (hA.mono hb1.size)
  clear hA hb1 HQ
  go_wp2_with fail
  generalize w1.alloc (.cells #[.int .i64 q, .int .i64 PO] 26) = W1 at *
  generalize w1.heap.size = bf at *
  refine (HP.out _ HB1.out).mono ?_
  rintro e w2 ⟨er, rfl, he, hb2⟩
  have kf2 := kf.below hb2 kf.lt
  have c0 : w2.cell? ⟨bf, 0, none⟩ = some (.int .i64 q) := kf2.cell 0
  have c1 : w2.cell? ⟨bf, 1, none⟩ = some (.int .i64 PO) := kf2.cell 1
  have HB2 : Hid (Below w.heap.size w w2) := HB1.out.trans (hb2.mono HB1.out.size)
  have hei : ErrIs w2 er q PO := by
   rw [<- HPO.out]
   cases o with
   | none => exact Or.inr (Or.inl ⟨HQZ.out, rfl, he⟩)
   | some i =>
    obtain ⟨M, h3, h4⟩ := he
    exact Or.inr (Or.inr ⟨HQZ.out, M, h4.lt, h3, h4.cell 0, h4.cell 1⟩)
  have h7 := HAT.out er w2 HB2.out hei
  rw [show (q == q && PO == PO) = true by simp] at h7
  have HA2 := Lib.hid h7
  clear h7 hei he hb2 kf kf2 HP HAT HQZ HB1
  go_wp2_with fail
  refine HA2.out.mono ?_
  rintro e w3 ⟨rfl, hb3⟩
  have HB3 : Hid (Below w.heap.size w w3) := HB2.out.trans (hb3.mono HB2.out.size)
  clear hb3 HA2 c0 c1
  go_wp2
  go_ret
  exact ⟨rfl, HB3.out⟩
 ·go_enter Tryz.func7, Tryz.ntmps7
  go_wp2_with fail
  refine HQ.out.mono ?_
  rintro e w1 ⟨v, k, p, rfl, hb1, hv, hk, hp⟩
  rw [hv, hk, hp, HPO.out]
  clear hv hk hp
  have hA : Below w1.heap.size w1 (w1.alloc (.cells #[.int .i64 q, .int .i64 PO] 26)) := (Below.refl _ _).alloc (Nat.le_refl _) _
  have kf := Blk.new w1 26 #[.int .i64 q, .int .i64 PO]
  have HB1 : Hid (Below w.heap.size w (w1.alloc (.cells #[.int .i64 q, .int .i64 PO] 26))) := hb1.trans (hA.mono hb1.size)
  clear hA hb1 HQ
  go_wp2_with fail
  generalize w1.alloc (.cells #[.int .i64 q, .int .i64 PO] 26) = W1 at *
  generalize w1.heap.size = bf at *
  refine (HP.out _ HB1.out).mono ?_
  rintro e w2 ⟨er, rfl, he, hb2⟩
  have kf2 := kf.below hb2 kf.lt
  have c0 : w2.cell? ⟨bf, 0, none⟩ = some (.int .i64 q) := kf2.cell 0
  have c1 : w2.cell? ⟨bf, 1, none⟩ = some (.int .i64 PO) := kf2.cell 1
  have HB2 : Hid (Below w.heap.size w w2) := HB1.out.trans (hb2.mono HB1.out.size)
  have hei : ErrIs w2 er q PO := by
   rw [<- HPO.out]
   cases o with
   | none => exact Or.inr (Or.inl ⟨HQZ.out, rfl, he⟩)
   | some i =>
    obtain ⟨M, h3, h4⟩ := he
    exact Or.inr (Or.inr ⟨HQZ.out, M, h4.lt, h3, h4.cell 0, h4.cell 1⟩)
  have h7 := HAT.out er w2 HB2.out hei
  rw [show (q == q && PO == PO) = true by simp] at h7
  have HA2 := Lib.hid h7
  clear h7 hei he hb2 kf kf2 HP HAT HQZ HB1
  go_wp2_with fail
  refine HA2.out.mono ?_
  rintro e w3 ⟨rfl, hb3⟩
  have HB3 : Hid (Below w.heap.size w w3) := HB2.out.trans (hb3.mono HB2.out.size)
  clear hb3 HA2 c0 c1
  go_wp2
  go_ret
  exact ⟨rfl, HB3.out⟩
theorem cparses_ok (s : ByteArray) (w : World) (hw : Lw w) (hF : FineR w) (ad : Addr) (cap : Nat) (hK : KindsAt w ad cap) (h : ¬ ((3000 < s.size /\ s.size <= 20000) \/ 30000 < s.size)) (ls : List Ln) (its : List It) (hx : parseF s = .ok (ls, its)) : Calls Tryz.prog 7 #[.string s] w fun r w' => r = .returned (.bool true) /\ Below w.heap.size w w' := by
 have HQ0 := rcatp_any s w hw.lb hF ad cap hK
 have HP0 : ∀ W, Below w.heap.size w W -> Calls Tryz.prog 43 #[.string s] W (ParRes W (parseF s)) := fun W hb => parse_any_c s W (hw.below hb)
 have HLO := Lib.hid (lnOk_all hx)
 rw [hx] at HQ0 HP0
 have HQ := Lib.hid HQ0
 have HP := Lib.hid HP0
 have HW := Lib.hid hw
 have HKD := Lib.hid hK
 have a3 : ¬ (30000 : Int) < (s.size : Int) := by omega
 have a12 : (¬ (3000 : Int) < (s.size : Int)) \/ ((3000 : Int) < (s.size : Int) /\ ¬ (s.size : Int) <= 20000) := by omega
 clear HQ0 HP0 hw hF hK h hx
 rcases a12 with a1 | ⟨a1, a2⟩
 ·go_enter Tryz.func7, Tryz.ntmps7
  go_wp2_with fail
  refine HQ.out.mono ?_
  rintro e w1 ⟨v, k, p, rfl, hb1, hv, hk, hp⟩
  rw [hk, hp]
  clear hk hp
  have hA : Below w1.heap.size w1 (w1.alloc (.cells #[.int .i64 0, .int .i64 (-1)] 26)) := (Below.refl _ _).alloc (Nat.le_refl _) _
  have kf := Blk.new w1 26 #[.int .i64 0, .int .i64 (-1)]
  have HB1 : Hid (Below w.heap.size w (w1.alloc (.cells #[.int .i64 0, .int .i64 (-1)] 26))) := hb1.trans (hA.mono hb1.size)
  have HV1 := Lib.hid (hv.below hA (Nat.le_refl _))
  obtain ⟨va, vc, rfl⟩ : ∃ va vc, v = .slice va ls.length vc := by obtain ⟨vs, _, h2⟩ := hv; obtain ⟨a, c, e, _⟩ := h2.form; exact ⟨a, c, e⟩
  clear hA hb1 HQ hv
  go_wp2_with fail
  generalize w1.alloc (.cells #[.int .i64 0, .int .i64 (-1)] 26) = W1 at *
  generalize w1.heap.size = bf at *
  refine (HP.out _ HB1.out).mono ?_
  rintro e w2 ⟨bc, vs, rfl, hcv, -, hb2⟩
  have kf2 := kf.below hb2 kf.lt
  have c0 : w2.cell? ⟨bf, 0, none⟩ = some (.int .i64 0) := kf2.cell 0
  have HB2 : Hid (Below w.heap.size w w2) := HB1.out.trans (hb2.mono HB1.out.size)
  have HV2 := Lib.hid (HV1.out.below hb2 (Nat.le_refl _))
  have hrg : ∀ i, i < ls.length -> Rg (ls.getD i default).rng := by obtain ⟨lv, iv, bm, _, h2, _⟩ := hcv; exact fun i hi => (h2.2 i hi).2
  obtain ⟨hl, hlo⟩ := HLO.out hrg
  have HT1 := Lib.hid (ctext_c bc ls its w2 hcv.cat hl hlo (HW.out.below HB2.out))
  have HT2 : Hid (∀ W, Below w2.heap.size w2 W -> Calls Tryz.prog 36 #[.slice va ls.length vc] W fun e w' => e = .returned (.string ⟨(ctT ls).toArray⟩) /\ Below W.heap.size W w') := fun W hb => rct_any ls _ W (HV2.out.below hb (Nat.le_refl _)) hl hlo ((HW.out.below HB2.out).below hb).lb ad cap ((HKD.out.below HB2.out).below hb)
  clear hcv hb2 kf kf2 HP HB1 HV1 hrg hl hlo HLO HW HKD
  generalize ctT ls = CT at *
  generalize ls.length = LL at *
  go_wp2_with fail
  refine HT1.out.mono ?_
  rintro e w3 ⟨rfl, hb3⟩
  have HB3 : Hid (Below w.heap.size w w3) := HB2.out.trans (hb3.mono HB2.out.size)
  have HT3 := Lib.hid (HT2.out _ hb3)
  clear hb3 HT1 HT2 c0
  go_wp2_with fail
  refine HT3.out.mono ?_
  rintro e w4 ⟨rfl, hb4⟩
  have HB4 : Hid (Below w.heap.size w w4) := HB3.out.trans (hb4.mono HB3.out.size)
  clear hb4 HT3
  go_wp2
  go_ret
  exact ⟨rfl, HB4.out⟩
 ·go_enter Tryz.func7, Tryz.ntmps7
  go_wp2_with fail
  refine HQ.out.mono ?_
  rintro e w1 ⟨v, k, p, rfl, hb1, hv, hk, hp⟩
  rw [hk, hp]
  clear hk hp
  have hA : Below w1.heap.size w1 (w1.alloc (.cells #[.int .i64 0, .int .i64 (-1)] 26)) := (Below.refl _ _).alloc (Nat.le_refl _) _
  have kf := Blk.new w1 26 #[.int .i64 0, .int .i64 (-1)]
  have HB1 : Hid (Below w.heap.size w (w1.alloc (.cells #[.int .i64 0, .int .i64 (-1)] 26))) := hb1.trans (hA.mono hb1.size)
  have HV1 := Lib.hid (hv.below hA (Nat.le_refl _))
  obtain ⟨va, vc, rfl⟩ : ∃ va vc, v = .slice va ls.length vc := by obtain ⟨vs, _, h2⟩ := hv; obtain ⟨a, c, e, _⟩ := h2.form; exact ⟨a, c, e⟩
  clear hA hb1 HQ hv
  go_wp2_with fail
  generalize w1.alloc (.cells #[.int .i64 0, .int .i64 (-1)] 26) = W1 at *
  generalize w1.heap.size = bf at *
  refine (HP.out _ HB1.out).mono ?_
  rintro e w2 ⟨bc, vs, rfl, hcv, -, hb2⟩
  have kf2 := kf.below hb2 kf.lt
  have c0 : w2.cell? ⟨bf, 0, none⟩ = some (.int .i64 0) := kf2.cell 0
  have HB2 : Hid (Below w.heap.size w w2) := HB1.out.trans (hb2.mono HB1.out.size)
  have HV2 := Lib.hid (HV1.out.below hb2 (Nat.le_refl _))
  have hrg : ∀ i, i < ls.length -> Rg (ls.getD i default).rng := by obtain ⟨lv, iv, bm, _, h2, _⟩ := hcv; exact fun i hi => (h2.2 i hi).2
  obtain ⟨hl, hlo⟩ := HLO.out hrg
  have HT1 := Lib.hid (ctext_c bc ls its w2 hcv.cat hl hlo (HW.out.below HB2.out))
  have HT2 : Hid (∀ W, Below w2.heap.size w2 W -> Calls Tryz.prog 36 #[.slice va ls.length vc] W fun e w' => e = .returned (.string ⟨(ctT ls).toArray⟩) /\ Below W.heap.size W w') := fun W hb => rct_any ls _ W (HV2.out.below hb (Nat.le_refl _)) hl hlo ((HW.out.below HB2.out).below hb).lb ad cap ((HKD.out.below HB2.out).below hb)
  clear hcv hb2 kf kf2 HP HB1 HV1 hrg hl hlo HLO HW HKD
  generalize ctT ls = CT at *
  generalize ls.length = LL at *
  go_wp2_with fail
  refine HT1.out.mono ?_
  rintro e w3 ⟨rfl, hb3⟩
  have HB3 : Hid (Below w.heap.size w w3) := HB2.out.trans (hb3.mono HB2.out.size)
  have HT3 := Lib.hid (HT2.out _ hb3)
  clear hb3 HT1 HT2 c0
  go_wp2_with fail
  refine HT3.out.mono ?_
  rintro e w4 ⟨rfl, hb4⟩
  have HB4 : Hid (Below w.heap.size w w4) := HB3.out.trans (hb4.mono HB3.out.size)
  clear hb4 HT3
  go_wp2
  go_ret
  exact ⟨rfl, HB4.out⟩
theorem cparses_any (s : ByteArray) (w : World) (hw : Lw w) (hF : FineR w) (ad : Addr) (cap : Nat) (hK : KindsAt w ad cap) : Calls Tryz.prog 7 #[.string s] w fun r w' => r = .returned (.bool true) /\ Below w.heap.size w w' := by
 by_cases h : (3000 < s.size /\ s.size <= 20000) \/ 30000 < s.size
 ·exact cparses_skip s w h
 ·cases hx : parseF s with
  | ok r => exact cparses_ok s w hw hF ad cap hK h r.1 r.2 hx
  | error e => exact cparses_err s w hw hF ad cap hK h e.1 e.2 hx
end Go.Proofs.YtmhophccdfmngaaGreatDoor
