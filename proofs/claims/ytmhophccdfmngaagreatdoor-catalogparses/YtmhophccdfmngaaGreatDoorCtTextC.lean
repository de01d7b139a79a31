/- A catalog's text, as the program writes it. -/
import Derived.Test.YtmhophccdfmngaaGreatDoorCtLine
import Derived.Test.YtmhophccdfmngaaGreatDoorSvText
import Derived.Test.YtmhophccdfmngaaGreatDoorClinesL
import Derived.Test.YtmhophccdfmngaaGreatDoorCtMem
import Derived.Test.YtmhophccdfmngaaGreatDoorCtNew
import Derived.Test.YtmhophccdfmngaaGreatDoorSvOut
import Derived.Shelf.Spec.SlicesInsertGrow
set_option maxHeartbeats 2000000
set_option maxRecDepth 100000
namespace Go.Proofs.YtmhophccdfmngaaGreatDoor
open Go.RowKit Go.Shelf Sv
def lnT (x : Ln) : List UInt8 :=
 if x.kind = 1 then wl 1 ++ 32 :: (x.name.data.toList ++ 32 :: wtx x.a x.b x.c)
 else if x.kind = 2 then wl 2 ++ 32 :: (x.name.data.toList ++ 32 :: (wtx x.a x.b x.c ++ 32 :: (x.other.data.toList ++ 32 :: rgT x.rng)))
 else if x.kind = 3 then wl 3 ++ 32 :: (x.name.data.toList ++ 32 :: (wtx x.a x.b x.c ++ 32 :: (x.other.data.toList ++ 32 :: rgT x.rng)))
 else wl 4 ++ 32 :: (x.name.data.toList ++ 32 :: rgT x.rng)
theorem app_bytes (s t : ByteArray) : s ++ t = ⟨(s.data.toList ++ t.data.toList).toArray⟩ := by
 have hs : s = ⟨s.data.toList.toArray⟩ := by simp
 have ht : t = ⟨t.data.toList.toArray⟩ := by simp
 rw [hs, ht, app_str]
theorem itx_len (x : Int) (h : -9223372036854775808 <= x /\ x <= 9223372036854775807) : (Lib.itoa x).length <= 21 := Lib.itoa_length_le x (by omega) (by omega)
theorem wtx_len (x y z : Int) (hx : -9223372036854775808 <= x /\ x <= 9223372036854775807) (hy : -9223372036854775808 <= y /\ y <= 9223372036854775807) (hz : -9223372036854775808 <= z /\ z <= 9223372036854775807) : (wtx x y z).length <= 65 := by
 have h1 := itx_len x hx
 have h2 := itx_len y hy
 have h3 := itx_len z hz
 unfold wtx
 simp only [List.length_append, List.length_cons]; omega
theorem rgT_len {l : List Span} (hl : Rg l) : (rgT l).length <= 100000000000 := by
 have h1 := wrT_len hl l.length
 rw [List.take_length] at h1
 have h2 := rg_len hl
 unfold rgT
 split
 ·simp
 ·show (wrT l).length <= _
  omega
structure LnOk (x : Ln) : Prop where
 k1 : 1 <= x.kind
 k4 : x.kind <= 4
 nm : x.name.size <= 100000
 ot : x.other.size <= 100000
 a : -9223372036854775808 <= x.a /\ x.a <= 9223372036854775807
 b : -9223372036854775808 <= x.b /\ x.b <= 9223372036854775807
 c : -9223372036854775808 <= x.c /\ x.c <= 9223372036854775807
 rg : Rg x.rng
theorem lntext_1 (x : Ln) (hk : x.kind = 1) (hx : LnOk x) (v : Value) (w : World) (hw : Lw w) (hv : SpAt w v x.rng) : Calls Tryz.prog 90 #[.agg #[.int .i64 x.kind, .string x.name, .int .i64 x.a, .int .i64 x.b, .int .i64 x.c, .string x.other, v]] w fun e w' => e = .returned (.string ⟨(lnT x).toArray⟩) /\ Below w.heap.size w w' := by
 obtain ⟨va, vc, rfl⟩ := hv.form
 have hT : lnT x = wl 1 ++ 32 :: (x.name.data.toList ++ 32 :: wtx x.a x.b x.c) := by unfold lnT; simp [hk]
 have HB0 : Hid (Below w.heap.size w (w.alloc (.cells #[.int .i64 x.kind, .string x.name, .int .i64 x.a, .int .i64 x.b, .int .i64 x.c, .string x.other, .slice va x.rng.length vc] 76))) := (Below.refl _ w).alloc (Nat.le_refl _) _
 have k0 := Blk.new w 76 #[.int .i64 x.kind, .string x.name, .int .i64 x.a, .int .i64 x.b, .int .i64 x.c, .string x.other, .slice va x.rng.length vc]
 have HVT : Hid (∀ W, Below w.heap.size w W -> Calls Tryz.prog 119 #[.agg #[.int .i64 x.a, .int .i64 x.b, .int .i64 x.c]] W fun e w' => e = .returned (.string ⟨(wtx x.a x.b x.c).toArray⟩) /\ Below W.heap.size W w') := fun W hb => wtext_any _ _ _ hx.a hx.b hx.c W (hw.below hb).lb
 have HRT : Hid (∀ W, Below w.heap.size w W -> Calls Tryz.prog 16 #[.agg #[.slice va x.rng.length vc]] W fun e w' => e = .returned (.string ⟨(rgT x.rng).toArray⟩) /\ Below W.heap.size W w') := fun W hb => ptext_any _ hx.rg _ W (hw.below hb).lb (hv.below hb (Nat.le_refl _))
 have HPR : Hid (∀ W, Calls Tryz.prog 87 #[.agg #[.int .i64 x.kind, .string x.name, .int .i64 x.a, .int .i64 x.b, .int .i64 x.c, .string x.other, .slice va x.rng.length vc]] W fun e w' => e = .returned (.bool false) /\ Below W.heap.size W w') := fun W => (pair_any x _ W).mono fun e w' ⟨he, hw'⟩ => ⟨by rw [he]; congr 2; simp [Ln.pair, hk], by rw [hw']; exact (Below.refl _ _).alloc (Nat.le_refl _) _⟩
 have HWD := Lib.hid (fun W (hb : Below w.heap.size w W) => (hw.below hb).wd)
 have lVX := wtx_len _ _ _ hx.a hx.b hx.c
 have lRX := rgT_len hx.rg
 have hnm := hx.nm
 have hot := hx.ot
 have HK := Lib.hid k0
 clear hx hw hv k0
 rw [hk] at HPR HB0 HK ⊢
 obtain ⟨nm, ot, xa, xb, xc, rng, e1, e2, e3, e4, e5, e6⟩ : ∃ nm ot xa xb xc rng, x.name = nm /\ x.other = ot /\ x.a = xa /\ x.b = xb /\ x.c = xc /\ x.rng = rng := ⟨_, _, _, _, _, _, rfl, rfl, rfl, rfl, rfl, rfl⟩
 rw [e1, e2, e3, e4, e5, e6] at HPR HB0 HK ⊢
 rw [e3, e4, e5] at HVT
 rw [e6] at HRT lRX
 rw [e3, e4, e5] at lVX
 try rw [e1] at hT
 try rw [e2] at hT
 try rw [e3] at hT
 try rw [e4] at hT
 try rw [e5] at hT
 try rw [e6] at hT
 rw [e1] at hnm
 rw [e2] at hot
 clear hk e1 e2 e3 e4 e5 e6
 generalize lnT x = LT at *
 obtain ⟨VX, hVX⟩ : ∃ VX, wtx xa xb xc = VX := ⟨_, rfl⟩
 obtain ⟨RX, hRX⟩ : ∃ RX, rgT rng = RX := ⟨_, rfl⟩
 obtain ⟨RL, hRL⟩ : ∃ RL, rng.length = RL := ⟨_, rfl⟩
 rw [hVX] at HVT lVX
 rw [hRX] at HRT lRX
 rw [hRL] at HRT HPR HB0 HK ⊢
 try rw [hVX] at hT
 try rw [hRX] at hT
 have HT := Lib.hid hT
 clear hT hVX hRX hRL
 go_enter Tryz.func90, Tryz.ntmps90
 go_wp2_with fail
 generalize w.alloc (.cells #[.int .i64 1, .string nm, .int .i64 xa, .int .i64 xb, .int .i64 xc, .string ot, .slice va RL vc] 76) = W0 at *
 have KC : Hid (∀ W, Below W0.heap.size W0 W -> W.cell? ⟨w.heap.size, 0, none⟩ = some (.int .i64 1) /\ W.cell? ⟨w.heap.size, 1, none⟩ = some (.string nm) /\ W.cell? ⟨w.heap.size, 2, none⟩ = some (.int .i64 xa) /\ W.cell? ⟨w.heap.size, 3, none⟩ = some (.int .i64 xb) /\ W.cell? ⟨w.heap.size, 4, none⟩ = some (.int .i64 xc) /\ W.cell? ⟨w.heap.size, 5, none⟩ = some (.string ot) /\ W.cell? ⟨w.heap.size, 6, none⟩ = some (.slice va RL vc)) := fun W hb => ⟨(HK.out.below hb HK.out.lt).cell 0, (HK.out.below hb HK.out.lt).cell 1, (HK.out.below hb HK.out.lt).cell 2, (HK.out.below hb HK.out.lt).cell 3, (HK.out.below hb HK.out.lt).cell 4, (HK.out.below hb HK.out.lt).cell 5, (HK.out.below hb HK.out.lt).cell 6⟩
 have KW : Hid (∀ W, Below W0.heap.size W0 W -> Below w.heap.size w W) := fun W hb => HB0.out.trans (hb.mono HB0.out.size)
 have D0 : Below W0.heap.size W0 W0 := Below.refl _ _
 obtain ⟨c0, c1, c2, c3, c4, c5, c6⟩ := KC.out _ D0
 have gw : W0.cell? ⟨2, 1, none⟩ = some (.string ⟨#[112, 97, 99, 107, 97, 103, 101]⟩) := (HWD.out _ (KW.out _ D0)).c1
 go_big_region
 have B1 : Hid (Below W0.heap.size W0 W0.drew) := (Below.refl _ _).drew
 clear c0 c1 c2 c3 c4 c5 c6 gw D0 HK HB0
 obtain ⟨c0, c1, c2, c3, c4, c5, c6⟩ := KC.out _ B1.out
 generalize W0.drew = W1 at *
 go_wp2_with fail
 refine (HVT.out _ (KW.out _ B1.out)).mono ?_
 rintro e W2 ⟨rfl, hb⟩
 have B2 : Hid (Below W0.heap.size W0 W2) := B1.out.trans (hb.mono B1.out.size)
 clear hb c0 c1 c2 c3 c4 c5 c6
 obtain ⟨c0, c1, c2, c3, c4, c5, c6⟩ := KC.out _ B2.out
 go_wp2_with fail
 refine (HPR.out _).mono ?_
 rintro e W3 ⟨rfl, hb⟩
 have B3 : Hid (Below W0.heap.size W0 W3) := B2.out.trans (hb.mono B2.out.size)
 clear hb c0 c1 c2 c3 c4 c5 c6
 obtain ⟨c0, c1, c2, c3, c4, c5, c6⟩ := KC.out _ B3.out
 go_wp2
 go_ret
 refine ⟨congrArg (fun b => Ending.returned (.string b)) ?_, KW.out _ B3.out⟩
 rw [HT.out]
 simp only [app_bytes]
 simp [wl]
theorem lntext_2 (x : Ln) (hk : x.kind = 2) (hx : LnOk x) (v : Value) (w : World) (hw : Lw w) (hv : SpAt w v x.rng) : Calls Tryz.prog 90 #[.agg #[.int .i64 x.kind, .string x.name, .int .i64 x.a, .int .i64 x.b, .int .i64 x.c, .string x.other, v]] w fun e w' => e = .returned (.string ⟨(lnT x).toArray⟩) /\ Below w.heap.size w w' := by
 obtain ⟨va, vc, rfl⟩ := hv.form
 have hT : lnT x = wl 2 ++ 32 :: (x.name.data.toList ++ 32 :: (wtx x.a x.b x.c ++ 32 :: (x.other.data.toList ++ 32 :: rgT x.rng))) := by unfold lnT; simp [hk]
 have HB0 : Hid (Below w.heap.size w (w.alloc (.cells #[.int .i64 x.kind, .string x.name, .int .i64 x.a, .int .i64 x.b, .int .i64 x.c, .string x.other, .slice va x.rng.length vc] 76))) := (Below.refl _ w).alloc (Nat.le_refl _) _
 have k0 := Blk.new w 76 #[.int .i64 x.kind, .string x.name, .int .i64 x.a, .int .i64 x.b, .int .i64 x.c, .string x.other, .slice va x.rng.length vc]
 have HVT : Hid (∀ W, Below w.heap.size w W -> Calls Tryz.prog 119 #[.agg #[.int .i64 x.a, .int .i64 x.b, .int .i64 x.c]] W fun e w' => e = .returned (.string ⟨(wtx x.a x.b x.c).toArray⟩) /\ Below W.heap.size W w') := fun W hb => wtext_any _ _ _ hx.a hx.b hx.c W (hw.below hb).lb
 have HRT : Hid (∀ W, Below w.heap.size w W -> Calls Tryz.prog 16 #[.agg #[.slice va x.rng.length vc]] W fun e w' => e = .returned (.string ⟨(rgT x.rng).toArray⟩) /\ Below W.heap.size W w') := fun W hb => ptext_any _ hx.rg _ W (hw.below hb).lb (hv.below hb (Nat.le_refl _))
 have HPR : Hid (∀ W, Calls Tryz.prog 87 #[.agg #[.int .i64 x.kind, .string x.name, .int .i64 x.a, .int .i64 x.b, .int .i64 x.c, .string x.other, .slice va x.rng.length vc]] W fun e w' => e = .returned (.bool true) /\ Below W.heap.size W w') := fun W => (pair_any x _ W).mono fun e w' ⟨he, hw'⟩ => ⟨by rw [he]; congr 2; simp [Ln.pair, hk], by rw [hw']; exact (Below.refl _ _).alloc (Nat.le_refl _) _⟩
 have HWD := Lib.hid (fun W (hb : Below w.heap.size w W) => (hw.below hb).wd)
 have lVX := wtx_len _ _ _ hx.a hx.b hx.c
 have lRX := rgT_len hx.rg
 have hnm := hx.nm
 have hot := hx.ot
 have HK := Lib.hid k0
 clear hx hw hv k0
 rw [hk] at HPR HB0 HK ⊢
 obtain ⟨nm, ot, xa, xb, xc, rng, e1, e2, e3, e4, e5, e6⟩ : ∃ nm ot xa xb xc rng, x.name = nm /\ x.other = ot /\ x.a = xa /\ x.b = xb /\ x.c = xc /\ x.rng = rng := ⟨_, _, _, _, _, _, rfl, rfl, rfl, rfl, rfl, rfl⟩
 rw [e1, e2, e3, e4, e5, e6] at HPR HB0 HK ⊢
 rw [e3, e4, e5] at HVT
 rw [e6] at HRT lRX
 rw [e3, e4, e5] at lVX
 try rw [e1] at hT
 try rw [e2] at hT
 try rw [e3] at hT
 try rw [e4] at hT
 try rw [e5] at hT
 try rw [e6] at hT
 rw [e1] at hnm
 rw [e2] at hot
 clear hk e1 e2 e3 e4 e5 e6
 generalize lnT x = LT at *
 obtain ⟨VX, hVX⟩ : ∃ VX, wtx xa xb xc = VX := ⟨_, rfl⟩
 obtain ⟨RX, hRX⟩ : ∃ RX, rgT rng = RX := ⟨_, rfl⟩
 obtain ⟨RL, hRL⟩ : ∃ RL, rng.length = RL := ⟨_, rfl⟩
 rw [hVX] at HVT lVX
 rw [hRX] at HRT lRX
 rw [hRL] at HRT HPR HB0 HK ⊢
 try rw [hVX] at hT
 try rw [hRX] at hT
 have HT := Lib.hid hT
 clear hT hVX hRX hRL
 go_enter Tryz.func90, Tryz.ntmps90
 go_wp2_with fail
 generalize w.alloc (.cells #[.int .i64 2, .string nm, .int .i64 xa, .int .i64 xb, .int .i64 xc, .string ot, .slice va RL vc] 76) = W0 at *
 have KC : Hid (∀ W, Below W0.heap.size W0 W -> W.cell? ⟨w.heap.size, 0, none⟩ = some (.int .i64 2) /\ W.cell? ⟨w.heap.size, 1, none⟩ = some (.string nm) /\ W.cell? ⟨w.heap.size, 2, none⟩ = some (.int .i64 xa) /\ W.cell? ⟨w.heap.size, 3, none⟩ = some (.int .i64 xb) /\ W.cell? ⟨w.heap.size, 4, none⟩ = some (.int .i64 xc) /\ W.cell? ⟨w.heap.size, 5, none⟩ = some (.string ot) /\ W.cell? ⟨w.heap.size, 6, none⟩ = some (.slice va RL vc)) := fun W hb => ⟨(HK.out.below hb HK.out.lt).cell 0, (HK.out.below hb HK.out.lt).cell 1, (HK.out.below hb HK.out.lt).cell 2, (HK.out.below hb HK.out.lt).cell 3, (HK.out.below hb HK.out.lt).cell 4, (HK.out.below hb HK.out.lt).cell 5, (HK.out.below hb HK.out.lt).cell 6⟩
 have KW : Hid (∀ W, Below W0.heap.size W0 W -> Below w.heap.size w W) := fun W hb => HB0.out.trans (hb.mono HB0.out.size)
 have D0 : Below W0.heap.size W0 W0 := Below.refl _ _
 obtain ⟨c0, c1, c2, c3, c4, c5, c6⟩ := KC.out _ D0
 have gw : W0.cell? ⟨2, 2, none⟩ = some (.string ⟨#[110, 101, 101, 100, 115]⟩) := (HWD.out _ (KW.out _ D0)).c2
 go_big_region
 have B1 : Hid (Below W0.heap.size W0 W0.drew) := (Below.refl _ _).drew
 clear c0 c1 c2 c3 c4 c5 c6 gw D0 HK HB0
 obtain ⟨c0, c1, c2, c3, c4, c5, c6⟩ := KC.out _ B1.out
 generalize W0.drew = W1 at *
 go_wp2_with fail
 refine (HVT.out _ (KW.out _ B1.out)).mono ?_
 rintro e W2 ⟨rfl, hb⟩
 have B2 : Hid (Below W0.heap.size W0 W2) := B1.out.trans (hb.mono B1.out.size)
 clear hb c0 c1 c2 c3 c4 c5 c6
 obtain ⟨c0, c1, c2, c3, c4, c5, c6⟩ := KC.out _ B2.out
 go_wp2_with fail
 refine (HPR.out _).mono ?_
 rintro e W3 ⟨rfl, hb⟩
 have B3 : Hid (Below W0.heap.size W0 W3) := B2.out.trans (hb.mono B2.out.size)
 clear hb c0 c1 c2 c3 c4 c5 c6
 obtain ⟨c0, c1, c2, c3, c4, c5, c6⟩ := KC.out _ B3.out
 go_wp2_with fail
 refine (HRT.out _ (KW.out _ B3.out)).mono ?_
 rintro e W4 ⟨rfl, hb⟩
 have B4 : Hid (Below W0.heap.size W0 W4) := B3.out.trans (hb.mono B3.out.size)
 clear hb c0 c1 c2 c3 c4 c5 c6
 obtain ⟨c0, c1, c2, c3, c4, c5, c6⟩ := KC.out _ B4.out
 go_wp2
 go_ret
 refine ⟨congrArg (fun b => Ending.returned (.string b)) ?_, KW.out _ B4.out⟩
 rw [HT.out]
 simp only [app_bytes]
 simp [wl]
theorem lntext_3 (x : Ln) (hk : x.kind = 3) (hx : LnOk x) (v : Value) (w : World) (hw : Lw w) (hv : SpAt w v x.rng) : Calls Tryz.prog 90 #[.agg #[.int .i64 x.kind, .string x.name, .int .i64 x.a, .int .i64 x.b, .int .i64 x.c, .string x.other, v]] w fun e w' => e = .returned (.string ⟨(lnT x).toArray⟩) /\ Below w.heap.size w w' := by
 obtain ⟨va, vc, rfl⟩ := hv.form
 have hT : lnT x = wl 3 ++ 32 :: (x.name.data.toList ++ 32 :: (wtx x.a x.b x.c ++ 32 :: (x.other.data.toList ++ 32 :: rgT x.rng))) := by unfold lnT; simp [hk]
 have HB0 : Hid (Below w.heap.size w (w.alloc (.cells #[.int .i64 x.kind, .string x.name, .int .i64 x.a, .int .i64 x.b, .int .i64 x.c, .string x.other, .slice va x.rng.length vc] 76))) := (Below.refl _ w).alloc (Nat.le_refl _) _
 have k0 := Blk.new w 76 #[.int .i64 x.kind, .string x.name, .int .i64 x.a, .int .i64 x.b, .int .i64 x.c, .string x.other, .slice va x.rng.length vc]
 have HVT : Hid (∀ W, Below w.heap.size w W -> Calls Tryz.prog 119 #[.agg #[.int .i64 x.a, .int .i64 x.b, .int .i64 x.c]] W fun e w' => e = .returned (.string ⟨(wtx x.a x.b x.c).toArray⟩) /\ Below W.heap.size W w') := fun W hb => wtext_any _ _ _ hx.a hx.b hx.c W (hw.below hb).lb
 have HRT : Hid (∀ W, Below w.heap.size w W -> Calls Tryz.prog 16 #[.agg #[.slice va x.rng.length vc]] W fun e w' => e = .returned (.string ⟨(rgT x.rng).toArray⟩) /\ Below W.heap.size W w') := fun W hb => ptext_any _ hx.rg _ W (hw.below hb).lb (hv.below hb (Nat.le_refl _))
 have HPR : Hid (∀ W, Calls Tryz.prog 87 #[.agg #[.int .i64 x.kind, .string x.name, .int .i64 x.a, .int .i64 x.b, .int .i64 x.c, .string x.other, .slice va x.rng.length vc]] W fun e w' => e = .returned (.bool true) /\ Below W.heap.size W w') := fun W => (pair_any x _ W).mono fun e w' ⟨he, hw'⟩ => ⟨by rw [he]; congr 2; simp [Ln.pair, hk], by rw [hw']; exact (Below.refl _ _).alloc (Nat.le_refl _) _⟩
 have HWD := Lib.hid (fun W (hb : Below w.heap.size w W) => (hw.below hb).wd)
 have lVX := wtx_len _ _ _ hx.a hx.b hx.c
 have lRX := rgT_len hx.rg
 have hnm := hx.nm
 have hot := hx.ot
 have HK := Lib.hid k0
 clear hx hw hv k0
 rw [hk] at HPR HB0 HK ⊢
 obtain ⟨nm, ot, xa, xb, xc, rng, e1, e2, e3, e4, e5, e6⟩ : ∃ nm ot xa xb xc rng, x.name = nm /\ x.other = ot /\ x.a = xa /\ x.b = xb /\ x.c = xc /\ x.rng = rng := ⟨_, _, _, _, _, _, rfl, rfl, rfl, rfl, rfl, rfl⟩
 rw [e1, e2, e3, e4, e5, e6] at HPR HB0 HK ⊢
 rw [e3, e4, e5] at HVT
 rw [e6] at HRT lRX
 rw [e3, e4, e5] at lVX
 try rw [e1] at hT
 try rw [e2] at hT
 try rw [e3] at hT
 try rw [e4] at hT
 try rw [e5] at hT
 try rw [e6] at hT
 rw [e1] at hnm
 rw [e2] at hot
 clear hk e1 e2 e3 e4 e5 e6
 generalize lnT x = LT at *
 obtain ⟨VX, hVX⟩ : ∃ VX, wtx xa xb xc = VX := ⟨_, rfl⟩
 obtain ⟨RX, hRX⟩ : ∃ RX, rgT rng = RX := ⟨_, rfl⟩
 obtain ⟨RL, hRL⟩ : ∃ RL, rng.length = RL := ⟨_, rfl⟩
 rw [hVX] at HVT lVX
 rw [hRX] at HRT lRX
 rw [hRL] at HRT HPR HB0 HK ⊢
 try rw [hVX] at hT
 try rw [hRX] at hT
 have HT := Lib.hid hT
 clear hT hVX hRX hRL
 go_enter Tryz.func90, Tryz.ntmps90
 go_wp2_with fail
 generalize w.alloc (.cells #[.int .i64 3, .string nm, .int .i64 xa, .int .i64 xb, .int .i64 xc, .string ot, .slice va RL vc] 76) = W0 at *
 have KC : Hid (∀ W, Below W0.heap.size W0 W -> W.cell? ⟨w.heap.size, 0, none⟩ = some (.int .i64 3) /\ W.cell? ⟨w.heap.size, 1, none⟩ = some (.string nm) /\ W.cell? ⟨w.heap.size, 2, none⟩ = some (.int .i64 xa) /\ W.cell? ⟨w.heap.size, 3, none⟩ = some (.int .i64 xb) /\ W.cell? ⟨w.heap.size, 4, none⟩ = some (.int .i64 xc) /\ W.cell? ⟨w.heap.size, 5, none⟩ = some (.string ot) /\ W.cell? ⟨w.heap.size, 6, none⟩ = some (.slice va RL vc)) := fun W hb => ⟨(HK.out.below hb HK.out.lt).cell 0, (HK.out.below hb HK.out.lt).cell 1, (HK.out.below hb HK.out.lt).cell 2, (HK.out.below hb HK.out.lt).cell 3, (HK.out.below hb HK.out.lt).cell 4, (HK.out.below hb HK.out.lt).cell 5, (HK.out.below hb HK.out.lt).cell 6⟩
 have KW : Hid (∀ W, Below W0.heap.size W0 W -> Below w.heap.size w W) := fun W hb => HB0.out.trans (hb.mono HB0.out.size)
 have D0 : Below W0.heap.size W0 W0 := Below.refl _ _
 obtain ⟨c0, c1, c2, c3, c4, c5, c6⟩ := KC.out _ D0
 have gw : W0.cell? ⟨2, 3, none⟩ = some (.string ⟨#[99, 108, 97, 115, 104, 101, 115]⟩) := (HWD.out _ (KW.out _ D0)).c3
 go_big_region
 have B1 : Hid (Below W0.heap.size W0 W0.drew) := (Below.refl _ _).drew
 clear c0 c1 c2 c3 c4 c5 c6 gw D0 HK HB0
 obtain ⟨c0, c1, c2, c3, c4, c5, c6⟩ := KC.out _ B1.out
 generalize W0.drew = W1 at *
 go_wp2_with fail
 refine (HVT.out _ (KW.out _ B1.out)).mono ?_
 rintro e W2 ⟨rfl, hb⟩
 have B2 : Hid (Below W0.heap.size W0 W2) := B1.out.trans (hb.mono B1.out.size)
 clear hb c0 c1 c2 c3 c4 c5 c6
 obtain ⟨c0, c1, c2, c3, c4, c5, c6⟩ := KC.out _ B2.out
 go_wp2_with fail
 refine (HPR.out _).mono ?_
 rintro e W3 ⟨rfl, hb⟩
 have B3 : Hid (Below W0.heap.size W0 W3) := B2.out.trans (hb.mono B2.out.size)
 clear hb c0 c1 c2 c3 c4 c5 c6
 obtain ⟨c0, c1, c2, c3, c4, c5, c6⟩ := KC.out _ B3.out
 go_wp2_with fail
 refine (HRT.out _ (KW.out _ B3.out)).mono ?_
 rintro e W4 ⟨rfl, hb⟩
 have B4 : Hid (Below W0.heap.size W0 W4) := B3.out.trans (hb.mono B3.out.size)
 clear hb c0 c1 c2 c3 c4 c5 c6
 obtain ⟨c0, c1, c2, c3, c4, c5, c6⟩ := KC.out _ B4.out
 go_wp2
 go_ret
 refine ⟨congrArg (fun b => Ending.returned (.string b)) ?_, KW.out _ B4.out⟩
 rw [HT.out]
 simp only [app_bytes]
 simp [wl]
theorem lntext_4 (x : Ln) (hk : x.kind = 4) (hx : LnOk x) (v : Value) (w : World) (hw : Lw w) (hv : SpAt w v x.rng) : Calls Tryz.prog 90 #[.agg #[.int .i64 x.kind, .string x.name, .int .i64 x.a, .int .i64 x.b, .int .i64 x.c, .string x.other, v]] w fun e w' => e = .returned (.string ⟨(lnT x).toArray⟩) /\ Below w.heap.size w w' := by
 obtain ⟨va, vc, rfl⟩ := hv.form
 have hT : lnT x = wl 4 ++ 32 :: (x.name.data.toList ++ 32 :: rgT x.rng) := by unfold lnT; simp [hk]
 have HB0 : Hid (Below w.heap.size w (w.alloc (.cells #[.int .i64 x.kind, .string x.name, .int .i64 x.a, .int .i64 x.b, .int .i64 x.c, .string x.other, .slice va x.rng.length vc] 76))) := (Below.refl _ w).alloc (Nat.le_refl _) _
 have k0 := Blk.new w 76 #[.int .i64 x.kind, .string x.name, .int .i64 x.a, .int .i64 x.b, .int .i64 x.c, .string x.other, .slice va x.rng.length vc]
 have HVT : Hid (∀ W, Below w.heap.size w W -> Calls Tryz.prog 119 #[.agg #[.int .i64 x.a, .int .i64 x.b, .int .i64 x.c]] W fun e w' => e = .returned (.string ⟨(wtx x.a x.b x.c).toArray⟩) /\ Below W.heap.size W w') := fun W hb => wtext_any _ _ _ hx.a hx.b hx.c W (hw.below hb).lb
 have HRT : Hid (∀ W, Below w.heap.size w W -> Calls Tryz.prog 16 #[.agg #[.slice va x.rng.length vc]] W fun e w' => e = .returned (.string ⟨(rgT x.rng).toArray⟩) /\ Below W.heap.size W w') := fun W hb => ptext_any _ hx.rg _ W (hw.below hb).lb (hv.below hb (Nat.le_refl _))
 have HPR : Hid (∀ W, Calls Tryz.prog 87 #[.agg #[.int .i64 x.kind, .string x.name, .int .i64 x.a, .int .i64 x.b, .int .i64 x.c, .string x.other, .slice va x.rng.length vc]] W fun e w' => e = .returned (.bool false) /\ Below W.heap.size W w') := fun W => (pair_any x _ W).mono fun e w' ⟨he, hw'⟩ => ⟨by rw [he]; congr 2; simp [Ln.pair, hk], by rw [hw']; exact (Below.refl _ _).alloc (Nat.le_refl _) _⟩
 have HWD := Lib.hid (fun W (hb : Below w.heap.size w W) => (hw.below hb).wd)
 have lVX := wtx_len _ _ _ hx.a hx.b hx.c
 have lRX := rgT_len hx.rg
 have hnm := hx.nm
 have hot := hx.ot
 have HK := Lib.hid k0
 clear hx hw hv k0
 rw [hk] at HPR HB0 HK ⊢
 obtain ⟨nm, ot, xa, xb, xc, rng, e1, e2, e3, e4, e5, e6⟩ : ∃ nm ot xa xb xc rng, x.name = nm /\ x.other = ot /\ x.a = xa /\ x.b = xb /\ x.c = xc /\ x.rng = rng := ⟨_, _, _, _, _, _, rfl, rfl, rfl, rfl, rfl, rfl⟩
 rw [e1, e2, e3, e4, e5, e6] at HPR HB0 HK ⊢
 rw [e3, e4, e5] at HVT
 rw [e6] at HRT lRX
 rw [e3, e4, e5] at lVX
 try rw [e1] at hT
 try rw [e2] at hT
 try rw [e3] at hT
 try rw [e4] at hT
 try rw [e5] at hT
 try rw [e6] at hT
 rw [e1] at hnm
 rw [e2] at hot
 clear hk e1 e2 e3 e4 e5 e6
 generalize lnT x = LT at *
 obtain ⟨VX, hVX⟩ : ∃ VX, wtx xa xb xc = VX := ⟨_, rfl⟩
 obtain ⟨RX, hRX⟩ : ∃ RX, rgT rng = RX := ⟨_, rfl⟩
 obtain ⟨RL, hRL⟩ : ∃ RL, rng.length = RL := ⟨_, rfl⟩
 rw [hVX] at HVT lVX
 rw [hRX] at HRT lRX
 rw [hRL] at HRT HPR HB0 HK ⊢
 try rw [hVX] at hT
 try rw [hRX] at hT
 have HT := Lib.hid hT
 clear hT hVX hRX hRL
 go_enter Tryz.func90, Tryz.ntmps90
 go_wp2_with fail
 generalize w.alloc (.cells #[.int .i64 4, .string nm, .int .i64 xa, .int .i64 xb, .int .i64 xc, .string ot, .slice va RL vc] 76) = W0 at *
 have KC : Hid (∀ W, Below W0.heap.size W0 W -> W.cell? ⟨w.heap.size, 0, none⟩ = some (.int .i64 4) /\ W.cell? ⟨w.heap.size, 1, none⟩ = some (.string nm) /\ W.cell? ⟨w.heap.size, 2, none⟩ = some (.int .i64 xa) /\ W.cell? ⟨w.heap.size, 3, none⟩ = some (.int .i64 xb) /\ W.cell? ⟨w.heap.size, 4, none⟩ = some (.int .i64 xc) /\ W.cell? ⟨w.heap.size, 5, none⟩ = some (.string ot) /\ W.cell? ⟨w.heap.size, 6, none⟩ = some (.slice va RL vc)) := fun W hb => ⟨(HK.out.below hb HK.out.lt).cell 0, (HK.out.below hb HK.out.lt).cell 1, (HK.out.below hb HK.out.lt).cell 2, (HK.out.below hb HK.out.lt).cell 3, (HK.out.below hb HK.out.lt).cell 4, (HK.out.below hb HK.out.lt).cell 5, (HK.out.below hb HK.out.lt).cell 6⟩
 have KW : Hid (∀ W, Below W0.heap.size W0 W -> Below w.heap.size w W) := fun W hb => HB0.out.trans (hb.mono HB0.out.size)
 have D0 : Below W0.heap.size W0 W0 := Below.refl _ _
 obtain ⟨c0, c1, c2, c3, c4, c5, c6⟩ := KC.out _ D0
 have gw : W0.cell? ⟨2, 4, none⟩ = some (.string ⟨#[114, 111, 111, 116]⟩) := (HWD.out _ (KW.out _ D0)).c4
 go_big_region
 have B1 : Hid (Below W0.heap.size W0 W0.drew) := (Below.refl _ _).drew
 clear c0 c1 c2 c3 c4 c5 c6 gw D0 HK HB0
 obtain ⟨c0, c1, c2, c3, c4, c5, c6⟩ := KC.out _ B1.out
 generalize W0.drew = W1 at *
 go_wp2_with fail
 refine (HPR.out _).mono ?_
 rintro e W2 ⟨rfl, hb⟩
 have B2 : Hid (Below W0.heap.size W0 W2) := B1.out.trans (hb.mono B1.out.size)
 clear hb c0 c1 c2 c3 c4 c5 c6
 obtain ⟨c0, c1, c2, c3, c4, c5, c6⟩ := KC.out _ B2.out
 go_wp2_with fail
 refine (HRT.out _ (KW.out _ B2.out)).mono ?_
 rintro e W3 ⟨rfl, hb⟩
 have B3 : Hid (Below W0.heap.size W0 W3) := B2.out.trans (hb.mono B2.out.size)
 clear hb c0 c1 c2 c3 c4 c5 c6
 obtain ⟨c0, c1, c2, c3, c4, c5, c6⟩ := KC.out _ B3.out
 go_wp2
 go_ret
 refine ⟨congrArg (fun b => Ending.returned (.string b)) ?_, KW.out _ B3.out⟩
 rw [HT.out]
 simp only [app_bytes]
 simp [wl]
theorem lntext_any (x : Ln) (hx : LnOk x) (v : Value) (w : World) (hw : Lw w) (hv : SpAt w v x.rng) : Calls Tryz.prog 90 #[.agg #[.int .i64 x.kind, .string x.name, .int .i64 x.a, .int .i64 x.b, .int .i64 x.c, .string x.other, v]] w fun e w' => e = .returned (.string ⟨(lnT x).toArray⟩) /\ Below w.heap.size w w' := by
 have h1 := hx.k1
 have h4 := hx.k4
 have h : x.kind = 1 \/ x.kind = 2 \/ x.kind = 3 \/ x.kind = 4 := by omega
 rcases h with h | h | h | h
 ·exact lntext_1 x h hx v w hw hv
 ·exact lntext_2 x h hx v w hw hv
 ·exact lntext_3 x h hx v w hw hv
 ·exact lntext_4 x h hx v w hw hv
end Go.Proofs.YtmhophccdfmngaaGreatDoor
namespace Go.Proofs.YtmhophccdfmngaaGreatDoor
open Go.RowKit Go.Deep Sv
def ClN (K : List (List Int)) (cs : List Value) (b : Option Nat) : Prop := ∀ i, i < K.length -> 0 < (K.getD i []).length -> ∀ g, (cs.getD i undef).ownBlock = some g -> some g ≠ b
theorem ClN.nil (b : Option Nat) : ClN [] [] b := fun i h => by simp at h
theorem ClN.new {W : World} {cs : List Value} {K : List (List Int)} (h : ClsK 0 W cs K) {b : Nat} (hb : W.heap.size <= b) : ClN K cs (some b) := fun i hi hl g hg e => by
 obtain ⟨a, cap, h1, _, _, h4⟩ := h.2 i hi
 obtain ⟨ad, h5, h6, _⟩ := h4 0 hl
 rw [List.getD_eq_getElem?_getD, h1, h5] at hg
 simp [Value.ownBlock] at hg
 cases e
 omega
theorem ClN.snoc {K : List (List Int)} {cs : List Value} {b : Option Nat} (h : ClN K cs b) (hv : cs.length = K.length) {c : List Int} {v : Value} (hx : 0 < c.length -> ∀ g, v.ownBlock = some g -> some g ≠ b) : ClN (K ++ [c]) (cs ++ [v]) b := by
 intro i hi
 by_cases hl : i < K.length
 ·have e1 : (K ++ [c]).getD i [] = K.getD i [] := by simp [List.getD_eq_getElem?_getD, List.getElem?_append_left hl]
  have e2 : (cs ++ [v]).getD i undef = cs.getD i undef := by simp [List.getD_eq_getElem?_getD, List.getElem?_append_left (show i < cs.length by rw [hv]; exact hl)]
  rw [e1, e2]; exact h i hl
 ·obtain rfl : i = K.length := by simp at hi; omega
  have e1 : (K ++ [c]).getD K.length [] = c := by simp [List.getD_eq_getElem?_getD]
  have e2 : (cs ++ [v]).getD K.length undef = v := by simp [List.getD_eq_getElem?_getD, <- hv]
  rw [e1, e2]; exact hx
def PlA (a : Option Addr) : Prop := ∀ ad, a = some ad -> ad.spot = none
def PlC (cs : List Value) : Prop := ∀ u ∈ cs, ∀ a n c, u = .slice a n c -> PlA a
theorem PlC.snoc {cs : List Value} (h : PlC cs) {a : Option Addr} (ha : PlA a) (n c : Nat) : PlC (cs ++ [.slice a n c]) := by
 intro u hu
 rcases List.mem_append.1 hu with hu | hu
 ·exact h u hu
 ·rw [List.mem_singleton] at hu
  subst hu
  intro a' n' c' e
  cases e
  exact ha
structure RS (B : Nat) (W : World) (cv fv : Value) (K : List (List Int)) (F : List Int) : Prop where
 crow : ∃ cs, W.ownsRow B 175 1 cv K.length cs /\ ClsK 0 W cs K /\ ClN K cs fv.ownBlock /\ PlC cs
 frow : W.ownsRow B 3 1 fv F.length (icells F)
theorem RS.nil (B : Nat) (W : World) : RS B W (.slice none 0 0) (.slice none 0 0) [] [] := ⟨⟨[], World.ownsRow_nil _ _ _ _, ClsK.nil, ClN.nil _, fun u hu => by cases hu⟩, World.ownsRow_nil _ _ _ _⟩
theorem RS.new {B : Nat} {W W' : World} {cv fv : Value} {K : List (List Int)} {F : List Int} (h : RS B W cv fv K F) (hb : Below W.heap.size W W') : RS B W' cv fv K F := by
 obtain ⟨cs, h1, h2, h3⟩ := h.crow
 exact ⟨⟨cs, row_new' h1 hb, h2.kp (Kp.new hb), h3⟩, row_new' h.frow hb⟩
structure Fr (b5 : Nat) (cv fv : Value) (W W' : World) : Prop where
 size : W.heap.size <= W'.heap.size
 block : ∀ k, k < W.heap.size -> k ≠ b5 -> some k ≠ cv.ownBlock -> some k ≠ fv.ownBlock -> W'.heap[k]? = W.heap[k]?
 B : Below b5 W W'
end Go.Proofs.YtmhophccdfmngaaGreatDoor
namespace Go.Proofs.YtmhophccdfmngaaGreatDoor
open Go.RowKit Go.Deep Sv
structure OS (w W : World) (b5 : Nat) (n : Int) (cv fv : Value) (P : List (Int × List Int)) (iv : Value) (its : List It) : Prop where
 r2 : Blk W w.heap.size 97 #[.int .i64 0, .slice none 0 0, .slice none 0 0]
 r5 : Blk W b5 97 #[.int .i64 n, cv, fv]
 rs : RS (b5 + 1) W cv fv (P.map Prod.snd) (P.map Prod.fst)
 B : Below w.heap.size w W
 lo : w.heap.size < b5
 its : W.ownsRow w.heap.size 71 4 iv its.length (itCells its)
section
variable {w W W' : World} {b5 : Nat} {n : Int} {cv fv iv : Value} {P : List (Int × List Int)} {its : List It}
theorem OS.new (h : OS w W b5 n cv fv P iv its) (hb : Below W.heap.size W W') : OS w W' b5 n cv fv P iv its :=
 ⟨h.r2.below hb h.r2.lt, h.r5.below hb h.r5.lt, h.rs.new hb, h.B.trans (hb.mono h.B.size), h.lo, row_new' h.its hb⟩
theorem OS.keep (h : OS w W b5 n cv fv P iv its) (hf : Fr b5 cv fv W W') {k : Nat} {cs : Array Value} {t : TypeId} (hk : Blk W k t cs) (h1 : t ≠ 97) (h2 : t ≠ 175) (h3 : t ≠ 3) : Blk W' k t cs := by
 obtain ⟨cs', hc, -⟩ := h.rs.crow
 refine (hf.block k hk.lt (hk.ne_type h.r5 h1) (fun e => ownBlock_ne' hc hk h2 e.symm) (fun e => ownBlock_ne' h.rs.frow hk h3 e.symm)).trans hk
theorem OS.keepRow (h : OS w W b5 n cv fv P iv its) (hf : Fr b5 cv fv W W') {B t k m : Nat} {v : Value} {cs : List Value} (hr : W.ownsRow B t k v m cs) (h1 : t ≠ 97) (h2 : t ≠ 175) (h3 : t ≠ 3) : W'.ownsRow B t k v m cs := by
 refine ⟨hr.1, ?_⟩
 rcases hr.2 with h' | ⟨g, cap, cur, e, hB, hg, r⟩
 ·exact .inl h'
 ·exact .inr ⟨g, cap, cur, e, hB, h.keep hf hg h1 h2 h3, r⟩
theorem OS.add (h : OS w W b5 n cv fv P iv its) {cv' fv' : Value} {f : Int} {c : List Int} (hf : Fr b5 cv fv W W') (h5 : Blk W' b5 97 #[.int .i64 n, cv', fv']) (hr : RS (b5 + 1) W' cv' fv' (P.map Prod.snd ++ [c]) (P.map Prod.fst ++ [f])) : OS w W' b5 n cv' fv' (P ++ [(f, c)]) iv its :=
 ⟨h.r2.below hf.B (by have := h.lo; omega), h5, by simpa using hr, h.B.trans (hf.B.mono (Nat.le_of_lt h.lo)), h.lo, h.keepRow hf h.its (by decide) (by decide) (by decide)⟩
end
theorem lines_v (bk bm : Nat) (lv iv : Value) (ls : List Ln) (vs : List Value) (w : World) (h1 : Blk w bk 152 #[lv, iv, .map (some bm)]) (hr : RgsAt w ls vs) (h2 : RowAt w lv ls.length (lnCells ls vs)) (hl : ls.length <= 100000) :
  Calls Tryz.prog 34 #[.pointer (some ⟨bk, 0, none⟩)] w fun e w' => ∃ v', e = .returned v' /\ w'.ownsRow w.heap.size 76 7 v' ls.length (lnCells ls vs) /\ Below w.heap.size w w' := by
 have HI := Lib.hid (clone_lns ls vs hr.1 hr.one lv w h2 hl)
 obtain ⟨va, vc, rfl, -⟩ := h2.form
 have c0 : w.cell? ⟨bk, 0, none⟩ = some (.slice va ls.length vc) := h1.cell 0
 clear h1 h2 hr hl
 go_enter Tryz.func34, Tryz.ntmps34
 go_wp2_with fail
 refine HI.out.mono ?_
 rintro e w1 ⟨v', rfl, hrow, hb1⟩
 have HR := Lib.hid hrow
 have HB1 := Lib.hid hb1
 clear hb1 HI hrow c0
 go_wp2
 go_ret
 exact ⟨v', rfl, HR.out, HB1.out⟩
end Go.Proofs.YtmhophccdfmngaaGreatDoor
namespace Go.Proofs.YtmhophccdfmngaaGreatDoor
open Go.RowKit Go.Shelf Sv
def ctT (ls : List Ln) : List UInt8 := (ls.map fun x => lnT x ++ [10]).flatten
theorem ctT_snoc (ls : List Ln) (k : Nat) (hk : k < ls.length) : ctT (ls.take (k + 1)) = ctT (ls.take k) ++ lnT (ls.getD k default) ++ [10] := by
 unfold ctT
 rw [List.take_succ_eq_append_getElem hk, List.map_append, List.flatten_append]
 have e : ls.getD k default = ls[k] := by simp [List.getD_eq_getElem?_getD, List.getElem?_eq_getElem hk]
 rw [e]
 simp
theorem lnT_len {x : Ln} (h : LnOk x) : (lnT x).length <= 100000300000 := by
 have h1 := wtx_len _ _ _ h.a h.b h.c
 have h2 := rgT_len h.rg
 have h3 : x.name.data.toList.length <= 100000 := by have := h.nm; rw [Array.length_toList]; exact this
 have h4 : x.other.data.toList.length <= 100000 := by have := h.ot; rw [Array.length_toList]; exact this
 have w1 : (wl 1).length = 7 := rfl
 have w2 : (wl 2).length = 5 := rfl
 have w3 : (wl 3).length = 7 := rfl
 have w4 : (wl 4).length = 4 := rfl
 unfold lnT
 split
 ·simp only [List.length_append, List.length_cons]; omega
 ·split
  ·simp only [List.length_append, List.length_cons]; omega
  ·split
   ·simp only [List.length_append, List.length_cons]; omega
   ·simp only [List.length_append, List.length_cons]; omega
theorem ctT_len {ls : List Ln} (h : ∀ i, i < ls.length -> LnOk (ls.getD i default)) : ∀ k, (ctT (ls.take k)).length <= 100000300001 * k := by
 intro k
 induction k with
 | zero => simp [ctT]
 | succ k ih =>
  by_cases hk : k < ls.length
  ·rw [ctT_snoc ls k hk, List.length_append, List.length_append]
   have := lnT_len (h k hk)
   simp only [List.length_cons, List.length_nil]
   omega
  ·rw [List.take_of_length_le (by omega)]
   rw [List.take_of_length_le (by omega)] at ih
   omega
theorem bws14 (B b : Nat) (l s : List UInt8) (w : World) (h : Bd B b l w) (hlen : l.length + s.length <= 100000000000000) (hB : B <= w.heap.size) :
  Calls Tryz.prog 65 #[.pointer (some ⟨b, 0, none⟩), .string ⟨s.toArray⟩] w fun e w' => (∃ x, e = .returned (.tuple #[.int .i64 x, .nilIface])) /\ Bd B b (l ++ s) w' /\ Below B w w' /\ Lib.OthersKept 5 (some b) w w' :=
 (Any.Builder_WriteString_k Tryz.laysWS Tryz.Builder_Extra_156 B b (Lib.byteCells l) ⟨s.toArray⟩ w h (by rw [Lib.byteCells_length]; show l.length + s.toArray.size <= _; simp; omega) hB).mono fun _ _ ⟨h1, h2, h3, h4⟩ => ⟨⟨_, h1⟩, Or.inr (by rw [Lib.byteCells_append]; exact h2), h3, h4⟩
theorem extraWB : Builder.Extra Tryz.prog Tryz.laysWB_ren :=
 { sizeBuilder := Tryz.Builder_Extra_156.sizeBuilder, liesBuilder := Tryz.Builder_Extra_156.liesBuilder, t5 := Tryz.Builder_Extra_156.t5, a5 := Tryz.Builder_Extra_156.a5, z5 := Tryz.Builder_Extra_156.z5, v5 := Tryz.Builder_Extra_156.v5, infoByte := Tryz.Builder_Extra_156.infoByte, cellsByte := Tryz.Builder_Extra_156.cellsByte, sizeByte := Tryz.Builder_Extra_156.sizeByte, neB5 := Tryz.Builder_Extra_156.neB5 }
theorem bwb14 (B b : Nat) (l : List UInt8) (w : World) (h : Bd B b l w) (hlen : l.length + 1 <= 100000000000000) (hB : B <= w.heap.size) :
  Calls Tryz.prog 91 #[.pointer (some ⟨b, 0, none⟩), .int .u8 10] w fun e w' => e = .returned .nilIface /\ Bd B b (l ++ [10]) w' /\ Below B w w' /\ Lib.OthersKept 5 (some b) w w' :=
 (Any.Builder_WriteByte_k Tryz.laysWB extraWB B b (Lib.byteCells l) 10 w h (by rw [Lib.byteCells_length]; omega) hB).mono fun _ _ ⟨h1, h2, h3, h4⟩ => ⟨h1, Or.inr (by rw [Lib.byteCells_append]; exact h2), h3, h4⟩
theorem own_others {b B n k : Nat} {t : TypeId} {v : Value} {cs : List Value} {w w' : World} (h : w.ownsRow B t k v n cs) (ho : Lib.OthersKept 5 (some b) w w') (hb : b < B) (ht : t ≠ 5) : w'.ownsRow B t k v n cs := by
 refine ⟨h.1, ?_⟩
 rcases h.2 with e | ⟨g, cap, cur, e, hB, hg, hr⟩
 ·exact Or.inl e
 ·exact Or.inr ⟨g, cap, cur, e, hB, ho g _ hg (fun e => by have := Option.some.inj e; omega) (fun c fz e => by cases e; exact ht rfl), hr⟩
theorem own_below {B n k c : Nat} {t : TypeId} {v : Value} {cs : List Value} {w w' : World} (h : w.ownsRow B t k v n cs) (hb : Below c w w') (hc : w.heap.size <= c) : w'.ownsRow B t k v n cs := by
 refine ⟨h.1, ?_⟩
 rcases h.2 with e | ⟨g, cap, cur, e, hB, hg, hr⟩
 ·exact Or.inl e
 ·exact Or.inr ⟨g, cap, cur, e, hB, (hb.block g (by have := (Array.getElem?_eq_some_iff.1 hg).1; omega)).trans hg, hr⟩
theorem ctext_c (bk : Nat) (ls : List Ln) (its : List It) (w : World) (h : CatAt w bk ls its) (hl : ls.length <= 100) (hx : ∀ i, i < ls.length -> LnOk (ls.getD i default)) (hw : Lw w) :
  Calls Tryz.prog 35 #[.pointer (some ⟨bk, 0, none⟩)] w fun e w' => e = .returned (.string ⟨(ctT ls).toArray⟩) /\ Below w.heap.size w w' := by
 obtain ⟨lv, iv, bm, h1, ⟨vs, hr, h2⟩, -, -⟩ := h
 have HB1 : Hid (Below w.heap.size w (w.alloc (.cells #[.pointer none, .slice none 0 0] 125))) := (Below.refl _ _).alloc (Nat.le_refl _) _
 have hs1 : (w.alloc (.cells #[.pointer none, .slice none 0 0] 125)).heap.size = w.heap.size + 1 := by simp
 have HBD := Lib.hid (bd_new w)
 have HLV := Lib.hid (lines_v bk bm lv iv ls vs _ (h1.below HB1.out h1.lt) (hr.below HB1.out (Nat.le_refl _)) (h2.below HB1.out (Nat.le_refl _)) (by omega))
 have HRG := Lib.hid hr
 have HW := Lib.hid hw
 have HSN := Lib.hid (ctT_snoc ls)
 have HCL := Lib.hid (ctT_len hx)
 have HX := Lib.hid hx
 have HTL : Hid (ctT (ls.take ls.length) = ctT ls) := by show _ = _; rw [List.take_length]
 have HS1 := Lib.hid hs1
 clear h1 h2 hr hw hx hs1
 go_enter Tryz.func35, Tryz.ntmps35
 go_wp2_with fail
 generalize w.alloc (.cells #[.pointer none, .slice none 0 0] 125) = W1 at *
 refine HLV.out.mono ?_
 rintro e W2 ⟨v', rfl, hown, hb2⟩
 have hS1 := HS1.out
 have HO2 : Hid (W2.ownsRow W1.heap.size 76 7 v' ls.length (lnCells ls vs)) := hown
 have HB2 : Hid (Below w.heap.size w W2) := HB1.out.trans (hb2.mono HB1.out.size)
 have HD2 : Hid (Bd w.heap.size w.heap.size [] W2) := HBD.out.below hb2 (Nat.le_refl _)
 obtain ⟨va, vc, rfl, -⟩ := (rowAt_own hown).form
 clear hown hb2 HLV HBD HS1
 go_wp2_with fail
 go_loopw [9] (fun kV wz => ∃ k : Nat, k <= ls.length /\ kV = .int .i64 (k : Int) /\ Bd w.heap.size w.heap.size (ctT (ls.take k)) wz /\ Below w.heap.size w wz /\ wz.ownsRow W1.heap.size 76 7 (.slice va ls.length vc) ls.length (lnCells ls vs)) (fun kV _ => ls.length - (intOf kV).toNat)
 case atStart => exact ⟨0, Nat.zero_le _, rfl, by simpa [ctT] using HD2.out, HB2.out, HO2.out⟩
 case round =>
  obtain ⟨k, hk, rfl, hbd, hbr, how⟩ := hrel
  have HD := Lib.hid hbd
  have HR := Lib.hid hbr
  have HO := Lib.hid how
  have hwz := hbr.size
  clear hbd hbr how HD2 HB2 HO2
  by_cases hlt : k < ls.length
  ·have hL : LnsAt wr (.slice va ls.length vc) ls := ⟨vs, HRG.out.below HR.out (Nat.le_refl _), rowAt_own HO.out⟩
   obtain ⟨g, cap', rv, e1, hg, hsp, hrg, c0, c1, c2, c3, c4, c5, c6⟩ := hL.at k hlt
   simp at e1
   obtain ⟨rfl, rfl⟩ := e1
   obtain ⟨ra, rc, rfl⟩ := hsp.form
   have hsn := HSN.out k hlt
   have hln := HCL.out (k + 1)
   rw [hsn, List.length_append, List.length_append] at hln
   have HLT := Lib.hid (fun W (hb : Below wr.heap.size wr W) => lntext_any (ls.getD k default) (HX.out k hlt) _ W ((HW.out.below HR.out).below hb) (hsp.below hb (Nat.le_refl _)))
   generalize ls.getD k default = X at *
   have kb := Blk.new wr 76 #[.int .i64 X.kind, .string X.name, .int .i64 X.a, .int .i64 X.b, .int .i64 X.c, .string X.other, .slice ra X.rng.length rc]
   have hA : Below wr.heap.size wr (wr.alloc (.cells #[.int .i64 X.kind, .string X.name, .int .i64 X.a, .int .i64 X.b, .int .i64 X.c, .string X.other, .slice ra X.rng.length rc] 76)) := (Below.refl _ _).alloc (Nat.le_refl _) _
   have HKB := Lib.hid kb
   have HA := Lib.hid hA
   have HSN1 := Lib.hid hsn
   have hln2 : (ctT (ls.take k)).length + (lnT X).length <= 100000000000000 := by omega
   have hln3 : (ctT (ls.take k) ++ lnT X).length + 1 <= 100000000000000 := by rw [List.length_append]; omega
   clear kb hA hsn hln hrg hsp
   generalize lnT X = LT at *
   obtain ⟨xk, xn, xa, xb, xc, xo, xr⟩ := X
   simp only at *
   generalize xr.length = RL at *
   go_wp2_with fail
   generalize wr.alloc (.cells #[.int .i64 xk, .string xn, .int .i64 xa, .int .i64 xb, .int .i64 xc, .string xo, .slice ra RL rc] 76) = W3 at *
   clear c0 c1 c2 c3 c4 c5 c6
   have c0 := HKB.out.cell 0
   have c1 := HKB.out.cell 1
   have c2 := HKB.out.cell 2
   have c3 := HKB.out.cell 3
   have c4 := HKB.out.cell 4
   have c5 := HKB.out.cell 5
   have c6 := HKB.out.cell 6
   go_wp2_with fail
   refine (HLT.out _ HA.out).mono ?_
   rintro e W4 ⟨rfl, hb4⟩
   have hB4 : Below wr.heap.size wr W4 := HA.out.trans (hb4.mono HA.out.size)
   have HD4 := Lib.hid (HD.out.below hB4 (Nat.le_refl _))
   have HO4 := Lib.hid (own_below HO.out hB4 (Nat.le_refl _))
   have HR4 : Hid (Below w.heap.size w W4) := HR.out.trans (hB4.mono hwz)
   have HWS := Lib.hid (bws14 _ _ _ LT W4 HD4.out hln2 HR4.out.size)
   clear hb4 hB4 HLT HA HKB HD HO HR HD4 c0 c1 c2 c3 c4 c5 c6
   go_wp2_with fail
   refine HWS.out.mono ?_
   rintro e W5 ⟨⟨x5, rfl⟩, hd5, hb5, ho5⟩
   have HR5 : Hid (Below w.heap.size w W5) := HR4.out.trans hb5
   have HO5 := Lib.hid (own_others HO4.out ho5 (by omega) (by decide))
   have HWB := Lib.hid (bwb14 _ _ _ W5 hd5 hln3 HR5.out.size)
   clear hd5 hb5 ho5 HO4 HR4 HWS
   go_wp2_with fail
   refine HWB.out.mono ?_
   rintro e W6 ⟨rfl, hd6, hb6, ho6⟩
   have HR6 : Hid (Below w.heap.size w W6) := HR5.out.trans hb6
   have HO6 := Lib.hid (own_others HO5.out ho6 (by omega) (by decide))
   have HD6 : Hid (Bd w.heap.size w.heap.size (ctT (ls.take (k + 1))) W6) := by rw [HSN1.out]; exact hd6
   clear hd6 hb6 ho6 HO5 HR5 HWB HSN1
   go_wp2
   go_roundw
   case rel => exact ⟨k + 1, by omega, by go_num, HD6.out, HR6.out, HO6.out⟩
   case measure => simp [intOf]; omega
  ·obtain rfl : k = ls.length := by omega
   have hb := HD.out
   rw [HTL.out] at hb
   have HFIN := Lib.hid (bstr _ _ _ _ hb hwz)
   clear hb HD
   go_wp2_with fail
   refine HFIN.out.mono ?_
   rintro e W3 ⟨rfl, hb3⟩
   have HBZ : Hid (Below w.heap.size w W3) := HR.out.trans hb3
   clear hb3
   go_wp2
   go_ret
   exact ⟨rfl, HBZ.out⟩
end Go.Proofs.YtmhophccdfmngaaGreatDoor
