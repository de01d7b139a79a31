/- Items, Lines. -/
import Derived.Test.YtmhophccdfmngaaGreatDoorCtLine
import Derived.Test.YtmhophccdfmngaaGreatDoorSvText
import Derived.Test.YtmhophccdfmngaaGreatDoorCtNew
set_option maxHeartbeats 2000000
set_option maxRecDepth 100000
namespace Go.Proofs.YtmhophccdfmngaaGreatDoor
section
open Go.RowKit Go.Shelf Sv
def lnT (x : Ln) : List UInt8 :=
 if x.kind = 1 then wl 1 ++ 32 :: (x.name.data.toList ++ 32 :: wtx x.a x.b x.c)
 else if x.kind = 2 then wl 2 ++ 32 :: (x.name.data.toList ++ 32 :: (wtx x.a x.b x.c ++ 32 :: (x.other.data.toList ++ 32 :: rgT x.rng)))
 else if x.kind = 3 then wl 3 ++ 32 :: (x.name.data.toList ++ 32 :: (wtx x.a x.b x.c ++ 32 :: (x.other.data.toList ++ 32 :: rgT x.rng)))
 else wl 4 ++ 32 :: (x.name.data.toList ++ 32 :: rgT x.rng)
theorem app_bytes (s t : ByteArray) : s ++ t = ⟨(s.data.toList ++ t.data.toList).toArray⟩ := by
 have hs : s = ⟨s.data.toList.toArray⟩ := by simp
 have ht : t = ⟨t.data.toList.toArray⟩ := by simp
 rw [hs, ht, app_str]
theorem itx_len (x : Int) (h : -9223372036854775808 <= x /\ x <= 9223372036854775807) : (Lib.itoa x).length <= 21 := Lib.itoa_length_le x (by omega) (by omega)
theorem wtx_len (x y z : Int) (hx : -9223372036854775808 <= x /\ x <= 9223372036854775807) (hy : -9223372036854775808 <= y /\ y <= 9223372036854775807) (hz : -9223372036854775808 <= z /\ z <= 9223372036854775807) : (wtx x y z).length <= 65 := by
 have h1 := itx_len x hx
 have h2 := itx_len y hy
 have h3 := itx_len z hz
 unfold wtx
 simp only [List.length_append, List.length_cons]; omega
theorem rgT_len {l : List Span} (hl : Rg l) : (rgT l).length <= 100000000000 := by
 have h1 := wrT_len hl l.length
 rw [List.take_length] at h1
 have h2 := rg_len hl
 unfold rgT
 split
 ·simp
 ·show (wrT l).length <= _
  omega
structure LnOk (x : Ln) : Prop where
 k1 : 1 <= x.kind
 k4 : x.kind <= 4
 nm : x.name.size <= 100000
 ot : x.other.size <= 100000
 a : -9223372036854775808 <= x.a /\ x.a <= 9223372036854775807
 b : -9223372036854775808 <= x.b /\ x.b <= 9223372036854775807
 c : -9223372036854775808 <= x.c /\ x.c <= 9223372036854775807
 rg : Rg x.rng
theorem lntext_1 (x : Ln) (hk : x.kind = 1) (hx : LnOk x) (v : Value) (w : World) (hw : Lw w) (hv : SpAt w v x.rng) : Calls Tryz.prog 90 #[.agg #[.int .i64 x.kind, .string x.name, .int .i64 x.a, .int .i64 x.b, .int .i64 x.c, .string x.other, v]] w fun e w' => e = .returned (.string ⟨(lnT x).toArray⟩) /\ Below w.heap.size w w' := by
 obtain ⟨va, vc, rfl⟩ := hv.form
 have hT : lnT x = wl 1 ++ 32 :: (x.name.data.toList ++ 32 :: wtx x.a x.b x.c) := by unfold lnT; simp [hk]
 have HB0 : Hid (Below w.heap.size w (w.alloc (.cells #[.int .i64 x.kind, .string x.name, .int .i64 x.a, .int .i64 x.b, .int .i64 x.c, .string x.other, .slice va x.rng.length vc] 76))) := (Below.refl _ w).alloc (Nat.le_refl _) _
 have k0 := Blk.new w 76 #[.int .i64 x.kind, .string x.name, .int .i64 x.a, .int .i64 x.b, .int .i64 x.c, .string x.other, .slice va x.rng.length vc]
 have HVT : Hid (∀ W, Below w.heap.size w W -> Calls Tryz.prog 119 #[.agg #[.int .i64 x.a, .int .i64 x.b, .int .i64 x.c]] W fun e w' => e = .returned (.string ⟨(wtx x.a x.b x.c).toArray⟩) /\ Below W.heap.size W w') := fun W hb => wtext_any _ _ _ hx.a hx.b hx.c W (hw.below hb).lb
 have HRT : Hid (∀ W, Below w.heap.size w W -> Calls Tryz.prog 16 #[.agg #[.slice va x.rng.length vc]] W fun e w' => e = .returned (.string ⟨(rgT x.rng).toArray⟩) /\ Below W.heap.size W w') := fun W hb => ptext_any _ hx.rg _ W (hw.below hb).lb (hv.below hb (Nat.le_refl _))
 have HPR : Hid (∀ W, Calls Tryz.prog 87 #[.agg #[.int .i64 x.kind, .string x.name, .int .i64 x.a, .int .i64 x.b, .int .i64 x.c, .string x.other, .slice va x.rng.length vc]] W fun e w' => e = .returned (.bool false) /\ Below W.heap.size W w') := fun W => (pair_any x _ W).mono fun e w' ⟨he, hw'⟩ => ⟨by rw [he]; congr 2; simp [Ln.pair, hk], by rw [hw']; exact (Below.refl _ _).alloc (Nat.le_refl _) _⟩
 have HWD := Lib.hid (fun W (hb : Below w.heap.size w W) => (hw.below hb).wd)
 have lVX := wtx_len _ _ _ hx.a hx.b hx.c
 have lRX := rgT_len hx.rg
 have hnm := hx.nm
 have hot := hx.ot
 have HK := Lib.hid k0
 clear hx hw hv k0
 rw [hk] at HPR HB0 HK ⊢
 obtain ⟨nm, ot, xa, xb, xc, rng, e1, e2, e3, e4, e5, e6⟩ : ∃ nm ot xa xb xc rng, x.name = nm /\ x.other = ot /\ x.a = xa /\ x.b = xb /\ x.c = xc /\ x.rng = rng := ⟨_, _, _, _, _, _, rfl, rfl, rfl, rfl, rfl, rfl⟩
 rw [e1, e2, e3, e4, e5, e6] at HPR HB0 HK ⊢
 rw [e3, e4, e5] at HVT
 rw [e6] at HRT lRX
 rw [e3, e4, e5] at lVX
 try rw [e1] at hT
 try rw [e2] at hT
 try rw [e3] at hT
 try rw [e4] at hT
 try rw [e5] at hT
 try rw [e6] at hT
 rw [e1] at hnm
 rw [e2] at hot
 clear hk e1 e2 e3 e4 e5 e6
 generalize lnT x = LT at *
 obtain ⟨VX, hVX⟩ : ∃ VX, wtx xa xb xc = VX := ⟨_, rfl⟩
 obtain ⟨RX, hRX⟩ : ∃ RX, rgT rng = RX := ⟨_, rfl⟩
 obtain ⟨RL, hRL⟩ : ∃ RL, rng.length = RL := ⟨_, rfl⟩
 rw [hVX] at HVT lVX
 rw [hRX] at HRT lRX
 rw [hRL] at HRT HPR HB0 HK ⊢
 try rw [hVX] at hT
 try rw [hRX] at hT
 have HT := Lib.hid hT
 clear hT hVX hRX hRL
 go_enter Tryz.func90, Tryz.ntmps90
 go_wp2_with fail
 generalize w.alloc (.cells #[.int .i64 1, .string nm, .int .i64 xa, .int .i64 xb, .int .i64 xc, .string ot, .slice va RL vc] 76) = W0 at *
 have KC : Hid (∀ W, Below W0.heap.size W0 W -> W.cell? ⟨w.heap.size, 0, none⟩ = some (.int .i64 1) /\ W.cell? ⟨w.heap.size, 1, none⟩ = some (.string nm) /\ W.cell? ⟨w.heap.size, 2, none⟩ = some (.int .i64 xa) /\ W.cell? ⟨w.heap.size, 3, none⟩ = some (.int .i64 xb) /\ W.cell? ⟨w.heap.size, 4, none⟩ = some (.int .i64 xc) /\ W.cell? ⟨w.heap.size, 5, none⟩ = some (.string ot) /\ W.cell? ⟨w.heap.size, 6, none⟩ = some (.slice va RL vc)) := fun W hb => ⟨(HK.out.below hb HK.out.lt).cell 0, (HK.out.below hb HK.out.lt).cell 1, (HK.out.below hb HK.out.lt).cell 2, (HK.out.below hb HK.out.lt).cell 3, (HK.out.below hb HK.out.lt).cell 4, (HK.out.below hb HK.out.lt).cell 5, (HK.out.below hb HK.out.lt).cell 6⟩
 have KW : Hid (∀ W, Below W0.heap.size W0 W -> Below w.heap.size w W) := fun W hb => HB0.out.trans (hb.mono HB0.out.size)
 have D0 : Below W0.heap.size W0 W0 := Below.refl _ _
 obtain ⟨c0, c1, c2, c3, c4, c5, c6⟩ := KC.out _ D0
 have gw : W0.cell? ⟨2, 1, none⟩ = some (.string ⟨#[112, 97, 99, 107, 97, 103, 101]⟩) := (HWD.out _ (KW.out _ D0)).c1
 go_big_region
 have B1 : Hid (Below W0.heap.size W0 W0.drew) := (Below.refl _ _).drew
 clear c0 c1 c2 c3 c4 c5 c6 gw D0 HK HB0
 obtain ⟨c0, c1, c2, c3, c4, c5, c6⟩ := KC.out _ B1.out
 generalize W0.drew = W1 at *
 go_wp2_with fail
 refine (HVT.out _ (KW.out _ B1.out)).mono ?_
 rintro e W2 ⟨rfl, hb⟩
 have B2 : Hid (Below W0.heap.size W0 W2) := B1.out.trans (hb.mono B1.out.size)
 clear hb c0 c1 c2 c3 c4 c5 c6
 obtain ⟨c0, c1, c2, c3, c4, c5, c6⟩ := KC.out _ B2.out
 go_wp2_with fail
 refine (HPR.out _).mono ?_
 rintro e W3 ⟨rfl, hb⟩
 have B3 : Hid (Below W0.heap.size W0 W3) := B2.out.trans (hb.mono B2.out.size)
 clear hb c0 c1 c2 c3 c4 c5 c6
 obtain ⟨c0, c1, c2, c3, c4, c5, c6⟩ := KC.out _ B3.out
 go_wp2
 go_ret
 refine ⟨congrArg (fun b => Ending.returned (.string b)) ?_, KW.out _ B3.out⟩
 rw [HT.out]
 simp only [app_bytes]
 simp [wl]
theorem lntext_2 (x : Ln) (hk : x.kind = 2) (hx : LnOk x) (v : Value) (w : World) (hw : Lw w) (hv : SpAt w v x.rng) : Calls Tryz.prog 90 #[.agg #[.int .i64 x.kind, .string x.name, .int .i64 x.a, .int .i64 x.b, .int .i64 x.c, .string x.other, v]] w fun e w' => e = .returned (.string ⟨(lnT x).toArray⟩) /\ Below w.heap.size w w' := by
 obtain ⟨va, vc, rfl⟩ := hv.form
 have hT : lnT x = wl 2 ++ 32 :: (x.name.data.toList ++ 32 :: (wtx x.a x.b x.c ++ 32 :: (x.other.data.toList ++ 32 :: rgT x.rng))) := by unfold lnT; simp [hk]
 have HB0 : Hid (Below w.heap.size w (w.alloc (.cells #[.int .i64 x.kind, .string x.name, .int .i64 x.a, .int .i64 x.b, .int .i64 x.c, .string x.other, .slice va x.rng.length vc] 76))) := (Below.refl _ w).alloc (Nat.le_refl _) _
 have k0 := Blk.new w 76 #[.int .i64 x.kind, .string x.name, .int .i64 x.a, .int .i64 x.b, .int .i64 x.c, .string x.other, .slice va x.rng.length vc]
 have HVT : Hid (∀ W, Below w.heap.size w W -> Calls Tryz.prog 119 #[.agg #[.int .i64 x.a, .int .i64 x.b, .int .i64 x.c]] W fun e w' => e = .returned (.string ⟨(wtx x.a x.b x.c).toArray⟩) /\ Below W.heap.size W w') := fun W hb => wtext_any _ _ _ hx.a hx.b hx.c W (hw.below hb).lb
 have HRT : Hid (∀ W, Below w.heap.size w W -> Calls Tryz.prog 16 #[.agg #[.slice va x.rng.length vc]] W fun e w' => e = .returned (.string ⟨(rgT x.rng).toArray⟩) /\ Below W.heap.size W w') := fun W hb => ptext_any _ hx.rg _ W (hw.below hb).lb (hv.below hb (Nat.le_refl _))
 have HPR : Hid (∀ W, Calls Tryz.prog 87 #[.agg #[.int .i64 x.kind, .string x.name, .int .i64 x.a, .int .i64 x.b, .int .i64 x.c, .string x.other, .slice va x.rng.length vc]] W fun e w' => e = .returned (.bool true) /\ Below W.heap.size W w') := fun W => (pair_any x _ W).mono fun e w' ⟨he, hw'⟩ => ⟨by rw [he]; congr 2; simp [Ln.pair, hk], by rw [hw']; exact (Below.refl _ _).alloc (Nat.le_refl _) _⟩
 have HWD := Lib.hid (fun W (hb : Below w.heap.size w W) => (hw.below hb).wd)
 have lVX := wtx_len _ _ _ hx.a hx.b hx.c
 have lRX := rgT_len hx.rg
 have hnm := hx.nm
 have hot := hx.ot
 have HK := Lib.hid k0
 clear hx hw hv k0
 rw [hk] at HPR HB0 HK ⊢
 obtain ⟨nm, ot, xa, xb, xc, rng, e1, e2, e3, e4, e5, e6⟩ : ∃ nm ot xa xb xc rng, x.name = nm /\ x.other = ot /\ x.a = xa /\ x.b = xb /\ x.c = xc /\ x.rng = rng := ⟨_, _, _, _, _, _, rfl, rfl, rfl, rfl, rfl, rfl⟩
 rw [e1, e2, e3, e4, e5, e6] at HPR HB0 HK ⊢
 rw [e3, e4, e5] at HVT
 rw [e6] at HRT lRX
 rw [e3, e4, e5] at lVX
 try rw [e1] at hT
 try rw [e2] at hT
 try rw [e3] at hT
 try rw [e4] at hT
 try rw [e5] at hT
 try rw [e6] at hT
 rw [e1] at hnm
 rw [e2] at hot
 clear hk e1 e2 e3 e4 e5 e6
 generalize lnT x = LT at *
 obtain ⟨VX, hVX⟩ : ∃ VX, wtx xa xb xc = VX := ⟨_, rfl⟩
 obtain ⟨RX, hRX⟩ : ∃ RX, rgT rng = RX := ⟨_, rfl⟩
 obtain ⟨RL, hRL⟩ : ∃ RL, rng.length = RL := ⟨_, rfl⟩
 rw [hVX] at HVT lVX
 rw [hRX] at HRT lRX
 rw [hRL] at HRT HPR HB0 HK ⊢
 try rw [hVX] at hT
 try rw [hRX] at hT
 have HT := Lib.hid hT
 clear hT hVX hRX hRL
 go_enter Tryz.func90, Tryz.ntmps90
 go_wp2_with fail
 generalize w.alloc (.cells #[.int .i64 2, .string nm, .int .i64 xa, .int .i64 xb, .int .i64 xc, .string ot, .slice va RL vc] 76) = W0 at *
 have KC : Hid (∀ W, Below W0.heap.size W0 W -> W.cell? ⟨w.heap.size, 0, none⟩ = some (.int .i64 2) /\ W.cell? ⟨w.heap.size, 1, none⟩ = some (.string nm) /\ W.cell? ⟨w.heap.size, 2, none⟩ = some (.int .i64 xa) /\ W.cell? ⟨w.heap.size, 3, none⟩ = some (.int .i64 xb) /\ W.cell? ⟨w.heap.size, 4, none⟩ = some (.int .i64 xc) /\ W.cell? ⟨w.heap.size, 5, none⟩ = some (.string ot) /\ W.cell? ⟨w.heap.size, 6, none⟩ = some (.slice va RL vc)) := fun W hb => ⟨(HK.out.below hb HK.out.lt).cell 0, (HK.out.below hb HK.out.lt).cell 1, (HK.out.below hb HK.out.lt).cell 2, (HK.out.below hb HK.out.lt).cell 3, (HK.out.below hb HK.out.lt).cell 4, (HK.out.below hb HK.out.lt).cell 5, (HK.out.below hb HK.out.lt).cell 6⟩
 have KW : Hid (∀ W, Below W0.heap.size W0 W -> Below w.heap.size w W) := fun W hb => HB0.out.trans (hb.mono HB0.out.size)
 have D0 : Below W0.heap.size W0 W0 := Below.refl _ _
 obtain ⟨c0, c1, c2, c3, c4, c5, c6⟩ := KC.out _ D0
 have gw : W0.cell? ⟨2, 2, none⟩ = some (.string ⟨#[110, 101, 101, 100, 115]⟩) := (HWD.out _ (KW.out _ D0)).c2
 go_big_region
 have B1 : Hid (Below W0.heap.size W0 W0.drew) := (Below.refl _ _).drew
 clear c0 c1 c2 c3 c4 c5 c6 gw D0 HK HB0
 obtain ⟨c0, c1, c2, c3, c4, c5, c6⟩ := KC.out _ B1.out
 generalize W0.drew = W1 at *
 go_wp2_with fail
 refine (HVT.out _ (KW.out _ B1.out)).mono ?_
 rintro e W2 ⟨rfl, hb⟩
 have B2 : Hid (Below W0.heap.size W0 W2) := B1.out.trans (hb.mono B1.out.size)
 clear hb c0 c1 c2 c3 c4 c5 c6
 obtain ⟨c0, c1, c2, c3, c4, c5, c6⟩ := KC.out _ B2.out
 go_wp2_with fail
 refine (HPR.out _).mono ?_
 rintro e W3 ⟨rfl, hb⟩
 have B3 : Hid (Below W0.heap.size W0 W3) := B2.out.trans (hb.mono B2.out.size)
 clear hb c0 c1 c2 c3 c4 c5 c6
 obtain ⟨c0, c1, c2, c3, c4, c5, c6⟩ := KC.out _ B3.out
 go_wp2_with fail
 refine (HRT.out _ (KW.out _ B3.out)).mono ?_
 rintro e W4 ⟨rfl, hb⟩
 have B4 : Hid (Below W0.heap.size W0 W4) := B3.out.trans (hb.mono B3.out.size)
 clear hb c0 c1 c2 c3 c4 c5 c6
 obtain ⟨c0, c1, c2, c3, c4, c5, c6⟩ := KC.out _ B4.out
 go_wp2
 go_ret
 refine ⟨congrArg (fun b => Ending.returned (.string b)) ?_, KW.out _ B4.out⟩
 rw [HT.out]
 simp only [app_bytes]
 simp [wl]
theorem lntext_3 (x : Ln) (hk : x.kind = 3) (hx : LnOk x) (v : Value) (w : World) (hw : Lw w) (hv : SpAt w v x.rng) : Calls Tryz.prog 90 #[.agg #[.int .i64 x.kind, .string x.name, .int .i64 x.a, .int .i64 x.b, .int .i64 x.c, .string x.other, v]] w fun e w' => e = .returned (.string ⟨(lnT x).toArray⟩) /\ Below w.heap.size w w' := by
 obtain ⟨va, vc, rfl⟩ := hv.form
 have hT : lnT x = wl 3 ++ 32 :: (x.name.data.toList ++ 32 :: (wtx x.a x.b x.c ++ 32 :: (x.other.data.toList ++ 32 :: rgT x.rng))) := by unfold lnT; simp [hk]
 have HB0 : Hid (Below w.heap.size w (w.alloc (.cells #[.int .i64 x.kind, .string x.name, .int .i64 x.a, .int .i64 x.b, .int .i64 x.c, .string x.other, .slice va x.rng.length vc] 76))) := (Below.refl _ w).alloc (Nat.le_refl _) _
 have k0 := Blk.new w 76 #[.int .i64 x.kind, .string x.name, .int .i64 x.a, .int .i64 x.b, .int .i64 x.c, .string x.other, .slice va x.rng.length vc]
 have HVT : Hid (∀ W, Below w.heap.size w W -> Calls Tryz.prog 119 #[.agg #[.int .i64 x.a, .int .i64 x.b, .int .i64 x.c]] W fun e w' => e = .returned (.string ⟨(wtx x.a x.b x.c).toArray⟩) /\ Below W.heap.size W w') := fun W hb => wtext_any _ _ _ hx.a hx.b hx.c W (hw.below hb).lb
 have HRT : Hid (∀ W, Below w.heap.size w W -> Calls Tryz.prog 16 #[.agg #[.slice va x.rng.length vc]] W fun e w' => e = .returned (.string ⟨(rgT x.rng).toArray⟩) /\ Below W.heap.size W w') := fun W hb => ptext_any _ hx.rg _ W (hw.below hb).lb (hv.below hb (Nat.le_refl _))
 have HPR : Hid (∀ W, Calls Tryz.prog 87 #[.agg #[.int .i64 x.kind, .string x.name, .int .i64 x.a, .int .i64 x.b, .int .i64 x.c, .string x.other, .slice va x.rng.length vc]] W fun e w' => e = .returned (.bool true) /\ Below W.heap.size W w') := fun W => (pair_any x _ W).mono fun e w' ⟨he, hw'⟩ => ⟨by rw [he]; congr 2; simp [Ln.pair, hk], by rw [hw']; exact (Below.refl _ _).alloc (Nat.le_refl _) _⟩
 have HWD := Lib.hid (fun W (hb : Below w.heap.size w W) => (hw.below hb).wd)
 have lVX := wtx_len _ _ _ hx.a hx.b hx.c
 have lRX := rgT_len hx.rg
 have hnm := hx.nm
 have hot := hx.ot
 have HK := Lib.hid k0
 clear hx hw hv k0
 rw [hk] at HPR HB0 HK ⊢
 obtain ⟨nm, ot, xa, xb, xc, rng, e1, e2, e3, e4, e5, e6⟩ : ∃ nm ot xa xb xc rng, x.name = nm /\ x.other = ot /\ x.a = xa /\ x.b = xb /\ x.c = xc /\ x.rng = rng := ⟨_, _, _, _, _, _, rfl, rfl, rfl, rfl, rfl, rfl⟩
 rw [e1, e2, e3, e4, e5, e6] at HPR HB0 HK ⊢
 rw [e3, e4, e5] at HVT
 rw [e6] at HRT lRX
 rw [e3, e4, e5] at lVX
 try rw [e1] at hT
 try rw [e2] at hT
 try rw [e3] at hT
 try rw [e4] at hT
 try rw [e5] at hT
 try rw [e6] at hT
 rw [e1] at hnm
 rw [e2] at hot
 clear hk e1 e2 e3 e4 e5 e6
 generalize lnT x = LT at *
 obtain ⟨VX, hVX⟩ : ∃ VX, wtx xa xb xc = VX := ⟨_, rfl⟩
 obtain ⟨RX, hRX⟩ : ∃ RX, rgT rng = RX := ⟨_, rfl⟩
 obtain ⟨RL, hRL⟩ : ∃ RL, rng.length = RL := ⟨_, rfl⟩
 rw [hVX] at HVT lVX
 rw [hRX] at HRT lRX
 rw [hRL] at HRT HPR HB0 HK ⊢
 try rw [hVX] at hT
 try rw [hRX] at hT
 have HT := Lib.hid hT
 clear hT hVX hRX hRL
 go_enter Tryz.func90, Tryz.ntmps90
 go_wp2_with fail
 generalize w.alloc (.cells #[.int .i64 3, .string nm, .int .i64 xa, .int .i64 xb, .int .i64 xc, .string ot, .slice va RL vc] 76) = W0 at *
 have KC : Hid (∀ W, Below W0.heap.size W0 W -> W.cell? ⟨w.heap.size, 0, none⟩ = some (.int .i64 3) /\ W.cell? ⟨w.heap.size, 1, none⟩ = some (.string nm) /\ W.cell? ⟨w.heap.size, 2, none⟩ = some (.int .i64 xa) /\ W.cell? ⟨w.heap.size, 3, none⟩ = some (.int .i64 xb) /\ W.cell? ⟨w.heap.size, 4, none⟩ = some (.int .i64 xc) /\ W.cell? ⟨w.heap.size, 5, none⟩ = some (.string ot) /\ W.cell? ⟨w.heap.size, 6, none⟩ = some (.slice va RL vc)) := fun W hb => ⟨(HK.out.below hb HK.out.lt).cell 0, (HK.out.below hb HK.out.lt).cell 1, (HK.out.below hb HK.out.lt).cell 2, (HK.out.below hb HK.out.lt).cell 3, (HK.out.below hb HK.out.lt).cell 4, (HK.out.below hb HK.out.lt).cell 5, (HK.out.below hb HK.out.lt).cell 6⟩
 have KW : Hid (∀ W, Below W0.heap.size W0 W -> Below w.heap.size w W) := fun W hb => HB0.out.trans (hb.mono HB0.out.size)
 have D0 : Below W0.heap.size W0 W0 := Below.refl _ _
 obtain ⟨c0, c1, c2, c3, c4, c5, c6⟩ := KC.out _ D0
 have gw : W0.cell? ⟨2, 3, none⟩ = some (.string ⟨#[99, 108, 97, 115, 104, 101, 115]⟩) := (HWD.out _ (KW.out _ D0)).c3
 go_big_region
 have B1 : Hid (Below W0.heap.size W0 W0.drew) := (Below.refl _ _).drew
 clear c0 c1 c2 c3 c4 c5 c6 gw D0 HK HB0
 obtain ⟨c0, c1, c2, c3, c4, c5, c6⟩ := KC.out _ B1.out
 generalize W0.drew = W1 at *
 go_wp2_with fail
 refine (HVT.out _ (KW.out _ B1.out)).mono ?_
 rintro e W2 ⟨rfl, hb⟩
 have B2 : Hid (Below W0.heap.size W0 W2) := B1.out.trans (hb.mono B1.out.size)
 clear hb c0 c1 c2 c3 c4 c5 c6
 obtain ⟨c0, c1, c2, c3, c4, c5, c6⟩ := KC.out _ B2.out
 go_wp2_with fail
 refine (HPR.out _).mono ?_
 rintro e W3 ⟨rfl, hb⟩
 have B3 : Hid (Below W0.heap.size W0 W3) := B2.out.trans (hb.mono B2.out.size)
 clear hb c0 c1 c2 c3 c4 c5 c6
 obtain ⟨c0, c1, c2, c3, c4, c5, c6⟩ := KC.out _ B3.out
 go_wp2_with fail
 refine (HRT.out _ (KW.out _ B3.out)).mono ?_
 rintro e W4 ⟨rfl, hb⟩
 have B4 : Hid (Below W0.heap.size W0 W4) := B3.out.trans (hb.mono B3.out.size)
 clear hb c0 c1 c2 c3 c4 c5 c6
 obtain ⟨c0, c1, c2, c3, c4, c5, c6⟩ := KC.out _ B4.out
 go_wp2
 go_ret
 refine ⟨congrArg (fun b => Ending.returned (.string b)) ?_, KW.out _ B4.out⟩
 rw [HT.out]
 simp only [app_bytes]
 simp [wl]
theorem lntext_4 (x : Ln) (hk : x.kind = 4) (hx : LnOk x) (v : Value) (w : World) (hw : Lw w) (hv : SpAt w v x.rng) : Calls Tryz.prog 90 #[.agg #[.int .i64 x.kind, .string x.name, .int .i64 x.a, .int .i64 x.b, .int .i64 x.c, .string x.other, v]] w fun e w' => e = .returned (.string ⟨(lnT x).toArray⟩) /\ Below w.heap.size w w' := by
 obtain ⟨va, vc, rfl⟩ := hv.form
 have hT : lnT x = wl 4 ++ 32 :: (x.name.data.toList ++ 32 :: rgT x.rng) := by unfold lnT; simp [hk]
 have HB0 : Hid (Below w.heap.size w (w.alloc (.cells #[.int .i64 x.kind, .string x.name, .int .i64 x.a, .int .i64 x.b, .int .i64 x.c, .string x.other, .slice va x.rng.length vc] 76))) := (Below.refl _ w).alloc (Nat.le_refl _) _
 have k0 := Blk.new w 76 #[.int .i64 x.kind, .string x.name, .int .i64 x.a, .int .i64 x.b, .int .i64 x.c, .string x.other, .slice va x.rng.length vc]
 have HVT : Hid (∀ W, Below w.heap.size w W -> Calls Tryz.prog 119 #[.agg #[.int .i64 x.a, .int .i64 x.b, .int .i64 x.c]] W fun e w' => e = .returned (.string ⟨(wtx x.a x.b x.c).toArray⟩) /\ Below W.heap.size W w') := fun W hb => wtext_any _ _ _ hx.a hx.b hx.c W (hw.below hb).lb
 have HRT : Hid (∀ W, Below w.heap.size w W -> Calls Tryz.prog 16 #[.agg #[.slice va x.rng.length vc]] W fun e w' => e = .returned (.string ⟨(rgT x.rng).toArray⟩) /\ Below W.heap.size W w') := fun W hb => ptext_any _ hx.rg _ W (hw.below hb).lb (hv.below hb (Nat.le_refl _))
 have HPR : Hid (∀ W, Calls Tryz.prog 87 #[.agg #[.int .i64 x.kind, .string x.name, .int .i64 x.a, .int .i64 x.b, .int .i64 x.c, .string x.other, .slice va x.rng.length vc]] W fun e w' => e = .returned (.bool false) /\ Below W.heap.size W w') := fun W => (pair_any x _ W).mono fun e w' ⟨he, hw'⟩ => ⟨by rw [he]; congr 2; simp [Ln.pair, hk], by rw [hw']; exact (Below.refl _ _).alloc (Nat.le_refl _) _⟩
 have HWD := Lib.hid (fun W (hb : Below w.heap.size w W) => (hw.below hb).wd)
 have lVX := wtx_len _ _ _ hx.a hx.b hx.c
 have lRX := rgT_len hx.rg
 have hnm := hx.nm
 have hot := hx.ot
 have HK := Lib.hid k0
 clear hx hw hv k0
 rw [hk] at HPR HB0 HK ⊢
 obtain ⟨nm, ot, xa, xb, xc, rng, e1, e2, e3, e4, e5, e6⟩ : ∃ nm ot xa xb xc rng, x.name = nm /\ x.other = ot /\ x.a = xa /\ x.b = xb /\ x.c = xc /\ x.rng = rng := ⟨_, _, _, _, _, _, rfl, rfl, rfl, rfl, rfl, rfl⟩
 rw [e1, e2, e3, e4, e5, e6] at HPR HB0 HK ⊢
 rw [e3, e4, e5] at HVT
 rw [e6] at HRT lRX
 rw [e3, e4, e5] at lVX
 try rw [e1] at hT
 try rw [e2] at hT
 try rw [e3] at hT
 try rw [e4] at hT
 try rw [e5] at hT
 try rw [e6] at hT
 rw [e1] at hnm
 rw [e2] at hot
 clear hk e1 e2 e3 e4 e5 e6
 generalize lnT x = LT at *
 obtain ⟨VX, hVX⟩ : ∃ VX, wtx xa xb xc = VX := ⟨_, rfl⟩
 obtain ⟨RX, hRX⟩ : ∃ RX, rgT rng = RX := ⟨_, rfl⟩
 obtain ⟨RL, hRL⟩ : ∃ RL, rng.length = RL := ⟨_, rfl⟩
 rw [hVX] at HVT lVX
 rw [hRX] at HRT lRX
 rw [hRL] at HRT HPR HB0 HK ⊢
 try rw [hVX] at hT
 try rw [hRX] at hT
 have HT := Lib.hid hT
 clear hT hVX hRX hRL
 go_enter Tryz.func90, Tryz.ntmps90
 go_wp2_with fail
 generalize w.alloc (.cells #[.int .i64 4, .string nm, .int .i64 xa, .int .i64 xb, .int .i64 xc, .string ot, .slice va RL vc] 76) = W0 at *
 have KC : Hid (∀ W, Below W0.heap.size W0 W -> W.cell? ⟨w.heap.size, 0, none⟩ = some (.int .i64 4) /\ W.cell? ⟨w.heap.size, 1, none⟩ = some (.string nm) /\ W.cell? ⟨w.heap.size, 2, none⟩ = some (.int .i64 xa) /\ W.cell? ⟨w.heap.size, 3, none⟩ = some (.int .i64 xb) /\ W.cell? ⟨w.heap.size, 4, none⟩ = some (.int .i64 xc) /\ W.cell? ⟨w.heap.size, 5, none⟩ = some (.string ot) /\ W.cell? ⟨w.heap.size, 6, none⟩ = some (.slice va RL vc)) := fun W hb => ⟨(HK.out.below hb HK.out.lt).cell 0, (HK.out.below hb HK.out.lt).cell 1, (HK.out.below hb HK.out.lt).cell 2, (HK.out.below hb HK.out.lt).cell 3, (HK.out.below hb HK.out.lt).cell 4, (HK.out.below hb HK.out.lt).cell 5, (HK.out.below hb HK.out.lt).cell 6⟩
 have KW : Hid (∀ W, Below W0.heap.size W0 W -> Below w.heap.size w W) := fun W hb => HB0.out.trans (hb.mono HB0.out.size)
 have D0 : Below W0.heap.size W0 W0 := Below.refl _ _
 obtain ⟨c0, c1, c2, c3, c4, c5, c6⟩ := KC.out _ D0
 have gw : W0.cell? ⟨2, 4, none⟩ = some (.string ⟨#[114, 111, 111, 116]⟩) := (HWD.out _ (KW.out _ D0)).c4
 go_big_region
 have B1 : Hid (Below W0.heap.size W0 W0.drew) := (Below.refl _ _).drew
 clear c0 c1 c2 c3 c4 c5 c6 gw D0 HK HB0
 obtain ⟨c0, c1, c2, c3, c4, c5, c6⟩ := KC.out _ B1.out
 generalize W0.drew = W1 at *
 go_wp2_with fail
 refine (HPR.out _).mono ?_
 rintro e W2 ⟨rfl, hb⟩
 have B2 : Hid (Below W0.heap.size W0 W2) := B1.out.trans (hb.mono B1.out.size)
 clear hb c0 c1 c2 c3 c4 c5 c6
 obtain ⟨c0, c1, c2, c3, c4, c5, c6⟩ := KC.out _ B2.out
 go_wp2_with fail
 refine (HRT.out _ (KW.out _ B2.out)).mono ?_
 rintro e W3 ⟨rfl, hb⟩
 have B3 : Hid (Below W0.heap.size W0 W3) := B2.out.trans (hb.mono B2.out.size)
 clear hb c0 c1 c2 c3 c4 c5 c6
 obtain ⟨c0, c1, c2, c3, c4, c5, c6⟩ := KC.out _ B3.out
 go_wp2
 go_ret
 refine ⟨congrArg (fun b => Ending.returned (.string b)) ?_, KW.out _ B3.out⟩
 rw [HT.out]
 simp only [app_bytes]
 simp [wl]
theorem lntext_any (x : Ln) (hx : LnOk x) (v : Value) (w : World) (hw : Lw w) (hv : SpAt w v x.rng) : Calls Tryz.prog 90 #[.agg #[.int .i64 x.kind, .string x.name, .int .i64 x.a, .int .i64 x.b, .int .i64 x.c, .string x.other, v]] w fun e w' => e = .returned (.string ⟨(lnT x).toArray⟩) /\ Below w.heap.size w w' := by
 have h1 := hx.k1
 have h4 := hx.k4
 have h : x.kind = 1 \/ x.kind = 2 \/ x.kind = 3 \/ x.kind = 4 := by omega
 rcases h with h | h | h | h
 ·exact lntext_1 x h hx v w hw hv
 ·exact lntext_2 x h hx v w hw hv
 ·exact lntext_3 x h hx v w hw hv
 ·exact lntext_4 x h hx v w hw hv
end
section
open Go.RowKit Go.Deep Sv
theorem items_c (bk : Nat) (ls : List Ln) (its : List It) (w : World) (h : CatAt w bk ls its) (hl : its.length <= 100000) :
  Calls Tryz.prog 33 #[.pointer (some ⟨bk, 0, none⟩)] w fun e w' => ∃ v', e = .returned v' /\ w'.ownsRow w.heap.size 71 4 v' its.length (itCells its) /\ Below w.heap.size w w' := by
 obtain ⟨lv, iv, bm, h1, h2, h3, h4⟩ := h
 have HI := Lib.hid (clone_its its iv w h3 hl)
 obtain ⟨va, vc, rfl, -⟩ := h3.form
 have c1 : w.cell? ⟨bk, 1, none⟩ = some (.slice va its.length vc) := h1.cell 1
 clear h1 h2 h3 h4 hl
 go_enter Tryz.func33, Tryz.ntmps33
 go_wp2_with fail
 refine HI.out.mono ?_
 rintro e w1 ⟨v', rfl, hrow, hb1⟩
 have HR := Lib.hid hrow
 have HB1 := Lib.hid hb1
 clear hb1 HI hrow c1
 go_wp2
 go_ret
 exact ⟨v', rfl, HR.out, HB1.out⟩
theorem lines_c (bk : Nat) (ls : List Ln) (its : List It) (w : World) (h : CatAt w bk ls its) (hl : ls.length <= 100000) :
  Calls Tryz.prog 34 #[.pointer (some ⟨bk, 0, none⟩)] w fun e w' => ∃ v', e = .returned v' /\ LnsAt w' v' ls /\ Below w.heap.size w w' := by
 obtain ⟨lv, iv, bm, h1, ⟨vs, h2, h2'⟩, h3, h4⟩ := h
 have HI := Lib.hid (clone_lns ls vs h2.1 h2.one lv w h2' hl)
 obtain ⟨va, vc, rfl, -⟩ := h2'.form
 have c0 : w.cell? ⟨bk, 0, none⟩ = some (.slice va ls.length vc) := h1.cell 0
 have HRG := Lib.hid h2
 clear h1 h2 h2' h3 h4 hl
 go_enter Tryz.func34, Tryz.ntmps34
 go_wp2_with fail
 refine HI.out.mono ?_
 rintro e w1 ⟨v', rfl, hrow, hb1⟩
 have HR : Hid (LnsAt w1 v' ls) := ⟨vs, HRG.out.below hb1 (Nat.le_refl _), rowAt_own hrow⟩
 have HB1 := Lib.hid hb1
 clear hb1 HI hrow c0
 go_wp2
 go_ret
 exact ⟨v', rfl, HR.out, HB1.out⟩
theorem ctRowO_bound (name : ByteArray) : ∀ (l : List It) (r : Nat × Nat), ctRowO l name = some r -> r.1 < r.2 /\ r.2 <= l.length := by
 intro l
 induction h : l.length generalizing l with
 | zero =>
  intro r hr
  obtain rfl : l = [] := List.eq_nil_of_length_eq_zero h
  cases hr
 | succ n ih =>
  intro r hr
  obtain ⟨l', x, rfl⟩ : ∃ l' x, l = l' ++ [x] := by
   rcases List.eq_nil_or_concat l with e | ⟨l', x, e⟩
   ·subst e; simp at h
   ·exact ⟨l', x, by rw [e, List.concat_eq_append]⟩
  have hl' : l'.length = n := by simpa using h
  rw [ctRowO_snoc] at hr
  split at hr
  ·cases hr
   cases hf : ctRowO l' name with
   | none => simp [hl']
   | some r' =>
    have := ih l' hl' r' hf
    simp [hl']
    omega
  ·have := ih l' hl' r hr
   omega
theorem ctRow_bound (its : List It) (name : ByteArray) : (ctRow its name).1 <= (ctRow its name).2 /\ (ctRow its name).2 <= its.length := by
 unfold ctRow
 cases h : ctRowO its name with
 | none => simp
 | some r => have := ctRowO_bound name its r h; simp; omega
open Classical in
noncomputable def amP (its : List It) (name : ByteArray) (rng : List Span) (i : Nat) : List Nat :=
 (List.range' (ctRow its name).1 (i - (ctRow its name).1)).filter fun i => decide (hasF rng (its.getD i default))
theorem amP_start (its : List It) (name : ByteArray) (rng : List Span) : amP its name rng (ctRow its name).1 = [] := by unfold amP; simp
theorem amP_end (its : List It) (name : ByteArray) (rng : List Span) : amP its name rng (ctRow its name).2 = amongF its name rng := rfl
open Classical in
theorem amP_succ (its : List It) (name : ByteArray) (rng : List Span) {i : Nat} (hi : (ctRow its name).1 <= i) : amP its name rng (i + 1) = amP its name rng i ++ (if hasF rng (its.getD i default) then [i] else []) := by
 unfold amP
 rw [show i + 1 - (ctRow its name).1 = (i - (ctRow its name).1) + 1 by omega, List.range'_concat, List.filter_append, Nat.one_mul, show (ctRow its name).1 + (i - (ctRow its name).1) = i by omega]
 congr 1
 by_cases h : hasF rng (its.getD i default)
 ·rw [if_pos h]; simp only [List.filter_cons, List.filter_nil, decide_eq_true h, if_true]
 ·rw [if_neg h]; simp only [List.filter_cons, List.filter_nil, decide_eq_false h, Bool.false_eq_true, if_false]
theorem amP_len (its : List It) (name : ByteArray) (rng : List Span) (i : Nat) : (amP its name rng i).length <= i := by
 unfold amP
 refine Nat.le_trans (List.length_filter_le _ _) ?_
 rw [List.length_range']; omega
end
end Go.Proofs.YtmhophccdfmngaaGreatDoor
