/- What strings.Split makes is the pieces. -/
import Derived.Test.YtmhophccdfmngaaGreatDoorCtTextL
import Derived.Test.YtmhophccdfmngaaGreatDoorCtRuledP
import Derived.Test.YtmhophccdfmngaaGreatDoorSvWText
import Derived.Lib.Split
import Derived.Lib.CountLaws
set_option maxHeartbeats 2000000
set_option maxRecDepth 100000
namespace Go.Proofs.YtmhophccdfmngaaGreatDoor
open Go.RowKit Go.Shelf Sv
def ctT (ls : List Ln) : List UInt8 := (ls.map fun x => lnT x ++ [10]).flatten
theorem ctT_snoc (ls : List Ln) (k : Nat) (hk : k < ls.length) : ctT (ls.take (k + 1)) = ctT (ls.take k) ++ lnT (ls.getD k default) ++ [10] := by
 unfold ctT
 rw [List.take_succ_eq_append_getElem hk, List.map_append, List.flatten_append]
 have e : ls.getD k default = ls[k] := by simp [List.getD_eq_getElem?_getD, List.getElem?_eq_getElem hk]
 rw [e]
 simp
theorem lnT_len {x : Ln} (h : LnOk x) : (lnT x).length <= 100000300000 := by
 have h1 := wtx_len _ _ _ h.a h.b h.c
 have h2 := rgT_len h.rg
 have h3 : x.name.data.toList.length <= 100000 := by have := h.nm; rw [Array.length_toList]; exact this
 have h4 : x.other.data.toList.length <= 100000 := by have := h.ot; rw [Array.length_toList]; exact this
 have w1 : (wl 1).length = 7 := rfl
 have w2 : (wl 2).length = 5 := rfl
 have w3 : (wl 3).length = 7 := rfl
 have w4 : (wl 4).length = 4 := rfl
 unfold lnT
 split
 ·simp only [List.length_append, List.length_cons]; omega
 ·split
  ·simp only [List.length_append, List.length_cons]; omega
  ·split
   ·simp only [List.length_append, List.length_cons]; omega
   ·simp only [List.length_append, List.length_cons]; omega
theorem ctT_len {ls : List Ln} (h : ∀ i, i < ls.length -> LnOk (ls.getD i default)) : ∀ k, (ctT (ls.take k)).length <= 100000300001 * k := by
 intro k
 induction k with
 | zero => simp [ctT]
 | succ k ih =>
  by_cases hk : k < ls.length
  ·rw [ctT_snoc ls k hk, List.length_append, List.length_append]
   have := lnT_len (h k hk)
   simp only [List.length_cons, List.length_nil]
   omega
  ·rw [List.take_of_length_le (by omega)]
   rw [List.take_of_length_le (by omega)] at ih
   omega
theorem bws14 (B b : Nat) (l s : List UInt8) (w : World) (h : Bd B b l w) (hlen : l.length + s.length <= 100000000000000) (hB : B <= w.heap.size) :
  Calls Tryz.prog 65 #[.pointer (some ⟨b, 0, none⟩), .string ⟨s.toArray⟩] w fun e w' => (∃ x, e = .returned (.tuple #[.int .i64 x, .nilIface])) /\ Bd B b (l ++ s) w' /\ Below B w w' /\ Lib.OthersKept 5 (some b) w w' :=
 (Any.Builder_WriteString_k Tryz.laysWS Tryz.Builder_Extra_156 B b (Lib.byteCells l) ⟨s.toArray⟩ w h (by rw [Lib.byteCells_length]; show l.length + s.toArray.size <= _; simp; omega) hB).mono fun _ _ ⟨h1, h2, h3, h4⟩ => ⟨⟨_, h1⟩, Or.inr (by rw [Lib.byteCells_append]; exact h2), h3, h4⟩
theorem extraWB : Builder.Extra Tryz.prog Tryz.laysWB_ren :=
 { sizeBuilder := Tryz.Builder_Extra_156.sizeBuilder, liesBuilder := Tryz.Builder_Extra_156.liesBuilder, t5 := Tryz.Builder_Extra_156.t5, a5 := Tryz.Builder_Extra_156.a5, z5 := Tryz.Builder_Extra_156.z5, v5 := Tryz.Builder_Extra_156.v5, infoByte := Tryz.Builder_Extra_156.infoByte, cellsByte := Tryz.Builder_Extra_156.cellsByte, sizeByte := Tryz.Builder_Extra_156.sizeByte, neB5 := Tryz.Builder_Extra_156.neB5 }
theorem bwb14 (B b : Nat) (l : List UInt8) (w : World) (h : Bd B b l w) (hlen : l.length + 1 <= 100000000000000) (hB : B <= w.heap.size) :
  Calls Tryz.prog 91 #[.pointer (some ⟨b, 0, none⟩), .int .u8 10] w fun e w' => e = .returned .nilIface /\ Bd B b (l ++ [10]) w' /\ Below B w w' /\ Lib.OthersKept 5 (some b) w w' :=
 (Any.Builder_WriteByte_k Tryz.laysWB extraWB B b (Lib.byteCells l) 10 w h (by rw [Lib.byteCells_length]; omega) hB).mono fun _ _ ⟨h1, h2, h3, h4⟩ => ⟨h1, Or.inr (by rw [Lib.byteCells_append]; exact h2), h3, h4⟩
theorem own_others {b B n k : Nat} {t : TypeId} {v : Value} {cs : List Value} {w w' : World} (h : w.ownsRow B t k v n cs) (ho : Lib.OthersKept 5 (some b) w w') (hb : b < B) (ht : t ≠ 5) : w'.ownsRow B t k v n cs := by
 refine ⟨h.1, ?_⟩
 rcases h.2 with e | ⟨g, cap, cur, e, hB, hg, hr⟩
 ·exact Or.inl e
 ·exact Or.inr ⟨g, cap, cur, e, hB, ho g _ hg (fun e => by have := Option.some.inj e; omega) (fun c fz e => by cases e; exact ht rfl), hr⟩
theorem own_below {B n k c : Nat} {t : TypeId} {v : Value} {cs : List Value} {w w' : World} (h : w.ownsRow B t k v n cs) (hb : Below c w w') (hc : w.heap.size <= c) : w'.ownsRow B t k v n cs := by
 refine ⟨h.1, ?_⟩
 rcases h.2 with e | ⟨g, cap, cur, e, hB, hg, hr⟩
 ·exact Or.inl e
 ·exact Or.inr ⟨g, cap, cur, e, hB, (hb.block g (by have := (Array.getElem?_eq_some_iff.1 hg).1; omega)).trans hg, hr⟩
theorem ctext_c (bk : Nat) (ls : List Ln) (its : List It) (w : World) (h : CatAt w bk ls its) (hl : ls.length <= 100) (hx : ∀ i, i < ls.length -> LnOk (ls.getD i default)) (hw : Lw w) :
  Calls Tryz.prog 35 #[.pointer (some ⟨bk, 0, none⟩)] w fun e w' => e = .returned (.string ⟨(ctT ls).toArray⟩) /\ Below w.heap.size w w' := by
 obtain ⟨lv, iv, bm, h1, ⟨vs, hr, h2⟩, -, -⟩ := h
 have HB1 : Hid (Below w.heap.size w (w.alloc (.cells #[.pointer none, .slice none 0 0] 125))) := (Below.refl _ _).alloc (Nat.le_refl _) _
 have hs1 : (w.alloc (.cells #[.pointer none, .slice none 0 0] 125)).heap.size = w.heap.size + 1 := by simp
 have HBD := Lib.hid (bd_new w)
 have HLV := Lib.hid (lines_v bk bm lv iv ls vs _ (h1.below HB1.out h1.lt) (hr.below HB1.out (Nat.le_refl _)) (h2.below HB1.out (Nat.le_refl _)) (by omega))
 have HRG := Lib.hid hr
 have HW := Lib.hid hw
 have HSN := Lib.hid (ctT_snoc ls)
 have HCL := Lib.hid (ctT_len hx)
 have HX := Lib.hid hx
 have HTL : Hid (ctT (ls.take ls.length) = ctT ls) := by show _ = _; rw [List.take_length]
 have HS1 := Lib.hid hs1
 clear h1 h2 hr hw hx hs1
 go_enter Tryz.func35, Tryz.ntmps35
 go_wp2_with fail
 generalize w.alloc (.cells #[.pointer none, .slice none 0 0] 125) = W1 at *
 refine HLV.out.mono ?_
 rintro e W2 ⟨v', rfl, hown, hb2⟩
 have hS1 := HS1.out
 have HO2 : Hid (W2.ownsRow W1.heap.size 76 7 v' ls.length (lnCells ls vs)) := hown
 have HB2 : Hid (Below w.heap.size w W2) := HB1.out.trans (hb2.mono HB1.out.size)
 have HD2 : Hid (Bd w.heap.size w.heap.size [] W2) := HBD.out.below hb2 (Nat.le_refl _)
 obtain ⟨va, vc, rfl, -⟩ := (rowAt_own hown).form
 clear hown hb2 HLV HBD HS1
 go_wp2_with fail
 go_loopw [9] (fun kV wz => ∃ k : Nat, k <= ls.length /\ kV = .int .i64 (k : Int) /\ Bd w.heap.size w.heap.size (ctT (ls.take k)) wz /\ Below w.heap.size w wz /\ wz.ownsRow W1.heap.size 76 7 (.slice va ls.length vc) ls.length (lnCells ls vs)) (fun kV _ => ls.length - (intOf kV).toNat)
 case atStart => exact ⟨0, Nat.zero_le _, rfl, by simpa [ctT] using HD2.out, HB2.out, HO2.out⟩
 case round =>
  obtain ⟨k, hk, rfl, hbd, hbr, how⟩ := hrel
  have HD := Lib.hid hbd
  have HR := Lib.hid hbr
  have HO := Lib.hid how
  have hwz := hbr.size
  clear hbd hbr how HD2 HB2 HO2
  by_cases hlt : k < ls.length
  ·have hL : LnsAt wr (.slice va ls.length vc) ls := ⟨vs, HRG.out.below HR.out (Nat.le_refl _), rowAt_own HO.out⟩
   obtain ⟨g, cap', rv, e1, hg, hsp, hrg, c0, c1, c2, c3, c4, c5, c6⟩ := hL.at k hlt
   simp at e1
   obtain ⟨rfl, rfl⟩ := e1
   obtain ⟨ra, rc, rfl⟩ := hsp.form
   have hsn := HSN.out k hlt
   have hln := HCL.out (k + 1)
   rw [hsn, List.length_append, List.length_append] at hln
   have HLT := Lib.hid (fun W (hb : Below wr.heap.size wr W) => lntext_any (ls.getD k default) (HX.out k hlt) _ W ((HW.out.below HR.out).below hb) (hsp.below hb (Nat.le_refl _)))
   generalize ls.getD k default = X at *
   have kb := Blk.new wr 76 #[.int .i64 X.kind, .string X.name, .int .i64 X.a, .int .i64 X.b, .int .i64 X.c, .string X.other, .slice ra X.rng.length rc]
   have hA : Below wr.heap.size wr (wr.alloc (.cells #[.int .i64 X.kind, .string X.name, .int .i64 X.a, .int .i64 X.b, .int .i64 X.c, .string X.other, .slice ra X.rng.length rc] 76)) := (Below.refl _ _).alloc (Nat.le_refl _) _
   have HKB := Lib.hid kb
   have HA := Lib.hid hA
   have HSN1 := Lib.hid hsn
   have hln2 : (ctT (ls.take k)).length + (lnT X).length <= 100000000000000 := by omega
   have hln3 : (ctT (ls.take k) ++ lnT X).length + 1 <= 100000000000000 := by rw [List.length_append]; omega
   clear kb hA hsn hln hrg hsp
   generalize lnT X = LT at *
   obtain ⟨xk, xn, xa, xb, xc, xo, xr⟩ := X
   simp only at *
   generalize xr.length = RL at *
   go_wp2_with fail
   generalize wr.alloc (.cells #[.int .i64 xk, .string xn, .int .i64 xa, .int .i64 xb, .int .i64 xc, .string xo, .slice ra RL rc] 76) = W3 at *
   clear c0 c1 c2 c3 c4 c5 c6
   have c0 := HKB.out.cell 0
   have c1 := HKB.out.cell 1
   have c2 := HKB.out.cell 2
   have c3 := HKB.out.cell 3
   have c4 := HKB.out.cell 4
   have c5 := HKB.out.cell 5
   have c6 := HKB.out.cell 6
   go_wp2_with fail
   refine (HLT.out _ HA.out).mono ?_
   rintro e W4 ⟨rfl, hb4⟩
   have hB4 : Below wr.heap.size wr W4 := HA.out.trans (hb4.mono HA.out.size)
   have HD4 := Lib.hid (HD.out.below hB4 (Nat.le_refl _))
   have HO4 := Lib.hid (own_below HO.out hB4 (Nat.le_refl _))
   have HR4 : Hid (Below w.heap.size w W4) := HR.out.trans (hB4.mono hwz)
   have HWS := Lib.hid (bws14 _ _ _ LT W4 HD4.out hln2 HR4.out.size)
   clear hb4 hB4 HLT HA HKB HD HO HR HD4 c0 c1 c2 c3 c4 c5 c6
   go_wp2_with fail
   refine HWS.out.mono ?_
   rintro e W5 ⟨⟨x5, rfl⟩, hd5, hb5, ho5⟩
   have HR5 : Hid (Below w.heap.size w W5) := HR4.out.trans hb5
   have HO5 := Lib.hid (own_others HO4.out ho5 (by omega) (by decide))
   have HWB := Lib.hid (bwb14 _ _ _ W5 hd5 hln3 HR5.out.size)
   clear hd5 hb5 ho5 HO4 HR4 HWS
   go_wp2_with fail
   refine HWB.out.mono ?_
   rintro e W6 ⟨rfl, hd6, hb6, ho6⟩
   have HR6 : Hid (Below w.heap.size w W6) := HR5.out.trans hb6
   have HO6 := Lib.hid (own_others HO5.out ho6 (by omega) (by decide))
   have HD6 : Hid (Bd w.heap.size w.heap.size (ctT (ls.take (k + 1))) W6) := by rw [HSN1.out]; exact hd6
   clear hd6 hb6 ho6 HO5 HR5 HWB HSN1
   go_wp2
   go_roundw
   case rel => exact ⟨k + 1, by omega, by go_num, HD6.out, HR6.out, HO6.out⟩
   case measure => simp [intOf]; omega
  ·obtain rfl : k = ls.length := by omega
   have hb := HD.out
   rw [HTL.out] at hb
   have HFIN := Lib.hid (bstr _ _ _ _ hb hwz)
   clear hb HD
   go_wp2_with fail
   refine HFIN.out.mono ?_
   rintro e W3 ⟨rfl, hb3⟩
   have HBZ : Hid (Below w.heap.size w W3) := HR.out.trans hb3
   clear hb3
   go_wp2
   go_ret
   exact ⟨rfl, HBZ.out⟩
end Go.Proofs.YtmhophccdfmngaaGreatDoor
namespace Go.Proofs.YtmhophccdfmngaaGreatDoor
open Go.RowKit Go.Shelf Sv
theorem ba_ext {s t : ByteArray} (h : s.data.toList = t.data.toList) : s = t := by
 rw [bytes_of h, <- bytes_of (s := t) rfl]
theorem ext_list' (s : ByteArray) (i j : Nat) : (s.extract i j).data.toList = (s.data.toList.take j).drop i := by
 conv => lhs; rw [bytes_of (s := s) rfl]
 exact ext_list _ _ _
end Go.Proofs.YtmhophccdfmngaaGreatDoor
