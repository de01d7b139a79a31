/- A range's text, as the program writes it. -/
import Derived.Test.YtmhophccdfmngaaGreatDoorSvWText
import Derived.Test.YtmhophccdfmngaaGreatDoorSvNs
set_option maxHeartbeats 2000000
set_option maxRecDepth 100000
namespace Go.Proofs
open Go.Shelf
theorem Tryz.laysWS : Go.Proofs.Lays.n166 Tryz.prog Tryz.lays156_ren := {
 mixed := Tryz.lays156.mixed
 f166 := Tryz.lays156.f166
 f240 := Tryz.lays156.f240
 f276 := Tryz.lays156.f276
 t0 := Tryz.lays156.t0
 a0 := Tryz.lays156.a0
 z0 := Tryz.lays156.z0
 v0 := Tryz.lays156.v0
 t3 := Tryz.lays156.t3
 a3 := Tryz.lays156.a3
 z3 := Tryz.lays156.z3
 v3 := Tryz.lays156.v3
 t4 := Tryz.lays156.t4
 a4 := Tryz.lays156.a4
 z4 := Tryz.lays156.z4
 v4 := Tryz.lays156.v4
 t9 := Tryz.lays156.t9
 a9 := Tryz.lays156.a9
 z9 := Tryz.lays156.z9
 v9 := Tryz.lays156.v9
 t20 := Tryz.lays156.t20
 a20 := Tryz.lays156.a20
 z20 := Tryz.lays156.z20
 v20 := Tryz.lays156.v20
 t37 := Tryz.lays156.t37
 a37 := Tryz.lays156.a37
 z37 := Tryz.lays156.z37
 v37 := Tryz.lays156.v37
 t70 := Tryz.lays156.t70
 a70 := Tryz.lays156.a70
 z70 := Tryz.lays156.z70
 v70 := Tryz.lays156.v70
 t72 := Tryz.lays156.t72
 a72 := Tryz.lays156.a72
 z72 := Tryz.lays156.z72
 v72 := Tryz.lays156.v72
 t75 := Tryz.lays156.t75
 a75 := Tryz.lays156.a75
 z75 := Tryz.lays156.z75
 v75 := Tryz.lays156.v75
 t164 := Tryz.lays156.t164
 a164 := Tryz.lays156.a164
 z164 := Tryz.lays156.z164
 v164 := Tryz.lays156.v164 }
def Tryz.laysWB_ren : Go.Shelf.Ren := ⟨fun | 167 => 91 | n => Tryz.lays156_ren.f n, Tryz.lays156_ren.t, Tryz.lays156_ren.g⟩
theorem Tryz.laysWB : Go.Proofs.Lays.n167 Tryz.prog Tryz.laysWB_ren := {
 mixed := Tryz.lays156.mixed
 f167 := Tryz.func91.trans (congrArg some (by kernel_rfl))
 f240 := Tryz.lays156.f240
 f276 := Tryz.lays156.f276
 t0 := Tryz.lays156.t0
 a0 := Tryz.lays156.a0
 z0 := Tryz.lays156.z0
 v0 := Tryz.lays156.v0
 t4 := Tryz.lays156.t4
 a4 := Tryz.lays156.a4
 z4 := Tryz.lays156.z4
 v4 := Tryz.lays156.v4
 t5 := Tryz.underlying5
 a5 := Tryz.isAgg5
 z5 := Tryz.sizeOf5
 v5 := Tryz.zeroValue5
 t9 := Tryz.lays156.t9
 a9 := Tryz.lays156.a9
 z9 := Tryz.lays156.z9
 v9 := Tryz.lays156.v9
 t20 := Tryz.lays156.t20
 a20 := Tryz.lays156.a20
 z20 := Tryz.lays156.z20
 v20 := Tryz.lays156.v20
 t37 := Tryz.lays156.t37
 a37 := Tryz.lays156.a37
 z37 := Tryz.lays156.z37
 v37 := Tryz.lays156.v37
 t70 := Tryz.lays156.t70
 a70 := Tryz.lays156.a70
 z70 := Tryz.lays156.z70
 v70 := Tryz.lays156.v70
 t72 := Tryz.lays156.t72
 a72 := Tryz.lays156.a72
 z72 := Tryz.lays156.z72
 v72 := Tryz.lays156.v72
 t75 := Tryz.lays156.t75
 a75 := Tryz.lays156.a75
 z75 := Tryz.lays156.z75
 v75 := Tryz.lays156.v75
 t164 := Tryz.lays156.t164
 a164 := Tryz.lays156.a164
 z164 := Tryz.lays156.z164
 v164 := Tryz.lays156.v164 }
end Go.Proofs
namespace Go.Proofs.YtmhophccdfmngaaGreatDoor
open Go.RowKit Go.Shelf Sv
def Bd (B b : Nat) (l : List UInt8) (w : World) : Prop := Lib.IsBuilderF 125 5 B b (Lib.byteCells l) w
theorem bdAt_below {B b c : Nat} {p : Value} {bs : List Value} {w w' : World} (h : Lib.BuilderAtF 125 5 B b p bs w) (hb : Below c w w') (hc : w.heap.size <= c) : Lib.BuilderAtF 125 5 B b p bs w' := by
 obtain ⟨h1, v, h2, h3, h4⟩ := h
 have hlt : b < w.heap.size := (Array.getElem?_eq_some_iff.1 h2).1
 refine ⟨h1, v, (hb.block b (by omega)).trans h2, ⟨h3.1, ?_⟩, h4⟩
 rcases h3.2 with e | ⟨g, cap, cur, fz, e1, e2, e3, e4⟩
 ·exact .inl e
 ·exact .inr ⟨g, cap, cur, fz, e1, e2, (hb.block g (by have := (Array.getElem?_eq_some_iff.1 e3).1; omega)).trans e3, e4⟩
theorem Bd.below {B b c : Nat} {l : List UInt8} {w w' : World} (h : Bd B b l w) (hb : Below c w w') (hc : w.heap.size <= c) : Bd B b l w' :=
 Or.imp (fun h => bdAt_below h hb hc) (fun h => bdAt_below h hb hc) h
theorem bd_new (w : World) : Bd w.heap.size w.heap.size [] (w.alloc (.cells #[.pointer none, .slice none 0 0] 125)) :=
 Or.inl ⟨Nat.le_refl _, .slice none 0 0, World.alloc_heap_new w _, World.ownsRowF_nil _ _ _ _, by simp [Value.ownBlock]⟩
theorem bws (B b : Nat) (l s : List UInt8) (w : World) (h : Bd B b l w) (hlen : l.length + s.length <= 100000000000) (hB : B <= w.heap.size) :
  Calls Tryz.prog 65 #[.pointer (some ⟨b, 0, none⟩), .string ⟨s.toArray⟩] w fun e w' => (∃ x, e = .returned (.tuple #[.int .i64 x, .nilIface])) /\ Bd B b (l ++ s) w' /\ Below B w w' /\ Lib.OthersKept 5 (some b) w w' :=
 (Any.Builder_WriteString_k Tryz.laysWS Tryz.Builder_Extra_156 B b (Lib.byteCells l) ⟨s.toArray⟩ w h (by rw [Lib.byteCells_length]; show l.length + s.toArray.size <= _; simp; omega) hB).mono fun _ _ ⟨h1, h2, h3, h4⟩ => ⟨⟨_, h1⟩, Or.inr (by rw [Lib.byteCells_append]; exact h2), h3, h4⟩
theorem bstr (B b : Nat) (l : List UInt8) (w : World) (h : Bd B b l w) (hB : B <= w.heap.size) :
  Calls Tryz.prog 67 #[.pointer (some ⟨b, 0, none⟩)] w fun e w' => e = .returned (.string ⟨l.toArray⟩) /\ Below B w w' :=
 (Tryz.Builder_String_any_k B b l w h hB).mono fun _ _ ⟨h1, _, h3, _⟩ => ⟨h1, h3⟩
theorem blk_others {b k : Nat} {t : TypeId} {cs : Array Value} {w w' : World} (h : Blk w k t cs) (ho : Lib.OthersKept 5 (some b) w w') (hk : k ≠ b) (ht : t ≠ 5) : Blk w' k t cs :=
 ho k _ h (fun e => hk (Option.some.inj e)) (fun c fz e => by cases e; exact ht rfl)
def wrT (l : List Span) : List UInt8 := Lib.join (l.map spanT) sepT
theorem wrT_snoc (l : List Span) (k : Nat) (hk : k < l.length) : wrT (l.take (k + 1)) = wrT (l.take k) ++ ((if k = 0 then [] else sepT) ++ spanT (sp l k)) := by
 unfold wrT
 rw [List.take_succ_eq_append_getElem hk, List.map_append, sp_at l k hk]
 cases hl : l.take k with
 | nil =>
  have hk0 : k = 0 := by
   have := congrArg List.length hl
   rw [List.length_take] at this
   simp at this
   rcases this with h | h
   ·exact h
   ·subst h; simp at hk
  rw [if_pos hk0]
  simp [Lib.join_one, Lib.join_nil]
 | cons a r =>
  have hk0 : k ≠ 0 := fun e => by rw [e] at hl; simp at hl
  rw [if_neg hk0]
  simp only [List.map_cons, List.map_nil, List.cons_append, Lib.join_cons, Lib.joinTail, List.map_append, List.flatten_append]
  simp
theorem wrT_len {l : List Span} (hl : Rg l) : ∀ k, (wrT (l.take k)).length <= 200 * k := by
 intro k
 induction k with
 | zero => simp [wrT, Lib.join_nil]
 | succ k ih =>
  by_cases hk : k < l.length
  ·rw [wrT_snoc l k hk, List.length_append, List.length_append]
   have h1 := canon_at hl k hk
   have h2 := spanT_len (s := sp l k) (by omega) h1.2
   have h3 : (if k = 0 then [] else sepT).length <= 4 := by split <;> simp [sepT]
   omega
  ·rw [List.take_of_length_le (by omega)]
   rw [List.take_of_length_le (by omega)] at ih
   omega
theorem ptext_any (l : List Span) (hl : Rg l) (v : Value) (w : World) (hw : Lb w) (hv : SpAt w v l) :
  Calls Tryz.prog 16 #[.agg #[v]] w fun e w' => e = .returned (.string ⟨(rgT l).toArray⟩) /\ Below w.heap.size w w' := by
 obtain ⟨a, cap, rfl⟩ := hv.form
 have hlen := rg_len hl
 have k0 := Blk.new w 31 #[.slice a l.length cap]
 have hB0 : Below w.heap.size w (w.alloc (.cells #[.slice a l.length cap] 31)) := (Below.refl _ w).alloc (Nat.le_refl _) _
 have HB0 := Lib.hid hB0
 have HK0 := Lib.hid k0
 have HE : Hid (∀ W, Below w.heap.size w W -> Calls Tryz.prog 15 #[.agg #[.slice a l.length cap]] W fun e w' => e = .returned (.bool (decide (l = []))) /\ Below W.heap.size W w') := fun W hb => empty_any l _ W (hv.below hb (Nat.le_refl _))
 clear k0 hB0
 by_cases hz : l = []
 ·have hR : rgT l = [110, 111, 110, 101] := if_pos hz
  have hl0 : decide (l = []) = true := decide_eq_true hz
  rw [hl0] at HE
  clear hz hv
  go_enter Tryz.func16, Tryz.ntmps16
  go_wp2_with fail
  generalize w.alloc (.cells #[.slice a l.length cap] 31) = W0 at *
  refine (HE.out _ HB0.out).mono ?_
  rintro e w1 ⟨rfl, hb1⟩
  have HB1 : Hid (Below w.heap.size w w1) := HB0.out.trans (hb1.mono HB0.out.size)
  clear hb1
  go_wp2
  go_ret
  exact ⟨by rw [hR]; rfl, HB1.out⟩
 ·have HR : Hid (rgT l = wrT (l.take l.length)) := by show _ = _; rw [List.take_length]; exact if_neg hz
  have hl0 : decide (l = []) = false := decide_eq_false hz
  rw [hl0] at HE
  have HV := Lib.hid hv
  have HW := Lib.hid hw
  have HSN := Lib.hid (wrT_snoc l)
  have HWL := Lib.hid (wrT_len hl)
  have HAT := Lib.hid (canon_at hl)
  clear hz hv hw hl0
  generalize rgT l = RT at *
  go_enter Tryz.func16, Tryz.ntmps16
  go_wp2_with fail
  generalize w.alloc (.cells #[.slice a l.length cap] 31) = W0 at *
  refine (HE.out _ HB0.out).mono ?_
  rintro e w1 ⟨rfl, hb1⟩
  have HB1 : Hid (Below w.heap.size w w1) := HB0.out.trans (hb1.mono HB0.out.size)
  have k1 := HK0.out.below hb1 HK0.out.lt
  have c0 : (w1.alloc (.cells #[.pointer none, .slice none 0 0] 125)).cell? ⟨w.heap.size, 0, none⟩ = some (.slice a l.length cap) := (k1.alloc _).cell 0
  have hbd := bd_new w1
  have hw1 := HB1.out.size
  clear hb1 HE HK0 k1 HB0
  go_wp2_with fail
  obtain ⟨W1, hW1⟩ : ∃ W1, w1.alloc (.cells #[.pointer none, .slice none 0 0] 125) = W1 := ⟨_, rfl⟩
  have hs1 : W1.heap.size = w1.heap.size + 1 := by rw [<- hW1]; simp
  have HB2 : Hid (Below w1.heap.size w1 W1) := by rw [<- hW1]; exact (Below.refl _ _).alloc (Nat.le_refl _) _
  rw [hW1] at hbd ⊢
  have HBD := Lib.hid hbd
  have HS1 := Lib.hid hs1
  clear hbd hW1 hs1 c0
  go_loopw [11] (fun kV wz => ∃ k : Nat, k <= l.length /\ kV = .int .i64 (k : Int) /\ Bd w1.heap.size w1.heap.size (wrT (l.take k)) wz /\ Below w1.heap.size w1 wz) (fun kV _ => l.length - (intOf kV).toNat)
  case atStart => exact ⟨0, Nat.zero_le _, rfl, by simpa [wrT, Lib.join_nil] using HBD.out, HB2.out⟩
  case round =>
   obtain ⟨k, hk, rfl, hbd, hbr⟩ := hrel
   have HBD2 := Lib.hid hbd
   have HBR := Lib.hid hbr
   have hwz := hbr.size
   clear hbd hbr
   by_cases hlt : k < l.length
   ·have hB : Below w.heap.size w wr := HB1.out.trans (HBR.out.mono HB1.out.size)
    obtain ⟨g, cap', e1, hg, cx, cy⟩ := (HV.out.below hB (Nat.le_refl _)).cells k hlt
    simp at e1
    obtain ⟨rfl, rfl⟩ := e1
    obtain ⟨hx1, hx2⟩ := HAT.out k hlt
    have hsn := HSN.out k hlt
    have hln := HWL.out (k + 1)
    rw [hsn, List.length_append, List.length_append] at hln
    have HST : Hid (∀ W, Below w.heap.size w W -> Calls Tryz.prog 66 #[.agg #[.int .i64 ((sp l k).1 : Int), .int .i64 ((sp l k).2 : Int)]] W fun e w' => e = .returned (.string ⟨(spanT (sp l k)).toArray⟩) /\ Below W.heap.size W w') := fun W hb => spanText_any (sp l k) hx1 hx2 W (HW.out.below hb)
    have kb := Blk.new wr 127 #[.int .i64 ((sp l k).1 : Int), .int .i64 ((sp l k).2 : Int)]
    have hA : Below wr.heap.size wr (wr.alloc (.cells #[.int .i64 ((sp l k).1 : Int), .int .i64 ((sp l k).2 : Int)] 127)) := (Below.refl _ _).alloc (Nat.le_refl _) _
    have HBA : Hid (Bd w1.heap.size w1.heap.size (wrT (l.take k)) (wr.alloc (.cells #[.int .i64 ((sp l k).1 : Int), .int .i64 ((sp l k).2 : Int)] 127))) := HBD2.out.below hA (Nat.le_refl _)
    have HBW : Hid (Below w1.heap.size w1 (wr.alloc (.cells #[.int .i64 ((sp l k).1 : Int), .int .i64 ((sp l k).2 : Int)] 127))) := HBR.out.trans (hA.mono hwz)
    have HKB := Lib.hid kb
    have hlt1 : w1.heap.size < wr.heap.size := HBD2.out.elim (fun h => h.lt) (fun h => h.lt)
    clear kb hA hB HBD2 HBR hx1 hx2
    generalize (sp l k).1 = X at *
    generalize (sp l k).2 = Y at *
    generalize spanT (sp l k) = ST at *
    by_cases hk0 : k = 0
    ·have hk0' : ¬ (0 : Int) < (k : Int) := by omega
     rw [if_pos hk0, List.nil_append] at hsn
     have HSN1 := Lib.hid hsn
     have hln2 : (wrT (l.take k)).length + ST.length <= 100000000000 := by omega
     clear hsn hln hk0
     go_wp2_with fail
     generalize wr.alloc (.cells #[.int .i64 (X : Int), .int .i64 (Y : Int)] 127) = W2 at *
     have c0 := HKB.out.cell 0
     have c1 := HKB.out.cell 1
     go_wp2_with fail
     refine (HST.out _ (HB1.out.trans (HBW.out.mono HB1.out.size))).mono ?_
     rintro e w3 ⟨rfl, hb3⟩
     have HBA3 := Lib.hid (HBA.out.below hb3 (Nat.le_refl _))
     have HBW3 : Hid (Below w1.heap.size w1 w3) := HBW.out.trans (hb3.mono HBW.out.size)
     have HWS := Lib.hid (bws _ _ _ ST w3 HBA3.out hln2 HBW3.out.size)
     clear hb3 HBA HBW HST HBA3 c0 c1 HKB
     go_wp2_with fail
     refine HWS.out.mono ?_
     rintro e w4 ⟨⟨x4, rfl⟩, hd4, hb4, -⟩
     have HD4 : Hid (Bd w1.heap.size w1.heap.size (wrT (l.take (k + 1))) w4) := by rw [HSN1.out]; exact hd4
     have HB4 : Hid (Below w1.heap.size w1 w4) := HBW3.out.trans hb4
     clear hd4 hb4 HWS HSN1
     go_wp2
     go_roundw
     case rel => exact ⟨k + 1, by omega, by go_num, HD4.out, HB4.out⟩
     case measure => simp [intOf]; omega
    ·have hk0' : (0 : Int) < (k : Int) := by omega
     rw [if_neg hk0] at hsn hln
     rw [<- List.append_assoc] at hsn
     have HSN1 := Lib.hid hsn
     have hln2 : (wrT (l.take k) ++ sepT).length + ST.length <= 100000000000 := by rw [List.length_append]; omega
     have hln3 : (wrT (l.take k)).length + sepT.length <= 100000000000 := by omega
     have HWP := Lib.hid (bws _ _ _ sepT _ HBA.out hln3 HBW.out.size)
     clear hsn hln hk0
     go_wp2_with fail
     generalize wr.alloc (.cells #[.int .i64 (X : Int), .int .i64 (Y : Int)] 127) = W2 at *
     refine HWP.out.mono ?_
     rintro e w5 ⟨⟨x5, rfl⟩, hd5, hb5, ho5⟩
     have kb5 := blk_others HKB.out ho5 (by omega) (by decide)
     have c0 := kb5.cell 0
     have c1 := kb5.cell 1
     have HBW5 : Hid (Below w1.heap.size w1 w5) := HBW.out.trans hb5
     have HD5 := Lib.hid hd5
     clear hd5 hb5 ho5 kb5 HWP HBA HBW HKB
     go_wp2_with fail
     refine (HST.out _ (HB1.out.trans (HBW5.out.mono HB1.out.size))).mono ?_
     rintro e w3 ⟨rfl, hb3⟩
     have HBA3 := Lib.hid (HD5.out.below hb3 (Nat.le_refl _))
     have HBW3 : Hid (Below w1.heap.size w1 w3) := HBW5.out.trans (hb3.mono HBW5.out.size)
     have HWS := Lib.hid (bws _ _ _ ST w3 HBA3.out hln2 HBW3.out.size)
     clear hb3 HBW5 HST HBA3 c0 c1 HD5
     go_wp2_with fail
     refine HWS.out.mono ?_
     rintro e w4 ⟨⟨x4, rfl⟩, hd4, hb4, -⟩
     have HD4 : Hid (Bd w1.heap.size w1.heap.size (wrT (l.take (k + 1))) w4) := by rw [HSN1.out]; exact hd4
     have HB4 : Hid (Below w1.heap.size w1 w4) := HBW3.out.trans hb4
     clear hd4 hb4 HWS HSN1
     go_wp2
     go_roundw
     case rel => exact ⟨k + 1, by omega, by go_num, HD4.out, HB4.out⟩
     case measure => simp [intOf]; omega
   ·obtain rfl : k = l.length := by omega
    have hb := HBD2.out
    rw [<- HR.out] at hb
    have HFIN := Lib.hid (bstr _ _ _ _ hb hwz)
    clear hb HBD2
    go_wp2_with fail
    refine HFIN.out.mono ?_
    rintro e w3 ⟨rfl, hb3⟩
    have HBZ : Hid (Below w.heap.size w w3) := HB1.out.trans ((HBR.out.trans hb3).mono HB1.out.size)
    clear hb3
    go_wp2
    go_ret
    exact ⟨rfl, HBZ.out⟩
end Go.Proofs.YtmhophccdfmngaaGreatDoor
