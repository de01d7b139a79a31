/- strings.Split, Join and ReplaceAll, as the laws ask for them. -/
import Derived.Test.YtpmpnbbihmgdpaaGreatDoorSvMix
import Derived.Test.YtpmpnbbihmgdpaaGreatDoorSvPieces
import Derived.Test.YtpmpnbbihmgdpaaGreatDoorSvTurns
import Derived.Test.YtpmpnbbihmgdpaaGreatDoorSvNot
import Derived.Test.YtpmpnbbihmgdpaaGreatDoorSvWord
import Derived.Lib.ItoaLen
import Derived.Lib.Replace
import Derived.Test.YtpmpnbbihmgdpaaGreatDoorErAt
set_option maxHeartbeats 2000000
set_option maxRecDepth 100000
namespace Go.Proofs.YtpmpnbbihmgdpaaGreatDoor
section
open Go.RowKit Sv
theorem ent_or1 : ∀ args w, (callFunc 113 args).run Tryz.prog w = .ok (.enter 113 args) w := by intro args w; kernel_rfl
theorem ent_and1 : ∀ args w, (callFunc 112 args).run Tryz.prog w = .ok (.enter 112 args) w := by intro args w; kernel_rfl
theorem ent_not1 : ∀ args w, (callFunc 168 args).run Tryz.prog w = .ok (.enter 168 args) w := by intro args w; kernel_rfl
theorem or1_any (x y : Bool) (W : World) : Calls Tryz.prog 113 #[.bool x, .bool y] W fun e w' => e = .returned (.bool (x || y)) /\ w' = W := by
 cases x
 ·go_enter Tryz.func113, Tryz.ntmps113
  go_wp2
  go_ret
  exact ⟨rfl, rfl⟩
 ·go_enter Tryz.func113, Tryz.ntmps113
  go_wp2
  go_ret
  exact ⟨rfl, rfl⟩
theorem and1_any (x y : Bool) (W : World) : Calls Tryz.prog 112 #[.bool x, .bool y] W fun e w' => e = .returned (.bool (x && y)) /\ w' = W := by
 cases x
 ·go_enter Tryz.func112, Tryz.ntmps112
  go_wp2
  go_ret
  exact ⟨rfl, rfl⟩
 ·go_enter Tryz.func112, Tryz.ntmps112
  go_wp2
  go_ret
  exact ⟨rfl, rfl⟩
theorem not1_any (x y : Bool) (W : World) : Calls Tryz.prog 168 #[.bool x, .bool y] W fun e w' => e = .returned (.bool (!x)) /\ w' = W := by
 go_enter Tryz.func168, Tryz.ntmps168
 go_wp2
 go_ret
 exact ⟨rfl, rfl⟩
theorem tp_small {l : List Span} (h : Rg l) : (tp l).length <= 1000000000 := by have := rg_len h; rw [tp_len]; omega
theorem ror_any (l m : List Span) (hl : Rg l) (hm : Rg m) (v u : Value) (w : World) (hv : NsAt w v (tp l)) (hu : NsAt w u (tp m)) :
  Calls Tryz.prog 57 #[v, u] w (NsOut w (tp (orr l m))) := by
 have H := Lib.hid (mix_any (tp l) (tp m) v u 113 (fun x y => x || y) w hv hu (tp_small hl) (tp_small hm) ent_or1 or1_any)
 rw [mix_or hl hm] at H
 obtain ⟨a, c, rfl⟩ := hv.form
 obtain ⟨a', c', rfl⟩ := hu.form
 clear hv hu
 generalize (tp l).length = n1 at *
 generalize (tp m).length = n2 at *
 generalize tp (orr l m) = R at *
 go_enter Tryz.func57, Tryz.ntmps57
 go_wp2_with fail
 refine H.out.mono ?_
 rintro e w' ⟨b, d, rfl, h1, h2, h3⟩
 have H1 := Lib.hid h1
 have H2 := Lib.hid h2
 have H3 := Lib.hid h3
 clear h1 h2 h3
 go_wp2
 go_ret
 exact ⟨b, d, rfl, H1.out, H2.out, H3.out⟩
theorem rand_any (l m : List Span) (hl : Rg l) (hm : Rg m) (v u : Value) (w : World) (hv : NsAt w v (tp l)) (hu : NsAt w u (tp m)) :
  Calls Tryz.prog 56 #[v, u] w (NsOut w (tp (nd l m))) := by
 have H := Lib.hid (mix_any (tp l) (tp m) v u 112 (fun x y => x && y) w hv hu (tp_small hl) (tp_small hm) ent_and1 and1_any)
 rw [mix_and hl hm] at H
 obtain ⟨a, c, rfl⟩ := hv.form
 obtain ⟨a', c', rfl⟩ := hu.form
 clear hv hu
 generalize (tp l).length = n1 at *
 generalize (tp m).length = n2 at *
 generalize tp (nd l m) = R at *
 go_enter Tryz.func56, Tryz.ntmps56
 go_wp2_with fail
 refine H.out.mono ?_
 rintro e w' ⟨b, d, rfl, h1, h2, h3⟩
 have H1 := Lib.hid h1
 have H2 := Lib.hid h2
 have H3 := Lib.hid h3
 clear h1 h2 h3
 go_wp2
 go_ret
 exact ⟨b, d, rfl, H1.out, H2.out, H3.out⟩
theorem rnot_any (l : List Span) (hl : Rg l) (v : Value) (w : World) (hv : NsAt w v (tp l)) :
  Calls Tryz.prog 110 #[v] w (NsOut w (tp (nt l))) := by
 have H := Lib.hid (mix_any (tp l) [] v (.slice none 0 0) 168 (fun x _ => !x) w hv (nsAt_nil w) (tp_small hl) (Nat.zero_le _) ent_not1 not1_any)
 rw [mix_not hl] at H
 obtain ⟨a, c, rfl⟩ := hv.form
 clear hv
 generalize (tp l).length = n1 at *
 generalize tp (nt l) = R at *
 go_enter Tryz.func110, Tryz.ntmps110
 go_wp2_with fail
 refine H.out.mono ?_
 rintro e w' ⟨b, d, rfl, h1, h2, h3⟩
 have H1 := Lib.hid h1
 have H2 := Lib.hid h2
 have H3 := Lib.hid h3
 clear h1 h2 h3
 go_wp2
 go_ret
 exact ⟨b, d, rfl, H1.out, H2.out, H3.out⟩
end
section
open Go.RowKit Go.Shelf Go.Sort Sv
def numbF (l : List UInt8) : Option Int :=
 match Lib.parseIntB 64 l with
 | .ok v => if Lib.itoa v = l then some v else none
 | _ => none
def numbV : Option Int -> Value
 | some v => .tuple #[.int .i64 v, .bool true]
 | none => .tuple #[.int .i64 0, .bool false]
theorem number_bad (s : ByteArray) (w : World) (hs : s.size <= 100000) (hw : Lb w) (h : ∀ v, Lib.parseIntB 64 s.data.toList ≠ .ok v) :
  Calls Tryz.prog 167 #[.string s] w fun e w' => e = .returned (.tuple #[.int .i64 0, .bool false]) /\ Below w.heap.size w w' := by
 have H : Hid (Calls Tryz.prog 210 #[.string s, .int .i64 10, .int .i64 64] w fun e w' => ∃ N x, e = .returned (.tuple #[.int .i64 x, .iface 360 (.pointer (some ⟨N, 0, none⟩))]) /\ Below w.heap.size w w') := by
  cases hp : Lib.parseIntB 64 s.data.toList with
  | ok v => exact absurd hp (h v)
  | «syntax» =>
   obtain ⟨ev, h3, h3'⟩ := hw.es
   exact (Tryz.strconv_ParseInt_10_at64_syntax s (by omega) hp ev w h3 h3').mono fun e w' ⟨N, he, _, _, hb⟩ => ⟨N, _, he, hb⟩
  | range =>
   obtain ⟨ev, h3, h3'⟩ := hw.er
   exact (Tryz.strconv_ParseInt_10_at64_range s (by omega) hp ev w h3 h3').mono fun e w' ⟨N, he, _, _, hb⟩ => ⟨N, _, he, hb⟩
 clear h hw
 go_enter Tryz.func167, Tryz.ntmps167
 go_wp2_with fail
 refine H.out.mono ?_
 rintro e w1 ⟨N, x, rfl, hb⟩
 have HB := Lib.hid hb
 clear hb H
 go_wp2
 go_ret2
 exact ⟨rfl, HB.out⟩
theorem number_ok (s : ByteArray) (w : World) (hs : s.size <= 100000) (hw : Lb w) (v : Int) (h : Lib.parseIntB 64 s.data.toList = .ok v) :
  Calls Tryz.prog 167 #[.string s] w fun e w' => e = .returned (numbV (if Lib.itoa v = s.data.toList then some v else none)) /\ Below w.heap.size w w' := by
 obtain ⟨r0, r1⟩ := pint_range h
 have H : Hid (Calls Tryz.prog 210 #[.string s, .int .i64 10, .int .i64 64] w fun e w' => e = .returned (.tuple #[.int .i64 v, .nilIface]) /\ Below w.heap.size w w') := (Tryz.strconv_ParseInt_10_at64_ok s (by omega) v h w).mono fun e w' ⟨he, hw'⟩ => by
  refine ⟨he, ?_⟩
  rcases hw' with rfl | ⟨t, rfl⟩
  ·exact Below.refl _ _
  ·exact bytesWorld_below w t
 have HF : Hid (∀ W, Below w.heap.size w W -> Calls Tryz.prog 211 #[.int .i64 v, .int .i64 10] W fun e w' => e = .returned (.string ⟨(Lib.itoa v).toArray⟩) /\ Below W.heap.size W w') := fun W hb => (Tryz.strconv_FormatInt_10 v r0 r1 W (hw.below hb).tab).mono fun e w' ⟨he, k, os, hw'⟩ => ⟨he, hw' ▸ grow_below _ W k os (Nat.le_refl _)⟩
 clear h hw
 generalize Lib.itoa v = l at *
 by_cases hl : l = s.data.toList
 ·have heq : (l == s.toList) = true := by rw [ByteArray.toList_eq, hl]; simp
  rw [if_pos hl]
  clear hl
  go_enter Tryz.func167, Tryz.ntmps167
  go_wp2_with fail
  refine H.out.mono ?_
  rintro e w1 ⟨rfl, hb⟩
  have H2 := Lib.hid (HF.out _ hb)
  have HB := Lib.hid hb
  clear hb H HF
  go_wp2_with fail
  refine H2.out.mono ?_
  rintro e w2 ⟨rfl, hb2⟩
  have HB2 : Hid (Below w.heap.size w w2) := HB.out.trans (hb2.mono HB.out.size)
  clear hb2 H2 HB
  go_wp2
  go_ret2
  exact ⟨rfl, HB2.out⟩
 ·have heq : (l == s.toList) = false := by rw [ByteArray.toList_eq]; simpa using hl
  rw [if_neg hl]
  clear hl
  go_enter Tryz.func167, Tryz.ntmps167
  go_wp2_with fail
  refine H.out.mono ?_
  rintro e w1 ⟨rfl, hb⟩
  have H2 := Lib.hid (HF.out _ hb)
  have HB := Lib.hid hb
  clear hb H HF
  go_wp2_with fail
  refine H2.out.mono ?_
  rintro e w2 ⟨rfl, hb2⟩
  have HB2 : Hid (Below w.heap.size w w2) := HB.out.trans (hb2.mono HB.out.size)
  clear hb2 H2 HB
  go_wp2
  go_ret2
  exact ⟨rfl, HB2.out⟩
theorem rnumber_any (s : ByteArray) (w : World) (hs : s.size <= 100000) (hw : Lb w) :
  Calls Tryz.prog 167 #[.string s] w fun e w' => e = .returned (numbV (numbF s.data.toList)) /\ Below w.heap.size w w' := by
 cases h : Lib.parseIntB 64 s.data.toList with
 | ok v => unfold numbF; rw [h]; exact number_ok s w hs hw v h
 | «syntax» => unfold numbF; rw [h]; exact number_bad s w hs hw (fun v e => by rw [h] at e; cases e)
 | range => unfold numbF; rw [h]; exact number_bad s w hs hw (fun v e => by rw [h] at e; cases e)
theorem part_numb (l : List UInt8) : partF l = match numbF l with
  | none => .error 3
  | some v => if v < 0 then .error 3 else if 999 < v then .error 2 else .ok v.toNat := by
 unfold partF numbF
 cases hv : Lib.parseIntB 64 l with
 | ok v =>
  by_cases h : Lib.itoa v = l
  ·simp only [h, if_true]
   by_cases hn : v < 0 <;> simp [hn]
  ·simp [h]
 | «syntax» => rfl
 | range => rfl
end
section
open Go.RowKit Go.Shelf Sv
def SplitC : Prop := ∀ (s : ByteArray) (W : World), s.size <= 100000 -> Lb W -> Calls Tryz.prog 53 #[.string s, .string ⟨#[46]⟩] W fun e w' =>
 e = .returned (.slice (some ⟨W.heap.size, 0, none⟩) (cutB s ⟨#[46]⟩ s.size 0).length (cutB s ⟨#[46]⟩ s.size 0).length) /\ w' = W.alloc (.cells (((cutB s ⟨#[46]⟩ s.size 0).map (·.2)).map Value.string).toArray 9)
def rversV : Except Int (List Nat) -> Value
 | .ok ns => .tuple #[.agg (vArr ns), .int .i64 0]
 | .error k => .tuple #[.agg #[.int .i64 0, .int .i64 0, .int .i64 0], .int .i64 k]
theorem rvparse_not (HS : SplitC) (s : ByteArray) (w : World) (hs : s.size <= 100000) (hw : Lb w) (h : (cutB s ⟨#[46]⟩ s.size 0).length ≠ 3) :
  Calls Tryz.prog 108 #[.string s] w fun e w' => e = .returned (rversV (.error 3)) /\ Below w.heap.size w w' := by
 have H : Hid (∀ W, Below w.heap.size w W -> Calls Tryz.prog 53 #[.string s, .string ⟨#[46]⟩] W fun e w' => ∃ a n, n ≠ 3 /\ e = .returned (.slice a n n) /\ Below W.heap.size W w') := fun W hb => (HS s W hs (hw.below hb)).mono fun e w' ⟨he, hw'⟩ => ⟨_, _, h, he, hw' ▸ (Below.refl _ _).alloc (Nat.le_refl _) _⟩
 have kr := Blk.new w 44 #[.int .i64 0, .int .i64 0, .int .i64 0]
 have hB0 : Below w.heap.size w (w.alloc (.cells #[.int .i64 0, .int .i64 0, .int .i64 0] 44)) := (Below.refl _ w).alloc (Nat.le_refl _) _
 have HKR := Lib.hid kr
 have HB0 := Lib.hid hB0
 clear h hw HS kr hB0
 go_enter Tryz.func108, Tryz.ntmps108
 go_wp2_with fail
 generalize w.alloc (.cells #[.int .i64 0, .int .i64 0, .int .i64 0] 44) = W0 at *
 refine (H.out _ HB0.out).mono ?_
 rintro e w1 ⟨a, n, hn, rfl, hb1⟩
 have k1 := HKR.out.below hb1 HKR.out.lt
 have HB1 : Hid (Below w.heap.size w w1) := HB0.out.trans (hb1.mono HB0.out.size)
 have HK1 := Lib.hid k1
 have c0 : w1.cell? ⟨w.heap.size, 0, none⟩ = some (.int .i64 0) := k1.cell 0
 have c1 : w1.cell? ⟨w.heap.size, 1, none⟩ = some (.int .i64 0) := k1.cell 1
 have c2 : w1.cell? ⟨w.heap.size, 2, none⟩ = some (.int .i64 0) := k1.cell 2
 have f0 := k1.frozen 0
 have f1 := k1.frozen 1
 have f2 := k1.frozen 2
 have hn1 : ((n : Int) != 3) = true := by rw [bne_iff_ne]; omega
 have q : Blk (((w1.setCell ⟨w.heap.size, 0, none⟩ (.int .i64 0)).setCell ⟨w.heap.size, 1, none⟩ (.int .i64 0)).setCell ⟨w.heap.size, 2, none⟩ (.int .i64 0)) w.heap.size 44 #[.int .i64 0, .int .i64 0, .int .i64 0] := ((k1.set (i := 0) (v := .int .i64 0)).set (i := 1) (v := .int .i64 0)).set (i := 2) (v := .int .i64 0)
 have HBZ : Hid (Below w.heap.size w (((w1.setCell ⟨w.heap.size, 0, none⟩ (.int .i64 0)).setCell ⟨w.heap.size, 1, none⟩ (.int .i64 0)).setCell ⟨w.heap.size, 2, none⟩ (.int .i64 0))) := ((HB1.out.setCell (p := ⟨w.heap.size, 0, none⟩) (Nat.le_refl _) _).setCell (p := ⟨w.heap.size, 1, none⟩) (Nat.le_refl _) _).setCell (p := ⟨w.heap.size, 2, none⟩) (Nat.le_refl _) _
 have HQ := Lib.hid q
 clear k1 hb1 H hn q
 go_wp2
 have r0 := HQ.out.cell 0
 have r1 := HQ.out.cell 1
 have r2 := HQ.out.cell 2
 refine bodyPost_ret (v := .tuple #[.agg #[.int .i64 0, .int .i64 0, .int .i64 0], .int .i64 3]) (by simp [results, Tryz.results108, go_sem, r0, r1, r2]) rfl ?_
 exact ⟨rfl, HBZ.out⟩
theorem varr_snoc (ns : List Nat) (n : Nat) (h : ns.length < 3) : (vArr ns).setIfInBounds ns.length (.int .i64 (n : Int)) = vArr (ns ++ [n]) := by
 match ns, h with
 | [], _ => rfl
 | [_], _ => rfl
 | [_, _], _ => rfl
theorem parts_step {L : List (Nat × ByteArray)} {k : Nat} {ns : List Nat} (hk : k < L.length) (h : partsF (L.take k) = .ok ns) : partsF (L.take (k + 1)) = match partF (L[k].2).data.toList with
  | .error e => .error e
  | .ok n => .ok (ns ++ [n]) := by
 rw [List.take_succ_eq_append_getElem hk, partsF_snoc h]
 cases partF L[k].2.data.toList <;> rfl
theorem parts_err {L : List (Nat × ByteArray)} {k : Nat} {e : Int} (h : partsF (L.take k) = .error e) : partsF L = .error e := by
 have := partsF_app_error (r := L.drop k) h
 rwa [List.take_append_drop] at this
theorem rvparse_three (HS : SplitC) (s : ByteArray) (w : World) (hs : s.size <= 100000) (hw : Lb w) (h : (cutB s ⟨#[46]⟩ s.size 0).length = 3) (hsz : ∀ x ∈ cutB s ⟨#[46]⟩ s.size 0, x.2.size <= 100000) :
  Calls Tryz.prog 108 #[.string s] w fun e w' => e = .returned (rversV (partsF (cutB s ⟨#[46]⟩ s.size 0))) /\ Below w.heap.size w w' := by
 have H : Hid (∀ W, Below w.heap.size w W -> Calls Tryz.prog 53 #[.string s, .string ⟨#[46]⟩] W fun e w' => e = .returned (.slice (some ⟨W.heap.size, 0, none⟩) 3 3) /\ Blk w' W.heap.size 9 (((cutB s ⟨#[46]⟩ s.size 0).map (·.2)).map Value.string).toArray /\ Below W.heap.size W w') := fun W hb => (HS s W hs (hw.below hb)).mono fun e w' ⟨he, hw'⟩ => by
  rw [h] at he
  exact ⟨he, hw' ▸ Blk.new _ _ _, hw' ▸ (Below.refl _ _).alloc (Nat.le_refl _) _⟩
 generalize cutB s ⟨#[46]⟩ s.size 0 = L at *
 have HN : Hid (∀ k (hk : k < L.length) W, Below w.heap.size w W -> Calls Tryz.prog 167 #[.string L[k].2] W fun e w' => e = .returned (numbV (numbF (L[k].2).data.toList)) /\ Below W.heap.size W w') := fun k hk W hb => rnumber_any _ W (hsz _ (List.getElem_mem hk)) (hw.below hb)
 have kr := Blk.new w 44 #[.int .i64 0, .int .i64 0, .int .i64 0]
 have hB0 : Below w.heap.size w (w.alloc (.cells #[.int .i64 0, .int .i64 0, .int .i64 0] 44)) := (Below.refl _ w).alloc (Nat.le_refl _) _
 have HKR := Lib.hid kr
 have HB0 := Lib.hid hB0
 have HLN := Lib.hid h
 clear h hw HS kr hB0 hsz
 go_enter Tryz.func108, Tryz.ntmps108
 go_wp2_with fail
 generalize w.alloc (.cells #[.int .i64 0, .int .i64 0, .int .i64 0] 44) = W0 at *
 refine (H.out _ HB0.out).mono ?_
 rintro e w1 ⟨rfl, kp, hb1⟩
 have HK1 := Lib.hid (HKR.out.below hb1 HKR.out.lt)
 have HB1 : Hid (Below w.heap.size w w1) := HB0.out.trans (hb1.mono HB0.out.size)
 have HKP := Lib.hid kp
 clear hb1 H kp
 go_wp2_with fail
 have kv := Blk.new w1 44 #[.int .i64 0, .int .i64 0, .int .i64 0]
 have hb2 : Below w1.heap.size w1 (w1.alloc (.cells #[.int .i64 0, .int .i64 0, .int .i64 0] 44)) := (Below.refl _ w1).alloc (Nat.le_refl _) _
 have HKV := Lib.hid kv
 have HB2 := Lib.hid hb2
 clear kv hb2
 generalize w1.alloc (.cells #[.int .i64 0, .int .i64 0, .int .i64 0] 44) = W2 at *
 go_loopw [18] (fun iV wr => ∃ (k : Nat) (ns : List Nat), k <= 3 /\ iV = .int .i64 (k : Int) /\ ns.length = k /\ partsF (L.take k) = .ok ns /\ Blk wr w1.heap.size 44 (vArr ns) /\ Below w1.heap.size w1 wr) (fun iV _ => 3 - (intOf iV).toNat)
 case atStart => exact ⟨0, [], by omega, rfl, rfl, rfl, HKV.out, HB2.out⟩
 case round =>
  obtain ⟨k, ns, hk, rfl, hlen, hpar, hv, hbr⟩ := hrel
  have HLE := Lib.hid hlen
  have HPA := Lib.hid hpar
  have HVV := Lib.hid hv
  have HBR := Lib.hid hbr
  clear hlen hpar hv hbr
  by_cases hlt : k < 3
  ·have hkL : k < L.length := by rw [HLN.out]; exact hlt
   have c0 : wr.cell? ⟨W0.heap.size, k, none⟩ = some (.string L[k].2) := by
    rw [(HKP.out.below HBR.out HKP.out.lt).cell k]
    simp [hkL]
   have HST := Lib.hid (parts_step hkL HPA.out)
   have HNk := Lib.hid (HN.out k hkL)
   generalize L[k].2 = p at *
   clear hkL
   have HB8 : Hid (Below w.heap.size w wr) := HB1.out.trans (HBR.out.mono HB1.out.size)
   go_wp2_with fail
   refine (HNk.out _ HB8.out).mono ?_
   rintro e w3 ⟨rfl, hb3⟩
   have HB9 : Hid (Below w.heap.size w w3) := HB8.out.trans (hb3.mono HB8.out.size)
   have HKR9 := Lib.hid ((HK1.out.below HBR.out HK1.out.lt).below hb3 (Nat.lt_of_lt_of_le HK1.out.lt HBR.out.size))
   have HV9 := Lib.hid (HVV.out.below hb3 HVV.out.lt)
   have HR9 : Hid (Below w1.heap.size w1 w3) := HBR.out.trans (hb3.mono HBR.out.size)
   clear hb3 HNk HKR HB0
   have hpn := part_numb p.data.toList
   cases hnm : numbF p.data.toList with
   | none =>
    rw [hnm] at hpn
    simp only [numbV]
    have HPN : Hid (partF p.data.toList = .error 3) := hpn
    clear hpn hnm c0
    have HPR : Hid (partsF L = .error 3) := parts_err (k := k + 1) (by rw [HST.out, HPN.out])
    have kz := HKR9.out
    have z0 : w3.cell? ⟨w.heap.size, 0, none⟩ = some (.int .i64 0) := kz.cell 0
    have z1 : w3.cell? ⟨w.heap.size, 1, none⟩ = some (.int .i64 0) := kz.cell 1
    have z2 : w3.cell? ⟨w.heap.size, 2, none⟩ = some (.int .i64 0) := kz.cell 2
    have f0 := kz.frozen 0
    have f1 := kz.frozen 1
    have f2 := kz.frozen 2
    have q : Blk (((w3.setCell ⟨w.heap.size, 0, none⟩ (.int .i64 0)).setCell ⟨w.heap.size, 1, none⟩ (.int .i64 0)).setCell ⟨w.heap.size, 2, none⟩ (.int .i64 0)) w.heap.size 44 #[.int .i64 0, .int .i64 0, .int .i64 0] := ((kz.set (i := 0) (v := .int .i64 0)).set (i := 1) (v := .int .i64 0)).set (i := 2) (v := .int .i64 0)
    have HBZ : Hid (Below w.heap.size w (((w3.setCell ⟨w.heap.size, 0, none⟩ (.int .i64 0)).setCell ⟨w.heap.size, 1, none⟩ (.int .i64 0)).setCell ⟨w.heap.size, 2, none⟩ (.int .i64 0))) := ((HB9.out.setCell (p := ⟨w.heap.size, 0, none⟩) (Nat.le_refl _) _).setCell (p := ⟨w.heap.size, 1, none⟩) (Nat.le_refl _) _).setCell (p := ⟨w.heap.size, 2, none⟩) (Nat.le_refl _) _
    have HQ := Lib.hid q
    clear kz q
    go_wp2
    have r0 := HQ.out.cell 0
    have r1 := HQ.out.cell 1
    have r2 := HQ.out.cell 2
    rw [HPR.out]
    refine bodyPost_ret (v := .tuple #[.agg #[.int .i64 0, .int .i64 0, .int .i64 0], .int .i64 3]) (by simp [results, Tryz.results108, go_sem, r0, r1, r2]) rfl ?_
    exact ⟨rfl, HBZ.out⟩
   | some x =>
    rw [hnm] at hpn
    simp only [numbV]
    by_cases hneg : x < 0
    ·have HPN : Hid (partF p.data.toList = .error 3) := by show _ = _; rw [hpn]; simp [hneg]
     clear hpn hnm c0
     have HPR : Hid (partsF L = .error 3) := parts_err (k := k + 1) (by rw [HST.out, HPN.out])
     have kz := HKR9.out
     have z0 : w3.cell? ⟨w.heap.size, 0, none⟩ = some (.int .i64 0) := kz.cell 0
     have z1 : w3.cell? ⟨w.heap.size, 1, none⟩ = some (.int .i64 0) := kz.cell 1
     have z2 : w3.cell? ⟨w.heap.size, 2, none⟩ = some (.int .i64 0) := kz.cell 2
     have f0 := kz.frozen 0
     have f1 := kz.frozen 1
     have f2 := kz.frozen 2
     have q : Blk (((w3.setCell ⟨w.heap.size, 0, none⟩ (.int .i64 0)).setCell ⟨w.heap.size, 1, none⟩ (.int .i64 0)).setCell ⟨w.heap.size, 2, none⟩ (.int .i64 0)) w.heap.size 44 #[.int .i64 0, .int .i64 0, .int .i64 0] := ((kz.set (i := 0) (v := .int .i64 0)).set (i := 1) (v := .int .i64 0)).set (i := 2) (v := .int .i64 0)
     have HBZ : Hid (Below w.heap.size w (((w3.setCell ⟨w.heap.size, 0, none⟩ (.int .i64 0)).setCell ⟨w.heap.size, 1, none⟩ (.int .i64 0)).setCell ⟨w.heap.size, 2, none⟩ (.int .i64 0))) := ((HB9.out.setCell (p := ⟨w.heap.size, 0, none⟩) (Nat.le_refl _) _).setCell (p := ⟨w.heap.size, 1, none⟩) (Nat.le_refl _) _).setCell (p := ⟨w.heap.size, 2, none⟩) (Nat.le_refl _) _
     have HQ := Lib.hid q
     clear kz q
     go_wp2
     have r0 := HQ.out.cell 0
     have r1 := HQ.out.cell 1
     have r2 := HQ.out.cell 2
     rw [HPR.out]
     refine bodyPost_ret (v := .tuple #[.agg #[.int .i64 0, .int .i64 0, .int .i64 0], .int .i64 3]) (by simp [results, Tryz.results108, go_sem, r0, r1, r2]) rfl ?_
     exact ⟨rfl, HBZ.out⟩
    ·by_cases hbig : 999 < x
     ·have HPN : Hid (partF p.data.toList = .error 2) := by show _ = _; rw [hpn]; simp [hneg, hbig]
      clear hpn hnm c0
      have HPR : Hid (partsF L = .error 2) := parts_err (k := k + 1) (by rw [HST.out, HPN.out])
      have kz := HKR9.out
      have z0 : w3.cell? ⟨w.heap.size, 0, none⟩ = some (.int .i64 0) := kz.cell 0
      have z1 : w3.cell? ⟨w.heap.size, 1, none⟩ = some (.int .i64 0) := kz.cell 1
      have z2 : w3.cell? ⟨w.heap.size, 2, none⟩ = some (.int .i64 0) := kz.cell 2
      have f0 := kz.frozen 0
      have f1 := kz.frozen 1
      have f2 := kz.frozen 2
      have q : Blk (((w3.setCell ⟨w.heap.size, 0, none⟩ (.int .i64 0)).setCell ⟨w.heap.size, 1, none⟩ (.int .i64 0)).setCell ⟨w.heap.size, 2, none⟩ (.int .i64 0)) w.heap.size 44 #[.int .i64 0, .int .i64 0, .int .i64 0] := ((kz.set (i := 0) (v := .int .i64 0)).set (i := 1) (v := .int .i64 0)).set (i := 2) (v := .int .i64 0)
      have HBZ : Hid (Below w.heap.size w (((w3.setCell ⟨w.heap.size, 0, none⟩ (.int .i64 0)).setCell ⟨w.heap.size, 1, none⟩ (.int .i64 0)).setCell ⟨w.heap.size, 2, none⟩ (.int .i64 0))) := ((HB9.out.setCell (p := ⟨w.heap.size, 0, none⟩) (Nat.le_refl _) _).setCell (p := ⟨w.heap.size, 1, none⟩) (Nat.le_refl _) _).setCell (p := ⟨w.heap.size, 2, none⟩) (Nat.le_refl _) _
      have HQ := Lib.hid q
      clear kz q
      go_wp2
      have r0 := HQ.out.cell 0
      have r1 := HQ.out.cell 1
      have r2 := HQ.out.cell 2
      rw [HPR.out]
      refine bodyPost_ret (v := .tuple #[.agg #[.int .i64 0, .int .i64 0, .int .i64 0], .int .i64 2]) (by simp [results, Tryz.results108, go_sem, r0, r1, r2]) rfl ?_
      exact ⟨rfl, HBZ.out⟩
     ·obtain ⟨n, rfl⟩ := Int.eq_ofNat_of_zero_le (Int.not_lt.1 hneg)
      have HPN : Hid (partF p.data.toList = .ok n) := by show _ = _; rw [hpn]; simp [hbig]
      clear hpn hnm c0
      have hks : k < (vArr ns).size := hlt
      have v0 : w3.cell? ⟨w1.heap.size, k, none⟩ = (vArr ns)[k]? := HV9.out.cell k
      obtain ⟨u, hu⟩ : ∃ u, (vArr ns)[k]? = some u := ⟨_, Array.getElem?_eq_getElem hks⟩
      rw [hu] at v0
      have fv := HV9.out.frozen k
      clear hu hks
      obtain ⟨WF, hWF⟩ : ∃ WF, w3.setCell ⟨w1.heap.size, k, none⟩ (.int .i64 (n : Int)) = WF := ⟨_, rfl⟩
      have HWF := Lib.hid hWF
      clear hWF
      go_wp2
      go_roundw
      case rel =>
       refine ⟨k + 1, ns ++ [n], by omega, by go_num, by simp [HLE.out], by rw [HST.out, HPN.out], ?_, HR9.out.setCell (p := ⟨w1.heap.size, k, none⟩) (Nat.le_refl _) _⟩
       have h1 := HV9.out.set (i := k) (v := .int .i64 (n : Int))
       have h2 := varr_snoc ns n (by rw [HLE.out]; exact hlt)
       rw [HLE.out] at h2
       rw [h2] at h1
       exact h1
      case measure => simp [intOf]; omega
  ·obtain rfl : k = 3 := by omega
   obtain ⟨x, y, z, rfl⟩ := len3 HLE.out
   have HPR : Hid (partsF L = .ok [x, y, z]) := by have h1 := HPA.out; rw [List.take_of_length_le (by rw [HLN.out]; omega)] at h1; exact h1
   have HB9 : Hid (Below w.heap.size w wr) := HB1.out.trans (HBR.out.mono HB1.out.size)
   have kz := HK1.out.below HBR.out HK1.out.lt
   have a0 : wr.cell? ⟨w1.heap.size, 0, none⟩ = some (.int .i64 (x : Int)) := HVV.out.cell 0
   have a1 : wr.cell? ⟨w1.heap.size, 1, none⟩ = some (.int .i64 (y : Int)) := HVV.out.cell 1
   have a2 : wr.cell? ⟨w1.heap.size, 2, none⟩ = some (.int .i64 (z : Int)) := HVV.out.cell 2
   have z0 : wr.cell? ⟨w.heap.size, 0, none⟩ = some (.int .i64 0) := kz.cell 0
   have z1 : wr.cell? ⟨w.heap.size, 1, none⟩ = some (.int .i64 0) := kz.cell 1
   have z2 : wr.cell? ⟨w.heap.size, 2, none⟩ = some (.int .i64 0) := kz.cell 2
   have f0 := kz.frozen 0
   have f1 := kz.frozen 1
   have f2 := kz.frozen 2
   have q : Blk (((wr.setCell ⟨w.heap.size, 0, none⟩ (.int .i64 (x : Int))).setCell ⟨w.heap.size, 1, none⟩ (.int .i64 (y : Int))).setCell ⟨w.heap.size, 2, none⟩ (.int .i64 (z : Int))) w.heap.size 44 #[.int .i64 (x : Int), .int .i64 (y : Int), .int .i64 (z : Int)] := ((kz.set (i := 0) (v := .int .i64 (x : Int))).set (i := 1) (v := .int .i64 (y : Int))).set (i := 2) (v := .int .i64 (z : Int))
   have HBZ : Hid (Below w.heap.size w (((wr.setCell ⟨w.heap.size, 0, none⟩ (.int .i64 (x : Int))).setCell ⟨w.heap.size, 1, none⟩ (.int .i64 (y : Int))).setCell ⟨w.heap.size, 2, none⟩ (.int .i64 (z : Int)))) := ((HB9.out.setCell (p := ⟨w.heap.size, 0, none⟩) (Nat.le_refl _) _).setCell (p := ⟨w.heap.size, 1, none⟩) (Nat.le_refl _) _).setCell (p := ⟨w.heap.size, 2, none⟩) (Nat.le_refl _) _
   have HQ := Lib.hid q
   clear kz q
   go_wp2
   have r0 := HQ.out.cell 0
   have r1 := HQ.out.cell 1
   have r2 := HQ.out.cell 2
   rw [HPR.out]
   refine bodyPost_ret (v := .tuple #[.agg #[.int .i64 (x : Int), .int .i64 (y : Int), .int .i64 (z : Int)], .int .i64 0]) (by simp [results, Tryz.results108, go_sem, r0, r1, r2]) rfl ?_
   exact ⟨rfl, HBZ.out⟩
theorem cut_size (s m : ByteArray) : ∀ (f k : Nat), ∀ x ∈ cutB s m f k, x.2.size <= s.size := by
 intro f
 induction f with
 | zero => intro k x hx; simp only [cutB, List.mem_singleton] at hx; subst hx; simp
 | succ f ih =>
  intro k x hx
  rw [cutB] at hx
  split at hx
  ·simp only [List.mem_singleton] at hx; subst hx; simp
  ·rcases List.mem_cons.1 hx with rfl | hx
   ·simp; omega
   ·exact ih _ x hx
theorem rvparse_any (HS : SplitC) (s : ByteArray) (w : World) (hs : s.size <= 100000) (hw : Lb w) :
  Calls Tryz.prog 108 #[.string s] w fun e w' => e = .returned (rversV (versF s)) /\ Below w.heap.size w w' := by
 have hc := cuts_count s 46 s.size 0 (by omega) (Nat.zero_le _)
 rw [List.drop_zero] at hc
 by_cases h : (cutB s ⟨#[46]⟩ s.size 0).length = 3
 ·unfold versF
  rw [if_pos (by omega)]
  exact rvparse_three HS s w hs hw h (fun x hx => Nat.le_trans (cut_size s _ _ _ x hx) hs)
 ·unfold versF
  rw [if_neg (by omega)]
  exact rvparse_not HS s w hs hw h
end
section
open Go.RowKit Go.Shelf Sv
theorem splitC : SplitC := fun s W hs hw => by
 obtain ⟨m, hm⟩ := hw.ml
 have h := split_cut s ⟨#[46]⟩ (by decide) s.size 0 (by omega) (Nat.zero_le _)
 have hx : s.extract 0 s.size = s := ba_ext (by rw [Lib.extract_to_end]; simp)
 rw [hx] at h
 have hlen : Lib.countB s ⟨#[46]⟩ + 1 = (cutB s ⟨#[46]⟩ s.size 0).length := by
  have h2 := congrArg List.length h
  rw [List.length_map, Lib.splitB_all _ (by decide) 0 _ s rfl] at h2
  exact h2
 refine (Tryz.strings_Split s ⟨#[46]⟩ m W (by omega) hm (by decide)).mono fun e w' ⟨he, hw'⟩ => ?_
 rw [hlen] at he
 rw [h] at hw'
 exact ⟨he, hw'⟩
end
end Go.Proofs.YtpmpnbbihmgdpaaGreatDoor
