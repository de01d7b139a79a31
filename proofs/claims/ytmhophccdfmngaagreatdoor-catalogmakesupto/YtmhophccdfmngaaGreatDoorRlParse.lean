/- The reference: CatalogParse. -/
import Derived.Test.YtmhophccdfmngaaGreatDoorRwLL
import Derived.Test.YtmhophccdfmngaaGreatDoorRlLine
import Derived.Test.YtmhophccdfmngaaGreatDoorSvShelfC
import Derived.Test.YtmhophccdfmngaaGreatDoorSvRTxt
import Derived.Test.YtmhophccdfmngaaGreatDoorCtLine
import Derived.Laws.StructEq
import Derived.Laws.Tables
import Derived.Laws.Cover2
set_option maxHeartbeats 4000000
set_option maxRecDepth 100000
namespace Go.Proofs.YtmhophccdfmngaaGreatDoor
section
open Go.RowKit Go.Deep Go.Shelf Sv
structure Raw where
 kind : Int
 name : ByteArray
 a : Int
 b : Int
 c : Int
 other : ByteArray
 rng : ByteArray
instance : Inhabited Raw := ⟨⟨0, ⟨#[]⟩, 0, 0, 0, ⟨#[]⟩, ⟨#[]⟩⟩⟩
structure RawAt (w : World) (ad : Addr) (i : Nat) (q : Raw) : Prop where
 lt : ad.block < w.heap.size
 c0 : w.cell? (ad.add (i * 7)) = some (.int .i64 q.kind)
 c1 : w.cell? ⟨(ad.add (i * 7)).block, (ad.add (i * 7)).off + 1, none⟩ = some (.string q.name)
 c2 : w.cell? ⟨(ad.add (i * 7)).block, (ad.add (i * 7)).off + 2, none⟩ = some (.int .i64 q.a)
 c3 : w.cell? ⟨(ad.add (i * 7)).block, (ad.add (i * 7)).off + 3, none⟩ = some (.int .i64 q.b)
 c4 : w.cell? ⟨(ad.add (i * 7)).block, (ad.add (i * 7)).off + 4, none⟩ = some (.int .i64 q.c)
 c5 : w.cell? ⟨(ad.add (i * 7)).block, (ad.add (i * 7)).off + 5, none⟩ = some (.string q.other)
 c6 : w.cell? ⟨(ad.add (i * 7)).block, (ad.add (i * 7)).off + 6, none⟩ = some (.string q.rng)
theorem RawAt.below {B : Nat} {w w' : World} {ad : Addr} {i : Nat} {q : Raw} (h : RawAt w ad i q) (hb : Below B w w') (hB : w.heap.size <= B) : RawAt w' ad i q := by
 have hl : (ad.add (i * 7)).block < B := by rw [addr_block]; have := h.lt; omega
 exact ⟨Nat.lt_of_lt_of_le h.lt hb.size, (hb.cell hl).trans h.c0, (hb.cell (p := ⟨(ad.add (i * 7)).block, (ad.add (i * 7)).off + 1, none⟩) hl).trans h.c1, (hb.cell (p := ⟨(ad.add (i * 7)).block, (ad.add (i * 7)).off + 2, none⟩) hl).trans h.c2, (hb.cell (p := ⟨(ad.add (i * 7)).block, (ad.add (i * 7)).off + 3, none⟩) hl).trans h.c3, (hb.cell (p := ⟨(ad.add (i * 7)).block, (ad.add (i * 7)).off + 4, none⟩) hl).trans h.c4, (hb.cell (p := ⟨(ad.add (i * 7)).block, (ad.add (i * 7)).off + 5, none⟩) hl).trans h.c5, (hb.cell (p := ⟨(ad.add (i * 7)).block, (ad.add (i * 7)).off + 6, none⟩) hl).trans h.c6⟩
def RawsAt (w : World) (a : Option Addr) (xs : List Raw) : Prop := ∀ i, i < xs.length -> ∃ ad, a = some ad /\ RawAt w ad i (xs.getD i default)
theorem RawsAt.below {B : Nat} {w w' : World} {a : Option Addr} {xs : List Raw} (h : RawsAt w a xs) (hb : Below B w w') (hB : w.heap.size <= B) : RawsAt w' a xs := fun i hi => by
 obtain ⟨ad, e, h1⟩ := h i hi
 exact ⟨ad, e, h1.below hb hB⟩
def rawF (q : Raw) : Option Ln := if 60 < q.rng.size \/ 40 < q.name.size \/ 40 < q.other.size then none else match rangeF q.rng with
 | .error _ => none
 | .ok l => some ⟨q.kind, q.name, q.a, q.b, q.c, q.other, l⟩
def linesF : List Raw -> List Ln -> Option (List Ln)
 | [], acc => some acc
 | q :: r, acc => match rawF q with
  | none => none
  | some x => linesF r (acc ++ [x])
theorem linesF_len : ∀ (xs : List Raw) (acc ls : List Ln), linesF xs acc = some ls -> ls.length = acc.length + xs.length
 | [], acc, ls, h => by cases h; rfl
 | q :: r, acc, ls, h => by
  rw [linesF] at h
  split at h
  ·cases h
  ·rw [linesF_len r _ ls h]; simp; omega
theorem raw_drop {xs : List Raw} {k : Nat} (h : k < xs.length) : xs.drop k = xs.getD k default :: xs.drop (k + 1) := by
 rw [List.drop_eq_getElem_cons h, List.getD_eq_getElem?_getD, List.getElem?_eq_getElem h]; rfl
def LinesRes (w : World) (n : Nat) (r : Option (List Ln)) (e : Ending) (w' : World) : Prop :=
 match r with
 | none => e = .returned (.tuple #[.slice none 0 0, .slice none 0 0, .bool false]) /\ Below w.heap.size w w'
 | some ls => ∃ lv uv vs us, e = .returned (.tuple #[lv, uv, .bool (decide (n <= 110))]) /\ LL w w' lv uv ls vs us
theorem infoLnP : (Tryz.prog.info? 76).map (fun i => (i.zero, i.size, i.bytes)) = some (some (.agg #[.int .i64 0, .string ⟨#[]⟩, .int .i64 0, .int .i64 0, .int .i64 0, .string ⟨#[]⟩, .slice none 0 0]), 7, 88) := by kernel_rfl
theorem ln_cells (w : World) (x : Ln) (v : Value) (t : TypeId) : ∀ (j : Nat) (u : Value), (encLn x v)[j]? = some u -> (w.alloc (.cells #[.int .i64 x.kind, .string x.name, .int .i64 x.a, .int .i64 x.b, .int .i64 x.c, .string x.other, v] t)).cell? (Addr.add ⟨w.heap.size, 0, none⟩ j) = some u := by
 intro j u hu
 have hB := Blk.new w t #[.int .i64 x.kind, .string x.name, .int .i64 x.a, .int .i64 x.b, .int .i64 x.c, .string x.other, v]
 rw [add_plain, Nat.zero_add, hB.cell j, <- hu]
 match j with
 | 0 => rfl
 | 1 => rfl
 | 2 => rfl
 | 3 => rfl
 | 4 => rfl
 | 5 => rfl
 | 6 => rfl
 | j + 7 => simp [encLn]
theorem ln_one (x : Ln) (a : Option Addr) (n c : Nat) : ∀ u ∈ encLn x (.slice a n c), u.oneCell' = true := by
 intro u hu
 simp only [encLn, List.mem_cons, List.not_mem_nil, or_false] at hu
 rcases hu with rfl | rfl | rfl | rfl | rfl | rfl | rfl <;> rfl
theorem lines_any (xs : List Raw) (xa : Option Addr) (xc : Nat) (w : World) (hx : RawsAt w xa xs) (hl : xs.length <= 1048576) (hw : Lw w) (hF : FineR w) :
  Calls Tryz.prog 29 #[.slice xa xs.length xc] w (LinesRes w xs.length (linesF xs [])) := by
 obtain ⟨i0, hin, hz0, hz1, hz2⟩ := info_parts infoLnP
 obtain ⟨j0, cin, cz0, cz1, cz2⟩ := info_parts infoRLn
 obtain ⟨R, hR⟩ : ∃ R, linesF xs [] = R := ⟨_, rfl⟩
 rw [hR]
 have HR := Lib.hid hR
 have HX := Lib.hid hx
 have HW := Lib.hid hw
 have HF := Lib.hid hF
 clear hR hx hw hF
 go_enter Tryz.func29, Tryz.ntmps29
 go_wp2_with fail
 go_loopw [5, 6, 7] (fun lV uV kV wr => ∃ (k : Nat) (ls : List Ln) (vs us : List Value), k <= xs.length /\ kV = .int .i64 (k : Int) /\ ls.length = k /\ linesF (xs.drop k) ls = R /\ LL w wr lV uV ls vs us) (fun _ _ kV _ => xs.length - (intOf kV).toNat)
 case atStart => exact ⟨0, [], [], [], Nat.zero_le _, rfl, rfl, by simpa using HR.out, LL.start w⟩
 case round =>
  obtain ⟨k, ls, vs, us, hk, rfl, hlk, hlf, hll⟩ := hrel
  obtain ⟨la, lc, rfl⟩ := hll.lform
  obtain ⟨ua, uc, rfl⟩ := hll.uform
  have HLL := Lib.hid hll
  have HLF := Lib.hid hlf
  have HLK := Lib.hid hlk
  have hlls : ls.length <= 1048576 := by omega
  have HBW := Lib.hid hll.B
  clear hlf hlk hll
  by_cases hlt : k < xs.length
  ·have hii0 : (0 : Int) <= (k : Int) := by omega
   have hii1 : (k : Int) < (xs.length : Int) := by omega
   obtain ⟨ad, rfl, hq⟩ := HX.out.below HBW.out (Nat.le_refl _) k hlt
   have hlf2 : (match rawF (xs.getD k default) with | none => none | some x => linesF (xs.drop (k + 1)) (ls ++ [x])) = R := by
    have := HLF.out
    rw [raw_drop hlt, linesF] at this
    exact this
   obtain ⟨Q, hQ⟩ : ∃ Q, xs.getD k default = Q := ⟨_, rfl⟩
   rw [hQ] at hq hlf2
   have HLF2 := Lib.hid hlf2
   obtain ⟨-, c0, c1, c2, c3, c4, c5, c6⟩ := hq
   have hA := below_new wr (.cells #[.int .i64 Q.kind, .string Q.name, .int .i64 Q.a, .int .i64 Q.b, .int .i64 Q.c, .string Q.other, .string Q.rng] 141)
   have HKN := Lib.hid (Blk.new wr 141 #[.int .i64 Q.kind, .string Q.name, .int .i64 Q.a, .int .i64 Q.b, .int .i64 Q.c, .string Q.other, .string Q.rng])
   have HL1 := Lib.hid (HLL.out.step hA)
   clear hA hQ hlf2 HLF HLL HBW
   obtain ⟨ab, ao, asp⟩ := ad
   go_upto_region 7 with fail
   generalize wr.alloc (.cells #[.int .i64 Q.kind, .string Q.name, .int .i64 Q.a, .int .i64 Q.b, .int .i64 Q.c, .string Q.other, .string Q.rng] 141) = W1 at *
   generalize wr.heap.size = bx at *
   clear c0 c1 c2 c3 c4 c5 c6
   have c1 : W1.cell? ⟨bx, 1, none⟩ = some (.string Q.name) := HKN.out.cell 1
   have c5 : W1.cell? ⟨bx, 5, none⟩ = some (.string Q.other) := HKN.out.cell 5
   have c6 : W1.cell? ⟨bx, 6, none⟩ = some (.string Q.rng) := HKN.out.cell 6
   by_cases hlong : 60 < Q.rng.size \/ 40 < Q.name.size \/ 40 < Q.other.size
   ·have hRe : R = none := by rw [<- HLF2.out]; unfold rawF; rw [if_pos hlong]
    subst hRe
    have HB1 := Lib.hid HL1.out.B
    clear HLF2 HL1 HKN
    by_cases h1 : 60 < Q.rng.size
    ·have h1i : (60 : Int) < (Q.rng.size : Int) := by omega
     go_wp2
     refine bodyPost_ret (v := .tuple #[.slice none 0 0, .slice none 0 0, .bool false]) (by simp [results, Tryz.f29, go_sem]) rfl ?_
     exact ⟨rfl, HB1.out⟩
    ·have h1i : ¬ (60 : Int) < (Q.rng.size : Int) := by omega
     by_cases h2 : 40 < Q.name.size
     ·have h2i : (40 : Int) < (Q.name.size : Int) := by omega
      go_wp2
      refine bodyPost_ret (v := .tuple #[.slice none 0 0, .slice none 0 0, .bool false]) (by simp [results, Tryz.f29, go_sem]) rfl ?_
      exact ⟨rfl, HB1.out⟩
     ·have h2i : ¬ (40 : Int) < (Q.name.size : Int) := by omega
      have h3i : (40 : Int) < (Q.other.size : Int) := by omega
      go_wp2
      refine bodyPost_ret (v := .tuple #[.slice none 0 0, .slice none 0 0, .bool false]) (by simp [results, Tryz.f29, go_sem]) rfl ?_
      exact ⟨rfl, HB1.out⟩
   ·have h1i : ¬ (60 : Int) < (Q.rng.size : Int) := by omega
    have h2i : ¬ (40 : Int) < (Q.name.size : Int) := by omega
    have h3i : ¬ (40 : Int) < (Q.other.size : Int) := by omega
    have hW1 := HW.out.below HL1.out.B
    have HRP0 := rrng_any Q.rng W1 (by omega) hW1.lb (HF.out.below HL1.out.B)
    have HPP0 : ∀ W, Below W1.heap.size W1 W -> _ := fun W hb => rng_any Q.rng W (by omega) (hW1.below hb).lb
    cases hr : rangeF Q.rng with
    | error e2 =>
     obtain ⟨q, pq⟩ := e2
     have hrn : rngF Q.rng = .error (q, some pq) := by unfold rngF; rw [if_neg (by omega), hr]
     have hRe : R = none := by rw [<- HLF2.out]; unfold rawF; rw [if_neg hlong, hr]
     subst hRe
     rw [hrn] at HRP0
     have HRP := Lib.hid HRP0
     have HPP : Hid (∀ W, Below W1.heap.size W1 W -> Calls Tryz.prog 13 #[.string Q.rng] W fun e w' => ∃ et ev, e = .returned (.tuple #[.agg #[.slice none 0 0], .iface et ev]) /\ Below W.heap.size W w') := fun W hb => (HPP0 W hb).mono fun e w' ⟨a, n, c, er, h1, h2, _, h4⟩ => by
      rw [hrn] at h2
      obtain ⟨h5, h6⟩ := h2
      obtain ⟨et, ev, rfl⟩ := h6.form
      exact ⟨et, ev, by rw [h1, h5], h4⟩
     clear HRP0 HPP0 hr hrn hlong hW1 HLF2
     go_wp2_with fail
     refine HRP.out.mono ?_
     rintro e w2 ⟨l, ra, rc, fk, fp, rfl, -, -, -, hb2, hl0, hk0, hp0⟩
     have hA3 := below_new w2 (.cells #[.int .i64 fk, .int .i64 fp] 26)
     have HKF := Lib.hid (Blk.new w2 26 #[.int .i64 fk, .int .i64 fp])
     have HB3 : Hid (Below W1.heap.size W1 (w2.alloc (.cells #[.int .i64 fk, .int .i64 fp] 26))) := hb2.trans (hA3.mono hb2.size)
     clear hA3 hb2 hl0 hk0 hp0 HRP
     generalize (tp l).length = TL at *
     go_upto_region 10 with fail
     generalize w2.alloc (.cells #[.int .i64 fk, .int .i64 fp] 26) = W3 at *
     generalize w2.heap.size = bf at *
     have d6 : W3.cell? ⟨bx, 6, none⟩ = some (.string Q.rng) := (HKN.out.below HB3.out HKN.out.lt).cell 6
     go_wp2_with fail
     refine (HPP.out _ HB3.out).mono ?_
     rintro e w4 ⟨et, ev, rfl, hb4⟩
     have hA5 := below_new w4 (.cells #[.slice none 0 0] 31)
     have hb5 := hb4.trans (hA5.mono hb4.size)
     have HKF5 := Lib.hid (HKF.out.below hb5 HKF.out.lt)
     have HB5 : Hid (Below w.heap.size w (w4.alloc (.cells #[.slice none 0 0] 31))) := (HL1.out.B.trans (HB3.out.mono HL1.out.B.size)).trans (hb5.mono (by have := HL1.out.B.size; have := HB3.out.size; omega))
     clear hA5 hb4 hb5 HPP d6 HB3 HKF HL1
     go_upto_region 11 with fail
     generalize w4.alloc (.cells #[.slice none 0 0] 31) = W5 at *
     have f0 : W5.cell? ⟨bf, 0, none⟩ = some (.int .i64 fk) := HKF5.out.cell 0
     by_cases hz : fk = 0
     ·subst hz
      go_wp2
      refine bodyPost_ret (v := .tuple #[.slice none 0 0, .slice none 0 0, .bool false]) (by simp [results, Tryz.f29, go_sem]) rfl ?_
      exact ⟨rfl, HB5.out⟩
     ·have hzb : (fk == 0) = false := by rw [beq_eq_false_iff_ne]; exact hz
      go_wp2
      refine bodyPost_ret (v := .tuple #[.slice none 0 0, .slice none 0 0, .bool false]) (by simp [results, Tryz.f29, go_sem]) rfl ?_
      exact ⟨rfl, HB5.out⟩
    | ok lo =>
     have hrn : rngF Q.rng = .ok lo := by unfold rngF; rw [if_neg (by omega), hr]
     obtain ⟨X, hX⟩ : ∃ X : Ln, X = ⟨Q.kind, Q.name, Q.a, Q.b, Q.c, Q.other, lo⟩ := ⟨_, rfl⟩
     have hRe : linesF (xs.drop (k + 1)) (ls ++ [X]) = R := by rw [<- HLF2.out]; unfold rawF; rw [if_neg hlong, hr, hX]
     have HRE := Lib.hid hRe
     rw [hrn] at HRP0
     have HRP : Hid (Calls Tryz.prog 12 #[.string Q.rng] W1 fun e w' => ∃ (a : Option Addr) (c : Nat), e = .returned (.tuple #[.slice a (tp lo).length c, .agg #[.int .i64 0, .int .i64 (-1)]]) /\ NsAt w' (.slice a (tp lo).length c) (tp lo) /\ Rg lo /\ (∀ g, (Value.slice a (tp lo).length c).ownBlock = some g -> W1.heap.size <= g) /\ Below W1.heap.size W1 w') := HRP0.mono fun e w' ⟨l, a, c, k, p, h1, h2, h3, h4, h5, h6, h7, h8⟩ => by
      subst h6 h7 h8
      exact ⟨a, c, h1, h2, h3, h4, h5⟩
     have HPP : Hid (∀ W, Below W1.heap.size W1 W -> Calls Tryz.prog 13 #[.string Q.rng] W fun e w' => ∃ a c, e = .returned (.tuple #[.agg #[.slice a lo.length c], .nilIface]) /\ SpAt w' (.slice a lo.length c) lo /\ (∀ g, (Value.slice a lo.length c).ownBlock = some g -> W.heap.size <= g) /\ Below W.heap.size W w') := fun W hb => (HPP0 W hb).mono fun e w' ⟨a, n, c, er, h1, h2, h3, h4⟩ => by
      rw [hrn] at h2
      obtain ⟨h5, h6, h7⟩ := h2
      obtain ⟨a', c', e'⟩ := h6.form
      simp at e'
      obtain ⟨rfl, rfl, rfl⟩ := e'
      exact ⟨a, c, by rw [h1, h5], h6, h3, h4⟩
     have hXr : X.rng = lo := by rw [hX]
     have HXC : Hid (∀ v, encLn X v = [.int .i64 Q.kind, .string Q.name, .int .i64 Q.a, .int .i64 Q.b, .int .i64 Q.c, .string Q.other, v]) := fun v => by rw [hX]; rfl
     have HXR := Lib.hid hXr
     have HXX := Lib.hid hX
     clear HRP0 HPP0 hr hrn hlong hW1 HLF2 hRe hX hXr
     go_wp2_with fail
     refine HRP.out.mono ?_
     rintro e w2 ⟨ra, rc, rfl, hns, hrg, hnb, hb2⟩
     have hA3 := below_new w2 (.cells #[.int .i64 0, .int .i64 (-1)] 26)
     have HKF := Lib.hid (Blk.new w2 26 #[.int .i64 0, .int .i64 (-1)])
     have HB3 : Hid (Below W1.heap.size W1 (w2.alloc (.cells #[.int .i64 0, .int .i64 (-1)] 26))) := hb2.trans (hA3.mono hb2.size)
     have HNS := Lib.hid (hns.below hA3 (Nat.le_refl _))
     have HNB := Lib.hid hnb
     have HRG := Lib.hid hrg
     clear hA3 hb2 hns hnb hrg HRP
     go_upto_region 10 with fail
     generalize w2.alloc (.cells #[.int .i64 0, .int .i64 (-1)] 26) = W3 at *
     generalize w2.heap.size = bf at *
     have d6 : W3.cell? ⟨bx, 6, none⟩ = some (.string Q.rng) := (HKN.out.below HB3.out HKN.out.lt).cell 6
     go_wp2_with fail
     refine (HPP.out _ HB3.out).mono ?_
     rintro e w4 ⟨sa, sc, rfl, hsp, hsb, hb4⟩
     have hA5 := below_new w4 (.cells #[.slice sa lo.length sc] 31)
     have hb5 := hb4.trans (hA5.mono hb4.size)
     have HKF5 := Lib.hid (HKF.out.below hb5 HKF.out.lt)
     have HKR := Lib.hid (Blk.new w4 31 #[.slice sa lo.length sc])
     have hb15 := HB3.out.trans (hb5.mono HB3.out.size)
     have HKN5 := Lib.hid (HKN.out.below hb15 HKN.out.lt)
     have HL5 := Lib.hid (HL1.out.step hb15)
     have HNS5 := Lib.hid (HNS.out.below hb5 (Nat.le_refl _))
     have HSP5 := Lib.hid (hsp.below hA5 (Nat.le_refl _))
     have HS1 : Hid (0 < X.rng.length -> ∀ g, (Value.slice sa lo.length sc).ownBlock = some g -> some g ≠ (Value.slice la ls.length lc).ownBlock /\ some g ≠ (Value.slice ua ls.length uc).ownBlock) := fun _ g hg => by
      have h1 := hsb g hg
      have h2 := HB3.out.size
      refine ⟨fun e => ?_, fun e => ?_⟩
      ·have := (HL1.out.lrow.lt g e.symm).2; omega
      ·have := (HL1.out.urow.lt g e.symm).2; omega
     have HN1 : Hid (0 < X.rng.length -> ∀ g, (Value.slice ra (tp lo).length rc).ownBlock = some g -> some g ≠ (Value.slice la ls.length lc).ownBlock /\ some g ≠ (Value.slice ua ls.length uc).ownBlock) := fun _ g hg => by
      have h1 := HNB.out g hg
      refine ⟨fun e => ?_, fun e => ?_⟩
      ·have := (HL1.out.lrow.lt g e.symm).2; omega
      ·have := (HL1.out.urow.lt g e.symm).2; omega
     clear hA5 hb4 hb5 hb15 hsp hsb HPP d6 HB3 HKF HL1 HNS HNB HKN
     go_upto_region 11 with fail
     generalize w4.alloc (.cells #[.slice sa lo.length sc] 31) = W5 at *
     generalize w4.heap.size = br at *
     have f0 : W5.cell? ⟨bf, 0, none⟩ = some (.int .i64 0) := HKF5.out.cell 0
     have g0 : W5.cell? ⟨bx, 0, none⟩ = some (.int .i64 Q.kind) := HKN5.out.cell 0
     have g1 : W5.cell? ⟨bx, 1, none⟩ = some (.string Q.name) := HKN5.out.cell 1
     have g2 : W5.cell? ⟨bx, 2, none⟩ = some (.int .i64 Q.a) := HKN5.out.cell 2
     have g3 : W5.cell? ⟨bx, 3, none⟩ = some (.int .i64 Q.b) := HKN5.out.cell 3
     have g4 : W5.cell? ⟨bx, 4, none⟩ = some (.int .i64 Q.c) := HKN5.out.cell 4
     have g5 : W5.cell? ⟨bx, 5, none⟩ = some (.string Q.other) := HKN5.out.cell 5
     have r0 : W5.cell? ⟨br, 0, none⟩ = some (.slice sa lo.length sc) := HKR.out.cell 0
     have hszW := HL5.out.B.size
     have HLC : Hid (∀ (j : Nat) (u : Value), (encLn X (.slice sa lo.length sc))[j]? = some u -> (W5.alloc (.cells #[.int .i64 Q.kind, .string Q.name, .int .i64 Q.a, .int .i64 Q.b, .int .i64 Q.c, .string Q.other, .slice sa lo.length sc] 76)).cell? (Addr.add ⟨W5.heap.size, 0, none⟩ j) = some u) := by
      have := ln_cells W5 X (.slice sa lo.length sc) 76
      rw [HXX.out] at this ⊢
      exact this
     go_wp2_with (at_builtin; refine wpList_append_own_at _ rfl _ _ 54 rfl w.heap.size 76 i0 (.agg #[.int .i64 0, .string ⟨#[]⟩, .int .i64 0, .int .i64 0, .int .i64 0, .string ⟨#[]⟩, .slice none 0 0]) 7 88 Tryz.underlying54 hin hz0 hz1 hz2 rfl (by decide) _ _ _ rfl (HL5.out.lrow.alloc _) ⟨W5.heap.size, 0, none⟩ 1 1 (encLn X (.slice sa lo.length sc)) rfl rfl ?c1 ?c2 ?c3 ?c4 ?c5 ?_)
     case c1 => exact HLC.out
     case c2 => exact ln_one _ _ _ _
     case c3 => unfold maxLen; omega
     case c4 => omega
     case c5 => simp; omega
     intro v7 w7 hown7 hgrow7 _ hloc7
     have hbn := below_new W5 (.cells #[.int .i64 Q.kind, .string Q.name, .int .i64 Q.a, .int .i64 Q.b, .int .i64 Q.c, .string Q.other, .slice sa lo.length sc] 76)
     have HLM := Lib.hid ((HL5.out.step hbn).appL (x := X) (by rw [HXR.out]; exact HSP5.out.below hbn (Nat.le_refl _)) (by rw [HXR.out]; exact HNS5.out.below hbn (Nat.le_refl _)) (by rw [HXR.out]; exact HRG.out) HS1.out HN1.out hown7 hgrow7 (by rw [World.size_alloc]; exact hloc7))
     have HKN7 := Lib.hid ((HKN5.out.below hbn HKN5.out.lt).kept hgrow7 (fun e => ownBlock_ne' HL5.out.lrow HKN5.out (by decide) e.symm))
     have g0 : w7.cell? ⟨bx, 0, none⟩ = some (.int .i64 Q.kind) := HKN7.out.cell 0
     have g1 : w7.cell? ⟨bx, 1, none⟩ = some (.string Q.name) := HKN7.out.cell 1
     have g2 : w7.cell? ⟨bx, 2, none⟩ = some (.int .i64 Q.a) := HKN7.out.cell 2
     have g3 : w7.cell? ⟨bx, 3, none⟩ = some (.int .i64 Q.b) := HKN7.out.cell 3
     have g4 : w7.cell? ⟨bx, 4, none⟩ = some (.int .i64 Q.c) := HKN7.out.cell 4
     have g5 : w7.cell? ⟨bx, 5, none⟩ = some (.string Q.other) := HKN7.out.cell 5
     have hsz7 := HLM.out.B.size
     have HUC : Hid (∀ (j : Nat) (u : Value), (encLn X (.slice ra (tp lo).length rc))[j]? = some u -> (w7.alloc (.cells #[.int .i64 Q.kind, .string Q.name, .int .i64 Q.a, .int .i64 Q.b, .int .i64 Q.c, .string Q.other, .slice ra (tp lo).length rc] 79)).cell? (Addr.add ⟨w7.heap.size, 0, none⟩ j) = some u) := by
      have := ln_cells w7 X (.slice ra (tp lo).length rc) 79
      rw [HXX.out] at this ⊢
      exact this
     clear hown7 hgrow7 hloc7 hbn HL5 HKN5 HKR HKF5 HNS5 HSP5 HS1 HN1 HLC
     go_wp2_with (at_builtin; refine wpList_append_own_at _ rfl _ _ 55 rfl w.heap.size 79 j0 (.agg #[.int .i64 0, .string ⟨#[]⟩, .int .i64 0, .int .i64 0, .int .i64 0, .string ⟨#[]⟩, .slice none 0 0]) 7 88 Tryz.underlying55 cin cz0 cz1 cz2 rfl (by decide) _ _ _ rfl (HLM.out.urow.alloc _) ⟨w7.heap.size, 0, none⟩ 1 1 (encLn X (.slice ra (tp lo).length rc)) rfl rfl ?d1 ?d2 ?d3 ?d4 ?d5 ?_)
     case d1 => exact HUC.out
     case d2 => exact ln_one _ _ _ _
     case d3 => unfold maxLen; omega
     case d4 => omega
     case d5 => simp; omega
     intro v8 w8 hown8 hgrow8 _ hloc8
     have hbn := below_new w7 (.cells #[.int .i64 Q.kind, .string Q.name, .int .i64 Q.a, .int .i64 Q.b, .int .i64 Q.c, .string Q.other, .slice ra (tp lo).length rc] 79)
     have HL8 := Lib.hid ((HLM.out.step hbn).appU (by rw [HXR.out]; exact HRG.out) hown8 hgrow8 (by rw [World.size_alloc]; exact hloc8))
     clear hown8 hgrow8 hloc8 hbn HLM HKN7 HUC
     go_wp2
     go_roundw
     case rel => exact ⟨k + 1, _, _, _, by omega, by go_num, by simp [HLK.out], HRE.out, HL8.out⟩
     case measure => simp [intOf]; omega
  ·have hni : ¬ (k : Int) < (xs.length : Int) := by omega
   obtain rfl : k = xs.length := by omega
   have hRe : R = some ls := by rw [<- HLF.out]; simp [linesF]
   subst hRe
   go_wp2
   refine bodyPost_ret (v := .tuple #[.slice la ls.length lc, .slice ua ls.length uc, .bool (decide ((xs.length : Int) <= 110))]) (by simp [results, Tryz.f29, go_sem]) rfl ?_
   exact ⟨_, _, vs, us, by rw [show decide ((xs.length : Int) <= 110) = decide (xs.length <= 110) by congr 1; simp; omega], HLL.out⟩
end
section
open Go.RowKit Go.Deep Go.Shelf Sv
attribute [local go_sem] Oper.semAt_some
theorem CatV.base {w : World} {b : Nat} {ls : List Ln} {vs : List Value} {its : List It} {B B' : Nat} (h : CatV w b ls vs its B) (hB : B' <= B) : CatV w b ls vs its B' := by
 obtain ⟨lv, iv, bm, h1, h2, h3, h4, h5, h6, h7, h8, h9⟩ := h
 exact ⟨lv, iv, bm, h1, h2, h3, h4, h5, Nat.le_trans hB h6, Nat.le_trans hB h7, fun g hg => Nat.le_trans hB (h8 g hg), fun g hg => Nat.le_trans hB (h9 g hg)⟩
end
section
open Go.RowKit Go.Deep Go.Shelf Sv
theorem gathF_err : ∀ (ls : List Ln) (i : Nat) (its : List It) (k : Int) (j : Nat), gathF ls i its = .error (k, j) -> k ≠ 0 := by
 intro ls
 induction ls with
 | nil => intro i its k j h; cases h
 | cons x r ih =>
  intro i its k j h
  unfold gathF at h
  split at h
  ·rename_i hz; cases h; exact hz
  ·split at h
   ·split at h
    ·cases h; decide
    ·split at h
     ·cases h; decide
     ·exact ih _ _ _ _ h
   ·exact ih _ _ _ _ h
theorem newF_err {ls : List Ln} {q : Int} {o : Option Nat} (h : newF ls = .error (q, o)) : q ≠ 0 := by
 unfold newF at h
 split at h
 ·cases h; decide
 ·split at h
  ·rename_i e he
   obtain ⟨e1, e2⟩ := e
   cases h
   exact gathF_err _ _ _ _ _ he
  ·split at h
   ·cases h; decide
   ·cases h
end
end Go.Proofs.YtmhophccdfmngaaGreatDoor
