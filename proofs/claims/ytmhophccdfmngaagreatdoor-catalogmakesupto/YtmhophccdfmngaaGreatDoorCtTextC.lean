/- A catalog's text, as the program writes it. -/
import Derived.Test.YtmhophccdfmngaaGreatDoorCtGet
import Derived.Test.YtmhophccdfmngaaGreatDoorRwLL
import Derived.Test.YtmhophccdfmngaaGreatDoorCtMap
import Derived.Test.YtmhophccdfmngaaGreatDoorClWithin
import Derived.Shelf.Spec.SlicesInsertGrow
set_option maxHeartbeats 4000000
set_option maxRecDepth 100000
namespace Go.Proofs.YtmhophccdfmngaaGreatDoor
section
open Go.RowKit Go.Deep Sv
theorem rowFld (a b : Int) (W : World) : (Instr.field 161 (.agg #[.int .i64 a, .int .i64 b]) 0).run Tryz.prog W = .ok (.int .i64 a) W /\ (Instr.field 161 (.agg #[.int .i64 a, .int .i64 b]) 1).run Tryz.prog W = .ok (.int .i64 b) W := by
 constructor <;> kernel_rfl
theorem among_c (bk : Nat) (ls : List Ln) (its : List It) (name : ByteArray) (rng : List Span) (hr : Rg rng) (v : Value) (w : World) (h : CatAt w bk ls its) (hl : its.length <= 100000) (hn : name.size <= 100000) (hv : SpAt w v rng) :
  Calls Tryz.prog 39 #[.pointer (some ⟨bk, 0, none⟩), .string name, .agg #[v]] w fun e w' => ∃ v', e = .returned v' /\ w'.ownsRow w.heap.size 3 1 v' (amongF its name rng).length (icells ((amongF its name rng).map fun (k : Nat) => (k : Int))) /\ Below w.heap.size w w' := by
 obtain ⟨va, vc, rfl⟩ := hv.form
 obtain ⟨lv, iv, bm, h1, h2, h3, h4⟩ := h
 obtain ⟨ia, ic, rfl, -⟩ := h3.form
 obtain ⟨i0, hin, hz0, hz1, hz2⟩ := info_parts infoInt
 have HHAS : Hid (∀ W i, Below w.heap.size w W -> Calls Tryz.prog 25 #[.agg #[.slice va rng.length vc], .agg #[.int .i64 (its.getD i default).a, .int .i64 (its.getD i default).b, .int .i64 (its.getD i default).c]] W fun e w' => (e = .returned (.bool true) /\ hasF rng (its.getD i default) \/ e = .returned (.bool false) /\ ¬ hasF rng (its.getD i default)) /\ Below W.heap.size W w') := fun W i hW => (hasv rng hr va vc (its.getD i default) W (hv.below hW (Nat.le_refl _))).mono fun e w' ⟨he, hb⟩ => by
  refine ⟨?_, hb⟩
  by_cases hh : hasF rng (its.getD i default)
  ·exact Or.inl ⟨by rw [he]; congr 2; exact @decide_eq_true _ (Classical.propDecidable _) hh, hh⟩
  ·exact Or.inr ⟨by rw [he]; congr 2; exact @decide_eq_false _ (Classical.propDecidable _) hh, hh⟩
 have hbx : Below w.heap.size w (w.alloc (.cells #[.slice va rng.length vc] 31)) := (Below.refl _ w).alloc (Nat.le_refl _) _
 have kr := Blk.new w 31 #[.slice va rng.length vc]
 have k1 := h1.below hbx h1.lt
 have h5 := h4.below hbx (Nat.le_refl _)
 have hlook := fun (n : Nat) => ((h5.block (w' := (w.alloc (.cells #[.slice va rng.length vc] 31)).drewN n) rfl).look hn).2
 clear h5
 have HI := Lib.hid (show ItsAt (w.alloc (.cells #[.slice va rng.length vc] 31)) (.slice ia its.length ic) its from h3.below hbx (Nat.le_refl _))
 have HBX := Lib.hid hbx
 have HST := Lib.hid (amP_start its name rng)
 have HEN := Lib.hid (amP_end its name rng)
 have HSU : Hid (∀ i, (ctRow its name).1 <= i -> amP its name rng (i + 1) = amP its name rng i ++ (@ite _ (hasF rng (its.getD i default)) (Classical.propDecidable _) [i] [])) := fun i hi => amP_succ its name rng hi
 have HLE := Lib.hid (fun i => amP_len its name rng i)
 have hbd := ctRow_bound its name
 have hrow : (ctRowO its name).getD (0, 0) = ctRow its name := rfl
 simp only [hrow, rowV] at hlook
 obtain ⟨la, lc, rfl, -⟩ : ∃ la lc, lv = .slice la ls.length lc /\ True := by obtain ⟨vs, _, h2⟩ := h2; obtain ⟨x, y, e, _⟩ := h2.form; exact ⟨x, y, e, trivial⟩
 clear hrow h1 h2 h3 h4 hbx hv hr hn
 generalize amP its name rng = am at *
 generalize amongF its name rng = amF at *
 obtain ⟨lo, hlo⟩ : ∃ lo, (ctRow its name).1 = lo := ⟨_, rfl⟩
 obtain ⟨hi, hhi⟩ : ∃ hi, (ctRow its name).2 = hi := ⟨_, rfl⟩
 rw [hlo, hhi] at hbd
 simp only [hlo, hhi] at hlook
 rw [hlo] at HST HSU
 rw [hhi] at HEN
 clear hlo hhi
 obtain ⟨hb1, hb2⟩ := hbd
 go_enter Tryz.func39, Tryz.ntmps39
 go_upto_region 4 with fail
 generalize w.alloc (.cells #[.slice va rng.length vc] 31) = W0 at *
 have d2 : W0.cell? ⟨bk, 2, none⟩ = some (.map (some bm)) := k1.cell 2
 have hlookD := hlook 1
 rw [show W0.drewN 1 = W0.drew from rfl] at hlookD
 clear hlook
 obtain ⟨hf0, hf1⟩ := rowFld (lo : Int) (hi : Int) W0.drew
 go_big_region
 clear d2 hlookD hf0 hf1
 have hbq : Below W0.heap.size W0 W0.drew := ⟨rfl, rfl, rfl, Nat.le_refl _, fun _ _ => rfl⟩
 have kr1 := kr.below hbq kr.lt
 have k2 := k1.below hbq k1.lt
 have HI1 := Lib.hid (show ItsAt W0.drew (.slice ia its.length ic) its from HI.out.below hbq (Nat.le_refl _))
 have HBQ : Hid (Below w.heap.size w W0.drew) := HBX.out.trans (hbq.mono HBX.out.size)
 clear hbq kr k1 HI HBX
 generalize W0.drew = W1 at *
 go_wp2_with fail
 go_loopw [7, 8] (fun oV iV wr => ∃ (i : Nat), lo <= i /\ i <= hi /\ iV = .int .i64 (i : Int) /\ wr.ownsRow W1.heap.size 3 1 oV (am i).length (icells ((am i).map fun (k : Nat) => (k : Int))) /\ Below w.heap.size w wr /\ Below W1.heap.size W1 wr) (fun _ iV _ => hi - (intOf iV).toNat)
 case atStart => exact ⟨lo, Nat.le_refl _, hb1, rfl, by rw [HST.out]; exact World.ownsRow_nil _ _ _ _, HBQ.out, Below.refl _ _⟩
 case round =>
  obtain ⟨i, hil, hih, rfl, hrow, hbw, hbr⟩ := hrel
  obtain ⟨oa, oc, rfl, -⟩ := (rowAt_own hrow).form
  by_cases hlt : i < hi
  ·obtain ⟨g, cap', e, hg, c0, c1, c2, c3⟩ := (show ItsAt wr _ its from HI1.out.below hbr (Nat.le_refl _)).at i (by omega)
   simp at e
   obtain ⟨rfl, rfl⟩ := e
   have hii0 : (0 : Int) <= (i : Int) := by omega
   have hii1 : (i : Int) < (its.length : Int) := by omega
   have hale := HLE.out i
   have HSUi := Lib.hid (HSU.out i hil)
   have HHi := Lib.hid (fun W hW => HHAS.out W i hW)
   have HROW := Lib.hid hrow
   have HBW := Lib.hid hbw
   have HBR := Lib.hid hbr
   have kr3 := kr1.below hbr kr1.lt
   have k3 := k2.below hbr k2.lt
   have hxl := kr3.lt
   have hbl := k3.lt
   generalize its.getD i default = x at *
   have SC : Hid (∀ W, Below wr.heap.size wr W -> W.cell? ⟨w.heap.size, 0, none⟩ = some (.slice va rng.length vc) /\ W.cell? ⟨bk, 1, none⟩ = some (.slice (some ⟨g, 0, none⟩) its.length ic) /\ W.cell? ⟨g, i * 4 + 1, none⟩ = some (.int .i64 x.a) /\ W.cell? ⟨g, i * 4 + 2, none⟩ = some (.int .i64 x.b) /\ W.cell? ⟨g, i * 4 + 3, none⟩ = some (.int .i64 x.c)) := fun W h => ⟨(kr3.below h hxl).cell 0, (k3.below h hbl).cell 1, (h.cell (p := ⟨g, i * 4 + 1, none⟩) hg).trans c1, (h.cell (p := ⟨g, i * 4 + 2, none⟩) hg).trans c2, (h.cell (p := ⟨g, i * 4 + 3, none⟩) hg).trans c3⟩
   have D0 : Below wr.heap.size wr wr.drew := (Below.refl _ _).drew
   have E0 : Below w.heap.size w wr.drew := hbw.drew
   clear hrow hbw hbr kr3 k3 c0 c1 c2 c3 HHAS HSU
   go_upto_region 7 with fail
   by_cases hh : hasF rng x
   ·have HQ : Hid (∀ W, Below w.heap.size w W -> Calls Tryz.prog 25 #[.agg #[.slice va rng.length vc], .agg #[.int .i64 x.a, .int .i64 x.b, .int .i64 x.c]] W fun e w' => e = .returned (.bool true) /\ Below W.heap.size W w') := fun W hW => (HHi.out W hW).mono fun e w' ⟨h, hb⟩ => ⟨by rcases h with h | h; exact h.1; exact absurd hh h.2, hb⟩
    have HA : Hid (am (i + 1) = am i ++ [i]) := by show _ = _; rw [HSUi.out, if_pos hh]
    clear HHi HSUi hh
    go_region_held3 (fun W => W.cell? ⟨w.heap.size, 0, none⟩ = some (.slice va rng.length vc) /\ W.cell? ⟨bk, 1, none⟩ = some (.slice (some ⟨g, 0, none⟩) its.length ic) /\ W.cell? ⟨g, i * 4 + 1, none⟩ = some (.int .i64 x.a) /\ W.cell? ⟨g, i * 4 + 2, none⟩ = some (.int .i64 x.b) /\ W.cell? ⟨g, i * 4 + 3, none⟩ = some (.int .i64 x.c)) (first | exact SC.out _ D0 | exact SC.out _ D1)
     (((with_reducible refine (HQ.out _ E0).mono ?_); rintro e x1 ⟨rfl, hb1'⟩; have D1 : Below wr.heap.size wr x1 := D0.trans (hb1'.mono D0.size); clear HQ D0 E0 hb1'))
    have hrow2 := row_new' HROW.out D1
    have HBX : Hid (Below w.heap.size w x1) := HBW.out.trans (D1.mono HBW.out.size)
    have HBY : Hid (Below W1.heap.size W1 x1) := HBR.out.trans (D1.mono HBR.out.size)
    have HROW2 := Lib.hid hrow2
    have hxs := HBX.out.size
    have hys := HBY.out.size
    clear D1 hrow2 SC HROW HBW HBR
    go_wp2_with (at_builtin; refine wpList_append_own_at _ rfl _ _ 22 rfl W1.heap.size 3 i0 (.int .i64 0) 1 8 Tryz.underlying22 hin hz0 hz1 hz2 rfl (by decide) _ _ _ rfl (HROW2.out.alloc _) ⟨x1.heap.size, 0, none⟩ 1 1 [.int .i64 (i : Int)] rfl rfl ?c1 ?c2 ?c3 ?c4 ?c5 ?_)
    case c1 => exact cell_lit _ _ _
    case c2 => exact one_lit _
    case c3 => unfold maxLen; omega
    case c4 => omega
    case c5 => simp; omega
    intro v7 w7 hown7 hgrow7 _ hloc7
    have HR7 : Hid (w7.ownsRow W1.heap.size 3 1 v7 (am (i + 1)).length (icells ((am (i + 1)).map fun (k : Nat) => (k : Int)))) := by
     show World.ownsRow _ _ _ _ _ _ _
     rw [HA.out, List.map_append, List.map_cons, List.map_nil, icells_snoc, List.length_append]
     exact hown7
    have HB8 : Hid (Below W1.heap.size W1 w7) := (HBY.out.alloc HBY.out.size _).grown hgrow7 (by simp; omega) (fun k hk => (HROW2.out.lt k hk).1)
    have HB7 : Hid (Below w.heap.size w w7) := HBQ.out.trans (HB8.out.mono HBQ.out.size)
    clear hown7 hgrow7 hloc7 HROW2 HBX HBY
    go_wp2
    go_roundw
    case rel => exact ⟨i + 1, by omega, hlt, by go_num, HR7.out, HB7.out, HB8.out⟩
    case measure => simp [intOf]; omega
   ·have HQ : Hid (∀ W, Below w.heap.size w W -> Calls Tryz.prog 25 #[.agg #[.slice va rng.length vc], .agg #[.int .i64 x.a, .int .i64 x.b, .int .i64 x.c]] W fun e w' => e = .returned (.bool false) /\ Below W.heap.size W w') := fun W hW => (HHi.out W hW).mono fun e w' ⟨h, hb⟩ => ⟨by rcases h with h | h; exact absurd h.2 hh; exact h.1, hb⟩
    have HA : Hid (am (i + 1) = am i) := by show _ = _; rw [HSUi.out, if_neg hh, List.append_nil]
    clear HHi HSUi hh
    go_region_held3 (fun W => W.cell? ⟨w.heap.size, 0, none⟩ = some (.slice va rng.length vc) /\ W.cell? ⟨bk, 1, none⟩ = some (.slice (some ⟨g, 0, none⟩) its.length ic) /\ W.cell? ⟨g, i * 4 + 1, none⟩ = some (.int .i64 x.a) /\ W.cell? ⟨g, i * 4 + 2, none⟩ = some (.int .i64 x.b) /\ W.cell? ⟨g, i * 4 + 3, none⟩ = some (.int .i64 x.c)) (first | exact SC.out _ D0 | exact SC.out _ D1)
     (((with_reducible refine (HQ.out _ E0).mono ?_); rintro e x1 ⟨rfl, hb1'⟩; have D1 : Below wr.heap.size wr x1 := D0.trans (hb1'.mono D0.size); clear HQ D0 E0 hb1'))
    have HR7 : Hid (x1.ownsRow W1.heap.size 3 1 (.slice oa (am i).length oc) (am (i + 1)).length (icells ((am (i + 1)).map fun (k : Nat) => (k : Int)))) := by
     show World.ownsRow _ _ _ _ _ _ _
     rw [HA.out]; exact row_new' HROW.out D1
    have HBX : Hid (Below w.heap.size w x1) := HBW.out.trans (D1.mono HBW.out.size)
    have HBY : Hid (Below W1.heap.size W1 x1) := HBR.out.trans (D1.mono HBR.out.size)
    clear D1 SC HROW HBW HBR
    go_wp2
    go_roundw
    case rel => exact ⟨i + 1, by omega, hlt, by go_num, HR7.out, HBX.out, HBY.out⟩
    case measure => simp [intOf]; omega
  ·obtain rfl : i = hi := by omega
   rw [HEN.out] at hrow
   have HROW := Lib.hid hrow
   have HBW := Lib.hid hbw
   clear hrow hbw hbr
   go_wp2
   go_ret
   rw [HEN.out]
   exact ⟨_, rfl, ownsRow_base HROW.out HBQ.out.size, HBW.out⟩
end
section
open Go.RowKit Go.Deep Sv
def ClN (K : List (List Int)) (cs : List Value) (b : Option Nat) : Prop := ∀ i, i < K.length -> 0 < (K.getD i []).length -> ∀ g, (cs.getD i undef).ownBlock = some g -> some g ≠ b
theorem ClN.nil (b : Option Nat) : ClN [] [] b := fun i h => by simp at h
theorem ClN.new {W : World} {cs : List Value} {K : List (List Int)} (h : ClsK 0 W cs K) {b : Nat} (hb : W.heap.size <= b) : ClN K cs (some b) := fun i hi hl g hg e => by
 obtain ⟨a, cap, h1, _, _, h4⟩ := h.2 i hi
 obtain ⟨ad, h5, h6, _⟩ := h4 0 hl
 rw [List.getD_eq_getElem?_getD, h1, h5] at hg
 simp [Value.ownBlock] at hg
 cases e
 omega
theorem ClN.snoc {K : List (List Int)} {cs : List Value} {b : Option Nat} (h : ClN K cs b) (hv : cs.length = K.length) {c : List Int} {v : Value} (hx : 0 < c.length -> ∀ g, v.ownBlock = some g -> some g ≠ b) : ClN (K ++ [c]) (cs ++ [v]) b := by
 intro i hi
 by_cases hl : i < K.length
 ·have e1 : (K ++ [c]).getD i [] = K.getD i [] := by simp [List.getD_eq_getElem?_getD, List.getElem?_append_left hl]
  have e2 : (cs ++ [v]).getD i undef = cs.getD i undef := by simp [List.getD_eq_getElem?_getD, List.getElem?_append_left (show i < cs.length by rw [hv]; exact hl)]
  rw [e1, e2]; exact h i hl
 ·obtain rfl : i = K.length := by simp at hi; omega
  have e1 : (K ++ [c]).getD K.length [] = c := by simp [List.getD_eq_getElem?_getD]
  have e2 : (cs ++ [v]).getD K.length undef = v := by simp [List.getD_eq_getElem?_getD, <- hv]
  rw [e1, e2]; exact hx
def PlA (a : Option Addr) : Prop := ∀ ad, a = some ad -> ad.spot = none
def PlC (cs : List Value) : Prop := ∀ u ∈ cs, ∀ a n c, u = .slice a n c -> PlA a
theorem PlC.snoc {cs : List Value} (h : PlC cs) {a : Option Addr} (ha : PlA a) (n c : Nat) : PlC (cs ++ [.slice a n c]) := by
 intro u hu
 rcases List.mem_append.1 hu with hu | hu
 ·exact h u hu
 ·rw [List.mem_singleton] at hu
  subst hu
  intro a' n' c' e
  cases e
  exact ha
structure RS (B : Nat) (W : World) (cv fv : Value) (K : List (List Int)) (F : List Int) : Prop where
 crow : ∃ cs, W.ownsRow B 175 1 cv K.length cs /\ ClsK 0 W cs K /\ ClN K cs fv.ownBlock /\ PlC cs
 frow : W.ownsRow B 3 1 fv F.length (icells F)
theorem RS.nil (B : Nat) (W : World) : RS B W (.slice none 0 0) (.slice none 0 0) [] [] := ⟨⟨[], World.ownsRow_nil _ _ _ _, ClsK.nil, ClN.nil _, fun u hu => by cases hu⟩, World.ownsRow_nil _ _ _ _⟩
theorem RS.new {B : Nat} {W W' : World} {cv fv : Value} {K : List (List Int)} {F : List Int} (h : RS B W cv fv K F) (hb : Below W.heap.size W W') : RS B W' cv fv K F := by
 obtain ⟨cs, h1, h2, h3⟩ := h.crow
 exact ⟨⟨cs, row_new' h1 hb, h2.kp (Kp.new hb), h3⟩, row_new' h.frow hb⟩
structure Fr (b5 : Nat) (cv fv : Value) (W W' : World) : Prop where
 size : W.heap.size <= W'.heap.size
 block : ∀ k, k < W.heap.size -> k ≠ b5 -> some k ≠ cv.ownBlock -> some k ≠ fv.ownBlock -> W'.heap[k]? = W.heap[k]?
 B : Below b5 W W'
end
section
open Go.RowKit Go.Deep Sv
theorem amongF_len (its : List It) (name : ByteArray) (rng : List Span) : (amongF its name rng).length <= its.length := by
 unfold amongF
 refine Nat.le_trans (List.length_filter_le _ _) ?_
 rw [List.length_range']
 have := ctRow_bound its name
 omega
structure OS (w W : World) (b5 : Nat) (n : Int) (cv fv : Value) (P : List (Int × List Int)) (iv : Value) (its : List It) : Prop where
 r2 : Blk W w.heap.size 97 #[.int .i64 0, .slice none 0 0, .slice none 0 0]
 r5 : Blk W b5 97 #[.int .i64 n, cv, fv]
 rs : RS (b5 + 1) W cv fv (P.map Prod.snd) (P.map Prod.fst)
 B : Below w.heap.size w W
 lo : w.heap.size < b5
 its : W.ownsRow w.heap.size 71 4 iv its.length (itCells its)
section
variable {w W W' : World} {b5 : Nat} {n : Int} {cv fv iv : Value} {P : List (Int × List Int)} {its : List It}
theorem OS.new (h : OS w W b5 n cv fv P iv its) (hb : Below W.heap.size W W') : OS w W' b5 n cv fv P iv its :=
 ⟨h.r2.below hb h.r2.lt, h.r5.below hb h.r5.lt, h.rs.new hb, h.B.trans (hb.mono h.B.size), h.lo, row_new' h.its hb⟩
theorem OS.keep (h : OS w W b5 n cv fv P iv its) (hf : Fr b5 cv fv W W') {k : Nat} {cs : Array Value} {t : TypeId} (hk : Blk W k t cs) (h1 : t ≠ 97) (h2 : t ≠ 175) (h3 : t ≠ 3) : Blk W' k t cs := by
 obtain ⟨cs', hc, -⟩ := h.rs.crow
 refine (hf.block k hk.lt (hk.ne_type h.r5 h1) (fun e => ownBlock_ne' hc hk h2 e.symm) (fun e => ownBlock_ne' h.rs.frow hk h3 e.symm)).trans hk
theorem OS.keepRow (h : OS w W b5 n cv fv P iv its) (hf : Fr b5 cv fv W W') {B t k m : Nat} {v : Value} {cs : List Value} (hr : W.ownsRow B t k v m cs) (h1 : t ≠ 97) (h2 : t ≠ 175) (h3 : t ≠ 3) : W'.ownsRow B t k v m cs := by
 refine ⟨hr.1, ?_⟩
 rcases hr.2 with h' | ⟨g, cap, cur, e, hB, hg, r⟩
 ·exact .inl h'
 ·exact .inr ⟨g, cap, cur, e, hB, h.keep hf hg h1 h2 h3, r⟩
theorem OS.add (h : OS w W b5 n cv fv P iv its) {cv' fv' : Value} {f : Int} {c : List Int} (hf : Fr b5 cv fv W W') (h5 : Blk W' b5 97 #[.int .i64 n, cv', fv']) (hr : RS (b5 + 1) W' cv' fv' (P.map Prod.snd ++ [c]) (P.map Prod.fst ++ [f])) : OS w W' b5 n cv' fv' (P ++ [(f, c)]) iv its :=
 ⟨h.r2.below hf.B (by have := h.lo; omega), h5, by simpa using hr, h.B.trans (hf.B.mono (Nat.le_of_lt h.lo)), h.lo, h.keepRow hf h.its (by decide) (by decide) (by decide)⟩
end
theorem intsK_own {B : Nat} {w : World} {v : Value} {l : List Int} (h : w.ownsRow B 3 1 v l.length (icells l)) : ∃ a cap, v = .slice a l.length cap /\ l.length <= cap /\ cap <= 9223372036854775807 /\ IntsK 0 w a l /\ PlA a := by
 rcases h.2 with ⟨e, e0⟩ | ⟨g, cap, cur, e, hB, hg, hn, hm, hsz, htake⟩
 ·exact ⟨none, 0, by rw [e, e0], by omega, by omega, fun i hi => by omega, fun ad e => by cases e⟩
 ·unfold maxLen at hm
  refine ⟨_, _, e, hn, hm, fun i hi => ⟨_, rfl, (show Blk w g 3 cur from hg).lt, Or.inr ⟨_, _, hg⟩, ?_⟩, fun ad e => by cases e; rfl⟩
  subst e
  have := h.cellAt i (by omega)
  rw [add_plain, Nat.zero_add, this, icells_at l i hi]
theorem lines_v (bk bm : Nat) (lv iv : Value) (ls : List Ln) (vs : List Value) (w : World) (h1 : Blk w bk 152 #[lv, iv, .map (some bm)]) (hr : RgsAt w ls vs) (h2 : RowAt w lv ls.length (lnCells ls vs)) (hl : ls.length <= 100000) :
  Calls Tryz.prog 34 #[.pointer (some ⟨bk, 0, none⟩)] w fun e w' => ∃ v', e = .returned v' /\ w'.ownsRow w.heap.size 76 7 v' ls.length (lnCells ls vs) /\ Below w.heap.size w w' := by
 have HI := Lib.hid (clone_lns ls vs hr.1 hr.one lv w h2 hl)
 obtain ⟨va, vc, rfl, -⟩ := h2.form
 have c0 : w.cell? ⟨bk, 0, none⟩ = some (.slice va ls.length vc) := h1.cell 0
 clear h1 h2 hr hl
 go_enter Tryz.func34, Tryz.ntmps34
 go_wp2_with fail
 refine HI.out.mono ?_
 rintro e w1 ⟨v', rfl, hrow, hb1⟩
 have HR := Lib.hid hrow
 have HB1 := Lib.hid hb1
 clear hb1 HI hrow c0
 go_wp2
 go_ret
 exact ⟨v', rfl, HR.out, HB1.out⟩
end
section
open Go.RowKit Go.Shelf Sv
def ctT (ls : List Ln) : List UInt8 := (ls.map fun x => lnT x ++ [10]).flatten
theorem ctT_snoc (ls : List Ln) (k : Nat) (hk : k < ls.length) : ctT (ls.take (k + 1)) = ctT (ls.take k) ++ lnT (ls.getD k default) ++ [10] := by
 unfold ctT
 rw [List.take_succ_eq_append_getElem hk, List.map_append, List.flatten_append]
 have e : ls.getD k default = ls[k] := by simp [List.getD_eq_getElem?_getD, List.getElem?_eq_getElem hk]
 rw [e]
 simp
theorem lnT_len {x : Ln} (h : LnOk x) : (lnT x).length <= 100000300000 := by
 have h1 := wtx_len _ _ _ h.a h.b h.c
 have h2 := rgT_len h.rg
 have h3 : x.name.data.toList.length <= 100000 := by have := h.nm; rw [Array.length_toList]; exact this
 have h4 : x.other.data.toList.length <= 100000 := by have := h.ot; rw [Array.length_toList]; exact this
 have w1 : (wl 1).length = 7 := rfl
 have w2 : (wl 2).length = 5 := rfl
 have w3 : (wl 3).length = 7 := rfl
 have w4 : (wl 4).length = 4 := rfl
 unfold lnT
 split
 ·simp only [List.length_append, List.length_cons]; omega
 ·split
  ·simp only [List.length_append, List.length_cons]; omega
  ·split
   ·simp only [List.length_append, List.length_cons]; omega
   ·simp only [List.length_append, List.length_cons]; omega
theorem ctT_len {ls : List Ln} (h : ∀ i, i < ls.length -> LnOk (ls.getD i default)) : ∀ k, (ctT (ls.take k)).length <= 100000300001 * k := by
 intro k
 induction k with
 | zero => simp [ctT]
 | succ k ih =>
  by_cases hk : k < ls.length
  ·rw [ctT_snoc ls k hk, List.length_append, List.length_append]
   have := lnT_len (h k hk)
   simp only [List.length_cons, List.length_nil]
   omega
  ·rw [List.take_of_length_le (by omega)]
   rw [List.take_of_length_le (by omega)] at ih
   omega
theorem bws14 (B b : Nat) (l s : List UInt8) (w : World) (h : Bd B b l w) (hlen : l.length + s.length <= 100000000000000) (hB : B <= w.heap.size) :
  Calls Tryz.prog 65 #[.pointer (some ⟨b, 0, none⟩), .string ⟨s.toArray⟩] w fun e w' => (∃ x, e = .returned (.tuple #[.int .i64 x, .nilIface])) /\ Bd B b (l ++ s) w' /\ Below B w w' /\ Lib.OthersKept 5 (some b) w w' :=
 (Any.Builder_WriteString_k Tryz.laysWS Tryz.Builder_Extra_156 B b (Lib.byteCells l) ⟨s.toArray⟩ w h (by rw [Lib.byteCells_length]; show l.length + s.toArray.size <= _; simp; omega) hB).mono fun _ _ ⟨h1, h2, h3, h4⟩ => ⟨⟨_, h1⟩, Or.inr (by rw [Lib.byteCells_append]; exact h2), h3, h4⟩
theorem extraWB : Builder.Extra Tryz.prog Tryz.laysWB_ren :=
 { sizeBuilder := Tryz.Builder_Extra_156.sizeBuilder, liesBuilder := Tryz.Builder_Extra_156.liesBuilder, t5 := Tryz.Builder_Extra_156.t5, a5 := Tryz.Builder_Extra_156.a5, z5 := Tryz.Builder_Extra_156.z5, v5 := Tryz.Builder_Extra_156.v5, infoByte := Tryz.Builder_Extra_156.infoByte, cellsByte := Tryz.Builder_Extra_156.cellsByte, sizeByte := Tryz.Builder_Extra_156.sizeByte, neB5 := Tryz.Builder_Extra_156.neB5 }
theorem bwb14 (B b : Nat) (l : List UInt8) (w : World) (h : Bd B b l w) (hlen : l.length + 1 <= 100000000000000) (hB : B <= w.heap.size) :
  Calls Tryz.prog 91 #[.pointer (some ⟨b, 0, none⟩), .int .u8 10] w fun e w' => e = .returned .nilIface /\ Bd B b (l ++ [10]) w' /\ Below B w w' /\ Lib.OthersKept 5 (some b) w w' :=
 (Any.Builder_WriteByte_k Tryz.laysWB extraWB B b (Lib.byteCells l) 10 w h (by rw [Lib.byteCells_length]; omega) hB).mono fun _ _ ⟨h1, h2, h3, h4⟩ => ⟨h1, Or.inr (by rw [Lib.byteCells_append]; exact h2), h3, h4⟩
theorem own_others {b B n k : Nat} {t : TypeId} {v : Value} {cs : List Value} {w w' : World} (h : w.ownsRow B t k v n cs) (ho : Lib.OthersKept 5 (some b) w w') (hb : b < B) (ht : t ≠ 5) : w'.ownsRow B t k v n cs := by
 refine ⟨h.1, ?_⟩
 rcases h.2 with e | ⟨g, cap, cur, e, hB, hg, hr⟩
 ·exact Or.inl e
 ·exact Or.inr ⟨g, cap, cur, e, hB, ho g _ hg (fun e => by have := Option.some.inj e; omega) (fun c fz e => by cases e; exact ht rfl), hr⟩
theorem own_below {B n k c : Nat} {t : TypeId} {v : Value} {cs : List Value} {w w' : World} (h : w.ownsRow B t k v n cs) (hb : Below c w w') (hc : w.heap.size <= c) : w'.ownsRow B t k v n cs := by
 refine ⟨h.1, ?_⟩
 rcases h.2 with e | ⟨g, cap, cur, e, hB, hg, hr⟩
 ·exact Or.inl e
 ·exact Or.inr ⟨g, cap, cur, e, hB, (hb.block g (by have := (Array.getElem?_eq_some_iff.1 hg).1; omega)).trans hg, hr⟩
theorem ctext_c (bk : Nat) (ls : List Ln) (its : List It) (w : World) (h : CatAt w bk ls its) (hl : ls.length <= 100) (hx : ∀ i, i < ls.length -> LnOk (ls.getD i default)) (hw : Lw w) :
  Calls Tryz.prog 35 #[.pointer (some ⟨bk, 0, none⟩)] w fun e w' => e = .returned (.string ⟨(ctT ls).toArray⟩) /\ Below w.heap.size w w' := by
 obtain ⟨lv, iv, bm, h1, ⟨vs, hr, h2⟩, -, -⟩ := h
 have HB1 : Hid (Below w.heap.size w (w.alloc (.cells #[.pointer none, .slice none 0 0] 125))) := (Below.refl _ _).alloc (Nat.le_refl _) _
 have hs1 : (w.alloc (.cells #[.pointer none, .slice none 0 0] 125)).heap.size = w.heap.size + 1 := by simp
 have HBD := Lib.hid (bd_new w)
 have HLV := Lib.hid (lines_v bk bm lv iv ls vs _ (h1.below HB1.out h1.lt) (hr.below HB1.out (Nat.le_refl _)) (h2.below HB1.out (Nat.le_refl _)) (by omega))
 have HRG := Lib.hid hr
 have HW := Lib.hid hw
 have HSN := Lib.hid (ctT_snoc ls)
 have HCL := Lib.hid (ctT_len hx)
 have HX := Lib.hid hx
 have HTL : Hid (ctT (ls.take ls.length) = ctT ls) := by show _ = _; rw [List.take_length]
 have HS1 := Lib.hid hs1
 clear h1 h2 hr hw hx hs1
 go_enter Tryz.func35, Tryz.ntmps35
 go_wp2_with fail
 generalize w.alloc (.cells #[.pointer none, .slice none 0 0] 125) = W1 at *
 refine HLV.out.mono ?_
 rintro e W2 ⟨v', rfl, hown, hb2⟩
 have hS1 := HS1.out
 have HO2 : Hid (W2.ownsRow W1.heap.size 76 7 v' ls.length (lnCells ls vs)) := hown
 have HB2 : Hid (Below w.heap.size w W2) := HB1.out.trans (hb2.mono HB1.out.size)
 have HD2 : Hid (Bd w.heap.size w.heap.size [] W2) := HBD.out.below hb2 (Nat.le_refl _)
 obtain ⟨va, vc, rfl, -⟩ := (rowAt_own hown).form
 clear hown hb2 HLV HBD HS1
 go_wp2_with fail
 go_loopw [9] (fun kV wz => ∃ k : Nat, k <= ls.length /\ kV = .int .i64 (k : Int) /\ Bd w.heap.size w.heap.size (ctT (ls.take k)) wz /\ Below w.heap.size w wz /\ wz.ownsRow W1.heap.size 76 7 (.slice va ls.length vc) ls.length (lnCells ls vs)) (fun kV _ => ls.length - (intOf kV).toNat)
 case atStart => exact ⟨0, Nat.zero_le _, rfl, by simpa [ctT] using HD2.out, HB2.out, HO2.out⟩
 case round =>
  obtain ⟨k, hk, rfl, hbd, hbr, how⟩ := hrel
  have HD := Lib.hid hbd
  have HR := Lib.hid hbr
  have HO := Lib.hid how
  have hwz := hbr.size
  clear hbd hbr how HD2 HB2 HO2
  by_cases hlt : k < ls.length
  ·have hL : LnsAt wr (.slice va ls.length vc) ls := ⟨vs, HRG.out.below HR.out (Nat.le_refl _), rowAt_own HO.out⟩
   obtain ⟨g, cap', rv, e1, hg, hsp, hrg, c0, c1, c2, c3, c4, c5, c6⟩ := hL.at k hlt
   simp at e1
   obtain ⟨rfl, rfl⟩ := e1
   obtain ⟨ra, rc, rfl⟩ := hsp.form
   have hsn := HSN.out k hlt
   have hln := HCL.out (k + 1)
   rw [hsn, List.length_append, List.length_append] at hln
   have HLT := Lib.hid (fun W (hb : Below wr.heap.size wr W) => lntext_any (ls.getD k default) (HX.out k hlt) _ W ((HW.out.below HR.out).below hb) (hsp.below hb (Nat.le_refl _)))
   generalize ls.getD k default = X at *
   have kb := Blk.new wr 76 #[.int .i64 X.kind, .string X.name, .int .i64 X.a, .int .i64 X.b, .int .i64 X.c, .string X.other, .slice ra X.rng.length rc]
   have hA : Below wr.heap.size wr (wr.alloc (.cells #[.int .i64 X.kind, .string X.name, .int .i64 X.a, .int .i64 X.b, .int .i64 X.c, .string X.other, .slice ra X.rng.length rc] 76)) := (Below.refl _ _).alloc (Nat.le_refl _) _
   have HKB := Lib.hid kb
   have HA := Lib.hid hA
   have HSN1 := Lib.hid hsn
   have hln2 : (ctT (ls.take k)).length + (lnT X).length <= 100000000000000 := by omega
   have hln3 : (ctT (ls.take k) ++ lnT X).length + 1 <= 100000000000000 := by rw [List.length_append]; omega
   clear kb hA hsn hln hrg hsp
   generalize lnT X = LT at *
   obtain ⟨xk, xn, xa, xb, xc, xo, xr⟩ := X
   simp only at *
   generalize xr.length = RL at *
   go_wp2_with fail
   generalize wr.alloc (.cells #[.int .i64 xk, .string xn, .int .i64 xa, .int .i64 xb, .int .i64 xc, .string xo, .slice ra RL rc] 76) = W3 at *
   clear c0 c1 c2 c3 c4 c5 c6
   have c0 := HKB.out.cell 0
   have c1 := HKB.out.cell 1
   have c2 := HKB.out.cell 2
   have c3 := HKB.out.cell 3
   have c4 := HKB.out.cell 4
   have c5 := HKB.out.cell 5
   have c6 := HKB.out.cell 6
   go_wp2_with fail
   refine (HLT.out _ HA.out).mono ?_
   rintro e W4 ⟨rfl, hb4⟩
   have hB4 : Below wr.heap.size wr W4 := HA.out.trans (hb4.mono HA.out.size)
   have HD4 := Lib.hid (HD.out.below hB4 (Nat.le_refl _))
   have HO4 := Lib.hid (own_below HO.out hB4 (Nat.le_refl _))
   have HR4 : Hid (Below w.heap.size w W4) := HR.out.trans (hB4.mono hwz)
   have HWS := Lib.hid (bws14 _ _ _ LT W4 HD4.out hln2 HR4.out.size)
   clear hb4 hB4 HLT HA HKB HD HO HR HD4 c0 c1 c2 c3 c4 c5 c6
   go_wp2_with fail
   refine HWS.out.mono ?_
   rintro e W5 ⟨⟨x5, rfl⟩, hd5, hb5, ho5⟩
   have HR5 : Hid (Below w.heap.size w W5) := HR4.out.trans hb5
   have HO5 := Lib.hid (own_others HO4.out ho5 (by omega) (by decide))
   have HWB := Lib.hid (bwb14 _ _ _ W5 hd5 hln3 HR5.out.size)
   clear hd5 hb5 ho5 HO4 HR4 HWS
   go_wp2_with fail
   refine HWB.out.mono ?_
   rintro e W6 ⟨rfl, hd6, hb6, ho6⟩
   have HR6 : Hid (Below w.heap.size w W6) := HR5.out.trans hb6
   have HO6 := Lib.hid (own_others HO5.out ho6 (by omega) (by decide))
   have HD6 : Hid (Bd w.heap.size w.heap.size (ctT (ls.take (k + 1))) W6) := by rw [HSN1.out]; exact hd6
   clear hd6 hb6 ho6 HO5 HR5 HWB HSN1
   go_wp2
   go_roundw
   case rel => exact ⟨k + 1, by omega, by go_num, HD6.out, HR6.out, HO6.out⟩
   case measure => simp [intOf]; omega
  ·obtain rfl : k = ls.length := by omega
   have hb := HD.out
   rw [HTL.out] at hb
   have HFIN := Lib.hid (bstr _ _ _ _ hb hwz)
   clear hb HD
   go_wp2_with fail
   refine HFIN.out.mono ?_
   rintro e W3 ⟨rfl, hb3⟩
   have HBZ : Hid (Below w.heap.size w W3) := HR.out.trans hb3
   clear hb3
   go_wp2
   go_ret
   exact ⟨rfl, HBZ.out⟩
end
end Go.Proofs.YtmhophccdfmngaaGreatDoor
