/- The text of a catalog of one rule: plain. -/
import Derived.Test.YtmhophccdfmngaaGreatDoorCtPS
import Derived.Test.YtmhophccdfmngaaGreatDoorCtMem
import Derived.Test.YtmhophccdfmngaaGreatDoorCtChk
import Derived.Shelf.Spec.SlicesInsertGrow
set_option maxHeartbeats 1000000
set_option maxRecDepth 100000
namespace Go.Proofs.YtmhophccdfmngaaGreatDoor
open Go.RowKit Go.Deep Sv
theorem items_c (bk : Nat) (ls : List Ln) (its : List It) (w : World) (h : CatAt w bk ls its) (hl : its.length <= 100000) :
  Calls Tryz.prog 33 #[.pointer (some ⟨bk, 0, none⟩)] w fun e w' => ∃ v', e = .returned v' /\ w'.ownsRow w.heap.size 71 4 v' its.length (itCells its) /\ Below w.heap.size w w' := by
 obtain ⟨lv, iv, bm, h1, h2, h3, h4⟩ := h
 have HI := Lib.hid (clone_its its iv w h3 hl)
 obtain ⟨va, vc, rfl, -⟩ := h3.form
 have c1 : w.cell? ⟨bk, 1, none⟩ = some (.slice va its.length vc) := h1.cell 1
 clear h1 h2 h3 h4 hl
 go_enter Tryz.func33, Tryz.ntmps33
 go_wp2_with fail
 refine HI.out.mono ?_
 rintro e w1 ⟨v', rfl, hrow, hb1⟩
 have HR := Lib.hid hrow
 have HB1 := Lib.hid hb1
 clear hb1 HI hrow c1
 go_wp2
 go_ret
 exact ⟨v', rfl, HR.out, HB1.out⟩
theorem lines_c (bk : Nat) (ls : List Ln) (its : List It) (w : World) (h : CatAt w bk ls its) (hl : ls.length <= 100000) :
  Calls Tryz.prog 34 #[.pointer (some ⟨bk, 0, none⟩)] w fun e w' => ∃ v', e = .returned v' /\ LnsAt w' v' ls /\ Below w.heap.size w w' := by
 obtain ⟨lv, iv, bm, h1, ⟨vs, h2, h2'⟩, h3, h4⟩ := h
 have HI := Lib.hid (clone_lns ls vs h2.1 h2.one lv w h2' hl)
 obtain ⟨va, vc, rfl, -⟩ := h2'.form
 have c0 : w.cell? ⟨bk, 0, none⟩ = some (.slice va ls.length vc) := h1.cell 0
 have HRG := Lib.hid h2
 clear h1 h2 h2' h3 h4 hl
 go_enter Tryz.func34, Tryz.ntmps34
 go_wp2_with fail
 refine HI.out.mono ?_
 rintro e w1 ⟨v', rfl, hrow, hb1⟩
 have HR : Hid (LnsAt w1 v' ls) := ⟨vs, HRG.out.below hb1 (Nat.le_refl _), rowAt_own hrow⟩
 have HB1 := Lib.hid hb1
 clear hb1 HI hrow c0
 go_wp2
 go_ret
 exact ⟨v', rfl, HR.out, HB1.out⟩
end Go.Proofs.YtmhophccdfmngaaGreatDoor
namespace Go.Proofs.YtmhophccdfmngaaGreatDoor
open Go.RowKit Go.Deep Sv
def ClN (K : List (List Int)) (cs : List Value) (b : Option Nat) : Prop := ∀ i, i < K.length -> 0 < (K.getD i []).length -> ∀ g, (cs.getD i undef).ownBlock = some g -> some g ≠ b
theorem ClN.nil (b : Option Nat) : ClN [] [] b := fun i h => by simp at h
theorem ClN.new {W : World} {cs : List Value} {K : List (List Int)} (h : ClsK 0 W cs K) {b : Nat} (hb : W.heap.size <= b) : ClN K cs (some b) := fun i hi hl g hg e => by
 obtain ⟨a, cap, h1, _, _, h4⟩ := h.2 i hi
 obtain ⟨ad, h5, h6, _⟩ := h4 0 hl
 rw [List.getD_eq_getElem?_getD, h1, h5] at hg
 simp [Value.ownBlock] at hg
 cases e
 omega
theorem ClN.snoc {K : List (List Int)} {cs : List Value} {b : Option Nat} (h : ClN K cs b) (hv : cs.length = K.length) {c : List Int} {v : Value} (hx : 0 < c.length -> ∀ g, v.ownBlock = some g -> some g ≠ b) : ClN (K ++ [c]) (cs ++ [v]) b := by
 intro i hi
 by_cases hl : i < K.length
 ·have e1 : (K ++ [c]).getD i [] = K.getD i [] := by simp [List.getD_eq_getElem?_getD, List.getElem?_append_left hl]
  have e2 : (cs ++ [v]).getD i undef = cs.getD i undef := by simp [List.getD_eq_getElem?_getD, List.getElem?_append_left (show i < cs.length by rw [hv]; exact hl)]
  rw [e1, e2]; exact h i hl
 ·obtain rfl : i = K.length := by simp at hi; omega
  have e1 : (K ++ [c]).getD K.length [] = c := by simp [List.getD_eq_getElem?_getD]
  have e2 : (cs ++ [v]).getD K.length undef = v := by simp [List.getD_eq_getElem?_getD, <- hv]
  rw [e1, e2]; exact hx
def PlA (a : Option Addr) : Prop := ∀ ad, a = some ad -> ad.spot = none
def PlC (cs : List Value) : Prop := ∀ u ∈ cs, ∀ a n c, u = .slice a n c -> PlA a
theorem PlC.snoc {cs : List Value} (h : PlC cs) {a : Option Addr} (ha : PlA a) (n c : Nat) : PlC (cs ++ [.slice a n c]) := by
 intro u hu
 rcases List.mem_append.1 hu with hu | hu
 ·exact h u hu
 ·rw [List.mem_singleton] at hu
  subst hu
  intro a' n' c' e
  cases e
  exact ha
structure RS (B : Nat) (W : World) (cv fv : Value) (K : List (List Int)) (F : List Int) : Prop where
 crow : ∃ cs, W.ownsRow B 175 1 cv K.length cs /\ ClsK 0 W cs K /\ ClN K cs fv.ownBlock /\ PlC cs
 frow : W.ownsRow B 3 1 fv F.length (icells F)
theorem RS.nil (B : Nat) (W : World) : RS B W (.slice none 0 0) (.slice none 0 0) [] [] := ⟨⟨[], World.ownsRow_nil _ _ _ _, ClsK.nil, ClN.nil _, fun u hu => by cases hu⟩, World.ownsRow_nil _ _ _ _⟩
theorem RS.new {B : Nat} {W W' : World} {cv fv : Value} {K : List (List Int)} {F : List Int} (h : RS B W cv fv K F) (hb : Below W.heap.size W W') : RS B W' cv fv K F := by
 obtain ⟨cs, h1, h2, h3⟩ := h.crow
 exact ⟨⟨cs, row_new' h1 hb, h2.kp (Kp.new hb), h3⟩, row_new' h.frow hb⟩
structure Fr (b5 : Nat) (cv fv : Value) (W W' : World) : Prop where
 size : W.heap.size <= W'.heap.size
 block : ∀ k, k < W.heap.size -> k ≠ b5 -> some k ≠ cv.ownBlock -> some k ≠ fv.ownBlock -> W'.heap[k]? = W.heap[k]?
 B : Below b5 W W'
end Go.Proofs.YtmhophccdfmngaaGreatDoor
namespace Go.Proofs.YtmhophccdfmngaaGreatDoor
open Go.RowKit Go.Deep Sv
structure OS (w W : World) (b5 : Nat) (n : Int) (cv fv : Value) (P : List (Int × List Int)) (iv : Value) (its : List It) : Prop where
 r2 : Blk W w.heap.size 97 #[.int .i64 0, .slice none 0 0, .slice none 0 0]
 r5 : Blk W b5 97 #[.int .i64 n, cv, fv]
 rs : RS (b5 + 1) W cv fv (P.map Prod.snd) (P.map Prod.fst)
 B : Below w.heap.size w W
 lo : w.heap.size < b5
 its : W.ownsRow w.heap.size 71 4 iv its.length (itCells its)
section
variable {w W W' : World} {b5 : Nat} {n : Int} {cv fv iv : Value} {P : List (Int × List Int)} {its : List It}
theorem OS.new (h : OS w W b5 n cv fv P iv its) (hb : Below W.heap.size W W') : OS w W' b5 n cv fv P iv its :=
 ⟨h.r2.below hb h.r2.lt, h.r5.below hb h.r5.lt, h.rs.new hb, h.B.trans (hb.mono h.B.size), h.lo, row_new' h.its hb⟩
theorem OS.keep (h : OS w W b5 n cv fv P iv its) (hf : Fr b5 cv fv W W') {k : Nat} {cs : Array Value} {t : TypeId} (hk : Blk W k t cs) (h1 : t ≠ 97) (h2 : t ≠ 175) (h3 : t ≠ 3) : Blk W' k t cs := by
 obtain ⟨cs', hc, -⟩ := h.rs.crow
 refine (hf.block k hk.lt (hk.ne_type h.r5 h1) (fun e => ownBlock_ne' hc hk h2 e.symm) (fun e => ownBlock_ne' h.rs.frow hk h3 e.symm)).trans hk
theorem OS.keepRow (h : OS w W b5 n cv fv P iv its) (hf : Fr b5 cv fv W W') {B t k m : Nat} {v : Value} {cs : List Value} (hr : W.ownsRow B t k v m cs) (h1 : t ≠ 97) (h2 : t ≠ 175) (h3 : t ≠ 3) : W'.ownsRow B t k v m cs := by
 refine ⟨hr.1, ?_⟩
 rcases hr.2 with h' | ⟨g, cap, cur, e, hB, hg, r⟩
 ·exact .inl h'
 ·exact .inr ⟨g, cap, cur, e, hB, h.keep hf hg h1 h2 h3, r⟩
theorem OS.add (h : OS w W b5 n cv fv P iv its) {cv' fv' : Value} {f : Int} {c : List Int} (hf : Fr b5 cv fv W W') (h5 : Blk W' b5 97 #[.int .i64 n, cv', fv']) (hr : RS (b5 + 1) W' cv' fv' (P.map Prod.snd ++ [c]) (P.map Prod.fst ++ [f])) : OS w W' b5 n cv' fv' (P ++ [(f, c)]) iv its :=
 ⟨h.r2.below hf.B (by have := h.lo; omega), h5, by simpa using hr, h.B.trans (hf.B.mono (Nat.le_of_lt h.lo)), h.lo, h.keepRow hf h.its (by decide) (by decide) (by decide)⟩
end
theorem lines_v (bk bm : Nat) (lv iv : Value) (ls : List Ln) (vs : List Value) (w : World) (h1 : Blk w bk 152 #[lv, iv, .map (some bm)]) (hr : RgsAt w ls vs) (h2 : RowAt w lv ls.length (lnCells ls vs)) (hl : ls.length <= 100000) :
  Calls Tryz.prog 34 #[.pointer (some ⟨bk, 0, none⟩)] w fun e w' => ∃ v', e = .returned v' /\ w'.ownsRow w.heap.size 76 7 v' ls.length (lnCells ls vs) /\ Below w.heap.size w w' := by
 have HI := Lib.hid (clone_lns ls vs hr.1 hr.one lv w h2 hl)
 obtain ⟨va, vc, rfl, -⟩ := h2.form
 have c0 : w.cell? ⟨bk, 0, none⟩ = some (.slice va ls.length vc) := h1.cell 0
 clear h1 h2 hr hl
 go_enter Tryz.func34, Tryz.ntmps34
 go_wp2_with fail
 refine HI.out.mono ?_
 rintro e w1 ⟨v', rfl, hrow, hb1⟩
 have HR := Lib.hid hrow
 have HB1 := Lib.hid hb1
 clear hb1 HI hrow c0
 go_wp2
 go_ret
 exact ⟨v', rfl, HR.out, HB1.out⟩
end Go.Proofs.YtmhophccdfmngaaGreatDoor
namespace Go.Proofs.YtmhophccdfmngaaGreatDoor
open Go.RowKit Go.Deep Sv
section
variable {w W : World} {b5 : Nat} {n : Int} {cv fv iv : Value} {P : List (Int × List Int)} {its : List It}
end
theorem RS.set {B b i : Nat} {W : World} {cv fv v : Value} {K : List (List Int)} {F : List Int} {cs : Array Value} (h : RS B W cv fv K F) (hb : Blk W b 97 cs) (hlt : b < B) : RS B (W.setCell ⟨b, i, none⟩ v) cv fv K F := by
 obtain ⟨c, h1, h2, h3⟩ := h.crow
 exact ⟨⟨c, row_setLow h1 hlt, h2.kp (Kp.set (Nat.zero_le _) hb (by decide)), h3⟩, row_setLow h.frow hlt⟩
theorem RS.base {B B' : Nat} {W : World} {cv fv : Value} {K : List (List Int)} {F : List Int} (h : RS B W cv fv K F) (hlt : B' <= B) : RS B' W cv fv K F := by
 obtain ⟨c, h1, h2, h3⟩ := h.crow
 exact ⟨⟨c, ownsRow_base h1 hlt, h2, h3⟩, ownsRow_base h.frow hlt⟩
end Go.Proofs.YtmhophccdfmngaaGreatDoor
namespace Go.Proofs.YtmhophccdfmngaaGreatDoor
open Go.RowKit Go.Deep Sv
theorem gathF_24 : ∀ (ls : List Ln) (i : Nat) (its out : List It), its.length <= 24 -> gathF ls i its = .ok out -> out.length <= 24 /\ ∀ x ∈ ls, ctCheck x = 0
 | [], i, its, out, h0, h => by cases h; exact ⟨h0, fun x hx => by cases hx⟩
 | x :: r, i, its, out, h0, h => by
  rw [gathF] at h
  split at h
  ·cases h
  ·rename_i hc
   have hc' : ctCheck x = 0 := Decidable.not_not.1 hc
   have key : ∀ its', its'.length <= 24 -> gathF r (i + 1) its' = .ok out -> out.length <= 24 /\ ∀ y ∈ x :: r, ctCheck y = 0 := fun its' h1 h2 => by
    obtain ⟨g1, g2⟩ := gathF_24 r (i + 1) its' out h1 h2
    exact ⟨g1, fun y hy => by rcases List.mem_cons.1 hy with rfl | hy; exact hc'; exact g2 y hy⟩
   split at h
   ·split at h
    ·cases h
    ·split at h
     ·cases h
     ·rename_i h8
      exact key _ (by simp; omega) h
   ·exact key _ h0 h
theorem newF_ok {ls : List Ln} {its : List It} (h : newF ls = .ok its) : its.length <= 24 /\ ls.length <= 100 /\ ∀ x ∈ ls, ctCheck x = 0 := by
 unfold newF at h
 split at h
 ·cases h
 ·split at h
  ·cases h
  ·rename_i its' hg
   split at h
   ·cases h
   ·cases h
    obtain ⟨h1, h2⟩ := gathF_24 ls 0 [] its' (by simp) hg
    refine ⟨?_, by omega, h2⟩
    unfold sortF
    rw [List.length_mergeSort]
    exact h1
theorem parseF_ok {s : ByteArray} {ls : List Ln} {its : List It} (h : parseF s = .ok (ls, its)) : newF ls = .ok its := by
 unfold parseF at h
 split at h
 ·cases h
 ·split at h
  ·cases h
  ·split at h
   ·cases h
   ·cases h
   ·rename_i hn
    cases h
    exact hn
end Go.Proofs.YtmhophccdfmngaaGreatDoor
namespace Go.Proofs.YtmhophccdfmngaaGreatDoor
open Go.RowKit Go.Deep Sv
def oneT : ByteArray := ⟨#[112, 97, 99, 107, 97, 103, 101, 32, 97, 32, 49, 46, 48, 46, 48, 10, 112, 97, 99, 107, 97, 103, 101, 32, 97, 32, 50, 46, 48, 46, 48, 10, 114, 111, 111, 116, 32, 97, 32, 97, 110, 121, 10]⟩
def nmA : ByteArray := ⟨#[97]⟩
def nmN : ByteArray := ⟨#[]⟩
theorem one_lns : lnsF oneT 43 0 = [(0, ⟨#[112, 97, 99, 107, 97, 103, 101, 32, 97, 32, 49, 46, 48, 46, 48]⟩), (16, ⟨#[112, 97, 99, 107, 97, 103, 101, 32, 97, 32, 50, 46, 48, 46, 48]⟩), (32, ⟨#[114, 111, 111, 116, 32, 97, 32, 97, 110, 121]⟩)] := by kernel_rfl
theorem one_l1 : lineF ⟨#[112, 97, 99, 107, 97, 103, 101, 32, 97, 32, 49, 46, 48, 46, 48]⟩ = .ok ⟨1, nmA, 1, 0, 0, nmN, []⟩ := by kernel_rfl
theorem one_l2 : lineF ⟨#[112, 97, 99, 107, 97, 103, 101, 32, 97, 32, 50, 46, 48, 46, 48]⟩ = .ok ⟨1, nmA, 2, 0, 0, nmN, []⟩ := by kernel_rfl
theorem one_l3 : lineF ⟨#[114, 111, 111, 116, 32, 97, 32, 97, 110, 121]⟩ = .ok ⟨4, nmA, 0, 0, 0, nmN, [(0, 1000000000)]⟩ := by kernel_rfl
def oneL : List Ln := [⟨1, nmA, 1, 0, 0, nmN, []⟩, ⟨1, nmA, 2, 0, 0, nmN, []⟩, ⟨4, nmA, 0, 0, 0, nmN, [(0, 1000000000)]⟩]
def oneI : List It := [⟨nmA, 2, 0, 0⟩, ⟨nmA, 1, 0, 0⟩]
theorem nmA_ok : NameOk nmA := by
 refine ⟨by decide, by decide, by decide, by rw [ByteArray.toList_eq]; decide, by rw [ByteArray.toList_eq]; decide, fun k hk => ?_⟩
 obtain rfl : k = 0 := by have : nmA.size = 1 := rfl; omega
 left
 decide
theorem one_c1 : ctCheck ⟨1, nmA, 1, 0, 0, nmN, []⟩ = 0 := by
 unfold ctCheck
 rw [if_neg (by simp), if_neg (fun h => by rcases h with h | ⟨h, _⟩; exact h nmA_ok; simp [Ln.pair] at h), if_neg (fun h => h.2 rfl), if_neg (by simp), if_neg (by simp), if_neg (by simp [InV])]
theorem one_c2 : ctCheck ⟨1, nmA, 2, 0, 0, nmN, []⟩ = 0 := by
 unfold ctCheck
 rw [if_neg (by simp), if_neg (fun h => by rcases h with h | ⟨h, _⟩; exact h nmA_ok; simp [Ln.pair] at h), if_neg (fun h => h.2 rfl), if_neg (by simp), if_neg (by simp), if_neg (by simp [InV])]
theorem one_c3 : ctCheck ⟨4, nmA, 0, 0, 0, nmN, [(0, 1000000000)]⟩ = 0 := by
 unfold ctCheck
 rw [if_neg (by simp), if_neg (fun h => by rcases h with h | ⟨h, _⟩; exact h nmA_ok; simp [Ln.pair] at h), if_neg (fun h => h.2 rfl), if_neg (by simp), if_neg (by simp), if_neg (by simp [InV])]
theorem one_n1 : ¬ (8 < namesN ([] ++ [(⟨nmA, 1, 0, 0⟩ : It)]) \/ ([] : List It).length = 24) := by
 have : namesN ([] ++ [(⟨nmA, 1, 0, 0⟩ : It)]) = 1 := by kernel_rfl
 rw [this]; simp
theorem one_n2 : ¬ (8 < namesN ([(⟨nmA, 1, 0, 0⟩ : It)] ++ [(⟨nmA, 2, 0, 0⟩ : It)]) \/ ([(⟨nmA, 1, 0, 0⟩ : It)]).length = 24) := by
 have : namesN ([(⟨nmA, 1, 0, 0⟩ : It)] ++ [(⟨nmA, 2, 0, 0⟩ : It)]) = 1 := by kernel_rfl
 rw [this]; simp
theorem one_gath : gathF oneL 0 [] = .ok [⟨nmA, 1, 0, 0⟩, ⟨nmA, 2, 0, 0⟩] := by
 unfold oneL
 rw [gathF, if_neg (by rw [one_c1]; simp), if_pos rfl, if_neg (by simp), if_neg (show ¬ (8 < namesN ([] ++ [Ln.it ⟨1, nmA, 1, 0, 0, nmN, []⟩]) \/ ([] : List It).length = 24) from one_n1)]
 rw [gathF, if_neg (by rw [one_c2]; simp), if_pos rfl, if_neg (by decide), if_neg (show ¬ (8 < namesN ([] ++ [Ln.it ⟨1, nmA, 1, 0, 0, nmN, []⟩] ++ [Ln.it ⟨1, nmA, 2, 0, 0, nmN, []⟩]) \/ ([] ++ [Ln.it ⟨1, nmA, 1, 0, 0, nmN, []⟩] : List It).length = 24) from one_n2)]
 rw [gathF, if_neg (by rw [one_c3]; simp), if_neg (by simp), gathF]
 rfl
theorem one_le : (!decide (ctCmp ⟨nmA, 2, 0, 0⟩ ⟨nmA, 1, 0, 0⟩ < 0)) = false := by kernel_rfl
theorem one_sort : sortF [⟨nmA, 1, 0, 0⟩, ⟨nmA, 2, 0, 0⟩] = oneI := by
 unfold sortF oneI
 rw [List.mergeSort]
 simp [List.MergeSort.Internal.splitInTwo, List.splitAt, List.splitAt.go, one_le]
theorem one_miss : missF oneL 0 oneI = none := by kernel_rfl
theorem one_new : newF oneL = .ok oneI := by
 unfold newF
 rw [if_neg (by decide), one_gath]
 simp only [one_sort, one_miss]
theorem one_pl : plF (lnsF oneT 43 0) [] = .ok [(0, ⟨1, nmA, 1, 0, 0, nmN, []⟩), (16, ⟨1, nmA, 2, 0, 0, nmN, []⟩), (32, ⟨4, nmA, 0, 0, 0, nmN, [(0, 1000000000)]⟩)] := by
 rw [one_lns, plF, one_l1]
 simp only [plF, one_l2, one_l3]
 rfl
theorem one_parse : parseF oneT = .ok (oneL, oneI) := by
 unfold parseF
 rw [if_neg (by decide), show oneT.size = 43 from rfl, one_pl]
 have h := one_new
 unfold oneL at h
 simp only [List.map_cons, List.map_nil, h]
 rfl
end Go.Proofs.YtmhophccdfmngaaGreatDoor
