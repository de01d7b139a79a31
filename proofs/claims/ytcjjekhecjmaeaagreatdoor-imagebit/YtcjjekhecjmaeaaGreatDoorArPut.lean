/- A node that is put where none lay. -/
import Derived.Test.YtcjjekhecjmaeaaGreatDoorArDrop
set_option maxHeartbeats 4000000
set_option maxRecDepth 100000
namespace Go.Proofs.YtcjjekhecjmaeaaGreatDoor
section
open Go.RowKit Go.Maps
structure Book (ns : List Nd) (L : List (Nd × Int)) : Prop where
 mem : ∀ p ∈ L, ∃ i : Nat, i < ns.length /\ (nd ns i).v < 24 /\ p = (nd ns i, 2 + (i : Int))
 all : ∀ i, i < ns.length -> (nd ns i).v < 24 -> (nd ns i, 2 + (i : Int)) ∈ L
 nodup : (L.map Prod.fst).Nodup
 free : ∀ i, i < ns.length -> ¬ (nd ns i).v < 24 -> nd ns i = ⟨24, 0, 0⟩
theorem nd_ext {a b : List Nd} (hl : a.length = b.length) (h : ∀ i, i < a.length -> nd a i = nd b i) : a = b := by
 apply List.ext_getElem hl
 intro i h1 h2
 have := h i h1
 rwa [nd_at a i h1, nd_at b i h2] at this
theorem nd_set (ns : List Nd) (k : Nat) (n : Nd) (i : Nat) (h : k < ns.length) : nd (ns.set k n) i = if i = k then n else nd ns i := by
 unfold nd
 simp only [List.getD_eq_getElem?_getD, List.getElem?_set]
 by_cases e : k = i
 ·subst e; simp [h]
 ·rw [if_neg e, if_neg (fun h => e h.symm)]
def sweptTo (ns : List Nd) (M : List Bool) (k : Nat) : List Nd := (List.range ns.length).map fun i => if i < k /\ mk M i = false then ⟨24, 0, 0⟩ else nd ns i
theorem sweptTo_length (ns : List Nd) (M : List Bool) (k : Nat) : (sweptTo ns M k).length = ns.length := by simp [sweptTo]
theorem sweptTo_at (ns : List Nd) (M : List Bool) (k i : Nat) (h : i < ns.length) : nd (sweptTo ns M k) i = if i < k /\ mk M i = false then ⟨24, 0, 0⟩ else nd ns i := by
 rw [nd_at _ i (by rw [sweptTo_length]; exact h)]; simp [sweptTo]
theorem sweptTo_zero (ns : List Nd) (M : List Bool) : sweptTo ns M 0 = ns :=
 nd_ext (sweptTo_length _ _ _) (fun i h => by rw [sweptTo_at ns M 0 i (by rwa [sweptTo_length] at h), if_neg (by omega)])
theorem sweptTo_end (ns : List Nd) (M : List Bool) : sweptTo ns M ns.length = swept ns M :=
 nd_ext (by rw [sweptTo_length, swept_length]) (fun i h => by
  rw [sweptTo_length] at h
  rw [sweptTo_at ns M _ i h, swept_at ns M i h]
  by_cases e : mk M i = true
  ·rw [if_pos e, if_neg (by simp [e])]
  ·rw [if_neg e, if_pos ⟨h, by simpa using e⟩])
theorem sweptTo_same {ns : List Nd} {M : List Bool} {k : Nat} (_hk : k < ns.length) (h : mk M k = true \/ nd ns k = ⟨24, 0, 0⟩) : sweptTo ns M (k + 1) = sweptTo ns M k :=
 nd_ext (by rw [sweptTo_length, sweptTo_length]) (fun i hi => by
  rw [sweptTo_length] at hi
  rw [sweptTo_at ns M _ i hi, sweptTo_at ns M _ i hi]
  by_cases e : i = k
  ·subst e
   rw [if_neg (show ¬ (i < i /\ mk M i = false) by omega)]
   rcases h with h | h
   ·rw [if_neg (by simp [h])]
   ·rw [h]; split <;> rfl
  ·by_cases e2 : i < k /\ mk M i = false
   ·rw [if_pos e2, if_pos ⟨by omega, e2.2⟩]
   ·rw [if_neg e2, if_neg (fun h => e2 ⟨by omega, h.2⟩)])
theorem sweptTo_set {ns : List Nd} {M : List Bool} {k : Nat} (hk : k < ns.length) (h : mk M k = false) : (sweptTo ns M k).set k ⟨24, 0, 0⟩ = sweptTo ns M (k + 1) :=
 nd_ext (by rw [List.length_set, sweptTo_length, sweptTo_length]) (fun i hi => by
  rw [List.length_set, sweptTo_length] at hi
  rw [nd_set _ _ _ _ (by rw [sweptTo_length]; exact hk), sweptTo_at ns M _ i hi, sweptTo_at ns M _ i hi]
  by_cases e : i = k
  ·subst e; rw [if_pos rfl, if_pos ⟨by omega, h⟩]
  ·rw [if_neg e]
   by_cases e2 : i < k /\ mk M i = false
   ·rw [if_pos e2, if_pos ⟨by omega, e2.2⟩]
   ·rw [if_neg e2, if_neg (fun h => e2 ⟨by omega, h.2⟩)])
def LTo (L : List (Nd × Int)) (M : List Bool) (k : Nat) : List (Nd × Int) := L.filter fun p => decide (k <= (p.2 - 2).toNat) || mk M (p.2 - 2).toNat
theorem LTo_zero (L : List (Nd × Int)) (M : List Bool) : LTo L M 0 = L := by
 unfold LTo; rw [List.filter_eq_self]; intro p _; simp
theorem LTo_same {ns : List Nd} {L : List (Nd × Int)} {M : List Bool} {k : Nat} (hB : Book ns L) (hk : k < ns.length) (h : mk M k = true \/ ¬ (nd ns k).v < 24) : LTo L M (k + 1) = LTo L M k := by
 unfold LTo
 apply List.filter_congr
 intro p hp
 obtain ⟨i, hi, hv, rfl⟩ := hB.mem p hp
 have e : (2 + (i : Int) - 2).toNat = i := by omega
 simp only [e]
 by_cases e2 : i = k
 ·subst e2
  rcases h with h | h
  ·simp [h]
  ·exact absurd hv h
 ·congr 1
  exact decide_eq_decide.2 (by omega)
theorem LTo_strike {ns : List Nd} {L : List (Nd × Int)} {M : List Bool} {k : Nat} (hB : Book ns L) (hk : k < ns.length) (h : mk M k = false) (hv : (nd ns k).v < 24) : strikeN (LTo L M k) (nd ns k) = LTo L M (k + 1) := by
 unfold strikeN LTo
 rw [List.filter_filter]
 apply List.filter_congr
 intro p hp
 have hin := hB.all k hk hv
 obtain ⟨i, hi, hvi, rfl⟩ := hB.mem p hp
 have e : (2 + (i : Int) - 2).toNat = i := by omega
 simp only [e]
 by_cases e2 : i = k
 ·subst e2
  simp [h]
 ·have hne : nd ns i ≠ nd ns k := by
   intro he
   obtain ⟨x, hx, hxe⟩ := List.getElem_of_mem hp
   obtain ⟨y, hy, hye⟩ := List.getElem_of_mem hin
   have := (List.getElem_inj (h₀ := by simpa using hx) (h₁ := by simpa using hy) hB.nodup).1 (by simp [hxe, hye, he])
   subst this
   rw [hxe] at hye
   have := congrArg Prod.snd hye
   simp at this; omega
  rw [decide_eq_true hne, Bool.true_and]
  congr 1
  exact decide_eq_decide.2 (by omega)
theorem LTo_mem {ns : List Nd} {L : List (Nd × Int)} {M : List Bool} {k : Nat} (hB : Book ns L) (hk : k < ns.length) (hv : (nd ns k).v < 24) : (nd ns k, 2 + (k : Int)) ∈ LTo L M k := by
 unfold LTo
 rw [List.mem_filter]
 exact ⟨hB.all k hk hv, by simp; omega⟩
section
variable {B b bm : Nat} {v : Value} {ns : List Nd} {L : List (Nd × Int)} {room next : Int} {w : World}
theorem sweep_any (hr : Ranked ns) (hbk : Book ns L) (hl : ns.length <= 100000) (hA : ArenaAt B w b bm v ns L room next) (bf : Nat) {cp : Nat} (fs : List Int) (hF : IntsAt w bf fs) (hfl : fs.length <= 1000) (hB : B <= w.heap.size) (hLl : L.length <= 100000) :
  Calls Tryz.prog 107 #[.pointer (some ⟨b, 0, none⟩), .slice (some ⟨bf, 0, none⟩) fs.length cp] w fun e w' => e = .returned (.int .i64 ((L.length : Int) - ((LTo L (marksOf ns fs) ns.length).length : Int))) /\ ArenaAt B w' b bm v (swept ns (marksOf ns fs)) (LTo L (marksOf ns fs) ns.length) room 2 /\ Kept (Own b bm v) w w' := by
 have HC := Lib.hid (reached_any (cp := cp) hr hl hA bf fs hF hfl hB)
 have hML := marksOf_length ns fs
 generalize marksOf ns fs = M at *
 have HML := Lib.hid hML
 have hg : ¬ Own b bm v w.heap.size := by
  obtain ⟨D, hD, -⟩ := hA.hmap
  have hbm := hD.lt
  have hlt := hA.lt
  rintro (h | h | h)
  ·omega
  ·omega
  ·have := (hA.row.lt _ h).2; omega
 have HLEN := Lib.hid (len_any hA)
 have HA := Lib.hid hA
 have HG := Lib.hid hg
 have HBK := Lib.hid hbk
 have HR := Lib.hid hr
 clear hA hF hr hML hg hbk
 go_enter Tryz.func107, Tryz.ntmps107
 go_wp2_with fail
 refine HLEN.out.mono ?_
 rintro e w0 ⟨rfl, rfl⟩
 clear HLEN
 go_wp2_with fail
 refine HC.out.mono ?_
 rintro e w1 ⟨rfl, hm1, hb1⟩
 clear HC
 have hA1 := HA.out.kept (Kept.of_below hb1 (fun _ => False)) (fun _ _ h => h)
 have hK1 := Kept.of_below hb1 (Own b bm v)
 go_wp2_with fail
 go_loopw [6, 7, 14] (fun _ _ i wr => ∃ k : Nat, k <= ns.length /\ i = .int .i64 (k : Int) /\ ArenaAt B wr b bm v (sweptTo ns M k) (LTo L M k) room next /\ wr.ownsRow B 4 1 (.slice (some ⟨w.heap.size, 0, none⟩) ns.length ns.length) ns.length (mcells M) /\ Kept (Own b bm v) w wr)
  (fun _ _ i _ => ns.length - (intOf i).toNat)
 case atStart => exact ⟨0, Nat.zero_le _, rfl, by rw [sweptTo_zero, LTo_zero]; exact hA1, hm1, hK1⟩
 case round =>
  obtain ⟨k, hk, rfl, hAr, hmr, hKr⟩ := hrel
  clear hA1 hK1 hm1 hb1
  by_cases hlt : k < ns.length
  ·have cm := hmr.cellAt k (by omega)
   rw [mcells_at M k (by rw [HML.out]; exact hlt)] at cm
   have ib : (k : Int) < (ns.length : Int) := by omega
   by_cases hm : mk M k = true
   ·rw [hm] at cm
    have E1 := Lib.hid (sweptTo_same hlt (.inl hm))
    have E2 := Lib.hid (LTo_same HBK.out hlt (.inl hm))
    have HAr := Lib.hid hAr
    have HKr := Lib.hid hKr
    have HM := Lib.hid hmr
    clear hm hAr hKr hmr
    go_wp2
    go_roundw
    case rel => exact ⟨k + 1, by omega, by go_num, by rw [E1.out, E2.out]; exact HAr.out, HM.out, HKr.out⟩
    case measure => simp [intOf]; omega
   ·have hm' : mk M k = false := by simpa using hm
    rw [hm'] at cm
    have hnk : nd (sweptTo ns M k) k = nd ns k := by rw [sweptTo_at ns M k k hlt, if_neg (by omega)]
    have HAr := Lib.hid hAr
    have HKr := Lib.hid hKr
    have HM := Lib.hid hmr
    clear hAr hKr hmr
    by_cases hv : (nd ns k).v < 24
    ·have HD := Lib.hid (drop_yes HAr.out (by rw [sweptTo_length]; exact hl) k (by rw [sweptTo_length]; exact hlt) (by rw [hnk]; omega) (by rw [hnk]; exact LTo_mem HBK.out hlt hv))
     rw [hnk, sweptTo_set hlt hm', LTo_strike HBK.out hlt hm' hv] at HD
     clear hm hm' hnk hv
     go_wp2_with fail
     refine HD.out.mono ?_
     rintro e w2 ⟨rfl, hA2, hK2⟩
     have hm2 := ownsRow_kept HM.out hK2 (fun j hj h2 => by have hj2 : w.heap.size = j := Option.some.inj hj; exact HG.out (hj2 ▸ h2))
     have hKK := HKr.out.trans hK2
     clear HD hK2 HAr
     go_wp2
     go_roundw
     case rel => exact ⟨k + 1, by omega, by go_num, hA2, hm2, hKK⟩
     case measure => simp [intOf]; omega
    ·have E1 := Lib.hid (sweptTo_same (M := M) hlt (.inr (HBK.out.free k hlt hv)))
     have E2 := Lib.hid (LTo_same (M := M) HBK.out hlt (.inr hv))
     have HD := Lib.hid (drop_no HAr.out (by rw [sweptTo_length]; exact hl) (2 + (k : Int)) ⟨by omega, by omega⟩ (by rw [topOf_at (by rw [sweptTo_length]; exact hlt), hnk, HBK.out.free k hlt hv]))
     clear hm hm' hnk hv
     go_wp2_with fail
     refine HD.out.mono ?_
     rintro e w2 ⟨rfl, hb2⟩
     have hm2 := ownsRow_new HM.out hb2
     have hKK := HKr.out.trans (Kept.of_below hb2 _)
     have hA2 := HAr.out.kept (Kept.of_below hb2 (fun _ => False)) (fun _ _ h => h)
     clear HD hb2 HAr
     go_wp2
     go_roundw
     case rel => exact ⟨k + 1, by omega, by go_num, by rw [E1.out, E2.out]; exact hA2, hm2, hKK⟩
     case measure => simp [intOf]; omega
  ·obtain rfl : k = ns.length := by omega
   rw [sweptTo_end] at hAr
   have hA2 := hAr.setNext 2
   have HLEN := Lib.hid (len_any hA2)
   have cnx := hAr.cnext
   have fnx := hAr.froz 3
   have HA2 := Lib.hid hA2
   have hKK := hKr.trans (Kept.setCell (S := Own b bm v) wr ⟨b, 3, none⟩ (.int .i64 2) (.inl rfl))
   have hle : (LTo L M ns.length).length <= L.length := List.length_filter_le _ _
   have HK2 := Lib.hid hKK
   obtain ⟨q, hq⟩ : ∃ q, q = (LTo L M ns.length).length := ⟨_, rfl⟩
   rw [<- hq] at HLEN hle
   have HQ := Lib.hid hq
   clear hq
   clear hAr hA2 hKr hKK hmr
   go_wp2_with fail
   refine HLEN.out.mono ?_
   rintro e w3 ⟨rfl, rfl⟩
   go_wp2
   go_ret
   exact ⟨by rw [<- HQ.out]; rfl, HA2.out, HK2.out⟩
end
end
section
open Go.RowKit Go.Maps
theorem new_any (room : Int) (h0 : 0 <= room) (h1 : room <= 4000) (w : World) (B : Nat) (hB : B <= w.heap.size) :
  Calls Tryz.prog 61 #[.int .i64 room] w fun e w' => e = .returned (.tuple #[.pointer (some ⟨w.heap.size + 1, 0, none⟩), .nilIface]) /\ ArenaAt B w' (w.heap.size + 1) w.heap.size (.slice none 0 0) [] [] room 2 /\ Below w.heap.size w w' := by
 have hmm := @run_makeMap Tryz.prog
 have hE : ArenaAt B ((w.alloc (.map #[] 0)).alloc (.cells #[.int .i64 room, .slice none 0 0, .map (some w.heap.size), .int .i64 2] 126)) (w.heap.size + 1) w.heap.size (.slice none 0 0) [] [] room 2 := by
  have e1 : (w.alloc (.map #[] 0)).heap.size = w.heap.size + 1 := by simp
  have hm : ((w.alloc (.map #[] 0)).alloc (.cells #[.int .i64 room, .slice none 0 0, .map (some w.heap.size), .int .i64 2] 126)).ownsMap Tryz.prog 102 (plainElem (H := Unit) Tryz.prog 3) w.heap.size 0 (.map []) := (World.ownsMap_made w _ _ _).alloc _
  refine ⟨by simp, ?_, ?_, ?_, ?_, ?_, World.ownsRow_nil _ _ _ _, ⟨_, hm, Rep.empty⟩, by simp [Value.ownBlock], by omega, by simp [Value.ownBlock], by omega, hB⟩
  ·rw [<- e1]; simp
  ·rw [<- e1]; simp
  ·rw [<- e1]; simp
  ·rw [<- e1]; simp
  ·intro i; rw [<- e1]; simp
 have hb : Below w.heap.size w ((w.alloc (.map #[] 0)).alloc (.cells #[.int .i64 room, .slice none 0 0, .map (some w.heap.size), .int .i64 2] 126)) := ((Below.refl _ _).alloc (Nat.le_refl _) _).alloc (by simp) _
 have HE := Lib.hid hE
 clear hE
 go_enter Tryz.func61, Tryz.ntmps61
 go_wp2
 go_ret2
 exact ⟨rfl, HE.out, hb⟩
end
section
open Go.RowKit Go.Maps
theorem nd_snoc (ns : List Nd) (n : Nd) (i : Nat) : nd (ns ++ [n]) i = if i < ns.length then nd ns i else if i = ns.length then n else ⟨0, 0, 0⟩ := by
 unfold nd
 simp only [List.getD_eq_getElem?_getD]
 by_cases h : i < ns.length
 ·rw [if_pos h, List.getElem?_append_left h]
 ·rw [if_neg h, List.getElem?_append_right (by omega)]
  by_cases e : i = ns.length
  ·subst e; simp
  ·rw [if_neg e, List.getElem?_eq_none (by simp; omega)]; rfl
theorem hasB_cases {ns : List Nd} {h : Int} (hh : hasB ns h = true) : h = 0 \/ h = 1 \/ topOf ns h < 24 := by
 unfold hasB at hh; simpa [or_assoc] using hh
end
section
open Go.RowKit Go.Maps
def putN (ns : List Nd) (k : Nat) (n : Nd) : List Nd := (if k = ns.length then ns ++ [⟨24, 0, 0⟩] else ns).set k n
section
variable {ns : List Nd} {k : Nat} {n : Nd}
theorem putN_lt (hk : k <= ns.length) (i : Nat) : i < (putN ns k n).length ↔ i < ns.length \/ i = k := by
 unfold putN
 rw [List.length_set]; split
 ·rw [List.length_append, List.length_singleton]; omega
 ·omega
theorem putN_length (_hk : k <= ns.length) : (putN ns k n).length <= ns.length + 1 /\ ns.length <= (putN ns k n).length := by
 unfold putN
 rw [List.length_set]; split
 ·rw [List.length_append, List.length_singleton]; omega
 ·omega
theorem putN_at (hk : k <= ns.length) (i : Nat) (hi : i < ns.length \/ i = k) : nd (putN ns k n) i = if i = k then n else nd ns i := by
 unfold putN
 rw [nd_set _ _ _ _ (by split <;> (try simp) <;> omega)]
 by_cases e : i = k
 ·rw [if_pos e, if_pos e]
 ·rw [if_neg e, if_neg e]
  split
  ·rw [nd_snoc, if_pos (by omega)]
  ·rfl
theorem putN_node (hk : k <= ns.length) (hfree : k < ns.length -> ¬ (nd ns k).v < 24) {h : Int} (ht : topOf ns h < 24) : nd (putN ns k n) (h - 2).toNat = nd ns (h - 2).toNat /\ topOf (putN ns k n) h = topOf ns h := by
 obtain ⟨b1, b2, b3⟩ := topOf_node (by omega : topOf ns h ≠ 24)
 have hne : (h - 2).toNat ≠ k := fun e => by
  rw [b3, e] at ht; exact hfree (e ▸ b2) ht
 have h1 : nd (putN ns k n) (h - 2).toNat = nd ns (h - 2).toNat := by rw [putN_at hk _ (.inl b2), if_neg hne]
 refine ⟨h1, ?_⟩
 have hl := (putN_lt (n := n) hk (h - 2).toNat).2 (.inl b2)
 unfold topOf
 rw [if_pos (by omega), if_pos (by omega), h1]
theorem putN_top (hk : k <= ns.length) (hfree : k < ns.length -> ¬ (nd ns k).v < 24) {h : Int} (hh : hasB ns h = true) : topOf (putN ns k n) h = topOf ns h := by
 rcases hasB_cases hh with rfl | rfl | ht
 ·simp [topOf]
 ·simp [topOf]
 ·exact (putN_node hk hfree ht).2
theorem putN_has (hk : k <= ns.length) (hfree : k < ns.length -> ¬ (nd ns k).v < 24) {h : Int} (hh : hasB ns h = true) : hasB (putN ns k n) h = true := by
 unfold hasB; rw [putN_top hk hfree hh]; exact hh
theorem putN_self (hk : k <= ns.length) : topOf (putN ns k n) (2 + (k : Int)) = n.v := by
 rw [topOf_at ((putN_lt hk k).2 (.inr rfl)), putN_at hk k (.inr rfl), if_pos rfl]
theorem putN_ranked (hr : Ranked ns) (hk : k <= ns.length) (hfree : k < ns.length -> ¬ (nd ns k).v < 24) (hn : n.Ok) (hf : Fit ns n) : Ranked (putN ns k n) := by
 have key : ∀ j, j < (putN ns k n).length -> nd (putN ns k n) j = n /\ j = k \/ j < ns.length /\ nd (putN ns k n) j = nd ns j := fun j hj => by
  have hj' := (putN_lt hk j).1 hj
  by_cases e : j = k
  ·exact .inl ⟨by rw [putN_at hk j hj', if_pos e], e⟩
  ·exact .inr ⟨by omega, by rw [putN_at hk j hj', if_neg e]⟩
 refine ⟨?_, ?_, ?_, ?_⟩ <;> intro j hj <;> rcases key j hj with ⟨e, -⟩ | ⟨hl, e⟩ <;> rw [e]
 ·have := hf.v0; have := hf.v1; omega
 ·exact hr.v0 j hl
 ·intro _; rw [putN_top hk hfree hf.l]; exact ⟨hf.tl, putN_has hk hfree hf.l⟩
 ·intro hv; have := hr.l j hl hv; rw [putN_top hk hfree this.2]; exact ⟨this.1, putN_has hk hfree this.2⟩
 ·intro _; rw [putN_top hk hfree hf.h]; exact ⟨hf.th, putN_has hk hfree hf.h⟩
 ·intro hv; have := hr.h j hl hv; rw [putN_top hk hfree this.2]; exact ⟨this.1, putN_has hk hfree this.2⟩
 ·exact hn
 ·exact hr.ok j hl
theorem putN_book {L : List (Nd × Int)} (hB : Book ns L) (hk : k <= ns.length) (hfree : k < ns.length -> ¬ (nd ns k).v < 24) (hv : n.v < 24) (hnin : n ∉ L.map Prod.fst) : Book (putN ns k n) (L ++ [(n, 2 + (k : Int))]) := by
 refine ⟨fun p hp => ?_, fun i hi hvi => ?_, ?_, fun i hi hvi => ?_⟩
 ·rcases List.mem_append.1 hp with hp | hp
  ·obtain ⟨i, hi, hvi, rfl⟩ := hB.mem p hp
   have hne : i ≠ k := fun e => by subst e; exact hfree hi hvi
   refine ⟨i, (putN_lt hk i).2 (.inl hi), ?_, ?_⟩ <;> rw [putN_at hk i (.inl hi), if_neg hne]
   exact hvi
  ·rw [List.mem_singleton] at hp; subst hp
   refine ⟨k, (putN_lt hk k).2 (.inr rfl), ?_, ?_⟩ <;> rw [putN_at hk k (.inr rfl), if_pos rfl]
   exact hv
 ·have hi' := (putN_lt hk i).1 hi
  rw [putN_at hk i hi'] at hvi ⊢
  by_cases e : i = k
  ·rw [if_pos e]; subst e; simp
  ·rw [if_neg e] at hvi ⊢
   exact List.mem_append.2 (.inl (hB.all i (by omega) hvi))
 ·rw [List.map_append, List.nodup_append]
  refine ⟨hB.nodup, by simp, fun x hx y hy => ?_⟩
  simp at hy; subst hy
  exact fun e => hnin (e ▸ hx)
 ·have hi' := (putN_lt hk i).1 hi
  rw [putN_at hk i hi'] at hvi ⊢
  by_cases e : i = k
  ·rw [if_pos e] at hvi; exact absurd hv hvi
  ·rw [if_neg e] at hvi ⊢
   exact hB.free i (by omega) hvi
end
end
end Go.Proofs.YtcjjekhecjmaeaaGreatDoor
