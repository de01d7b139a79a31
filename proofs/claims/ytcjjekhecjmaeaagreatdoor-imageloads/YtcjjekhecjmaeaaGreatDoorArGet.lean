/- Has, Get, Len. -/
import Derived.Test.YtcjjekhecjmaeaaGreatDoorArBase
set_option maxHeartbeats 2000000
set_option maxRecDepth 100000
namespace Go.Proofs.YtcjjekhecjmaeaaGreatDoor
section
open Go.RowKit Go.Maps
def ncells (ns : List Nd) : List Value := ns.flatMap fun n => [.int .i64 n.v, .int .i64 n.l, .int .i64 n.h]
def nd (ns : List Nd) (i : Nat) : Nd := ns.getD i ⟨0, 0, 0⟩
theorem nd_at (ns : List Nd) (i : Nat) (h : i < ns.length) : nd ns i = ns[i] := by unfold nd; simp [List.getD_eq_getElem?_getD, List.getElem?_eq_getElem h]
theorem ncells_append (a b : List Nd) : ncells (a ++ b) = ncells a ++ ncells b := by simp [ncells]
theorem ncells_at : ∀ (ns : List Nd) (i : Nat), i < ns.length -> (ncells ns)[i * 3]? = some (.int .i64 (nd ns i).v) /\ (ncells ns)[i * 3 + 1]? = some (.int .i64 (nd ns i).l) /\ (ncells ns)[i * 3 + 2]? = some (.int .i64 (nd ns i).h)
 | [], i, h => by simp at h
 | n :: ns, 0, _ => by simp [ncells, nd]
 | n :: ns, i + 1, h => by
  have ih := ncells_at ns i (by simpa using h)
  have e : nd (n :: ns) (i + 1) = nd ns i := by simp [nd]
  rw [e]
  have e2 : ∀ j, (ncells (n :: ns))[j + 3]? = (ncells ns)[j]? := fun j => by
   show ([Value.int .i64 n.v, .int .i64 n.l, .int .i64 n.h] ++ ncells ns)[j + 3]? = _
   rw [List.getElem?_append_right (by simp)]; simp
  rw [show (i + 1) * 3 = i * 3 + 3 by omega, show i * 3 + 3 + 1 = (i * 3 + 1) + 3 by omega, show i * 3 + 3 + 2 = (i * 3 + 2) + 3 by omega, e2, e2, e2]
  exact ih
def Own (b bm : Nat) (v : Value) (k : Nat) : Prop := k = b \/ k = bm \/ v.ownBlock = some k
structure ArenaAt (B : Nat) (w : World) (b bm : Nat) (v : Value) (ns : List Nd) (L : List (Nd × Int)) (room next : Int) : Prop where
 lt : b < w.heap.size
 croom : w.cell? ⟨b, 0, none⟩ = some (.int .i64 room)
 cnodes : w.cell? ⟨b, 1, none⟩ = some v
 cmap : w.cell? ⟨b, 2, none⟩ = some (.map (some bm))
 cnext : w.cell? ⟨b, 3, none⟩ = some (.int .i64 next)
 froz : ∀ i, w.frozen? ⟨b, i, none⟩ = false
 row : w.ownsRow B 102 3 v ns.length (ncells ns)
 hmap : ∃ D, w.ownsMap Tryz.prog 102 (plainElem Tryz.prog 3) bm L.length D /\ Rep Nd.Ok Nd.lit (fun x : Int => .lit (.int .i64 x)) D L
 d1 : v.ownBlock ≠ some b
 d2 : bm ≠ b
 d3 : v.ownBlock ≠ some bm
 B1 : B <= b
 B2 : B <= bm
section
variable {B b bm : Nat} {w w' : World} {v : Value} {ns : List Nd} {L : List (Nd × Int)} {room next : Int}
theorem ownsRow_kept {S : Nat -> Prop} {e : TypeId} {size n : Nat} {xs : List Value} (h : w.ownsRow B e size v n xs) (hk : Kept S w w') (hn : ∀ k, v.ownBlock = some k -> ¬ S k) : w'.ownsRow B e size v n xs := by
 refine ⟨h.1, ?_⟩
 rcases h.2 with h1 | ⟨g, cap, cur, h1, h2, h3, h4⟩
 ·exact .inl h1
 ·refine .inr ⟨g, cap, cur, h1, h2, ?_, h4⟩
  have hlt : g < w.heap.size := by
   by_cases hl : g < w.heap.size
   ·exact hl
   ·rw [Array.getElem?_eq_none (by omega)] at h3; simp at h3
  rw [hk.block g hlt (hn g (by rw [h1]; rfl))]; exact h3
theorem ownsMap_kept {S : Nat -> Prop} {k : TypeId} {R : Value -> Option (DataW Unit × List MemPlace)} {n : Nat} {D : DataW Unit} (h : w.ownsMap Tryz.prog k R bm n D) (hk : Kept S w w') (hn : ¬ S bm) : w'.ownsMap Tryz.prog k R bm n D := by
 have hlt := h.lt
 obtain ⟨es, clock, h1, h2⟩ := h
 exact ⟨es, clock, (hk.block bm hlt hn).trans h1, h2⟩
theorem ArenaAt.kept {S : Nat -> Prop} (h : ArenaAt B w b bm v ns L room next) (hk : Kept S w w') (hn : ∀ k, Own b bm v k -> ¬ S k) : ArenaAt B w' b bm v ns L room next := by
 have hb := hn b (.inl rfl)
 obtain ⟨D, hD, hR⟩ := h.hmap
 exact ⟨Nat.lt_of_lt_of_le h.lt hk.size, (hk.cell (a := ⟨b, 0, none⟩) h.lt hb).trans h.croom, (hk.cell (a := ⟨b, 1, none⟩) h.lt hb).trans h.cnodes, (hk.cell (a := ⟨b, 2, none⟩) h.lt hb).trans h.cmap, (hk.cell (a := ⟨b, 3, none⟩) h.lt hb).trans h.cnext, fun i => (hk.frozen (a := ⟨b, i, none⟩) h.lt hb).trans (h.froz i),
  ownsRow_kept h.row hk (fun k hv => hn k (.inr (.inr hv))), ⟨D, ownsMap_kept hD hk (hn bm (.inr (.inl rfl))), hR⟩, h.d1, h.d2, h.d3, h.B1, h.B2⟩
theorem ArenaAt.form (h : ArenaAt B w b bm v ns L room next) : ∃ a cap, v = .slice a ns.length cap /\ (ns.length ≠ 0 -> ∃ g, a = some ⟨g, 0, none⟩ /\ B <= g /\ g < w.heap.size) := by
 rcases h.row.2 with ⟨h1, h2⟩ | ⟨g, cap, cur, h1, hB, _, h2, _⟩
 ·exact ⟨none, 0, by rw [h1, h2], fun h => absurd h2 h⟩
 ·exact ⟨_, cap, h1, fun _ => ⟨g, rfl, hB, (h.row.lt g (by rw [h1]; rfl)).2⟩⟩
end
def topOf (ns : List Nd) (h : Int) : Int := if 2 <= h /\ h < 2 + (ns.length : Int) then (nd ns (h - 2).toNat).v else 24
theorem top_any {B b bm : Nat} {w : World} {v : Value} {ns : List Nd} {L : List (Nd × Int)} {room next : Int} (hA : ArenaAt B w b bm v ns L room next) (h : Int) (hi : I64 h) (hl : ns.length <= 1000000) :
  Calls Tryz.prog 37 #[.pointer (some ⟨b, 0, none⟩), .int .i64 h] w fun e w' => e = .returned (.int .i64 (topOf ns h)) /\ w = w' := by
 obtain ⟨hi0, hi1⟩ := hi
 obtain ⟨a, cap, rfl, hg⟩ := hA.form
 have cn := hA.cnodes
 have HR := Lib.hid hA.row
 have HG := Lib.hid hg
 clear hA hg
 unfold topOf
 by_cases hc : 2 <= h /\ h < 2 + (ns.length : Int)
 ·rw [if_pos hc]
  obtain ⟨h2, h3⟩ := hc
  obtain ⟨i, e2⟩ : ∃ i : Nat, h - 2 = (i : Int) := ⟨(h - 2).toNat, by omega⟩
  obtain ⟨g, rfl, -⟩ := HG.out (by omega)
  have e1 : (h - 2).toNat = i := by omega
  rw [e1]
  have hil : i < ns.length := by omega
  have ci := HR.out.cellAt (i * 3) (by omega)
  rw [(ncells_at ns i hil).1] at ci
  generalize (nd ns i).v = x at *
  clear e1 HR HG
  go_enter Tryz.func37, Tryz.ntmps37
  go_wp2
  go_ret
  exact ⟨rfl, rfl⟩
 ·rw [if_neg hc]
  by_cases h2 : h < 2
  ·clear hc HR HG
   go_enter Tryz.func37, Tryz.ntmps37
   go_wp2
   go_ret
   exact ⟨rfl, rfl⟩
  ·have h3 : 2 + (ns.length : Int) <= h := by omega
   clear hc HR HG
   go_enter Tryz.func37, Tryz.ntmps37
   go_wp2
   go_ret
   exact ⟨rfl, rfl⟩
end
section
open Go.RowKit Go.Maps
def hasB (ns : List Nd) (h : Int) : Bool := decide (h = 0) || decide (h = 1) || decide (topOf ns h < 24)
section
variable {B b bm : Nat} {w : World} {v : Value} {ns : List Nd} {L : List (Nd × Int)} {room next : Int}
theorem has_any (hA : ArenaAt B w b bm v ns L room next) (h : Int) (hi : I64 h) (hl : ns.length <= 1000000) :
  Calls Tryz.prog 46 #[.pointer (some ⟨b, 0, none⟩), .int .i64 h] w fun e w' => e = .returned (.bool (hasB ns h)) /\ w = w' := by
 have HT := Lib.hid (top_any hA h hi hl)
 clear hA hl
 unfold hasB
 generalize topOf ns h = t at *
 by_cases h0 : h = 0
 ·subst h0
  go_enter Tryz.func46, Tryz.ntmps46
  go_wp2
  go_ret
  exact ⟨rfl, rfl⟩
 ·by_cases h1 : h = 1
  ·subst h1
   go_enter Tryz.func46, Tryz.ntmps46
   go_wp2
   go_ret
   exact ⟨rfl, rfl⟩
  ·have e0 : (h == 0) = false := by rw [beq_eq_false_iff_ne]; exact h0
   have e1 : (h == 1) = false := by rw [beq_eq_false_iff_ne]; exact h1
   have d0 : decide (h = 0) = false := decide_eq_false h0
   have d1 : decide (h = 1) = false := decide_eq_false h1
   rw [d0, d1, Bool.false_or, Bool.false_or]
   clear h0 h1 d0 d1
   go_enter Tryz.func46, Tryz.ntmps46
   go_wp2_with fail
   refine HT.out.mono ?_
   rintro e w1 ⟨rfl, rfl⟩
   go_wp2
   go_ret
   exact ⟨rfl, rfl⟩
def getOf (ns : List Nd) (h : Int) : Nd := if topOf ns h = 24 then ⟨0, 0, 0⟩ else nd ns (h - 2).toNat
theorem cell3 (w : World) (A B C : Value) (t : TypeId) : (w.alloc (.cells #[A, B, C] t)).cell? ⟨w.heap.size, 0, none⟩ = some A /\ (w.alloc (.cells #[A, B, C] t)).cell? ⟨w.heap.size, 1, none⟩ = some B /\ (w.alloc (.cells #[A, B, C] t)).cell? ⟨w.heap.size, 2, none⟩ = some C /\ (∀ i, (w.alloc (.cells #[A, B, C] t)).frozen? ⟨w.heap.size, i, none⟩ = false) := ⟨by simp, by simp, by simp, fun i => by simp⟩
theorem below_new (w : World) (o : Obj) : Below w.heap.size w (w.alloc o) := (Below.refl _ _).alloc (Nat.le_refl _) _
theorem get_any (hA : ArenaAt B w b bm v ns L room next) (h : Int) (hi : I64 h) (hl : ns.length <= 1000000) :
  Calls Tryz.prog 59 #[.pointer (some ⟨b, 0, none⟩), .int .i64 h] w fun e w' => e = .returned (.tuple #[(getOf ns h).val, .bool (decide (topOf ns h ≠ 24))]) /\ Below w.heap.size w w' := by
 have hA1 := hA.kept (Kept.alloc (fun _ => False) w (.cells #[.int .i64 0, .int .i64 0, .int .i64 0] 102)) (fun _ _ h => h)
 have HT := Lib.hid (top_any hA1 h hi hl)
 have hlt := hA.lt
 clear hA
 obtain ⟨hi0, hi1⟩ := hi
 obtain ⟨c0, c1, c2, fz⟩ := cell3 w (.int .i64 0) (.int .i64 0) (.int .i64 0) 102
 have f0 := fz 0
 have f1 := fz 1
 have f2 := fz 2
 have hbn := below_new w (.cells #[.int .i64 0, .int .i64 0, .int .i64 0] 102)
 clear fz
 unfold getOf
 by_cases ht : topOf ns h = 24
 ·rw [if_pos ht, decide_eq_false (by simp [ht])]
  rw [ht] at HT
  clear ht hA1
  go_enter Tryz.func59, Tryz.ntmps59
  go_wp2_with fail
  refine HT.out.mono ?_
  rintro e w1 ⟨rfl, rfl⟩
  clear HT
  go_wp2
  refine bodyPost_ret (v := .tuple #[.agg #[.int .i64 0, .int .i64 0, .int .i64 0], .bool false]) (by simp [results, Tryz.results59, go_sem]) rfl ?_
  refine ⟨rfl, ?_⟩
  exact below_new w _
 ·rw [if_neg ht, decide_eq_true (by simp [ht])]
  have hc : 2 <= h /\ h < 2 + (ns.length : Int) := by
   unfold topOf at ht
   by_cases hc : 2 <= h /\ h < 2 + (ns.length : Int)
   ·exact hc
   ·rw [if_neg hc] at ht; exact absurd rfl ht
  obtain ⟨h2, h3⟩ := hc
  obtain ⟨i, e2⟩ : ∃ i : Nat, h - 2 = (i : Int) := ⟨(h - 2).toNat, by omega⟩
  have e1 : (h - 2).toNat = i := by omega
  obtain ⟨a, cap, rfl, hg⟩ := hA1.form
  obtain ⟨g, rfl, hBg, hgl⟩ := hg (by omega)
  have hil : i < ns.length := by omega
  have ca := hA1.row.cellAt (i * 3) (by omega)
  have cb := hA1.row.cellAt (i * 3 + 1) (by omega)
  have cc := hA1.row.cellAt (i * 3 + 2) (by omega)
  have cn := hA1.cnodes
  obtain ⟨n1, n2, n3⟩ := ncells_at ns i hil
  rw [n1] at ca
  rw [n2] at cb
  rw [n3] at cc
  rw [e1]
  have et : (topOf ns h == 24) = false := by rw [beq_eq_false_iff_ne]; exact ht
  generalize topOf ns h = tt at *
  generalize nd ns i = n at *
  clear n1 n2 n3 hA1 e1 ht
  go_enter Tryz.func59, Tryz.ntmps59
  go_wp2_with fail
  refine HT.out.mono ?_
  rintro e w1 ⟨rfl, rfl⟩
  clear HT
  go_wp2
  refine bodyPost_ret (v := .tuple #[n.val, .bool true]) (by simp [results, Tryz.results59, go_sem, Nd.val]) rfl ?_
  refine ⟨rfl, ?_⟩
  exact below_new w _
theorem len_any (hA : ArenaAt B w b bm v ns L room next) :
  Calls Tryz.prog 24 #[.pointer (some ⟨b, 0, none⟩)] w fun e w' => e = .returned (.int .i64 (L.length : Int)) /\ w = w' := by
 obtain ⟨D, hD, hR⟩ := hA.hmap
 have cm := hA.cmap
 have hs : (Maps.size D : Int) = (L.length : Int) := by rw [hR.size]
 clear hA hR
 go_enter Tryz.func24, Tryz.ntmps24
 go_wp2_with (at_len; refine wpList_len_own _ rfl _ 124 rfl 102 3 Tryz.underlying124 _ bm _ D rfl hD ?_)
 go_ret
 exact ⟨by rw [<- hs]; rfl, rfl⟩
end
end
end Go.Proofs.YtcjjekhecjmaeaaGreatDoor
