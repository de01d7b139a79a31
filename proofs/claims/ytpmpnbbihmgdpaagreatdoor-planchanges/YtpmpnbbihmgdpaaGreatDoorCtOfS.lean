/- Of: its clauses, plain; the state between two rounds. -/
import Derived.Test.YtpmpnbbihmgdpaaGreatDoorCtIns
set_option maxHeartbeats 1000000
set_option maxRecDepth 100000
namespace Go.Proofs.YtpmpnbbihmgdpaaGreatDoor
open Go.RowKit Go.Deep Sv
def pr0 (its : List It) (k j : Nat) : List (Int × List Int) := if (its.getD j default).name = (its.getD k default).name then [(-1, [notF1 (j : Int), notF1 (k : Int)])] else []
def prI (its : List It) (k i : Nat) : List (Int × List Int) := (List.range i).flatMap (pr0 its k)
def prF (its : List It) (k : Nat) : List (Int × List Int) := (List.range k).flatMap fun k => prI its k k
theorem prI_succ (its : List It) (k i : Nat) : prI its k (i + 1) = prI its k i ++ pr0 its k i := by unfold prI; rw [List.range_succ, List.flatMap_append]; simp
theorem prF_succ (its : List It) (k : Nat) : prF its (k + 1) = prF its k ++ prI its k k := by unfold prF; rw [List.range_succ, List.flatMap_append]; simp
noncomputable def lnL (its : List It) (ls : List Ln) (n : Nat) : List (Int × List Int) := (List.range n).flatMap fun n => lineC its n (ls.getD n default)
theorem lnL_succ (its : List It) (ls : List Ln) (n : Nat) : lnL its ls (n + 1) = lnL its ls n ++ lineC its n (ls.getD n default) := by unfold lnL; rw [List.range_succ, List.flatMap_append]; simp
noncomputable def ofL (its : List It) (ls : List Ln) : List (Int × List Int) := prF its its.length ++ lnL its ls ls.length
theorem pr0_len (its : List It) (k j : Nat) : (pr0 its k j).length <= 1 := by unfold pr0; split <;> simp
theorem prI_len (its : List It) (k : Nat) : ∀ i, (prI its k i).length <= i
 | 0 => by simp [prI]
 | i + 1 => by rw [prI_succ, List.length_append]; have := prI_len its k i; have := pr0_len its k i; omega
theorem prF_len (its : List It) : ∀ k, k <= 24 -> (prF its k).length <= k * 24
 | 0, _ => by simp [prF]
 | k + 1, h => by rw [prF_succ, List.length_append]; have := prF_len its k (by omega); have := prI_len its k k; omega
theorem amongF_len (its : List It) (name : ByteArray) (rng : List Span) : (amongF its name rng).length <= its.length := by
 unfold amongF
 refine Nat.le_trans (List.length_filter_le _ _) ?_
 rw [List.length_range']
 have := ctRow_bound its name
 omega
theorem amongF_lt (its : List It) (name : ByteArray) (rng : List Span) : ∀ x ∈ amongF its name rng, x < its.length := by
 intro x hx
 unfold amongF at hx
 have h := (List.mem_range'_1.1 (List.mem_filter.1 hx).1)
 have := ctRow_bound its name
 omega
theorem lineC_len (its : List It) (n : Nat) (x : Ln) (h : its.length <= 24) : (lineC its n x).length <= 24 := by
 have := amongF_len its x.other x.rng
 unfold lineC
 split
 ·simp
 ·split
  ·simp
  ·split
   ·simp; omega
   ·simp
theorem lnL_len (its : List It) (ls : List Ln) (h : its.length <= 24) : ∀ n, (lnL its ls n).length <= n * 24
 | 0 => by simp [lnL]
 | n + 1 => by rw [lnL_succ, List.length_append]; have := lnL_len its ls h n; have := lineC_len its n (ls.getD n default) h; omega
structure OS (w W : World) (b5 : Nat) (n : Int) (cv fv : Value) (P : List (Int × List Int)) (iv : Value) (its : List It) : Prop where
 r2 : Blk W w.heap.size 65 #[.int .i64 0, .slice none 0 0, .slice none 0 0]
 r5 : Blk W b5 65 #[.int .i64 n, cv, fv]
 rs : RS (b5 + 1) W cv fv (P.map Prod.snd) (P.map Prod.fst)
 B : Below w.heap.size w W
 lo : w.heap.size < b5
 its : W.ownsRow w.heap.size 182 4 iv its.length (itCells its)
section
variable {w W W' : World} {b5 : Nat} {n : Int} {cv fv iv : Value} {P : List (Int × List Int)} {its : List It}
theorem OS.new (h : OS w W b5 n cv fv P iv its) (hb : Below W.heap.size W W') : OS w W' b5 n cv fv P iv its :=
 ⟨h.r2.below hb h.r2.lt, h.r5.below hb h.r5.lt, h.rs.new hb, h.B.trans (hb.mono h.B.size), h.lo, row_new' h.its hb⟩
theorem OS.keep (h : OS w W b5 n cv fv P iv its) (hf : Fr b5 cv fv W W') {k : Nat} {cs : Array Value} {t : TypeId} (hk : Blk W k t cs) (h1 : t ≠ 65) (h2 : t ≠ 143) (h3 : t ≠ 3) : Blk W' k t cs := by
 obtain ⟨cs', hc, -⟩ := h.rs.crow
 refine (hf.block k hk.lt (hk.ne_type h.r5 h1) (fun e => ownBlock_ne' hc hk h2 e.symm) (fun e => ownBlock_ne' h.rs.frow hk h3 e.symm)).trans hk
theorem OS.keepRow (h : OS w W b5 n cv fv P iv its) (hf : Fr b5 cv fv W W') {B t k m : Nat} {v : Value} {cs : List Value} (hr : W.ownsRow B t k v m cs) (h1 : t ≠ 65) (h2 : t ≠ 143) (h3 : t ≠ 3) : W'.ownsRow B t k v m cs := by
 refine ⟨hr.1, ?_⟩
 rcases hr.2 with h' | ⟨g, cap, cur, e, hB, hg, r⟩
 ·exact .inl h'
 ·exact .inr ⟨g, cap, cur, e, hB, h.keep hf hg h1 h2 h3, r⟩
theorem OS.add (h : OS w W b5 n cv fv P iv its) {cv' fv' : Value} {f : Int} {c : List Int} (hf : Fr b5 cv fv W W') (h5 : Blk W' b5 65 #[.int .i64 n, cv', fv']) (hr : RS (b5 + 1) W' cv' fv' (P.map Prod.snd ++ [c]) (P.map Prod.fst ++ [f])) : OS w W' b5 n cv' fv' (P ++ [(f, c)]) iv its :=
 ⟨h.r2.below hf.B (by have := h.lo; omega), h5, by simpa using hr, h.B.trans (hf.B.mono (Nat.le_of_lt h.lo)), h.lo, h.keepRow hf h.its (by decide) (by decide) (by decide)⟩
theorem OS.keepInts (h : OS w W b5 n cv fv P iv its) (hf : Fr b5 cv fv W W') {B m : Nat} {v : Value} {cs : List Value} (hr : W.ownsRow B 3 1 v m cs) (hn : ∀ g, v.ownBlock = some g -> some g ≠ fv.ownBlock) : W'.ownsRow B 3 1 v m cs := by
 obtain ⟨cs', hc, -⟩ := h.rs.crow
 refine ⟨hr.1, ?_⟩
 rcases hr.2 with h' | ⟨g, cap, cur, e, hB, hg, r⟩
 ·exact .inl h'
 ·have hk : Blk W g 3 cur := hg
  exact .inr ⟨g, cap, cur, e, hB, (hf.block g hk.lt (hk.ne_type h.r5 (by decide)) (fun e => ownBlock_ne' hc hk (by decide) e.symm) (hn g (by rw [e]; rfl))).trans hg, r⟩
theorem OS.fresh (h : OS w W b5 n cv fv P iv its) {g : Nat} (hg : W.heap.size <= g) : some g ≠ fv.ownBlock := fun e => by
 have := (h.rs.frow.lt g e.symm).2
 omega
end
theorem intsK_own {B : Nat} {w : World} {v : Value} {l : List Int} (h : w.ownsRow B 3 1 v l.length (icells l)) : ∃ a cap, v = .slice a l.length cap /\ l.length <= cap /\ cap <= 9223372036854775807 /\ IntsK 0 w a l /\ PlA a := by
 rcases h.2 with ⟨e, e0⟩ | ⟨g, cap, cur, e, hB, hg, hn, hm, hsz, htake⟩
 ·exact ⟨none, 0, by rw [e, e0], by omega, by omega, fun i hi => by omega, fun ad e => by cases e⟩
 ·unfold maxLen at hm
  refine ⟨_, _, e, hn, hm, fun i hi => ⟨_, rfl, (show Blk w g 3 cur from hg).lt, Or.inr ⟨_, _, hg⟩, ?_⟩, fun ad e => by cases e; rfl⟩
  subst e
  have := h.cellAt i (by omega)
  rw [add_plain, Nat.zero_add, this, icells_at l i hi]
theorem ctNumb_bound (its : List It) (x : It) (h : its.length <= 24) : -1 <= ctNumb its x /\ ctNumb its x <= 24 := by
 unfold ctNumb
 split
 ·rename_i i hi
  have := (List.findIdx?_eq_some_iff_findIdx_eq.1 hi).1
  omega
 ·omega
theorem lines_v (bk bm : Nat) (lv iv : Value) (ls : List Ln) (vs : List Value) (w : World) (h1 : Blk w bk 179 #[lv, iv, .map (some bm)]) (hr : RgsAt w ls vs) (h2 : RowAt w lv ls.length (lnCells ls vs)) (hl : ls.length <= 100000) :
  Calls Tryz.prog 38 #[.pointer (some ⟨bk, 0, none⟩)] w fun e w' => ∃ v', e = .returned v' /\ w'.ownsRow w.heap.size 98 7 v' ls.length (lnCells ls vs) /\ Below w.heap.size w w' := by
 have HI := Lib.hid (clone_lns ls vs hr.1 hr.one lv w h2 hl)
 obtain ⟨va, vc, rfl, -⟩ := h2.form
 have c0 : w.cell? ⟨bk, 0, none⟩ = some (.slice va ls.length vc) := h1.cell 0
 clear h1 h2 hr hl
 go_enter Tryz.func38, Tryz.ntmps38
 go_wp2_with fail
 refine HI.out.mono ?_
 rintro e w1 ⟨v', rfl, hrow, hb1⟩
 have HR := Lib.hid hrow
 have HB1 := Lib.hid hb1
 clear hb1 HI hrow c0
 go_wp2
 go_ret
 exact ⟨v', rfl, HR.out, HB1.out⟩
end Go.Proofs.YtpmpnbbihmgdpaaGreatDoor
