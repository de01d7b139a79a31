/- Make: what is there already, no room, and a new node. -/
import Derived.Test.YtcjjekhecjmaeaaGreatDoorArFree
set_option maxHeartbeats 2000000
set_option maxRecDepth 100000
namespace Go.Proofs.YtcjjekhecjmaeaaGreatDoor
section
def mk (m : List Bool) (i : Nat) : Bool := m.getD i false
theorem mk_at (m : List Bool) (i : Nat) (h : i < m.length) : mk m i = m[i] := by unfold mk; simp [List.getD_eq_getElem?_getD, List.getElem?_eq_getElem h]
theorem mk_set (m : List Bool) (k i : Nat) (h : k < m.length) : mk (m.set k true) i = (decide (i = k) || mk m i) := by
 unfold mk
 simp only [List.getD_eq_getElem?_getD, List.getElem?_set]
 by_cases e : k = i
 ·subst e; simp [h]
 ·rw [if_neg e, decide_eq_false (fun h => e h.symm), Bool.false_or]
theorem mk_none (n i : Nat) : mk (List.replicate n false) i = false := by
 unfold mk; simp only [List.getD_eq_getElem?_getD, List.getElem?_replicate]; split <;> rfl
def markF : Nat -> List Nd -> Int -> List Bool -> List Bool
 | 0, _, _, m => m
 | d + 1, ns, h, m =>
  if topOf ns h = 24 \/ mk m (h - 2).toNat = true then m
  else markF d ns (nd ns (h - 2).toNat).h (markF d ns (nd ns (h - 2).toNat).l (m.set (h - 2).toNat true))
theorem topOf_node {ns : List Nd} {h : Int} (ht : topOf ns h ≠ 24) : 2 <= h /\ (h - 2).toNat < ns.length /\ topOf ns h = (nd ns (h - 2).toNat).v := by
 unfold topOf at *
 by_cases hc : 2 <= h /\ h < 2 + (ns.length : Int)
 ·rw [if_pos hc]; exact ⟨hc.1, by omega, rfl⟩
 ·rw [if_neg hc] at ht; exact absurd rfl ht
theorem markF_length : ∀ (d : Nat) (ns : List Nd) (h : Int) (m : List Bool), (markF d ns h m).length = m.length
 | 0, _, _, _ => rfl
 | d + 1, ns, h, m => by
  unfold markF
  split
  ·rfl
  ·rw [markF_length d, markF_length d, List.length_set]
theorem markF_grows : ∀ (d : Nat) (ns : List Nd) (h : Int) (m : List Bool), m.length = ns.length -> ∀ i, mk m i = true -> mk (markF d ns h m) i = true
 | 0, _, _, _, _, _, hi => hi
 | d + 1, ns, h, m, hl, i, hi => by
  unfold markF
  split
  ·exact hi
  ·rename_i hn
   have hb := topOf_node (not_or.1 hn).1
   refine markF_grows d ns _ _ (by rw [markF_length, List.length_set, hl]) i (markF_grows d ns _ _ (by rw [List.length_set, hl]) i ?_)
   rw [mk_set _ _ _ (by omega), hi, Bool.or_true]
structure Ranked (ns : List Nd) : Prop where
 v0 : ∀ j, j < ns.length -> 0 <= (nd ns j).v /\ (nd ns j).v <= 24
 l : ∀ j, j < ns.length -> (nd ns j).v < 24 -> (nd ns j).v < topOf ns (nd ns j).l /\ hasB ns (nd ns j).l = true
 h : ∀ j, j < ns.length -> (nd ns j).v < 24 -> (nd ns j).v < topOf ns (nd ns j).h /\ hasB ns (nd ns j).h = true
 ok : ∀ j, j < ns.length -> (nd ns j).Ok
theorem topOf_le {ns : List Nd} (hr : Ranked ns) (h : Int) : 0 <= topOf ns h /\ topOf ns h <= 24 := by
 by_cases ht : topOf ns h = 24
 ·rw [ht]; omega
 ·obtain ⟨h1, h2, h3⟩ := topOf_node ht
  rw [h3]; exact hr.v0 _ h2
def MarkedOr (ns : List Nd) (m : List Bool) (h : Int) : Prop := topOf ns h = 24 \/ mk m (h - 2).toNat = true
theorem MarkedOr.grow {ns : List Nd} {m : List Bool} {h : Int} (hm : MarkedOr ns m h) (hl : m.length = ns.length) (d : Nat) (h' : Int) : MarkedOr ns (markF d ns h' m) h := hm.imp id (markF_grows d ns h' m hl _)
theorem markF_closed {ns : List Nd} (hr : Ranked ns) : ∀ (d : Nat) (h : Int) (m : List Bool), m.length = ns.length -> 24 <= topOf ns h + d ->
  MarkedOr ns (markF d ns h m) h /\ ∀ i, i < ns.length -> mk (markF d ns h m) i = true -> mk m i = false -> MarkedOr ns (markF d ns h m) (nd ns i).l /\ MarkedOr ns (markF d ns h m) (nd ns i).h
 | 0, h, m, _, hd => by
  have := (topOf_le hr h).2
  refine ⟨.inl (by omega), fun i _ h1 h2 => ?_⟩
  unfold markF at h1; rw [h1] at h2; cases h2
 | d + 1, h, m, hl, hd => by
  unfold markF
  split
  ·rename_i hc
   exact ⟨hc, fun i _ h1 h2 => by rw [h1] at h2; cases h2⟩
  ·rename_i hn
   obtain ⟨b1, b2, b3⟩ := topOf_node (not_or.1 hn).1
   have hv : (nd ns (h - 2).toNat).v < 24 := by have := (topOf_le hr h).2; have := (not_or.1 hn).1; omega
   generalize hk : (h - 2).toNat = k at *
   have hl1 : (m.set k true).length = ns.length := by rw [List.length_set, hl]
   have hl2 : (markF d ns (nd ns k).l (m.set k true)).length = ns.length := by rw [markF_length, hl1]
   have A := markF_closed hr d (nd ns k).l (m.set k true) hl1 (by have := (hr.l k b2 hv).1; omega)
   have C := markF_closed hr d (nd ns k).h (markF d ns (nd ns k).l (m.set k true)) hl2 (by have := (hr.h k b2 hv).1; omega)
   have hin : mk (m.set k true) k = true := by rw [mk_set _ _ _ (by omega)]; simp
   refine ⟨.inr (by rw [hk]; exact markF_grows d ns _ _ hl2 _ (markF_grows d ns _ _ hl1 _ hin)), fun i hi h1 h2 => ?_⟩
   by_cases e : i = k
   ·subst e
    exact ⟨A.1.grow hl2 d _, C.1⟩
   ·by_cases h3 : mk (markF d ns (nd ns k).l (m.set k true)) i = true
    ·have := A.2 i hi h3 (by rw [mk_set _ _ _ (by omega), h2, decide_eq_false e]; rfl)
     exact ⟨this.1.grow hl2 d _, this.2.grow hl2 d _⟩
    ·exact C.2 i hi h1 (by simpa using h3)
def swept (ns : List Nd) (M : List Bool) : List Nd := (List.range ns.length).map fun i => if mk M i = true then nd ns i else ⟨24, 0, 0⟩
theorem swept_length (ns : List Nd) (M : List Bool) : (swept ns M).length = ns.length := by simp [swept]
theorem swept_at (ns : List Nd) (M : List Bool) (i : Nat) (h : i < ns.length) : nd (swept ns M) i = if mk M i = true then nd ns i else ⟨24, 0, 0⟩ := by
 rw [nd_at _ i (by rw [swept_length]; exact h)]; simp [swept]
theorem swept_top {ns : List Nd} {M : List Bool} {h : Int} : topOf (swept ns M) h = if mk M (h - 2).toNat = true then topOf ns h else 24 := by
 unfold topOf
 rw [swept_length]
 by_cases hc : 2 <= h /\ h < 2 + (ns.length : Int)
 ·rw [if_pos hc, if_pos hc, swept_at ns M _ (by omega)]
  split <;> rfl
 ·rw [if_neg hc, if_neg hc]; split <;> rfl
end
section
open Go.RowKit Go.Maps
theorem zeroInt (w : World) : (zeroValue 3).run Tryz.prog w = .ok (.int .i64 0) w := by kernel_rfl
theorem elInt {x : Int} (h : I64 x) : plainElem (H := Unit) Tryz.prog 3 (.int .i64 x) = some (.lit (.int .i64 x), []) := plainElem_int Tryz.underlying3 (wf_of h)
theorem ownsMap_norm {P : Program} {k : TypeId} {R : Value -> Option (DataW Unit × List MemPlace)} {w : World} {b n : Nat} {D : DataW Unit} (h : w.ownsMap P k R b n D) : w.ownsMap P k R b (Maps.size D) D := by
 obtain ⟨es, clock, h1, h2, h3, rfl⟩ := h
 exact ⟨es, clock, h1, h2, by simp [Maps.size, length_sorted], rfl⟩
section
variable {w : World} {bm n : Nat} {D : DataW Unit} {L : List (Nd × Int)}
theorem look_found (hD : w.ownsMap Tryz.prog 102 (plainElem Tryz.prog 3) bm n D) (hR : Rep Nd.Ok Nd.lit (fun x : Int => .lit (.int .i64 x)) D L) {p : Nd × Int} (hp : p ∈ L) :
  (Instr.lookup 124 (.map (some bm)) (.agg #[.int .i64 p.1.v, .int .i64 p.1.l, .int .i64 p.1.h]) true).run Tryz.prog w = .ok (.tuple #[.int .i64 p.2, .bool true]) w := by
 obtain ⟨v, ps, hrun, hv⟩ := hD.look_ok lawNode Tryz.underlying124 (zeroInt w) (zd := .lit (.int .i64 0)) (zp := []) (elInt ⟨by omega, by omega⟩) (keyNode p.1 (hR.oks p hp))
 rw [hR.at' p hp] at hv
 obtain ⟨a, rfl, hz, -⟩ := plainElem_int_inv Tryz.underlying3 hv
 rw [(hR.has p.1 (hR.oks p hp)).2 (List.mem_map_of_mem hp)] at hrun
 simp at hz
 rw [<- hz.1] at hrun
 exact hrun
theorem look_none (hD : w.ownsMap Tryz.prog 102 (plainElem Tryz.prog 3) bm n D) (hR : Rep Nd.Ok Nd.lit (fun x : Int => .lit (.int .i64 x)) D L) {a : Nd} (ha : a.Ok) (hn : a ∉ L.map Prod.fst) :
  (Instr.lookup 124 (.map (some bm)) (.agg #[.int .i64 a.v, .int .i64 a.l, .int .i64 a.h]) true).run Tryz.prog w = .ok (.tuple #[.int .i64 0, .bool false]) w := by
 obtain ⟨v, ps, hrun, hv⟩ := hD.look_ok lawNode Tryz.underlying124 (zeroInt w) (zd := .lit (.int .i64 0)) (zp := []) (elInt ⟨by omega, by omega⟩) (keyNode a ha)
 have hh := hR.not ha hn
 rw [atKey_of_not_has hh] at hv
 obtain ⟨c, rfl, hz, -⟩ := plainElem_int_inv Tryz.underlying3 hv
 rw [hh] at hrun
 simp at hz
 rw [<- hz.1] at hrun
 exact hrun
theorem store_new (hD : w.ownsMap Tryz.prog 102 (plainElem Tryz.prog 3) bm L.length D) (hR : Rep Nd.Ok Nd.lit (fun x : Int => .lit (.int .i64 x)) D L) (hl : L.length < 1000000) {a : Nd} (ha : a.Ok) (hn : a ∉ L.map Prod.fst) {x : Int} (hx : I64 x) :
  ∃ w' D', (Instr.mapUpdate 124 (.map (some bm)) (.agg #[.int .i64 a.v, .int .i64 a.l, .int .i64 a.h]) (.int .i64 x)).run Tryz.prog w = .ok () w' /\ w'.ownsMap Tryz.prog 102 (plainElem Tryz.prog 3) bm (L ++ [(a, x)]).length D' /\ Rep Nd.Ok Nd.lit (fun x : Int => .lit (.int .i64 x)) D' (L ++ [(a, x)]) /\ Kept (fun k => k = bm) w w' := by
 obtain ⟨w', hrun, h1, h2⟩ := hD.update lawNode Tryz.underlying124 (by unfold maxLen; omega) (keyNode a ha) (elInt hx)
 refine ⟨w', _, hrun, ?_, hR.put (fun _ _ => litNode_inj) litNode_key ha hn x, Kept.of_grown h2 (fun i h => by cases h; rfl)⟩
 rw [List.length_append]; exact h1
end
section
variable {B b bm : Nat} {w : World} {v : Value} {ns : List Nd} {L : List (Nd × Int)} {room next : Int}
structure Fit (ns : List Nd) (n : Nd) : Prop where
 v0 : 0 <= n.v
 v1 : n.v < 24
 l : hasB ns n.l = true
 h : hasB ns n.h = true
 tl : n.v < topOf ns n.l
 th : n.v < topOf ns n.h
theorem below_drewN (B : Nat) (w : World) (n : Nat) : Below B w (w.drewN n) := ⟨rfl, rfl, rfl, Nat.le_refl _, fun _ _ => rfl⟩
theorem has_box (hA : ArenaAt B w b bm v ns L room next) (o : Obj) (h : Int) (hi : I64 h) (hl : ns.length <= 1000000) :
  Calls Tryz.prog 46 #[.pointer (some ⟨b, 0, none⟩), .int .i64 h] (w.alloc o) fun e w' => e = .returned (.bool (hasB ns h)) /\ w.alloc o = w' :=
 has_any (hA.kept (Kept.alloc (fun _ => False) w o) (fun _ _ h => h)) h hi hl
theorem top_box (hA : ArenaAt B w b bm v ns L room next) (o : Obj) (h : Int) (hi : I64 h) (hl : ns.length <= 1000000) (m : Nat) :
  Calls Tryz.prog 37 #[.pointer (some ⟨b, 0, none⟩), .int .i64 h] ((w.alloc o).drewN m) fun e w' => e = .returned (.int .i64 (topOf ns h)) /\ ∃ m', w' = (w.alloc o).drewN m' :=
 (top_any ((hA.kept (Kept.alloc (fun _ => False) w o) (fun _ _ h => h)).kept (kept_drewN _ _ m) (fun _ _ h => h)) h hi hl).mono fun _ _ ⟨h1, h2⟩ => ⟨h1, m, h2.symm⟩
end
end
section
open Go.RowKit Go.Maps
section
variable {B b bm : Nat} {w : World} {v : Value} {ns : List Nd} {L : List (Nd × Int)} {room next : Int}
theorem make_found (hA : ArenaAt B w b bm v ns L room next) (hl : ns.length <= 1000000) (n : Nd) (hn : n.Ok) (hf : Fit ns n) (h : Int) (hin : (n, h) ∈ L) :
  Calls Tryz.prog 90 #[.pointer (some ⟨b, 0, none⟩), n.val] w fun e w' => e = .returned (.tuple #[.int .i64 h, .nilIface]) /\ Below w.heap.size w w' := by
 obtain ⟨x, lo, hi⟩ := n
 obtain ⟨h0, h1, h2, h3, h4, h5⟩ := hf
 simp only at h0 h1 h2 h3 h4 h5
 have hbn := below_new w (.cells #[.int .i64 x, .int .i64 lo, .int .i64 hi] 102)
 have HL := Lib.hid (has_box hA (.cells #[.int .i64 x, .int .i64 lo, .int .i64 hi] 102) lo hn.2.1 hl)
 have HH := Lib.hid (has_box hA (.cells #[.int .i64 x, .int .i64 lo, .int .i64 hi] 102) hi hn.2.2 hl)
 have TL := Lib.hid (top_box hA (.cells #[.int .i64 x, .int .i64 lo, .int .i64 hi] 102) lo hn.2.1 hl)
 have TH := Lib.hid (top_box hA (.cells #[.int .i64 x, .int .i64 lo, .int .i64 hi] 102) hi hn.2.2 hl)
 have hA1 := hA.kept (Kept.alloc (fun _ => False) w (.cells #[.int .i64 x, .int .i64 lo, .int .i64 hi] 102)) (fun _ _ h => h)
 obtain ⟨D, hD, hR⟩ := hA1.hmap
 have HLK : Hid (∀ W : World, Kept (fun _ => False) (w.alloc (.cells #[.int .i64 x, .int .i64 lo, .int .i64 hi] 102)) W -> (Instr.lookup 124 (.map (some bm)) (.agg #[.int .i64 x, .int .i64 lo, .int .i64 hi]) true).run Tryz.prog W = .ok (.tuple #[.int .i64 h, .bool true]) W) := fun W hW => look_found (p := (⟨x, lo, hi⟩, h)) (ownsMap_kept hD hW (fun h => h)) hR hin
 have cm := hA1.cmap
 obtain ⟨c0, c1, c2, -⟩ := cell3 w (.int .i64 x) (.int .i64 lo) (.int .i64 hi) 102
 rw [h2] at HL
 rw [h3] at HH
 clear hA hn hl h2 h3 hA1 hD hR hin
 unfold Nd.val
 generalize topOf ns lo = tl at *
 generalize topOf ns hi = th at *
 have d1 : decide (tl <= x) = false := decide_eq_false (by omega)
 have d2 : decide (th <= x) = false := decide_eq_false (by omega)
 go_enter Tryz.func90, Tryz.ntmps90
 go_wp2_with fail
 refine HL.out.mono ?_
 rintro e w1 ⟨rfl, rfl⟩
 go_wp2_with fail
 refine HH.out.mono ?_
 rintro e w1 ⟨rfl, rfl⟩
 clear HL HH
 go_wp2_with fail
 go_quiet (first | (go_at_call 37; with_reducible exact TL.out _) | (go_at_call 37; with_reducible exact TH.out _))
 clear TL TH
 go_wp2_with fail
 have hk := kept_drewN (fun _ => False) (w.alloc (.cells #[.int .i64 x, .int .i64 lo, .int .i64 hi] 102)) nq
 have hbE := hbn.trans (below_drewN w.heap.size _ nq)
 have cmE : ((w.alloc (.cells #[.int .i64 x, .int .i64 lo, .int .i64 hi] 102)).drewN nq).cell? ⟨b, 2, none⟩ = some (.map (some bm)) := cm
 have c0E : ((w.alloc (.cells #[.int .i64 x, .int .i64 lo, .int .i64 hi] 102)).drewN nq).cell? ⟨w.heap.size, 0, none⟩ = some (.int .i64 x) := c0
 have c1E : ((w.alloc (.cells #[.int .i64 x, .int .i64 lo, .int .i64 hi] 102)).drewN nq).cell? ⟨w.heap.size, 1, none⟩ = some (.int .i64 lo) := c1
 have c2E : ((w.alloc (.cells #[.int .i64 x, .int .i64 lo, .int .i64 hi] 102)).drewN nq).cell? ⟨w.heap.size, 2, none⟩ = some (.int .i64 hi) := c2
 have hrun := HLK.out _ hk.drew
 clear hk HLK hbn cm c0 c1 c2 d1 d2 h4 h5
 generalize (w.alloc (.cells #[.int .i64 x, .int .i64 lo, .int .i64 hi] 102)).drewN nq = W at *
 go_region_held3 (fun w' => w'.cell? ⟨b, 2, none⟩ = some (.map (some bm)) /\ w'.cell? ⟨w.heap.size, 0, none⟩ = some (.int .i64 x) /\ w'.cell? ⟨w.heap.size, 1, none⟩ = some (.int .i64 lo) /\ w'.cell? ⟨w.heap.size, 2, none⟩ = some (.int .i64 hi)) (exact ⟨cmE, c0E, c1E, c2E⟩) (first | fail)
 go_wp2
 go_ret2
 exact ⟨rfl, hbE.drew⟩
end
end
end Go.Proofs.YtcjjekhecjmaeaaGreatDoor
