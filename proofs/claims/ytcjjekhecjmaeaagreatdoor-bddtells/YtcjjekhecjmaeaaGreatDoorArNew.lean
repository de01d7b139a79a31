/- Make: a new node. -/
import Derived.Test.YtcjjekhecjmaeaaGreatDoorArMade
set_option maxHeartbeats 4000000
set_option maxRecDepth 100000
namespace Go.Proofs.YtcjjekhecjmaeaaGreatDoor
open Go.RowKit Go.Maps
theorem ncells_set : ∀ (ns : List Nd) (k : Nat) (n : Nd), k < ns.length -> (((ncells ns).set (k * 3) (.int .i64 n.v)).set (k * 3 + 1) (.int .i64 n.l)).set (k * 3 + 2) (.int .i64 n.h) = ncells (ns.set k n)
 | [], k, n, h => by simp at h
 | m :: ns, 0, n, _ => by simp [ncells]
 | m :: ns, k + 1, n, h => by
  have ih := ncells_set ns k n (by simpa using h)
  have e2 : ∀ (j : Nat) (xs : List Value) (u : Value), (Value.int .i64 m.v :: .int .i64 m.l :: .int .i64 m.h :: xs).set (j + 3) u = Value.int .i64 m.v :: .int .i64 m.l :: .int .i64 m.h :: xs.set j u := fun j xs u => rfl
  show ((((Value.int .i64 m.v :: .int .i64 m.l :: .int .i64 m.h :: ncells ns) : List Value).set ((k + 1) * 3) _).set ((k + 1) * 3 + 1) _).set ((k + 1) * 3 + 2) _ = (Value.int .i64 m.v :: .int .i64 m.l :: .int .i64 m.h :: ncells (ns.set k n))
  rw [show (k + 1) * 3 = k * 3 + 3 by omega, show k * 3 + 3 + 1 = (k * 3 + 1) + 3 by omega, show k * 3 + 3 + 2 = (k * 3 + 2) + 3 by omega, e2, e2, e2, ih]
section
variable {B b bm g m cap k : Nat} {w w' : World} {v : Value} {ns : List Nd} {L L' : List (Nd × Int)} {room next : Int}
theorem ArenaAt.setNode (h : ArenaAt B w b bm (.slice (some ⟨g, 0, none⟩) m cap) ns L room next) (hk : k < ns.length) (n : Nd) :
  ArenaAt B (((w.setCell ⟨g, k * 3, none⟩ (.int .i64 n.v)).setCell ⟨g, k * 3 + 1, none⟩ (.int .i64 n.l)).setCell ⟨g, k * 3 + 2, none⟩ (.int .i64 n.h)) b bm (.slice (some ⟨g, 0, none⟩) m cap) (ns.set k n) L room next := by
 obtain ⟨D, hD, hR⟩ := h.hmap
 have hgb : b ≠ g := fun e => h.d1 (by rw [e]; rfl)
 have hgm : bm ≠ g := fun e => h.d3 (by rw [e]; rfl)
 have hm : m = ns.length := by
  rcases h.row.2 with ⟨h1, -⟩ | ⟨_, _, _, h1, -⟩ <;> cases h1; rfl
 have hK : Kept (fun j => j = g) w (((w.setCell ⟨g, k * 3, none⟩ (.int .i64 n.v)).setCell ⟨g, k * 3 + 1, none⟩ (.int .i64 n.l)).setCell ⟨g, k * 3 + 2, none⟩ (.int .i64 n.h)) :=
  ((Kept.setCell (S := fun j => j = g) w ⟨g, k * 3, none⟩ _ rfl).trans (Kept.setCell (S := fun j => j = g) _ ⟨g, k * 3 + 1, none⟩ _ rfl)).trans (Kept.setCell (S := fun j => j = g) _ ⟨g, k * 3 + 2, none⟩ _ rfl)
 have hrow := h.row
 rw [hm] at hrow
 have hr2 := (((hrow.stored (k * 3) (.int .i64 n.v)).1.stored (k * 3 + 1) (.int .i64 n.l)).1.stored (k * 3 + 2) (.int .i64 n.h)).1
 rw [ncells_set ns k n hk] at hr2
 refine ⟨Nat.lt_of_lt_of_le h.lt hK.size, (hK.cell (a := ⟨b, 0, none⟩) h.lt hgb).trans h.croom, (hK.cell (a := ⟨b, 1, none⟩) h.lt hgb).trans h.cnodes, (hK.cell (a := ⟨b, 2, none⟩) h.lt hgb).trans h.cmap, (hK.cell (a := ⟨b, 3, none⟩) h.lt hgb).trans h.cnext, fun i => (hK.frozen (a := ⟨b, i, none⟩) h.lt hgb).trans (h.froz i), ?_, ⟨D, ownsMap_kept hD hK hgm, hR⟩, h.d1, h.d2, h.d3, h.B1, h.B2⟩
 rw [List.length_set, hm]
 exact hr2
theorem ArenaAt.setMap {D' : DataW Unit} (h : ArenaAt B w b bm v ns L room next) (hk : Kept (fun j => j = bm) w w') (hD : w'.ownsMap Tryz.prog 102 (plainElem Tryz.prog 3) bm L'.length D') (hR : Rep Nd.Ok Nd.lit (fun x : Int => .lit (.int .i64 x)) D' L') : ArenaAt B w' b bm v ns L' room next := by
 have hb : b ≠ bm := fun e => h.d2 e.symm
 exact ⟨Nat.lt_of_lt_of_le h.lt hk.size, (hk.cell (a := ⟨b, 0, none⟩) h.lt hb).trans h.croom, (hk.cell (a := ⟨b, 1, none⟩) h.lt hb).trans h.cnodes, (hk.cell (a := ⟨b, 2, none⟩) h.lt hb).trans h.cmap, (hk.cell (a := ⟨b, 3, none⟩) h.lt hb).trans h.cnext, fun i => (hk.frozen (a := ⟨b, i, none⟩) h.lt hb).trans (h.froz i),
  ownsRow_kept h.row hk (fun k hv e => h.d3 (e ▸ hv)), ⟨D', hD, hR⟩, h.d1, h.d2, h.d3, h.B1, h.B2⟩
def NewOut (B : Nat) (w : World) (b bm : Nat) (v : Value) (ns : List Nd) (L : List (Nd × Int)) (room : Int) (i : Nat) (n : Nd) (e : Ending) (w' : World) : Prop :=
 ∃ (k : Nat) (v' : Value), e = .returned (.tuple #[.int .i64 (2 + (k : Int)), .nilIface]) /\ k <= ns.length /\ (∀ j, i <= j -> j < k -> (nd ns j).v < 24) /\ (k < ns.length -> ¬ (nd ns k).v < 24) /\
  ArenaAt B w' b bm v' ((if k = ns.length then ns ++ [⟨24, 0, 0⟩] else ns).set k n) (L ++ [(n, 2 + (k : Int))]) room (2 + (k : Int)) /\ Kept (Own b bm v) w w' /\ (v'.ownBlock = v.ownBlock \/ ∃ g, v'.ownBlock = some g /\ w.heap.size <= g)
theorem make_new (hA : ArenaAt B w b bm v ns L room next) (hl : ns.length <= 100000) (n : Nd) (hn : n.Ok) (hf : Fit ns n) (hnin : n ∉ L.map Prod.fst) (hroom : (L.length : Int) < room) (hLl : L.length <= 100000) (i : Nat) (hnext : next = 2 + (i : Int)) (hil : i <= ns.length) (hB : B <= w.heap.size) :
  Calls Tryz.prog 90 #[.pointer (some ⟨b, 0, none⟩), n.val] w (NewOut B w b bm v ns L room i n) := by
 have hl' : ns.length <= 1000000 := by omega
 obtain ⟨x, lo, hi⟩ := n
 obtain ⟨h0, h1, h2, h3, h4, h5⟩ := hf
 simp only at h0 h1 h2 h3 h4 h5
 have hbn := below_new w (.cells #[.int .i64 x, .int .i64 lo, .int .i64 hi] 102)
 have HL := Lib.hid (has_box hA (.cells #[.int .i64 x, .int .i64 lo, .int .i64 hi] 102) lo hn.2.1 hl')
 have HH := Lib.hid (has_box hA (.cells #[.int .i64 x, .int .i64 lo, .int .i64 hi] 102) hi hn.2.2 hl')
 have TL := Lib.hid (top_box hA (.cells #[.int .i64 x, .int .i64 lo, .int .i64 hi] 102) lo hn.2.1 hl')
 have TH := Lib.hid (top_box hA (.cells #[.int .i64 x, .int .i64 lo, .int .i64 hi] 102) hi hn.2.2 hl')
 have hA1 := hA.kept (Kept.alloc (fun _ => False) w (.cells #[.int .i64 x, .int .i64 lo, .int .i64 hi] 102)) (fun _ _ h => h)
 obtain ⟨D, hD, hR⟩ := hA1.hmap
 have HLK : Hid (∀ W : World, Kept (fun _ => False) (w.alloc (.cells #[.int .i64 x, .int .i64 lo, .int .i64 hi] 102)) W -> (Instr.lookup 124 (.map (some bm)) (.agg #[.int .i64 x, .int .i64 lo, .int .i64 hi]) true).run Tryz.prog W = .ok (.tuple #[.int .i64 0, .bool false]) W) := fun W hW => look_none (a := ⟨x, lo, hi⟩) (ownsMap_kept hD hW (fun h => h)) hR hn hnin
 have cm := hA1.cmap
 obtain ⟨c0, c1, c2, -⟩ := cell3 w (.int .i64 x) (.int .i64 lo) (.int .i64 hi) 102
 rw [h2] at HL
 rw [h3] at HH
 clear h2 h3 hD hR
 unfold Nd.val
 generalize topOf ns lo = tl at *
 generalize topOf ns hi = th at *
 have d1 : decide (tl <= x) = false := decide_eq_false (by omega)
 have d2 : decide (th <= x) = false := decide_eq_false (by omega)
 go_enter Tryz.func90, Tryz.ntmps90
 go_wp2_with fail
 refine HL.out.mono ?_
 rintro e w1 ⟨rfl, rfl⟩
 go_wp2_with fail
 refine HH.out.mono ?_
 rintro e w1 ⟨rfl, rfl⟩
 clear HL HH
 go_wp2_with fail
 go_quiet (first | (go_at_call 37; with_reducible exact TL.out _) | (go_at_call 37; with_reducible exact TH.out _))
 clear TL TH
 go_wp2_with fail
 have hk := kept_drewN (fun _ => False) (w.alloc (.cells #[.int .i64 x, .int .i64 lo, .int .i64 hi] 102)) nq
 have hbE := hbn.trans (below_drewN w.heap.size _ nq)
 have cmE : ((w.alloc (.cells #[.int .i64 x, .int .i64 lo, .int .i64 hi] 102)).drewN nq).cell? ⟨b, 2, none⟩ = some (.map (some bm)) := cm
 have c0E : ((w.alloc (.cells #[.int .i64 x, .int .i64 lo, .int .i64 hi] 102)).drewN nq).cell? ⟨w.heap.size, 0, none⟩ = some (.int .i64 x) := c0
 have c1E : ((w.alloc (.cells #[.int .i64 x, .int .i64 lo, .int .i64 hi] 102)).drewN nq).cell? ⟨w.heap.size, 1, none⟩ = some (.int .i64 lo) := c1
 have c2E : ((w.alloc (.cells #[.int .i64 x, .int .i64 lo, .int .i64 hi] 102)).drewN nq).cell? ⟨w.heap.size, 2, none⟩ = some (.int .i64 hi) := c2
 have hrun := HLK.out _ hk.drew
 have hAE := hA1.kept hk (fun _ _ h => h)
 have HNIN := Lib.hid hnin
 have HOK := Lib.hid hn
 have HB0 := Lib.hid hA
 clear hk HLK hbn cm c0 c1 c2 d1 d2 h4 h5 hA hA1 hnin hn
 generalize (w.alloc (.cells #[.int .i64 x, .int .i64 lo, .int .i64 hi] 102)).drewN nq = W at *
 go_region_held3 (fun w' => w'.cell? ⟨b, 2, none⟩ = some (.map (some bm)) /\ w'.cell? ⟨w.heap.size, 0, none⟩ = some (.int .i64 x) /\ w'.cell? ⟨w.heap.size, 1, none⟩ = some (.int .i64 lo) /\ w'.cell? ⟨w.heap.size, 2, none⟩ = some (.int .i64 hi)) (exact ⟨cmE, c0E, c1E, c2E⟩) (first | fail)
 clear hrun
 have hAF := hAE.kept (kept_drewN (fun _ => False) W 1) (fun _ _ h => h)
 have hcr : W.drew.cell? ⟨b, 0, none⟩ = some (.int .i64 room) := hAE.croom
 have HLN : Hid (∀ m, Calls Tryz.prog 24 #[.pointer (some ⟨b, 0, none⟩)] (W.drew.drewN m) fun e w' => e = .returned (.int .i64 (L.length : Int)) /\ ∃ m', w' = W.drew.drewN m') := fun m => (len_any (hAF.kept (kept_drewN (fun _ => False) _ m) (fun _ _ h => h))).mono fun _ _ ⟨h1, h2⟩ => ⟨h1, m, h2.symm⟩
 have hbF := hbE.drew
 have c0F : W.drew.cell? ⟨w.heap.size, 0, none⟩ = some (.int .i64 x) := c0E
 have c1F : W.drew.cell? ⟨w.heap.size, 1, none⟩ = some (.int .i64 lo) := c1E
 have c2F : W.drew.cell? ⟨w.heap.size, 2, none⟩ = some (.int .i64 hi) := c2E
 have HAF := Lib.hid hAF
 clear hAE hAF cmE c0E c1E c2E hbE
 have e0 : W.drewN 1 = W.drew := rfl
 rw [e0] at HAF
 clear e0
 generalize W.drew = W3 at *
 obtain ⟨len, hlen⟩ : ∃ len, len = L.length := ⟨_, rfl⟩
 rw [<- hlen] at HLN hroom
 have HLEN := Lib.hid hlen
 clear hlen
 go_wp2_with fail
 go_quiet (first | (go_at_call 24; with_reducible exact HLN.out _))
 go_wp2_with fail
 have hA4 := HAF.out.kept (kept_drewN (fun _ => False) _ nq) (fun _ _ h => h)
 have hb4 := hbF.trans (below_drewN w.heap.size _ nq)
 have c04 : (W3.drewN nq).cell? ⟨w.heap.size, 0, none⟩ = some (.int .i64 x) := c0F
 have c14 : (W3.drewN nq).cell? ⟨w.heap.size, 1, none⟩ = some (.int .i64 lo) := c1F
 have c24 : (W3.drewN nq).cell? ⟨w.heap.size, 2, none⟩ = some (.int .i64 hi) := c2F
 clear c0F c1F c2F HAF HLN hbF hcr
 generalize W3.drewN nq = W4 at *
 have hs4 := hb4.size
 have hs4' := World.block_lt_of_cell? W4 ⟨w.heap.size, 0, none⟩ c04
 refine (free_any hA4 hl i hnext hil (by omega)).mono ?_
 rintro e w5 ⟨k, v', rfl, hk, hocc, hfree, hA5, hK5, hv5⟩
 have hbox : ¬ Own b bm v w.heap.size := by
  have hlt := HB0.out.lt
  obtain ⟨D, hD, -⟩ := HB0.out.hmap
  have hbm := hD.lt
  rintro (h | h | h)
  ·omega
  ·omega
  ·have := (HB0.out.row.lt _ h).2; omega
 have c05 := (hK5.cell (a := ⟨w.heap.size, 0, none⟩) hs4' hbox).trans c04
 have c15 := (hK5.cell (a := ⟨w.heap.size, 1, none⟩) hs4' hbox).trans c14
 have c25 := (hK5.cell (a := ⟨w.heap.size, 2, none⟩) hs4' hbox).trans c24
 obtain ⟨ns', hns'⟩ : ∃ ns', ns' = (if k = ns.length then ns ++ [(⟨24, 0, 0⟩ : Nd)] else ns) := ⟨_, rfl⟩
 rw [<- hns'] at hA5
 have hkl : k < ns'.length := by rw [hns']; split <;> (try simp) <;> omega
 have hnl : ns'.length <= 100001 := by rw [hns']; split <;> (try simp) <;> omega
 obtain ⟨a', cap', hve, hg'⟩ := hA5.form
 obtain ⟨g', rfl, hBg, hgl⟩ := hg' (by omega)
 subst hve
 have hA5d : ArenaAt B w5.drew b bm (.slice (some ⟨g', 0, none⟩) ns'.length cap') ns' L room (2 + (k : Int)) := hA5.kept (Kept.refl (fun _ => False) w5).drew (fun _ _ h => h)
 have hbg : b ≠ g' := fun e => hA5.d1 (by rw [e]; rfl)
 have hxg : w.heap.size ≠ g' := by
  rcases hv5 with h | ⟨g2, h, hg2⟩
  ·intro e; exact hbox (.inr (.inr (by rw [<- h, e]; rfl)))
  ·have h' : g' = g2 := Option.some.inj h
   have hs5 : w.heap.size < W4.heap.size := hs4'
   omega
 obtain ⟨n1, n2, n3⟩ := ncells_at ns' k hkl
 have s0 := hA5d.row.cellAt (k * 3) (by omega)
 have s1 := hA5d.row.cellAt (k * 3 + 1) (by omega)
 have s2 := hA5d.row.cellAt (k * 3 + 2) (by omega)
 rw [n1] at s0
 rw [n2] at s1
 rw [n3] at s2
 have t0 := hA5d.row.frozenAt (k * 3)
 have t1 := hA5d.row.frozenAt (k * 3 + 1)
 have t2 := hA5d.row.frozenAt (k * 3 + 2)
 have cn := hA5d.cnodes
 have c05d : w5.drew.cell? ⟨w.heap.size, 0, none⟩ = some (.int .i64 x) := c05
 have c15d : w5.drew.cell? ⟨w.heap.size, 1, none⟩ = some (.int .i64 lo) := c15
 have c25d : w5.drew.cell? ⟨w.heap.size, 2, none⟩ = some (.int .i64 hi) := c25
 have hA6 := hA5d.setNode hkl ⟨x, lo, hi⟩
 have HK6 : Kept (fun j => j = g') w5.drew (((w5.drew.setCell ⟨g', k * 3, none⟩ (.int .i64 x)).setCell ⟨g', k * 3 + 1, none⟩ (.int .i64 lo)).setCell ⟨g', k * 3 + 2, none⟩ (.int .i64 hi)) :=
  ((Kept.setCell (S := fun j => j = g') w5.drew ⟨g', k * 3, none⟩ _ rfl).trans (Kept.setCell (S := fun j => j = g') _ ⟨g', k * 3 + 1, none⟩ _ rfl)).trans (Kept.setCell (S := fun j => j = g') _ ⟨g', k * 3 + 2, none⟩ _ rfl)
 have hlt5 := hA5d.lt
 have hbx5 := World.block_lt_of_cell? w5.drew ⟨w.heap.size, 0, none⟩ c05d
 have c06 := (HK6.cell (a := ⟨w.heap.size, 0, none⟩) hbx5 hxg).trans c05d
 have c16 := (HK6.cell (a := ⟨w.heap.size, 1, none⟩) hbx5 hxg).trans c15d
 have c26 := (HK6.cell (a := ⟨w.heap.size, 2, none⟩) hbx5 hxg).trans c25d
 have cn6 := hA6.cnodes
 have e2 : 2 + (k : Int) - 2 = (k : Int) := by omega
 have ib0 : (0 : Int) <= (k : Int) := by omega
 have ib1 : (k : Int) < (ns'.length : Int) := by omega
 have s0' : w5.cell? ⟨g', k * 3, none⟩ = some (.int .i64 (nd ns' k).v) := s0
 have s1' : (w5.setCell ⟨g', k * 3, none⟩ (.int .i64 x)).cell? ⟨g', k * 3 + 1, none⟩ = some (.int .i64 (nd ns' k).l) := by
  rw [World.cell?_setCell_other _ _ _ _ (by simp)]; exact s1
 have s2' : ((w5.setCell ⟨g', k * 3, none⟩ (.int .i64 x)).setCell ⟨g', k * 3 + 1, none⟩ (.int .i64 lo)).cell? ⟨g', k * 3 + 2, none⟩ = some (.int .i64 (nd ns' k).h) := by
  rw [World.cell?_setCell_other _ _ _ _ (by simp), World.cell?_setCell_other _ _ _ _ (by simp)]; exact s2
 have t0' : w5.frozen? ⟨g', k * 3, none⟩ = false := t0
 have t1' : (w5.setCell ⟨g', k * 3, none⟩ (.int .i64 x)).frozen? ⟨g', k * 3 + 1, none⟩ = false := by rw [World.frozen?_setCell]; exact t1
 have t2' : ((w5.setCell ⟨g', k * 3, none⟩ (.int .i64 x)).setCell ⟨g', k * 3 + 1, none⟩ (.int .i64 lo)).frozen? ⟨g', k * 3 + 2, none⟩ = false := by rw [World.frozen?_setCell, World.frozen?_setCell]; exact t2
 have ew : IntKind.i64.wrap (k : Int) = (k : Int) := IntWalk.i64_in _ ⟨by omega, by omega⟩
 have HN1 := Lib.hid hns'
 have HOC := Lib.hid hocc
 have HFR := Lib.hid hfree
 have HA6 := Lib.hid hA6
 have HK5 := Lib.hid hK5
 have HV5 := Lib.hid hv5
 have HK6' := Lib.hid HK6
 have HB4 := Lib.hid hb4
 clear hns' hocc hfree hA6 hK5 hv5 HK6 hb4 hA5 hA5d hA4 c04 c14 c24 c05 c15 c25 n1 n2 n3
 go_wp2_with fail
 go_region_held3 (fun w' => w'.cell? ⟨b, 1, none⟩ = some (.slice (some ⟨g', 0, none⟩) ns'.length cap') /\ w'.cell? ⟨w.heap.size, 0, none⟩ = some (.int .i64 x) /\ w'.cell? ⟨w.heap.size, 1, none⟩ = some (.int .i64 lo) /\ w'.cell? ⟨w.heap.size, 2, none⟩ = some (.int .i64 hi)) (first | exact ⟨cn, c05d, c15d, c25d⟩ | exact ⟨cn6, c06, c16, c26⟩) (first | fail)
 go_wp2_with fail
 have hA6 : ArenaAt B (((w5.setCell ⟨g', k * 3, none⟩ (.int .i64 x)).setCell ⟨g', k * 3 + 1, none⟩ (.int .i64 lo)).setCell ⟨g', k * 3 + 2, none⟩ (.int .i64 hi)).drew b bm (.slice (some ⟨g', 0, none⟩) ns'.length cap') (ns'.set k ⟨x, lo, hi⟩) L room (2 + (k : Int)) := HA6.out
 have d06 : (((w5.setCell ⟨g', k * 3, none⟩ (.int .i64 x)).setCell ⟨g', k * 3 + 1, none⟩ (.int .i64 lo)).setCell ⟨g', k * 3 + 2, none⟩ (.int .i64 hi)).drew.cell? ⟨w.heap.size, 0, none⟩ = some (.int .i64 x) := c06
 have d16 : (((w5.setCell ⟨g', k * 3, none⟩ (.int .i64 x)).setCell ⟨g', k * 3 + 1, none⟩ (.int .i64 lo)).setCell ⟨g', k * 3 + 2, none⟩ (.int .i64 hi)).drew.cell? ⟨w.heap.size, 1, none⟩ = some (.int .i64 lo) := c16
 have d26 : (((w5.setCell ⟨g', k * 3, none⟩ (.int .i64 x)).setCell ⟨g', k * 3 + 1, none⟩ (.int .i64 lo)).setCell ⟨g', k * 3 + 2, none⟩ (.int .i64 hi)).drew.cell? ⟨w.heap.size, 2, none⟩ = some (.int .i64 hi) := c26
 have HK6 : Hid (Kept (fun j => j = g') w5 (((w5.setCell ⟨g', k * 3, none⟩ (.int .i64 x)).setCell ⟨g', k * 3 + 1, none⟩ (.int .i64 lo)).setCell ⟨g', k * 3 + 2, none⟩ (.int .i64 hi)).drew) := ⟨HK6'.out.os, HK6'.out.tape, HK6'.out.output, HK6'.out.size, HK6'.out.block⟩
 clear s0 s1 s2 t0 t1 t2 s0' s1' s2' t0' t1' t2' c05d c15d c25d c06 c16 c26 cn cn6 HA6 HK6' hlt5 hbx5
 generalize (((w5.setCell ⟨g', k * 3, none⟩ (.int .i64 x)).setCell ⟨g', k * 3 + 1, none⟩ (.int .i64 lo)).setCell ⟨g', k * 3 + 2, none⟩ (.int .i64 hi)).drew = W6 at *
 have hA6d := hA6.kept (Kept.refl (fun _ => False) W6).drew (fun _ _ h => h)
 obtain ⟨D6, hD6, hR6⟩ := hA6d.hmap
 obtain ⟨W7, D7, hrun7, hD7, hR7, hK7⟩ := store_new hD6 hR6 (by have := HLEN.out; omega) HOK.out HNIN.out (x := 2 + (k : Int)) ⟨by omega, by omega⟩
 have hA7 := hA6d.setMap hK7 hD7 hR7
 have cm6 : W6.drew.cell? ⟨b, 2, none⟩ = some (.map (some bm)) := hA6.cmap
 have d06d : W6.drew.cell? ⟨w.heap.size, 0, none⟩ = some (.int .i64 x) := d06
 have d16d : W6.drew.cell? ⟨w.heap.size, 1, none⟩ = some (.int .i64 lo) := d16
 have d26d : W6.drew.cell? ⟨w.heap.size, 2, none⟩ = some (.int .i64 hi) := d26
 have hlt6 := World.block_lt_of_cell? W6.drew ⟨w.heap.size, 0, none⟩ d06d
 have hxm : w.heap.size ≠ bm := fun e => hbox (.inr (.inl e))
 have d07 := (hK7.cell (a := ⟨w.heap.size, 0, none⟩) hlt6 hxm).trans d06d
 have d17 := (hK7.cell (a := ⟨w.heap.size, 1, none⟩) hlt6 hxm).trans d16d
 have d27 := (hK7.cell (a := ⟨w.heap.size, 2, none⟩) hlt6 hxm).trans d26d
 have cm7 := hA7.cmap
 have HA7 := Lib.hid hA7
 have HK7 := Lib.hid hK7
 clear hA6 hA6d hD6 hR6 hD7 hR7 hA7 hK7 d06 d16 d26
 go_region_held3 (fun w' => w'.cell? ⟨b, 2, none⟩ = some (.map (some bm)) /\ w'.cell? ⟨w.heap.size, 0, none⟩ = some (.int .i64 x) /\ w'.cell? ⟨w.heap.size, 1, none⟩ = some (.int .i64 lo) /\ w'.cell? ⟨w.heap.size, 2, none⟩ = some (.int .i64 hi)) (first | exact ⟨cm6, d06d, d16d, d26d⟩ | exact ⟨cm7, d07, d17, d27⟩) (first | fail)
 go_wp2
 go_ret2
 have hsz := HB4.out.size
 refine ⟨k, _, rfl, hk, HOC.out, fun h => by have := HFR.out h; omega, by rw [<- HN1.out]; exact HA7.out, ?_, ?_⟩
 ·refine ((((Kept.of_below HB4.out _).trans HK5.out).andThen HK6.out (fun j hj hlt => ?_)).drew).andThen HK7.out (fun j hj _ => .inr (.inl hj))
  subst hj
  rcases HV5.out with h | ⟨g2, h, hg2⟩
  ·exact .inr (.inr (by rw [<- h]; rfl))
  ·have h' : j = g2 := Option.some.inj h
   omega
 ·rcases HV5.out with h | ⟨g2, h, hg2⟩
  ·exact .inl h
  ·exact .inr ⟨g2, h, by omega⟩
end
end Go.Proofs.YtcjjekhecjmaeaaGreatDoor
