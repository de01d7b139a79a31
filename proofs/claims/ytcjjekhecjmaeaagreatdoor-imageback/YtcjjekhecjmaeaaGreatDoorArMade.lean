/- Make: what is there already, no room, and a new node. -/
import Derived.Test.YtcjjekhecjmaeaaGreatDoorArMake
set_option maxHeartbeats 2000000
set_option maxRecDepth 100000
namespace Go.Proofs.YtcjjekhecjmaeaaGreatDoor
open Go.RowKit Go.Maps
section
variable {B b bm : Nat} {w : World} {v : Value} {ns : List Nd} {L : List (Nd × Int)} {room next : Int}
theorem make_found (hA : ArenaAt B w b bm v ns L room next) (hl : ns.length <= 1000000) (n : Nd) (hn : n.Ok) (hf : Fit ns n) (h : Int) (hin : (n, h) ∈ L) :
  Calls Tryz.prog 90 #[.pointer (some ⟨b, 0, none⟩), n.val] w fun e w' => e = .returned (.tuple #[.int .i64 h, .nilIface]) /\ Below w.heap.size w w' := by
 obtain ⟨x, lo, hi⟩ := n
 obtain ⟨h0, h1, h2, h3, h4, h5⟩ := hf
 simp only at h0 h1 h2 h3 h4 h5
 have hbn := below_new w (.cells #[.int .i64 x, .int .i64 lo, .int .i64 hi] 102)
 have HL := Lib.hid (has_box hA (.cells #[.int .i64 x, .int .i64 lo, .int .i64 hi] 102) lo hn.2.1 hl)
 have HH := Lib.hid (has_box hA (.cells #[.int .i64 x, .int .i64 lo, .int .i64 hi] 102) hi hn.2.2 hl)
 have TL := Lib.hid (top_box hA (.cells #[.int .i64 x, .int .i64 lo, .int .i64 hi] 102) lo hn.2.1 hl)
 have TH := Lib.hid (top_box hA (.cells #[.int .i64 x, .int .i64 lo, .int .i64 hi] 102) hi hn.2.2 hl)
 have hA1 := hA.kept (Kept.alloc (fun _ => False) w (.cells #[.int .i64 x, .int .i64 lo, .int .i64 hi] 102)) (fun _ _ h => h)
 obtain ⟨D, hD, hR⟩ := hA1.hmap
 have HLK : Hid (∀ W : World, Kept (fun _ => False) (w.alloc (.cells #[.int .i64 x, .int .i64 lo, .int .i64 hi] 102)) W -> (Instr.lookup 124 (.map (some bm)) (.agg #[.int .i64 x, .int .i64 lo, .int .i64 hi]) true).run Tryz.prog W = .ok (.tuple #[.int .i64 h, .bool true]) W) := fun W hW => look_found (p := (⟨x, lo, hi⟩, h)) (ownsMap_kept hD hW (fun h => h)) hR hin
 have cm := hA1.cmap
 obtain ⟨c0, c1, c2, -⟩ := cell3 w (.int .i64 x) (.int .i64 lo) (.int .i64 hi) 102
 rw [h2] at HL
 rw [h3] at HH
 clear hA hn hl h2 h3 hA1 hD hR hin
 unfold Nd.val
 generalize topOf ns lo = tl at *
 generalize topOf ns hi = th at *
 have d1 : decide (tl <= x) = false := decide_eq_false (by omega)
 have d2 : decide (th <= x) = false := decide_eq_false (by omega)
 go_enter Tryz.func90, Tryz.ntmps90
 go_wp2_with fail
 refine HL.out.mono ?_
 rintro e w1 ⟨rfl, rfl⟩
 go_wp2_with fail
 refine HH.out.mono ?_
 rintro e w1 ⟨rfl, rfl⟩
 clear HL HH
 go_wp2_with fail
 go_quiet (first | (go_at_call 37; with_reducible exact TL.out _) | (go_at_call 37; with_reducible exact TH.out _))
 clear TL TH
 go_wp2_with fail
 have hk := kept_drewN (fun _ => False) (w.alloc (.cells #[.int .i64 x, .int .i64 lo, .int .i64 hi] 102)) nq
 have hbE := hbn.trans (below_drewN w.heap.size _ nq)
 have cmE : ((w.alloc (.cells #[.int .i64 x, .int .i64 lo, .int .i64 hi] 102)).drewN nq).cell? ⟨b, 2, none⟩ = some (.map (some bm)) := cm
 have c0E : ((w.alloc (.cells #[.int .i64 x, .int .i64 lo, .int .i64 hi] 102)).drewN nq).cell? ⟨w.heap.size, 0, none⟩ = some (.int .i64 x) := c0
 have c1E : ((w.alloc (.cells #[.int .i64 x, .int .i64 lo, .int .i64 hi] 102)).drewN nq).cell? ⟨w.heap.size, 1, none⟩ = some (.int .i64 lo) := c1
 have c2E : ((w.alloc (.cells #[.int .i64 x, .int .i64 lo, .int .i64 hi] 102)).drewN nq).cell? ⟨w.heap.size, 2, none⟩ = some (.int .i64 hi) := c2
 have hrun := HLK.out _ hk.drew
 clear hk HLK hbn cm c0 c1 c2 d1 d2 h4 h5
 generalize (w.alloc (.cells #[.int .i64 x, .int .i64 lo, .int .i64 hi] 102)).drewN nq = W at *
 go_region_held3 (fun w' => w'.cell? ⟨b, 2, none⟩ = some (.map (some bm)) /\ w'.cell? ⟨w.heap.size, 0, none⟩ = some (.int .i64 x) /\ w'.cell? ⟨w.heap.size, 1, none⟩ = some (.int .i64 lo) /\ w'.cell? ⟨w.heap.size, 2, none⟩ = some (.int .i64 hi)) (exact ⟨cmE, c0E, c1E, c2E⟩) (first | fail)
 go_wp2
 go_ret2
 exact ⟨rfl, hbE.drew⟩
theorem make_full (hA : ArenaAt B w b bm v ns L room next) (hl : ns.length <= 1000000) (n : Nd) (hn : n.Ok) (hf : Fit ns n) (hnin : n ∉ L.map Prod.fst) (hfull : room <= (L.length : Int)) :
  Calls Tryz.prog 90 #[.pointer (some ⟨b, 0, none⟩), n.val] w fun e w' => e = .returned (.tuple #[.int .i64 0, .iface 54 (.int .i64 12)]) /\ Below w.heap.size w w' := by
 obtain ⟨x, lo, hi⟩ := n
 obtain ⟨h0, h1, h2, h3, h4, h5⟩ := hf
 simp only at h0 h1 h2 h3 h4 h5
 have hbn := below_new w (.cells #[.int .i64 x, .int .i64 lo, .int .i64 hi] 102)
 have HL := Lib.hid (has_box hA (.cells #[.int .i64 x, .int .i64 lo, .int .i64 hi] 102) lo hn.2.1 hl)
 have HH := Lib.hid (has_box hA (.cells #[.int .i64 x, .int .i64 lo, .int .i64 hi] 102) hi hn.2.2 hl)
 have TL := Lib.hid (top_box hA (.cells #[.int .i64 x, .int .i64 lo, .int .i64 hi] 102) lo hn.2.1 hl)
 have TH := Lib.hid (top_box hA (.cells #[.int .i64 x, .int .i64 lo, .int .i64 hi] 102) hi hn.2.2 hl)
 have hA1 := hA.kept (Kept.alloc (fun _ => False) w (.cells #[.int .i64 x, .int .i64 lo, .int .i64 hi] 102)) (fun _ _ h => h)
 obtain ⟨D, hD, hR⟩ := hA1.hmap
 have HLK : Hid (∀ W : World, Kept (fun _ => False) (w.alloc (.cells #[.int .i64 x, .int .i64 lo, .int .i64 hi] 102)) W -> (Instr.lookup 124 (.map (some bm)) (.agg #[.int .i64 x, .int .i64 lo, .int .i64 hi]) true).run Tryz.prog W = .ok (.tuple #[.int .i64 0, .bool false]) W) := fun W hW => look_none (a := ⟨x, lo, hi⟩) (ownsMap_kept hD hW (fun h => h)) hR hn hnin
 have cm := hA1.cmap
 obtain ⟨c0, c1, c2, -⟩ := cell3 w (.int .i64 x) (.int .i64 lo) (.int .i64 hi) 102
 rw [h2] at HL
 rw [h3] at HH
 clear h2 h3 hD hR
 unfold Nd.val
 generalize topOf ns lo = tl at *
 generalize topOf ns hi = th at *
 have d1 : decide (tl <= x) = false := decide_eq_false (by omega)
 have d2 : decide (th <= x) = false := decide_eq_false (by omega)
 go_enter Tryz.func90, Tryz.ntmps90
 go_wp2_with fail
 refine HL.out.mono ?_
 rintro e w1 ⟨rfl, rfl⟩
 go_wp2_with fail
 refine HH.out.mono ?_
 rintro e w1 ⟨rfl, rfl⟩
 clear HL HH
 go_wp2_with fail
 go_quiet (first | (go_at_call 37; with_reducible exact TL.out _) | (go_at_call 37; with_reducible exact TH.out _))
 clear TL TH
 go_wp2_with fail
 have hk := kept_drewN (fun _ => False) (w.alloc (.cells #[.int .i64 x, .int .i64 lo, .int .i64 hi] 102)) nq
 have hbE := hbn.trans (below_drewN w.heap.size _ nq)
 have cmE : ((w.alloc (.cells #[.int .i64 x, .int .i64 lo, .int .i64 hi] 102)).drewN nq).cell? ⟨b, 2, none⟩ = some (.map (some bm)) := cm
 have c0E : ((w.alloc (.cells #[.int .i64 x, .int .i64 lo, .int .i64 hi] 102)).drewN nq).cell? ⟨w.heap.size, 0, none⟩ = some (.int .i64 x) := c0
 have c1E : ((w.alloc (.cells #[.int .i64 x, .int .i64 lo, .int .i64 hi] 102)).drewN nq).cell? ⟨w.heap.size, 1, none⟩ = some (.int .i64 lo) := c1
 have c2E : ((w.alloc (.cells #[.int .i64 x, .int .i64 lo, .int .i64 hi] 102)).drewN nq).cell? ⟨w.heap.size, 2, none⟩ = some (.int .i64 hi) := c2
 have hrun := HLK.out _ hk.drew
 have hAE := hA1.kept hk (fun _ _ h => h)
 have HNIN := Lib.hid hnin
 have HOK := Lib.hid hn
 have HB0 := Lib.hid hA
 clear hk HLK hbn cm c0 c1 c2 d1 d2 h4 h5 hA hA1 hnin hn
 generalize (w.alloc (.cells #[.int .i64 x, .int .i64 lo, .int .i64 hi] 102)).drewN nq = W at *
 go_region_held3 (fun w' => w'.cell? ⟨b, 2, none⟩ = some (.map (some bm)) /\ w'.cell? ⟨w.heap.size, 0, none⟩ = some (.int .i64 x) /\ w'.cell? ⟨w.heap.size, 1, none⟩ = some (.int .i64 lo) /\ w'.cell? ⟨w.heap.size, 2, none⟩ = some (.int .i64 hi)) (exact ⟨cmE, c0E, c1E, c2E⟩) (first | fail)
 clear hrun
 have hAF := hAE.kept (kept_drewN (fun _ => False) W 1) (fun _ _ h => h)
 have hcr : W.drew.cell? ⟨b, 0, none⟩ = some (.int .i64 room) := hAE.croom
 have HLN : Hid (∀ m, Calls Tryz.prog 24 #[.pointer (some ⟨b, 0, none⟩)] (W.drew.drewN m) fun e w' => e = .returned (.int .i64 (L.length : Int)) /\ ∃ m', w' = W.drew.drewN m') := fun m => (len_any (hAF.kept (kept_drewN (fun _ => False) _ m) (fun _ _ h => h))).mono fun _ _ ⟨h1, h2⟩ => ⟨h1, m, h2.symm⟩
 have hbF := hbE.drew
 clear hAE hAF cmE c0E c1E c2E hbE
 generalize W.drew = W3 at *
 generalize L.length = len at *
 go_wp2_with fail
 go_quiet (first | (go_at_call 24; with_reducible exact HLN.out _))
 go_wp2
 go_ret2
 exact ⟨rfl, hbF.trans (below_drewN _ _ _)⟩
end
end Go.Proofs.YtcjjekhecjmaeaaGreatDoor
