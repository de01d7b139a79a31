/- Tables: how they begin. -/
import Derived.Test.YtcjjekhecjmaeaaGreatDoorBdTab
import Derived.Test.YtcjjekhecjmaeaaGreatDoorBdFunW
import Derived.Test.YtcjjekhecjmaeaaGreatDoorImLayP
set_option maxHeartbeats 1000000
set_option maxRecDepth 100000
namespace Go.Proofs.YtcjjekhecjmaeaaGreatDoor
section
open Go.RowKit Go.Maps
structure BoolsAt (w : World) (g : Nat) (l : List Bool) : Prop where
 lt : g < w.heap.size
 cells : ∀ i (h : i < l.length), w.cell? ⟨g, i, none⟩ = some (.bool l[i])
theorem BoolsAt.kept {S : Nat -> Prop} {w w' : World} {g : Nat} {l : List Bool} (h : BoolsAt w g l) (hk : Kept S w w') (hn : ¬ S g) : BoolsAt w' g l :=
 ⟨Nat.lt_of_lt_of_le h.lt hk.size, fun i hi => (hk.cell (a := ⟨g, i, none⟩) h.lt hn).trans (h.cells i hi)⟩
theorem BoolsAt.new {w w' : World} {g : Nat} {l : List Bool} (h : BoolsAt w g l) (hb : Below w.heap.size w w') : BoolsAt w' g l := h.kept (Kept.of_below hb (fun _ => False)) (fun h => h)
theorem rat_any (x : Int) (n : Nat) (h0 : 0 < n) (h1 : n <= 1000000) (w : World) :
  Calls Tryz.prog 72 #[.int .i64 x, .int .i64 (n : Int)] w fun e w' => e = .returned (.int .i64 (pickV x n : Int)) /\ w = w' := by
 have hp := pickV_lt x h0
 have e1 : IntKind.u64.wrap x = x % 18446744073709551616 := by rw [IntKind.wrap_u64]
 have e2 : IntKind.u64.wrap (n : Int) = (n : Int) := IntWalk.u64_in _ ⟨by omega, by omega⟩
 have e3 : Int.tmod (x % 18446744073709551616) (n : Int) = (pickV x n : Int) := by
  unfold pickV
  obtain ⟨m, hm⟩ : ∃ m : Nat, x % 18446744073709551616 = (m : Int) := ⟨(x % 18446744073709551616).toNat, by omega⟩
  rw [hm]; simp
  rfl
 have e4 : IntKind.i64.wrap (pickV x n : Int) = (pickV x n : Int) := IntWalk.i64_in _ ⟨by omega, by omega⟩
 have e5 : ((n : Int) == 0) = false := by rw [beq_eq_false_iff_ne]; omega
 generalize pickV x n = p at *
 go_enter Tryz.func72, Tryz.ntmps72
 go_wp2
 go_ret
 exact ⟨rfl, rfl⟩
end
section
open Go.RowKit Go.Maps
def partT (L : List Bool) (n i : Nat) : List Bool := L.take i ++ List.replicate (n - i) false
theorem partT_len {L : List Bool} {n i : Nat} (hL : L.length = n) (hi : i <= n) : (partT L n i).length = n := by simp [partT, hL]; omega
theorem partT_zero (L : List Bool) (n : Nat) : partT L n 0 = List.replicate n false := by simp [partT]
theorem partT_full {L : List Bool} {n : Nat} (hL : L.length = n) : partT L n n = L := by simp [partT, <- hL]
theorem partT_set {L : List Bool} {n i : Nat} (hL : L.length = n) (hi : i < n) (b : Bool) (hb : L[i]'(by omega) = b) : (partT L n i).set i b = partT L n (i + 1) := by
 subst hb
 have h1 : i < L.length := by omega
 unfold partT
 rw [List.take_succ_eq_append_getElem h1]
 rw [List.set_append_right _ _ (by simp; omega)]
 have e : i - (L.take i).length = 0 := by simp; omega
 rw [e]
 obtain ⟨m, hm⟩ : ∃ m, n - i = m + 1 := ⟨n - i - 1, by omega⟩
 rw [hm, show n - (i + 1) = m by omega, List.replicate_succ, List.set_cons_zero, List.append_assoc]
 rfl
def tcells (n : Nat) (gs : List Nat) : List Value := gs.map fun g => .slice (some ⟨g, 0, none⟩) n n
theorem tcells_at (n : Nat) (gs : List Nat) (i : Nat) (h : i < gs.length) : (tcells n gs)[i]? = some (.slice (some ⟨gs[i], 0, none⟩) n n) := by simp [tcells, h]
structure TabsAt (B : Nat) (w : World) (v : Value) (n : Nat) (gs : List Nat) (ts : List (List Bool)) : Prop where
 row : w.ownsRow B 43 1 v gs.length (tcells n gs)
 len : gs.length = ts.length
 lens : ∀ t ∈ ts, t.length = n
 old : ∀ g ∈ gs, B <= g
 apart : ∀ g ∈ gs, v.ownBlock ≠ some g
 tabs : ∀ j (h1 : j < gs.length) (h2 : j < ts.length), BoolsAt w gs[j] ts[j]
section
variable {B n : Nat} {w w' : World} {v : Value} {gs : List Nat} {ts : List (List Bool)}
theorem TabsAt.kept {S : Nat -> Prop} (h : TabsAt B w v n gs ts) (hk : Kept S w w') (h1 : ∀ k, v.ownBlock = some k -> ¬ S k) (h2 : ∀ g ∈ gs, ¬ S g) : TabsAt B w' v n gs ts :=
 ⟨ownsRow_kept h.row hk h1, h.len, h.lens, h.old, h.apart, fun j a b => (h.tabs j a b).kept hk (h2 _ (List.getElem_mem a))⟩
theorem TabsAt.new (h : TabsAt B w v n gs ts) (hb : Below w.heap.size w w') : TabsAt B w' v n gs ts := h.kept (Kept.of_below hb (fun _ => False)) (fun _ _ h => h) (fun _ _ h => h)
theorem bools_row {g cap : Nat} {l : List Bool} (h : w.ownsRow B 4 1 (.slice (some ⟨g, 0, none⟩) n cap) n (mcells l)) (hl : l.length = n) : BoolsAt w g l :=
 ⟨(h.lt g rfl).2, fun i hi => by
  have := h.cellAt i (by omega)
  rw [mcells_at l i hi] at this
  rw [this]
  congr 2
  exact mk_at l i hi⟩
theorem TabsAt.form (h : TabsAt B w v n gs ts) (hne : 0 < gs.length) : ∃ g c, v = .slice (some ⟨g, 0, none⟩) gs.length c /\ g < w.heap.size /\ (∀ i (hi : i < gs.length), w.cell? ⟨g, i, none⟩ = some (.slice (some ⟨gs[i], 0, none⟩) n n)) /\ ∀ x ∈ gs, g ≠ x := by
 have hr := h.row
 rcases hr.2 with ⟨-, e⟩ | ⟨g, cap, cur, e, h2, h3, h4⟩
 ·omega
 ·subst e
  refine ⟨g, cap, rfl, (hr.lt g rfl).2, fun i hi => ?_, fun x hx e => h.apart x hx (by rw [e]; rfl)⟩
  have := hr.cellAt i (by omega)
  rwa [tcells_at n gs i hi] at this
theorem TabsAt.cell (h : TabsAt B w v n gs ts) {vars : Nat} {T : List Fn'} (e : ts = T.map (tabOf vars)) {p : Nat} (hp : p < gs.length) (hp2 : p < T.length) (i : Nat) (hi : i < n) : w.cell? ⟨gs[p], i, none⟩ = some (.bool (T[p] (bitsF i))) := by
 subst e
 have hp3 : p < (T.map (tabOf vars)).length := by simpa using hp2
 have h1 := (h.tabs p hp hp3).cells i (by rw [h.lens _ (List.getElem_mem hp3)]; exact hi)
 rw [h1]
 simp [tabOf_at]
theorem TabsAt.lt (h : TabsAt B w v n gs ts) : ∀ g ∈ gs, g < w.heap.size := fun g hg => by
 obtain ⟨j, hj, rfl⟩ := List.getElem_of_mem hg
 exact (h.tabs j hj (by rw [<- h.len]; exact hj)).lt
end
theorem funT_len (vars : Nat) : ∀ (qs : List Quad) (T : List Fn'), (funT vars T qs).length = T.length + qs.length
 | [], T => rfl
 | q :: qs, T => by
  show (funT vars (roundT vars T q) qs).length = _
  rw [funT_len vars qs]
  simp [roundT]; omega
section
variable {vars : Nat} {T : List Fn'} {q : Quad} {i : Nat}
theorem step0 (h : pickV q.a 9 = 0) : stepT vars T q (bitsF i) = (bitsF i (pickV q.b vars) == oddB q.c) := by unfold stepT; rw [h]; rfl
theorem step1 (h : pickV q.a 9 = 1) : stepT vars T q (bitsF i) = !(tAt T q.b (bitsF i)) := by unfold stepT; rw [h]; rfl
theorem step2 (h : pickV q.a 9 = 2) : stepT vars T q (bitsF i) = (tAt T q.b (bitsF i) && tAt T q.c (bitsF i)) := by unfold stepT; rw [h]; rfl
theorem step3 (h : pickV q.a 9 = 3) : stepT vars T q (bitsF i) = (tAt T q.b (bitsF i) || tAt T q.c (bitsF i)) := by unfold stepT; rw [h]; rfl
theorem step4 (h : pickV q.a 9 = 4) : stepT vars T q (bitsF i) = (tAt T q.b (bitsF i) != tAt T q.c (bitsF i)) := by unfold stepT; rw [h]; rfl
theorem step5 (h : pickV q.a 9 = 5) : stepT vars T q (bitsF i) = if tAt T q.b (bitsF i) = true then tAt T q.c (bitsF i) else tAt T q.d (bitsF i) := by unfold stepT; rw [h]; rfl
theorem step6 (h : pickV q.a 9 = 6) (hi : i < 2 ^ vars) (hv : pickV q.c vars < vars) (h6 : vars <= 6) : stepT vars T q (bitsF i) = tAt T q.b (bitsF (if oddB q.d then i ||| 1 <<< pickV q.c vars else offN i (pickV q.c vars))) := by
 unfold stepT; rw [h]
 show tAt T q.b (turn (bitsF i) _ _) = _
 cases oddB q.d
 ·rw [<- bits_off hi hv h6]; rfl
 ·rw [<- bits_or]; rfl
theorem step7 (h : pickV q.a 9 = 7) (hi : i < 2 ^ vars) (hv : pickV q.c vars < vars) (h6 : vars <= 6) : stepT vars T q (bitsF i) = (tAt T q.b (bitsF (offN i (pickV q.c vars))) || tAt T q.b (bitsF (i ||| 1 <<< pickV q.c vars))) := by
 unfold stepT; rw [h, bits_off hi hv h6, bits_or]; rfl
theorem step8 (h : pickV q.a 9 = 8) (hi : i < 2 ^ vars) (hv : pickV q.c vars < vars) (h6 : vars <= 6) : stepT vars T q (bitsF i) = (tAt T q.b (bitsF (offN i (pickV q.c vars))) && tAt T q.b (bitsF (i ||| 1 <<< pickV q.c vars))) := by
 unfold stepT; rw [h, bits_off hi hv h6, bits_or]; rfl
end
end
section
open Go.RowKit Go.Maps
theorem infoTable : (Tryz.prog.info? 43).map (fun i => (i.zero, i.size, i.bytes)) = some (some (.slice none 0 0), 1, 24) := by kernel_rfl
theorem make_tab (n : Nat) (hn : n <= 64) (W : World) : (Instr.makeSlice 43 (.int .i64 (n : Int)) (.int .i64 (n : Int))).run Tryz.prog W = .ok (.slice (some ⟨W.heap.size, 0, none⟩) n n) (W.alloc (.cells (madeCells #[.bool false] n) 4)) := by
 obtain ⟨i0, hi, hz0, hz1, hz2⟩ := info_parts infoBool
 have h := run_make (P := Tryz.prog) W 43 4 i0 (.bool false) Tryz.underlying43 hi hz0 .i64 .i64 n n (by omega) (Int.le_refl _) (by rw [hz2]; omega) (by omega)
 rw [h, hz1, Nat.mul_one, Int.toNat_natCast]
 rfl
theorem mcells_setB (m : List Bool) (i : Nat) (b : Bool) : (mcells m).set i (.bool b) = mcells (m.set i b) := by simp [mcells, List.map_set]
theorem made_row (w : World) {B : Nat} (hB : B <= w.heap.size) (n : Nat) (hn : n <= 64) : (w.alloc (.cells (madeCells #[.bool false] n) 4)).ownsRow B 4 1 (.slice (some ⟨w.heap.size, 0, none⟩) n n) n (mcells (List.replicate n false)) := by
 have h := built_row w hB (madeCells #[.bool false] n) 4 (by rw [size_madeCells]; unfold maxLen; omega)
 rw [size_madeCells, mcells_made] at h
 exact h
structure Start (B : Nat) (w : World) (n g0 g1 go : Nat) (l : List Bool) : Prop where
 t0 : BoolsAt w g0 (List.replicate n false)
 t1 : w.ownsRow B 4 1 (.slice (some ⟨g1, 0, none⟩) n n) n (mcells l)
 row : w.ownsRow B 43 1 (.slice (some ⟨go, 0, none⟩) 2 2) 2 (tcells n [g0, g1])
 b0 : B <= g0
 n01 : g0 ≠ g1
 n0 : go ≠ g0
 n1 : go ≠ g1
theorem start_new (w : World) {B : Nat} (hB : B <= w.heap.size) (n : Nat) (hn : n <= 64) (g0 g1 : Nat) (hg : g0 = w.heap.size /\ g1 = w.heap.size + 1 \/ g0 = w.heap.size + 1 /\ g1 = w.heap.size) :
  Start B (((w.alloc (.cells (madeCells #[.bool false] n) 4)).alloc (.cells (madeCells #[.bool false] n) 4)).alloc (.cells #[.slice (some ⟨g0, 0, none⟩) n n, .slice (some ⟨g1, 0, none⟩) n n] 43)) n g0 g1 (w.heap.size + 1 + 1) (List.replicate n false) := by
 have s1 : (w.alloc (.cells (madeCells #[.bool false] n) 4)).heap.size = w.heap.size + 1 := by simp
 have s2 : ((w.alloc (.cells (madeCells #[.bool false] n) 4)).alloc (.cells (madeCells #[.bool false] n) 4)).heap.size = w.heap.size + 1 + 1 := by rw [World.size_alloc, s1]
 have r1 := made_row w hB n hn
 have r2 := made_row (w.alloc (.cells (madeCells #[.bool false] n) 4)) (B := B) (by omega) n hn
 have r3 := ownsRow_new r1 (below_new _ (.cells (madeCells #[.bool false] n) 4))
 have r4 := ownsRow_new r3 (below_new _ (.cells #[.slice (some ⟨g0, 0, none⟩) n n, .slice (some ⟨g1, 0, none⟩) n n] 43))
 have r5 := ownsRow_new r2 (below_new _ (.cells #[.slice (some ⟨g0, 0, none⟩) n n, .slice (some ⟨g1, 0, none⟩) n n] 43))
 have r6 := built_row ((w.alloc (.cells (madeCells #[.bool false] n) 4)).alloc (.cells (madeCells #[.bool false] n) 4)) (B := B) (by omega) #[.slice (some ⟨g0, 0, none⟩) n n, .slice (some ⟨g1, 0, none⟩) n n] 43 (by simp [maxLen])
 rw [s1] at r5
 rw [s2] at r6
 rcases hg with ⟨rfl, rfl⟩ | ⟨rfl, rfl⟩
 ·exact ⟨bools_row r4 (by simp), r5, r6, by omega, by omega, by omega, by omega⟩
 ·exact ⟨bools_row r5 (by simp), r4, r6, by omega, by omega, by omega, by omega⟩
theorem tab_false (vars : Nat) : tabOf vars (fun _ => false) = List.replicate (2 ^ vars) false := by
 apply List.ext_getElem
 ·rw [tabOf_len]; simp
 ·intro i h1 h2; rw [tabOf_at]; simp
theorem tab_true (vars : Nat) : tabOf vars (fun _ => true) = List.replicate (2 ^ vars) true := by
 apply List.ext_getElem
 ·rw [tabOf_len]; simp
 ·intro i h1 h2; rw [tabOf_at]; simp
theorem Start.tabs {B : Nat} {w : World} {vars n g0 g1 go : Nat} (hn : 2 ^ vars = n) (h : Start B w n g0 g1 go (List.replicate n true)) : TabsAt B w (.slice (some ⟨go, 0, none⟩) 2 2) n [g0, g1] (([fun _ => false, fun _ => true] : List Fn').map (tabOf vars)) := by
 subst hn
 refine ⟨h.row, rfl, fun t ht => ?_, fun g hg => ?_, fun g hg => ?_, fun j h1 h2 => ?_⟩
 ·obtain ⟨g, -, rfl⟩ := List.mem_map.1 ht
  exact tabOf_len _ _
 ·simp at hg
  rcases hg with rfl | rfl
  ·exact h.b0
  ·exact (h.t1.lt _ rfl).1
 ·simp at hg
  rcases hg with rfl | rfl
  ·intro e; exact h.n0 (by simpa [Value.ownBlock] using e)
  ·intro e; exact h.n1 (by simpa [Value.ownBlock] using e)
 ·have h3 : j < 2 := h1
  obtain rfl | rfl : j = 0 \/ j = 1 := by omega
  ·have h4 := h.t0
   rw [<- tab_false] at h4
   exact h4
  ·have h4 := bools_row h.t1 (by simp)
   rw [<- tab_true] at h4
   exact h4
end
end Go.Proofs.YtcjjekhecjmaeaaGreatDoor
