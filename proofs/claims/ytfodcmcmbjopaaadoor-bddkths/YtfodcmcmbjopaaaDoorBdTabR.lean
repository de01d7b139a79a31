/- A round of Tables: what is known ahead of it. -/
import Derived.Test.YtfodcmcmbjopaaaDoorBdLex
import Derived.Test.YtfodcmcmbjopaaaDoorBdFunW
namespace Go.Proofs.YtfodcmcmbjopaaaDoor
open Go.RowKit Go.Maps

/-- A list of bools that lies in memory. -/
structure BoolsAt (w : World) (g : Nat) (l : List Bool) : Prop where
  lt : g < w.heap.size
  cells : ∀ i (h : i < l.length), w.cell? ⟨g, i, none⟩ = some (.bool l[i])
theorem BoolsAt.kept {S : Nat → Prop} {w w' : World} {g : Nat} {l : List Bool} (h : BoolsAt w g l) (hk : Kept S w w') (hn : ¬ S g) : BoolsAt w' g l :=
  ⟨Nat.lt_of_lt_of_le h.lt hk.size, fun i hi => (hk.cell (a := ⟨g, i, none⟩) h.lt hn).trans (h.cells i hi)⟩
theorem BoolsAt.new {w w' : World} {g : Nat} {l : List Bool} (h : BoolsAt w g l) (hb : Below w.heap.size w w') : BoolsAt w' g l := h.kept (Kept.of_below hb (fun _ => False)) (fun h => h)

set_option maxRecDepth 100000 in
set_option maxHeartbeats 1000000 in
theorem rat_any (x : Int) (n : Nat) (h0 : 0 < n) (h1 : n ≤ 1000000) (w : World) :
    Calls Tryd.prog 35 #[.int .i64 x, .int .i64 (n : Int)] w fun e w' => e = .returned (.int .i64 (pickV x n : Int)) ∧ w = w' := by
  have hp := pickV_lt x h0
  have e1 : IntKind.u64.wrap x = x % 18446744073709551616 := by rw [IntKind.wrap_u64]
  have e2 : IntKind.u64.wrap (n : Int) = (n : Int) := IntWalk.u64_in _ ⟨by omega, by omega⟩
  have e3 : Int.tmod (x % 18446744073709551616) (n : Int) = (pickV x n : Int) := by
    unfold pickV
    obtain ⟨m, hm⟩ : ∃ m : Nat, x % 18446744073709551616 = (m : Int) := ⟨(x % 18446744073709551616).toNat, by omega⟩
    rw [hm]; simp
    rfl
  have e4 : IntKind.i64.wrap (pickV x n : Int) = (pickV x n : Int) := IntWalk.i64_in _ ⟨by omega, by omega⟩
  have e5 : ((n : Int) == 0) = false := by rw [beq_eq_false_iff_ne]; omega
  generalize pickV x n = p at *
  go_enter Tryd.func35, Tryd.ntmps35
  go_wp2
  go_ret
  exact ⟨rfl, rfl⟩
end Go.Proofs.YtfodcmcmbjopaaaDoor

namespace Go.Proofs.YtfodcmcmbjopaaaDoor
open Go.RowKit Go.Maps

theorem or_fin : ∀ i : Fin 64, ∀ v : Fin 6, bits .or .i64 (i.val : Int) ((2 : Int) ^ v.val) = ((i.val ||| 1 <<< v.val : Nat) : Int) := by decide +kernel
theorem or_lt_fin : ∀ n : Fin 7, ∀ i : Fin 64, ∀ v : Fin 6, v.val < n.val → i.val < 2 ^ n.val → i.val ||| 1 <<< v.val < 2 ^ n.val := by decide +kernel
theorem off_fin : ∀ i : Fin 64, ∀ v : Fin 6, 0 ≤ bits .andNot .i64 (i.val : Int) ((2 : Int) ^ v.val) ∧ (bits .andNot .i64 (i.val : Int) ((2 : Int) ^ v.val)).toNat ≤ i.val ∧ ∀ k : Fin 6, (bits .andNot .i64 (i.val : Int) ((2 : Int) ^ v.val)).toNat.testBit k.val = if k.val = v.val then false else i.val.testBit k.val := by decide +kernel
theorem bit_fin : ∀ i : Fin 64, ∀ v : Fin 6, (bits .and .i64 ((i.val : Int) / 2 ^ v.val) 1 == 1) = i.val.testBit v.val := by decide +kernel

theorem pow_le6 {vars : Nat} (h6 : vars ≤ 6) : 2 ^ vars ≤ 64 := Nat.pow_le_pow_right (n := 2) (by omega) h6
theorem big_bit {x k : Nat} (hx : x < 64) (hk : 6 ≤ k) : x.testBit k = false := Nat.testBit_lt_two_pow (Nat.lt_of_lt_of_le hx (Nat.pow_le_pow_right (n := 2) (by omega) hk))

/-- One bit is set. -/
theorem on_num {i v vars : Nat} (hi : i < 2 ^ vars) (hv : v < vars) (h6 : vars ≤ 6) : bits .or .i64 (i : Int) ((2 : Int) ^ v) = ((i ||| 1 <<< v : Nat) : Int) ∧ i ||| 1 <<< v < 2 ^ vars := by
  have := pow_le6 h6
  exact ⟨or_fin ⟨i, by omega⟩ ⟨v, by omega⟩, or_lt_fin ⟨vars, by omega⟩ ⟨i, by omega⟩ ⟨v, by omega⟩ hv hi⟩

/-- One bit is cleared. -/
def offN (i v : Nat) : Nat := (bits .andNot .i64 (i : Int) ((2 : Int) ^ v)).toNat
theorem off_num {i v vars : Nat} (hi : i < 2 ^ vars) (hv : v < vars) (h6 : vars ≤ 6) : bits .andNot .i64 (i : Int) ((2 : Int) ^ v) = (offN i v : Int) ∧ offN i v < 2 ^ vars := by
  have := pow_le6 h6
  obtain ⟨h1, h2, -⟩ := off_fin ⟨i, by omega⟩ ⟨v, by omega⟩
  simp only at h1 h2
  unfold offN
  exact ⟨by omega, by omega⟩
theorem bits_off {i v vars : Nat} (hi : i < 2 ^ vars) (hv : v < vars) (h6 : vars ≤ 6) : bitsF (offN i v) = turn (bitsF i) v false := by
  have p6 := pow_le6 h6
  obtain ⟨h1, h2, h3⟩ := off_fin ⟨i, by omega⟩ ⟨v, by omega⟩
  simp only at h1 h2 h3
  funext k
  unfold bitsF turn offN
  by_cases hk : k < 6
  · have := h3 ⟨k, hk⟩
    simp only at this
    rw [this]
  · have q1 : (bits BinOp.andNot IntKind.i64 (i : Int) (2 ^ v)).toNat.testBit k = false := big_bit (by omega) (by omega)
    have q2 : i.testBit k = false := big_bit (by omega) (by omega)
    show _ = if k = v then false else i.testBit k
    rw [q1, q2]
    split <;> rfl
theorem bit_num {i v : Nat} (hi : i < 64) (hv : v < 6) : (bits .and .i64 ((i : Int) / 2 ^ v) 1 == 1) = bitsF i v := bit_fin ⟨i, hi⟩ ⟨v, hv⟩
end Go.Proofs.YtfodcmcmbjopaaaDoor

namespace Go.Proofs.YtfodcmcmbjopaaaDoor
open Go.RowKit Go.Maps

/-- What is done of a table. -/
def partT (L : List Bool) (n i : Nat) : List Bool := L.take i ++ List.replicate (n - i) false
theorem partT_len {L : List Bool} {n i : Nat} (hL : L.length = n) (hi : i ≤ n) : (partT L n i).length = n := by simp [partT, hL]; omega
theorem partT_zero (L : List Bool) (n : Nat) : partT L n 0 = List.replicate n false := by simp [partT]
theorem partT_full {L : List Bool} {n : Nat} (hL : L.length = n) : partT L n n = L := by simp [partT, ← hL]
theorem partT_set {L : List Bool} {n i : Nat} (hL : L.length = n) (hi : i < n) (b : Bool) (hb : L[i]'(by omega) = b) : (partT L n i).set i b = partT L n (i + 1) := by
  subst hb
  have h1 : i < L.length := by omega
  unfold partT
  rw [List.take_succ_eq_append_getElem h1]
  rw [List.set_append_right _ _ (by simp; omega)]
  have e : i - (L.take i).length = 0 := by simp; omega
  rw [e]
  obtain ⟨m, hm⟩ : ∃ m, n - i = m + 1 := ⟨n - i - 1, by omega⟩
  rw [hm, show n - (i + 1) = m by omega, List.replicate_succ, List.set_cons_zero, List.append_assoc]
  rfl

/-- The cells of a list of tables. -/
def tcells (n : Nat) (gs : List Nat) : List Value := gs.map fun g => .slice (some ⟨g, 0, none⟩) n n
theorem tcells_at (n : Nat) (gs : List Nat) (i : Nat) (h : i < gs.length) : (tcells n gs)[i]? = some (.slice (some ⟨gs[i], 0, none⟩) n n) := by simp [tcells, h]

structure TabsAt (B : Nat) (w : World) (v : Value) (n : Nat) (gs : List Nat) (ts : List (List Bool)) : Prop where
  row : w.ownsRow B 30 1 v gs.length (tcells n gs)
  len : gs.length = ts.length
  lens : ∀ t ∈ ts, t.length = n
  old : ∀ g ∈ gs, B ≤ g
  apart : ∀ g ∈ gs, v.ownBlock ≠ some g
  tabs : ∀ j (h1 : j < gs.length) (h2 : j < ts.length), BoolsAt w gs[j] ts[j]

section
variable {B n : Nat} {w w' : World} {v : Value} {gs : List Nat} {ts : List (List Bool)}

theorem TabsAt.kept {S : Nat → Prop} (h : TabsAt B w v n gs ts) (hk : Kept S w w') (h1 : ∀ k, v.ownBlock = some k → ¬ S k) (h2 : ∀ g ∈ gs, ¬ S g) : TabsAt B w' v n gs ts :=
  ⟨ownsRow_kept h.row hk h1, h.len, h.lens, h.old, h.apart, fun j a b => (h.tabs j a b).kept hk (h2 _ (List.getElem_mem a))⟩
theorem TabsAt.new (h : TabsAt B w v n gs ts) (hb : Below w.heap.size w w') : TabsAt B w' v n gs ts := h.kept (Kept.of_below hb (fun _ => False)) (fun _ _ h => h) (fun _ _ h => h)

theorem bools_row {g cap : Nat} {l : List Bool} (h : w.ownsRow B 4 1 (.slice (some ⟨g, 0, none⟩) n cap) n (mcells l)) (hl : l.length = n) : BoolsAt w g l :=
  ⟨(h.lt g rfl).2, fun i hi => by
    have := h.cellAt i (by omega)
    rw [mcells_at l i hi] at this
    rw [this]
    congr 2
    exact mk_at l i hi⟩
theorem TabsAt.form (h : TabsAt B w v n gs ts) (hne : 0 < gs.length) : ∃ g c, v = .slice (some ⟨g, 0, none⟩) gs.length c ∧ g < w.heap.size ∧ (∀ i (hi : i < gs.length), w.cell? ⟨g, i, none⟩ = some (.slice (some ⟨gs[i], 0, none⟩) n n)) ∧ ∀ x ∈ gs, g ≠ x := by
  have hr := h.row
  rcases hr.2 with ⟨-, e⟩ | ⟨g, cap, cur, e, h2, h3, h4⟩
  · omega
  · subst e
    refine ⟨g, cap, rfl, (hr.lt g rfl).2, fun i hi => ?_, fun x hx e => h.apart x hx (by rw [e]; rfl)⟩
    have := hr.cellAt i (by omega)
    rwa [tcells_at n gs i hi] at this
theorem TabsAt.cell (h : TabsAt B w v n gs ts) {vars : Nat} {T : List Fn'} (e : ts = T.map (tabOf vars)) {p : Nat} (hp : p < gs.length) (hp2 : p < T.length) (i : Nat) (hi : i < n) : w.cell? ⟨gs[p], i, none⟩ = some (.bool (T[p] (bitsF i))) := by
  subst e
  have hp3 : p < (T.map (tabOf vars)).length := by simpa using hp2
  have h1 := (h.tabs p hp hp3).cells i (by rw [h.lens _ (List.getElem_mem hp3)]; exact hi)
  rw [h1]
  simp [tabOf_at]
theorem TabsAt.lt (h : TabsAt B w v n gs ts) : ∀ g ∈ gs, g < w.heap.size := fun g hg => by
  obtain ⟨j, hj, rfl⟩ := List.getElem_of_mem hg
  exact (h.tabs j hj (by rw [← h.len]; exact hj)).lt
end

theorem funT_len (vars : Nat) : ∀ (qs : List Quad) (T : List Fn'), (funT vars T qs).length = T.length + qs.length
  | [], T => rfl
  | q :: qs, T => by
    show (funT vars (roundT vars T q) qs).length = _
    rw [funT_len vars qs]
    simp [roundT]; omega

/-! A step's table, value by value. -/
section
variable {vars : Nat} {T : List Fn'} {q : Quad} {i : Nat}
theorem step0 (h : pickV q.a 9 = 0) : stepT vars T q (bitsF i) = (bitsF i (pickV q.b vars) == oddB q.c) := by unfold stepT; rw [h]; rfl
theorem step1 (h : pickV q.a 9 = 1) : stepT vars T q (bitsF i) = !(tAt T q.b (bitsF i)) := by unfold stepT; rw [h]; rfl
theorem step2 (h : pickV q.a 9 = 2) : stepT vars T q (bitsF i) = (tAt T q.b (bitsF i) && tAt T q.c (bitsF i)) := by unfold stepT; rw [h]; rfl
theorem step3 (h : pickV q.a 9 = 3) : stepT vars T q (bitsF i) = (tAt T q.b (bitsF i) || tAt T q.c (bitsF i)) := by unfold stepT; rw [h]; rfl
theorem step4 (h : pickV q.a 9 = 4) : stepT vars T q (bitsF i) = (tAt T q.b (bitsF i) != tAt T q.c (bitsF i)) := by unfold stepT; rw [h]; rfl
theorem step5 (h : pickV q.a 9 = 5) : stepT vars T q (bitsF i) = if tAt T q.b (bitsF i) = true then tAt T q.c (bitsF i) else tAt T q.d (bitsF i) := by unfold stepT; rw [h]; rfl
theorem step6 (h : pickV q.a 9 = 6) (hi : i < 2 ^ vars) (hv : pickV q.c vars < vars) (h6 : vars ≤ 6) : stepT vars T q (bitsF i) = tAt T q.b (bitsF (if oddB q.d then i ||| 1 <<< pickV q.c vars else offN i (pickV q.c vars))) := by
  unfold stepT; rw [h]
  show tAt T q.b (turn (bitsF i) _ _) = _
  cases oddB q.d
  · rw [← bits_off hi hv h6]; rfl
  · rw [← bits_or]; rfl
theorem step7 (h : pickV q.a 9 = 7) (hi : i < 2 ^ vars) (hv : pickV q.c vars < vars) (h6 : vars ≤ 6) : stepT vars T q (bitsF i) = (tAt T q.b (bitsF (offN i (pickV q.c vars))) || tAt T q.b (bitsF (i ||| 1 <<< pickV q.c vars))) := by
  unfold stepT; rw [h, bits_off hi hv h6, bits_or]; rfl
theorem step8 (h : pickV q.a 9 = 8) (hi : i < 2 ^ vars) (hv : pickV q.c vars < vars) (h6 : vars ≤ 6) : stepT vars T q (bitsF i) = (tAt T q.b (bitsF (offN i (pickV q.c vars))) && tAt T q.b (bitsF (i ||| 1 <<< pickV q.c vars))) := by
  unfold stepT; rw [h, bits_off hi hv h6, bits_or]; rfl
end
end Go.Proofs.YtfodcmcmbjopaaaDoor

namespace Go.Proofs.YtfodcmcmbjopaaaDoor
open Go.RowKit Go.Maps

theorem infoTable : (Tryd.prog.info? 30).map (fun i => (i.zero, i.size, i.bytes)) = some (some (.slice none 0 0), 1, 24) := by kernel_rfl
theorem make_tab (n : Nat) (hn : n ≤ 64) (W : World) : (Instr.makeSlice 30 (.int .i64 (n : Int)) (.int .i64 (n : Int))).run Tryd.prog W = .ok (.slice (some ⟨W.heap.size, 0, none⟩) n n) (W.alloc (.cells (madeCells #[.bool false] n) 4)) := by
  obtain ⟨i0, hi, hz0, hz1, hz2⟩ := info_parts infoBool
  have h := run_make (P := Tryd.prog) W 30 4 i0 (.bool false) Tryd.underlying30 hi hz0 .i64 .i64 n n (by omega) (Int.le_refl _) (by rw [hz2]; omega) (by omega)
  rw [h, hz1, Nat.mul_one, Int.toNat_natCast]
  rfl
theorem mcells_setB (m : List Bool) (i : Nat) (b : Bool) : (mcells m).set i (.bool b) = mcells (m.set i b) := by simp [mcells, List.map_set]
theorem made_row (w : World) {B : Nat} (hB : B ≤ w.heap.size) (n : Nat) (hn : n ≤ 64) : (w.alloc (.cells (madeCells #[.bool false] n) 4)).ownsRow B 4 1 (.slice (some ⟨w.heap.size, 0, none⟩) n n) n (mcells (List.replicate n false)) := by
  have h := built_row w hB (madeCells #[.bool false] n) 4 (by rw [size_madeCells]; unfold maxLen; omega)
  rw [size_madeCells, mcells_made] at h
  exact h

/-- Two tables, and the list of them, anew. -/
structure Start (B : Nat) (w : World) (n g0 g1 go : Nat) (l : List Bool) : Prop where
  t0 : BoolsAt w g0 (List.replicate n false)
  t1 : w.ownsRow B 4 1 (.slice (some ⟨g1, 0, none⟩) n n) n (mcells l)
  row : w.ownsRow B 30 1 (.slice (some ⟨go, 0, none⟩) 2 2) 2 (tcells n [g0, g1])
  b0 : B ≤ g0
  n01 : g0 ≠ g1
  n0 : go ≠ g0
  n1 : go ≠ g1
theorem start_new (w : World) {B : Nat} (hB : B ≤ w.heap.size) (n : Nat) (hn : n ≤ 64) (g0 g1 : Nat) (hg : g0 = w.heap.size ∧ g1 = w.heap.size + 1 ∨ g0 = w.heap.size + 1 ∧ g1 = w.heap.size) :
    Start B (((w.alloc (.cells (madeCells #[.bool false] n) 4)).alloc (.cells (madeCells #[.bool false] n) 4)).alloc (.cells #[.slice (some ⟨g0, 0, none⟩) n n, .slice (some ⟨g1, 0, none⟩) n n] 30)) n g0 g1 (w.heap.size + 1 + 1) (List.replicate n false) := by
  have s1 : (w.alloc (.cells (madeCells #[.bool false] n) 4)).heap.size = w.heap.size + 1 := by simp
  have s2 : ((w.alloc (.cells (madeCells #[.bool false] n) 4)).alloc (.cells (madeCells #[.bool false] n) 4)).heap.size = w.heap.size + 1 + 1 := by rw [World.size_alloc, s1]
  have r1 := made_row w hB n hn
  have r2 := made_row (w.alloc (.cells (madeCells #[.bool false] n) 4)) (B := B) (by omega) n hn
  have r3 := ownsRow_new r1 (below_new _ (.cells (madeCells #[.bool false] n) 4))
  have r4 := ownsRow_new r3 (below_new _ (.cells #[.slice (some ⟨g0, 0, none⟩) n n, .slice (some ⟨g1, 0, none⟩) n n] 30))
  have r5 := ownsRow_new r2 (below_new _ (.cells #[.slice (some ⟨g0, 0, none⟩) n n, .slice (some ⟨g1, 0, none⟩) n n] 30))
  have r6 := built_row ((w.alloc (.cells (madeCells #[.bool false] n) 4)).alloc (.cells (madeCells #[.bool false] n) 4)) (B := B) (by omega) #[.slice (some ⟨g0, 0, none⟩) n n, .slice (some ⟨g1, 0, none⟩) n n] 30 (by simp [maxLen])
  rw [s1] at r5
  rw [s2] at r6
  rcases hg with ⟨rfl, rfl⟩ | ⟨rfl, rfl⟩
  · exact ⟨bools_row r4 (by simp), r5, r6, by omega, by omega, by omega, by omega⟩
  · exact ⟨bools_row r5 (by simp), r4, r6, by omega, by omega, by omega, by omega⟩

theorem tab_false (vars : Nat) : tabOf vars (fun _ => false) = List.replicate (2 ^ vars) false := by
  apply List.ext_getElem
  · rw [tabOf_len]; simp
  · intro i h1 h2; rw [tabOf_at]; simp
theorem tab_true (vars : Nat) : tabOf vars (fun _ => true) = List.replicate (2 ^ vars) true := by
  apply List.ext_getElem
  · rw [tabOf_len]; simp
  · intro i h1 h2; rw [tabOf_at]; simp
theorem Start.tabs {B : Nat} {w : World} {vars n g0 g1 go : Nat} (hn : 2 ^ vars = n) (h : Start B w n g0 g1 go (List.replicate n true)) : TabsAt B w (.slice (some ⟨go, 0, none⟩) 2 2) n [g0, g1] (([fun _ => false, fun _ => true] : List Fn').map (tabOf vars)) := by
  subst hn
  refine ⟨h.row, rfl, fun t ht => ?_, fun g hg => ?_, fun g hg => ?_, fun j h1 h2 => ?_⟩
  · obtain ⟨g, -, rfl⟩ := List.mem_map.1 ht
    exact tabOf_len _ _
  · simp at hg
    rcases hg with rfl | rfl
    · exact h.b0
    · exact (h.t1.lt _ rfl).1
  · simp at hg
    rcases hg with rfl | rfl
    · intro e; exact h.n0 (by simpa [Value.ownBlock] using e)
    · intro e; exact h.n1 (by simpa [Value.ownBlock] using e)
  · have h3 : j < 2 := h1
    obtain rfl | rfl : j = 0 ∨ j = 1 := by omega
    · have h4 := h.t0
      rw [← tab_false] at h4
      exact h4
    · have h4 := bools_row h.t1 (by simp)
      rw [← tab_true] at h4
      exact h4

end Go.Proofs.YtfodcmcmbjopaaaDoor

namespace Go.Proofs.YtfodcmcmbjopaaaDoor
open Go.RowKit Go.Maps

structure RF (w : World) (n N vars : Nat) (gs : List Nat) (T : List Fn') (q : Quad) (g ga gb gc p1 p2 p3 v1 v2 t : Nat) (fA fB fC : Nat → Bool) (L : List Bool) : Prop where
  P1 : ∀ W, Calls Tryd.prog 35 #[.int .i64 q.b, .int .i64 (N : Int)] W fun e w' => e = .returned (.int .i64 (p1 : Int)) ∧ W = w'
  P2 : ∀ W, Calls Tryd.prog 35 #[.int .i64 q.c, .int .i64 (N : Int)] W fun e w' => e = .returned (.int .i64 (p2 : Int)) ∧ W = w'
  P3 : ∀ W, Calls Tryd.prog 35 #[.int .i64 q.d, .int .i64 (N : Int)] W fun e w' => e = .returned (.int .i64 (p3 : Int)) ∧ W = w'
  P4 : ∀ W, Calls Tryd.prog 35 #[.int .i64 q.c, .int .i64 (vars : Int)] W fun e w' => e = .returned (.int .i64 (v2 : Int)) ∧ W = w'
  P5 : ∀ W, Calls Tryd.prog 35 #[.int .i64 q.b, .int .i64 (vars : Int)] W fun e w' => e = .returned (.int .i64 (v1 : Int)) ∧ W = w'
  P9 : ∀ W, Calls Tryd.prog 35 #[.int .i64 q.a, .int .i64 9] W fun e w' => e = .returned (.int .i64 (t : Int)) ∧ W = w'
  l1 : p1 < N
  l2 : p2 < N
  l3 : p3 < N
  lv1 : v1 < vars
  lv2 : v2 < vars
  lt9 : t < 9
  gl : g < w.heap.size
  gn : ∀ x ∈ gs, g ≠ x
  o1 : w.cell? ⟨g, p1, none⟩ = some (.slice (some ⟨ga, 0, none⟩) n n)
  o2 : w.cell? ⟨g, p2, none⟩ = some (.slice (some ⟨gb, 0, none⟩) n n)
  o3 : w.cell? ⟨g, p3, none⟩ = some (.slice (some ⟨gc, 0, none⟩) n n)
  al : ga < w.heap.size
  bl : gb < w.heap.size
  cl : gc < w.heap.size
  cA : ∀ j, j < n → w.cell? ⟨ga, j, none⟩ = some (.bool (fA j))
  cB : ∀ j, j < n → w.cell? ⟨gb, j, none⟩ = some (.bool (fB j))
  cC : ∀ j, j < n → w.cell? ⟨gc, j, none⟩ = some (.bool (fC j))
  Ll : L.length = n
  V0 : t = 0 → ∀ j (hj : j < L.length), L[j] = (bitsF j v1 == oddB q.c)
  V1 : t = 1 → ∀ j (hj : j < L.length), L[j] = !(fA j)
  V2 : t = 2 → ∀ j (hj : j < L.length), L[j] = (fA j && fB j)
  V3 : t = 3 → ∀ j (hj : j < L.length), L[j] = (fA j || fB j)
  V4 : t = 4 → ∀ j (hj : j < L.length), L[j] = (fA j != fB j)
  V5 : t = 5 → ∀ j (hj : j < L.length), L[j] = if fA j = true then fB j else fC j
  V6 : t = 6 → ∀ j (hj : j < L.length), L[j] = fA (if oddB q.d then j ||| 1 <<< v2 else offN j v2)
  V7 : t = 7 → ∀ j (hj : j < L.length), L[j] = (fA (offN j v2) || fA (j ||| 1 <<< v2))
  V8 : t = 8 → ∀ j (hj : j < L.length), L[j] = (fA (offN j v2) && fA (j ||| 1 <<< v2))
  next : (roundT vars T q).map (tabOf vars) = T.map (tabOf vars) ++ [L]
  offs : ∀ j, j < n → bits .or .i64 (j : Int) ((2 : Int) ^ v2) = ((j ||| 1 <<< v2 : Nat) : Int) ∧ j ||| 1 <<< v2 < n ∧ bits .andNot .i64 (j : Int) ((2 : Int) ^ v2) = (offN j v2 : Int) ∧ offN j v2 < n
  bit : ∀ j, j < n → (bits .and .i64 ((j : Int) / 2 ^ v1) 1 == 1) = bitsF j v1

theorem round_facts {B vars n N : Nat} {T : List Fn'} {gs : List Nat} {w : World} {v : Value} (hn : 2 ^ vars = n) (hv0 : 0 < vars) (hv6 : vars ≤ 6) (hN : 0 < N) (hN2 : N ≤ 100) (hTl : T.length = N) (htab : TabsAt B w v n gs (T.map (tabOf vars))) (q : Quad) :
    ∃ (g c ga gb gc p1 p2 p3 v1 v2 t : Nat) (fA fB fC : Nat → Bool) (L : List Bool), v = .slice (some ⟨g, 0, none⟩) N c ∧ RF w n N vars gs T q g ga gb gc p1 p2 p3 v1 v2 t fA fB fC L := by
  subst hn
  have p6 := pow_le6 hv6
  have hgl : gs.length = N := by rw [htab.len, List.length_map]; exact hTl
  obtain ⟨g, c, e, hgo, hoc, hgne⟩ := htab.form (by omega)
  rw [hgl] at e
  have pl : ∀ x, pickV x N < gs.length := fun x => by rw [hgl]; exact pickV_lt x hN
  have tat : ∀ x, tAt T x = T[pickV x N]'(by rw [hTl]; exact pickV_lt x hN) := fun x => by
    unfold tAt
    have h1 : pickV x T.length < T.length := pickV_lt x (by omega)
    simp only [List.getD_eq_getElem?_getD, List.getElem?_eq_getElem h1, Option.getD_some]
    exact getElem_congr_idx (by rw [hTl])
  have hc : ∀ x j, j < 2 ^ vars → w.cell? ⟨gs[pickV x N]'(pl x), j, none⟩ = some (.bool (tAt T x (bitsF j))) := fun x j hj => by
    rw [htab.cell rfl (pl x) (by rw [hTl]; exact pickV_lt x hN) j hj, tat]
  have hLi : ∀ j (hj : j < (tabOf vars (stepT vars T q)).length), (tabOf vars (stepT vars T q))[j] = stepT vars T q (bitsF j) := fun j hj => tabOf_at _ _ j hj
  have hlt : ∀ j, j < (tabOf vars (stepT vars T q)).length → j < 2 ^ vars := fun j hj => by rwa [tabOf_len] at hj
  have v2l := pickV_lt q.c hv0
  have v1l := pickV_lt q.b hv0
  exact ⟨g, c, gs[pickV q.b N]'(pl _), gs[pickV q.c N]'(pl _), gs[pickV q.d N]'(pl _), pickV q.b N, pickV q.c N, pickV q.d N, pickV q.b vars, pickV q.c vars, pickV q.a 9, fun j => tAt T q.b (bitsF j), fun j => tAt T q.c (bitsF j), fun j => tAt T q.d (bitsF j), tabOf vars (stepT vars T q), e,
    { P1 := fun W => rat_any q.b N hN (by omega) W
      P2 := fun W => rat_any q.c N hN (by omega) W
      P3 := fun W => rat_any q.d N hN (by omega) W
      P4 := fun W => rat_any q.c vars hv0 (by omega) W
      P5 := fun W => rat_any q.b vars hv0 (by omega) W
      P9 := fun W => rat_any q.a 9 (by omega) (by omega) W
      l1 := pickV_lt q.b hN
      l2 := pickV_lt q.c hN
      l3 := pickV_lt q.d hN
      lv1 := v1l
      lv2 := v2l
      lt9 := pickV_lt q.a (by omega)
      gl := hgo
      gn := hgne
      o1 := hoc _ (pl _)
      o2 := hoc _ (pl _)
      o3 := hoc _ (pl _)
      al := htab.lt _ (List.getElem_mem _)
      bl := htab.lt _ (List.getElem_mem _)
      cl := htab.lt _ (List.getElem_mem _)
      cA := fun j hj => hc q.b j hj
      cB := fun j hj => hc q.c j hj
      cC := fun j hj => hc q.d j hj
      Ll := tabOf_len _ _
      V0 := fun h j hj => (hLi j hj).trans (step0 h)
      V1 := fun h j hj => (hLi j hj).trans (step1 h)
      V2 := fun h j hj => (hLi j hj).trans (step2 h)
      V3 := fun h j hj => (hLi j hj).trans (step3 h)
      V4 := fun h j hj => (hLi j hj).trans (step4 h)
      V5 := fun h j hj => (hLi j hj).trans (step5 h)
      V6 := fun h j hj => (hLi j hj).trans (step6 h (hlt j hj) v2l hv6)
      V7 := fun h j hj => (hLi j hj).trans (step7 h (hlt j hj) v2l hv6)
      V8 := fun h j hj => (hLi j hj).trans (step8 h (hlt j hj) v2l hv6)
      next := by simp [roundT]
      offs := fun j hj => ⟨(on_num hj v2l hv6).1, (on_num hj v2l hv6).2, (off_num hj v2l hv6).1, (off_num hj v2l hv6).2⟩
      bit := fun j hj => bit_num (by omega) (by omega) }⟩

/-- One more table. -/
theorem TabsAt.snoc {B n N gt k' : Nat} {w w7 : World} {v v7 : Value} {gs : List Nat} {ts : List (List Bool)} {L : List Bool} (h : TabsAt B w v n gs ts) (hN : gs.length = N) (hb : BoolsAt w gt L) (hL : L.length = n) (hB : B ≤ gt) (hgt : v.ownBlock ≠ some gt) (hk : Kept (fun i => v.ownBlock = some i) w w7)
    (hrow : w7.ownsRow B 30 1 v7 (N + 1) (tcells n gs ++ [.slice (some ⟨gt, 0, none⟩) n n])) (hloc : v7.ownBlock = v.ownBlock ∨ v7.ownBlock = some k') (hk' : w.heap.size ≤ k') : TabsAt B w7 v7 n (gs ++ [gt]) (ts ++ [L]) := by
  subst hN
  have hlt := h.lt
  refine ⟨?_, by simp [h.len], fun t ht => ?_, fun g hg => ?_, fun g hg e => ?_, fun j h1 h2 => ?_⟩
  · have e : tcells n (gs ++ [gt]) = tcells n gs ++ [.slice (some ⟨gt, 0, none⟩) n n] := by simp [tcells]
    rw [e, List.length_append]; exact hrow
  · rcases List.mem_append.1 ht with h3 | h3
    · exact h.lens t h3
    · rw [List.mem_singleton] at h3; subst h3; exact hL
  · rcases List.mem_append.1 hg with h3 | h3
    · exact h.old g h3
    · rw [List.mem_singleton] at h3; subst h3; exact hB
  · have hgl : g < w.heap.size := by
      rcases List.mem_append.1 hg with h3 | h3
      · exact hlt g h3
      · rw [List.mem_singleton] at h3; subst h3; exact hb.lt
    rcases hloc with h4 | h4
    · rw [h4] at e
      rcases List.mem_append.1 hg with h3 | h3
      · exact h.apart g h3 e
      · rw [List.mem_singleton] at h3; subst h3; exact hgt e
    · rw [h4] at e
      have : k' = g := by simpa using e
      omega
  · by_cases hj : j < gs.length
    · have e1 : (gs ++ [gt])[j] = gs[j] := List.getElem_append_left hj
      have hj2 : j < ts.length := by rw [← h.len]; exact hj
      have e2 : (ts ++ [L])[j] = ts[j] := List.getElem_append_left hj2
      rw [e1, e2]
      exact (h.tabs j hj hj2).kept hk (h.apart _ (List.getElem_mem hj))
    · have e : j = gs.length := by simp at h1; omega
      subst e
      have e1 : (gs ++ [gt])[gs.length] = gt := by simp
      have e2 : (ts ++ [L])[gs.length] = L := by simp [h.len]
      rw [e1, e2]
      exact hb.kept hk hgt

/-- One more value of a table. -/
theorem store_tab {B g i n : Nat} {W3 ws X : World} {L : List Bool} (hL : L.length = n) (hi : i < n) (hrow : ws.ownsRow B 4 1 (.slice (some ⟨g, 0, none⟩) n n) n (mcells (partT L n i))) (hk : Kept (fun j => j = g) W3 ws) (hX : Below ws.heap.size ws X) (b : Bool) (hb : L[i]'(by omega) = b) :
    Kept (fun j => j = g) W3 (X.setCell ⟨g, i, none⟩ (.bool b)) ∧ (X.setCell ⟨g, i, none⟩ (.bool b)).ownsRow B 4 1 (.slice (some ⟨g, 0, none⟩) n n) n (mcells (partT L n (i + 1))) := by
  have h1 := ownsRow_new hrow hX
  have h2 := (h1.stored i (.bool b)).1
  rw [mcells_setB, partT_set hL hi b hb] at h2
  exact ⟨(hk.trans (Kept.of_below hX _)).trans (Kept.setCell _ _ _ rfl), h2⟩
theorem store_tab_drew {B g i n : Nat} {W3 ws X : World} {L : List Bool} (hL : L.length = n) (hi : i < n) (hrow : ws.ownsRow B 4 1 (.slice (some ⟨g, 0, none⟩) n n) n (mcells (partT L n i))) (hk : Kept (fun j => j = g) W3 ws) (hX : Below ws.heap.size ws X) (b : Bool) (hb : L[i]'(by omega) = b) :
    Kept (fun j => j = g) W3 (X.setCell ⟨g, i, none⟩ (.bool b)).drew ∧ (X.setCell ⟨g, i, none⟩ (.bool b)).drew.ownsRow B 4 1 (.slice (some ⟨g, 0, none⟩) n n) n (mcells (partT L n (i + 1))) := by
  obtain ⟨h1, h2⟩ := store_tab hL hi hrow hk hX b hb
  exact ⟨h1.trans (Kept.of_below (Below.refl _ _).drew _), ownsRow_new h2 (Below.refl _ _).drew⟩
theorem store_tab2 {B g i n : Nat} {W3 ws X : World} {L : List Bool} (hL : L.length = n) (hi : i < n) (hrow : ws.ownsRow B 4 1 (.slice (some ⟨g, 0, none⟩) n n) n (mcells (partT L n i))) (hk : Kept (fun j => j = g) W3 ws) (hX : Below ws.heap.size ws X) (b' b : Bool) (hb : L[i]'(by omega) = b) :
    Kept (fun j => j = g) W3 ((X.setCell ⟨g, i, none⟩ (.bool b')).setCell ⟨g, i, none⟩ (.bool b)) ∧ ((X.setCell ⟨g, i, none⟩ (.bool b')).setCell ⟨g, i, none⟩ (.bool b)).ownsRow B 4 1 (.slice (some ⟨g, 0, none⟩) n n) n (mcells (partT L n (i + 1))) := by
  have h1 := ownsRow_new hrow hX
  have h2 := ((h1.stored i (.bool b')).1.stored i (.bool b)).1
  rw [mcells_setB, mcells_setB, List.set_set, partT_set hL hi b hb] at h2
  exact ⟨((hk.trans (Kept.of_below hX _)).trans (Kept.setCell _ _ _ rfl)).trans (Kept.setCell _ _ _ rfl), h2⟩
end Go.Proofs.YtfodcmcmbjopaaaDoor
