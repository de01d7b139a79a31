/- The reference's sets: of names, of items. -/
import Derived.Test.YtpmpnbbihmgdpaaGreatDoorRlChk
import Derived.Test.YtpmpnbbihmgdpaaGreatDoorCtItem
set_option maxRecDepth 100000
namespace Go.Proofs.YtpmpnbbihmgdpaaGreatDoor
section
open Go.RowKit Sv
theorem rlc_any (x : Ln) (ra : Option Addr) (rc : Nat) (w : World) :
  Calls Tryz.prog 154 #[.agg #[.int .i64 x.kind, .string x.name, .int .i64 x.a, .int .i64 x.b, .int .i64 x.c, .string x.other, .slice ra (tp x.rng).length rc]] w fun e w' => e = .returned (.int .i64 (ctCheck x)) /\ Below w.heap.size w w' := by
 obtain ⟨k, n, a, b, c, o, r⟩ := x
 unfold ctCheck Ln.pair
 simp only
 by_cases hk : k < 1 \/ 4 < k
 ·rw [if_pos hk]
  rcases hk with hk | hk
  ·exact rlc_out k n o a b c ra (tp r).length rc w (by omega)
  ·exact rlc_out k n o a b c ra (tp r).length rc w (by omega)
 rw [if_neg hk]
 have hk4 : k = 1 \/ k = 2 \/ k = 3 \/ k = 4 := by omega
 by_cases hn : NameOk n
 ·rcases hk4 with rfl | rfl | rfl | rfl
  ·have h1 : ¬ (¬ NameOk n \/ (((1 : Int) = 2 \/ (1 : Int) = 3) /\ ¬ NameOk o)) := by
    rintro (h | ⟨h, _⟩)
    ·exact h hn
    ·omega
   rw [if_neg h1]
   by_cases ho : o.size ≠ 0
   ·rw [if_pos ⟨by omega, ho⟩]
    exact rlc_o1 n o a b c ra (tp r).length rc w hn (by omega)
   ·rw [if_neg (fun h => ho h.2)]
    obtain rfl := bytes_empty (s := o) (by omega)
    cases r with
    | nil =>
     rw [if_neg (fun h => h.2 rfl), if_neg (by omega)]
     refine (rlc_ok1 n a b c ra rc w hn).mono fun e w' ⟨h1, h2⟩ => ⟨?_, h2⟩
     rw [h1]
     by_cases hi : InV a b c
     ·rw [if_pos hi, if_neg (fun h => h hi)]
     ·rw [if_neg hi, if_pos hi]
    | cons s r =>
     rw [if_pos ⟨rfl, by simp⟩]
     exact rlc_rg1 n a b c ra (tp (s :: r)).length rc w hn (by simp [tp])
  ·by_cases ho : NameOk o
   ·have h1 : ¬ (¬ NameOk n \/ (((2 : Int) = 2 \/ (2 : Int) = 3) /\ ¬ NameOk o)) := by
     rintro (h | ⟨_, h⟩)
     ·exact h hn
     ·exact h ho
    rw [if_neg h1, if_neg (fun h => h.1 (Or.inl rfl)), if_neg (by omega), if_neg (by omega)]
    refine (rlc_ok2 n o a b c ra (tp r).length rc w hn ho).mono fun e w' ⟨h1, h2⟩ => ⟨?_, h2⟩
    rw [h1]
    by_cases hi : InV a b c
    ·rw [if_pos hi, if_neg (fun h => h hi)]
    ·rw [if_neg hi, if_pos hi]
   ·rw [if_pos (Or.inr ⟨Or.inl rfl, ho⟩)]
    exact rlc_ot2 n o a b c ra (tp r).length rc w hn ho
  ·by_cases ho : NameOk o
   ·have h1 : ¬ (¬ NameOk n \/ (((3 : Int) = 2 \/ (3 : Int) = 3) /\ ¬ NameOk o)) := by
     rintro (h | ⟨_, h⟩)
     ·exact h hn
     ·exact h ho
    rw [if_neg h1, if_neg (fun h => h.1 (Or.inr rfl)), if_neg (by omega), if_neg (by omega)]
    refine (rlc_ok3 n o a b c ra (tp r).length rc w hn ho).mono fun e w' ⟨h1, h2⟩ => ⟨?_, h2⟩
    rw [h1]
    by_cases hi : InV a b c
    ·rw [if_pos hi, if_neg (fun h => h hi)]
    ·rw [if_neg hi, if_pos hi]
   ·rw [if_pos (Or.inr ⟨Or.inr rfl, ho⟩)]
    exact rlc_ot3 n o a b c ra (tp r).length rc w hn ho
  ·have h1 : ¬ (¬ NameOk n \/ (((4 : Int) = 2 \/ (4 : Int) = 3) /\ ¬ NameOk o)) := by
    rintro (h | ⟨h, _⟩)
    ·exact h hn
    ·omega
   rw [if_neg h1]
   by_cases ho : o.size ≠ 0
   ·rw [if_pos ⟨by omega, ho⟩]
    exact rlc_o4 n o a b c ra (tp r).length rc w hn (by omega)
   ·rw [if_neg (fun h => ho h.2), if_neg (by omega)]
    obtain rfl := bytes_empty (s := o) (by omega)
    by_cases hz : a ≠ 0 \/ b ≠ 0 \/ c ≠ 0
    ·rw [if_pos ⟨rfl, hz⟩]
     refine rlc_v4 n a b c ra (tp r).length rc w hn ?_
     by_cases h0 : a = 0
     ·by_cases h1 : b = 0
      ·have h2 : c ≠ 0 := by omega
       simp [h2]
      ·simp [h1]
     ·simp [h0]
    ·rw [if_neg (fun h => hz h.2)]
     obtain rfl : a = 0 := by omega
     obtain rfl : b = 0 := by omega
     obtain rfl : c = 0 := by omega
     rw [if_neg (fun h => h (by decide))]
     exact (rlc_ok4 n 0 0 0 ra (tp r).length rc w hn (by decide)).mono fun e w' ⟨h1, h2⟩ => ⟨by rw [h1, if_pos (by decide)], h2⟩
 ·rw [if_pos (Or.inl hn)]
  rcases hk4 with rfl | rfl | rfl | rfl
  ·exact rlc_nm1 n o a b c ra (tp r).length rc w hn
  ·exact rlc_nm2 n o a b c ra (tp r).length rc w hn
  ·exact rlc_nm3 n o a b c ra (tp r).length rc w hn
  ·exact rlc_nm4 n o a b c ra (tp r).length rc w hn
end
section
open Go.RowKit Go.Deep Go.Maps
def boolElem : Value -> Option (DataW Unit × List MemPlace)
 | .bool b => some (.lit (.bool b), [])
 | _ => none
theorem boolElem_mk (b : Bool) : boolElem (.bool b) = some (.lit (.bool b), []) := rfl
theorem boolElem_inv {v : Value} {b : Bool} {ps : List MemPlace} (h : boolElem v = some (.lit (.bool b), ps)) : v = .bool b := by
 unfold boolElem at h
 split at h
 ·simp at h; rw [h.1]
 ·cases h
theorem zeroBool (w : World) : (zeroValue 4).run Tryz.prog w = .ok (.bool false) w := by kernel_rfl
def RNames (w : World) (bm : Nat) (l : List It) : Prop := ∃ D, w.ownsMap Tryz.prog 9 boolElem bm (namesN l) D /\ FRep (fun _ : Unit => .lit (.bool true)) D (namesF l) (namesN l)
theorem RNames.made (w : World) : RNames (w.alloc (.map #[] 0)) w.heap.size [] := ⟨.map [], World.ownsMap_made w _ _ _, FRep.empty⟩
theorem RNames.below {B : Nat} {w w' : World} {bm : Nat} {l : List It} (h : RNames w bm l) (hb : Below B w w') (hB : w.heap.size <= B) : RNames w' bm l := by
 obtain ⟨D, h1, h2⟩ := h
 exact ⟨D, ownsMap_below h1 (hb.mono hB), h2⟩
theorem RNames.lt {w : World} {bm : Nat} {l : List It} (h : RNames w bm l) : bm < w.heap.size := by obtain ⟨D, h1, _⟩ := h; exact h1.lt
theorem RNames.block {w w' : World} {bm : Nat} {l : List It} (h : RNames w bm l) (hb : w'.heap[bm]? = w.heap[bm]?) : RNames w' bm l := by
 obtain ⟨D, ⟨es, clock, h1, h2⟩, hR⟩ := h
 exact ⟨D, ⟨es, clock, hb.trans h1, h2⟩, hR⟩
theorem RNames.put {w : World} {bm : Nat} {l : List It} (h : RNames w bm l) (hl : l.length < 1000000) {x : It} (hs : x.name.size <= 100000) :
  ∃ w', (Instr.mapUpdate 257 (.map (some bm)) (.string x.name) (.bool true)).run Tryz.prog w = .ok () w' /\ RNames w' bm (l ++ [x]) /\ w.grownBy w' (some bm) := by
 obtain ⟨D, hD, hR⟩ := h
 have hle := namesN_le l
 obtain ⟨w', hrun, g1, k1⟩ := hD.update lawStr Tryz.underlying257 (by unfold maxLen; omega) (keyStr hs) (boolElem_mk true)
 have hR1 := hR.put x.name ()
 have e1 : (fun c => if c = x.name then some () else namesF l c) = namesF (l ++ [x]) := by
  funext c
  unfold namesF
  by_cases h : c = x.name
  ·simp [h]
  ·simp [h]
 have e2 : (if (namesF l x.name).isSome then namesN l else namesN l + 1) = namesN (l ++ [x]) := by
  rw [namesN_snoc]
  unfold namesF
  by_cases h : x.name ∈ l.map It.name
  ·rw [if_pos h, if_pos h]; rfl
  ·rw [if_neg h, if_neg h]; rfl
 rw [e1, e2] at hR1
 exact ⟨w', hrun, ⟨_, hR1.size ▸ ownsMap_norm g1, hR1⟩, k1⟩
theorem RNames.len {w : World} {bm : Nat} {l : List It} (h : RNames w bm l) (ty : TypeId) : (Builtin.len_ #[257] ty #[.map (some bm)]).run Tryz.prog w = .ok (.int .i64 (namesN l : Int)) w := by
 obtain ⟨D, hD, hR⟩ := h
 rw [hD.len Tryz.underlying257 ty, hR.size]
theorem laidOutS : laidOutB Tryz.prog = true := by kernel_rfl
theorem rowRItem : (46 : TypeId) < Tryz.prog.types.size := of_decide_eq_true (by kernel_rfl)
theorem wideRItem : (match Tryz.prog.underlying 46 with | some (.array _ _) | some (.struct _) => true | _ => false) = true := by rw [Tryz.underlying46]
theorem lawRI : Keyed Tryz.prog 46 := Keyed.of_law (deep_law_laid laidOutS (m := 3) (by omega) rowRItem (by kernel_rfl) wideRItem)
theorem keyTypeRI : Tryz.prog.keyType 46 = true := by kernel_rfl
theorem cellsRI : Tryz.prog.cellsOf 46 = 4 := by kernel_rfl
theorem cellsRV : Tryz.prog.cellsOf 44 = 3 := by kernel_rfl
theorem cellsI3 : Tryz.prog.cellsOf 3 = 1 := by kernel_rfl
theorem cellsS9 : Tryz.prog.cellsOf 9 = 1 := by kernel_rfl
def itV (x : It) : Value := .agg #[.string x.name, .int .i64 x.a, .int .i64 x.b, .int .i64 x.c]
def ItOk (x : It) : Prop := x.name.size <= 100000 /\ (0 <= x.a /\ x.a <= 999) /\ (0 <= x.b /\ x.b <= 999) /\ 0 <= x.c /\ x.c <= 999
def itLit (x : It) : Lit := .string (keyBytes [.string x.name.data.toList, .int .i64 x.a, .int .i64 x.b, .int .i64 x.c])
theorem wf_n {m : Int} (h : 0 <= m /\ m <= 999) : (Lit.int .i64 m).wf = true := by
 simp [Lit.wf, IntKind.min, IntKind.max, IntKind.signed, IntKind.bits]
 omega
theorem litsN (d : Nat) {m : Int} (h : 0 <= m /\ m <= 999) : Tryz.prog.keyLits (d + 1) 3 [.int .i64 m] = some [.int .i64 m] := by
 unfold Program.keyLits
 rw [Tryz.underlying3]
 simp [wf_n h]
theorem litsS (d : Nat) {s : ByteArray} (h : s.size <= 100000) : Tryz.prog.keyLits (d + 1) 9 [.string s] = some [.string s.data.toList] := by
 unfold Program.keyLits
 rw [Tryz.underlying9]
 have h2 : s.size <= maxLen := by unfold maxLen; omega
 simp [h2]
theorem litsV (d : Nat) {a b c : Int} (ha : 0 <= a /\ a <= 999) (hb : 0 <= b /\ b <= 999) (hc : 0 <= c /\ c <= 999) : Tryz.prog.keyLits (d + 2) 44 [.int .i64 a, .int .i64 b, .int .i64 c] = some [.int .i64 a, .int .i64 b, .int .i64 c] := by
 unfold Program.keyLits
 rw [Tryz.underlying44]
 have e : List.range 3 = [0, 1, 2] := rfl
 simp [cellsRV, cellsI3, e, litsN d ha, litsN d hb, litsN d hc]
theorem keyRI (x : It) (h : ItOk x) : keyOf Tryz.prog 46 (itV x) = some (itLit x) := by
 have hf : (itV x).formed Tryz.prog 46 = true := by simp [Value.formed, Tryz.underlying46, cellsRI, itV]
 unfold keyOf
 rw [Tryz.underlying46]
 simp only [keyTypeRI, hf, Bool.and_self, if_true]
 obtain ⟨d, hd⟩ : ∃ d, Tryz.prog.types.size + 1 = d + 3 := ⟨Tryz.prog.types.size - 2, by have : 3 < Tryz.prog.types.size := of_decide_eq_true (by kernel_rfl); omega⟩
 rw [hd]
 have hc : (itV x).cells.toList = [.string x.name, .int .i64 x.a, .int .i64 x.b, .int .i64 x.c] := rfl
 rw [hc]
 unfold Program.keyLits
 rw [Tryz.underlying46]
 simp [cellsRI, cellsRV, cellsS9, litsS (d + 1) h.1, litsV d h.2.1 h.2.2.1 h.2.2.2, itLit]
theorem itLit_inj {x y : It} (hx : ItOk x) (hy : ItOk y) (h : itLit x = itLit y) : x = y := by
 have := lawRI.inj (keyRI x hx) (h ▸ keyRI y hy)
 obtain ⟨n, a, b, c⟩ := x
 obtain ⟨n', a', b', c'⟩ := y
 simp [itV] at this
 obtain ⟨rfl, rfl, rfl, rfl⟩ := this
 rfl
def unitI (l : List It) : List (It × Unit) := l.map fun s => (s, ())
theorem unitI_fst (l : List It) : (unitI l).map Prod.fst = l := by unfold unitI; rw [List.map_map]; simp [Function.comp_def]
def IRep (D : DataW Unit) (l : List It) : Prop := Rep ItOk itLit (fun _ : Unit => .lit (.bool true)) D (unitI l)
def RItems (w : World) (bm : Nat) (l : List It) : Prop := ∃ D, w.ownsMap Tryz.prog 46 boolElem bm l.length D /\ IRep D l
theorem RItems.lt {w : World} {bm : Nat} {l : List It} (h : RItems w bm l) : bm < w.heap.size := by obtain ⟨D, hD, _⟩ := h; exact hD.lt
theorem RItems.made (w : World) : RItems (w.alloc (.map #[] 0)) w.heap.size [] := ⟨.map [], World.ownsMap_made w _ _ _, Rep.empty⟩
theorem RItems.block {w w' : World} {bm : Nat} {l : List It} (h : RItems w bm l) (hb : w'.heap[bm]? = w.heap[bm]?) : RItems w' bm l := by
 obtain ⟨D, ⟨es, clock, h1, h2⟩, hR⟩ := h
 exact ⟨D, ⟨es, clock, hb.trans h1, h2⟩, hR⟩
theorem RItems.below {B : Nat} {w w' : World} {bm : Nat} {l : List It} (h : RItems w bm l) (hb : Below B w w') (hB : w.heap.size <= B) : RItems w' bm l := by
 obtain ⟨D, h1, h2⟩ := h
 exact ⟨D, ownsMap_below h1 (hb.mono hB), h2⟩
theorem RItems.look {w : World} {bm : Nat} {l : List It} (h : RItems w bm l) {x : It} (hx : ItOk x) :
  (Instr.lookup 258 (.map (some bm)) (.agg #[.string x.name, .int .i64 x.a, .int .i64 x.b, .int .i64 x.c]) false).run Tryz.prog w = .ok (.bool (decide (x ∈ l))) w := by
 obtain ⟨D, hD, hR⟩ := h
 obtain ⟨v, ps, hrun, hv⟩ := hD.lookup lawRI Tryz.underlying258 (zeroBool w) (boolElem_mk false) (keyRI x hx)
 by_cases hm : x ∈ l
 ·rw [show D.atKey (itLit x) (.lit (.bool false)) = .lit (.bool true) from hR.at' (x, ()) (by unfold unitI; exact List.mem_map.2 ⟨x, hm, rfl⟩) _] at hv
  rw [boolElem_inv hv] at hrun
  rw [decide_eq_true hm]
  exact hrun
 ·have hn : Maps.has D (itLit x) = false := Rep.not hR hx (by rw [unitI_fst]; exact hm)
  rw [atKey_of_not_has hn] at hv
  rw [boolElem_inv hv] at hrun
  rw [decide_eq_false hm]
  exact hrun
theorem RItems.put {w : World} {bm : Nat} {l : List It} (h : RItems w bm l) (hl : l.length < 1000000) {x : It} (hx : ItOk x) (hn : x ∉ l) :
  ∃ w', (Instr.mapUpdate 258 (.map (some bm)) (.agg #[.string x.name, .int .i64 x.a, .int .i64 x.b, .int .i64 x.c]) (.bool true)).run Tryz.prog w = .ok () w' /\ RItems w' bm (l ++ [x]) /\ w.grownBy w' (some bm) := by
 obtain ⟨D, hD, hR⟩ := h
 obtain ⟨w', hrun, g1, k1⟩ := hD.update lawRI Tryz.underlying258 (by unfold maxLen; omega) (keyRI x hx) (boolElem_mk true)
 have hR1 : IRep (D.put (itLit x) (.lit (.bool true))) (l ++ [x]) := by
  have := Rep.put hR (fun a b ha hb e => itLit_inj ha hb e) (fun _ => trivial) hx (by rw [unitI_fst]; exact hn) ()
  show Rep _ _ _ _ (unitI (l ++ [x]))
  unfold unitI at *
  rw [List.map_append]
  exact this
 refine ⟨w', hrun, ⟨_, ?_, hR1⟩, k1⟩
 have h2 := hR1.size
 unfold unitI at h2
 rw [List.length_map] at h2
 exact h2 ▸ ownsMap_norm g1
theorem RItems.len {w : World} {bm : Nat} {l : List It} (h : RItems w bm l) (ty : TypeId) : (Builtin.len_ #[258] ty #[.map (some bm)]).run Tryz.prog w = .ok (.int .i64 (l.length : Int)) w := by
 obtain ⟨D, hD, hR⟩ := h
 rw [hD.len Tryz.underlying258 ty, hR.size, unitI, List.length_map]
theorem RNames.ne {w : World} {bm b : Nat} {l : List It} {t : TypeId} {cs : Array Value} (h : RNames w bm l) (hb : Blk w b t cs) : bm ≠ b := by
 rintro rfl
 obtain ⟨D, ⟨es, clock, h1, _⟩, _⟩ := h
 have := h1.symm.trans hb
 cases this
theorem RItems.ne {w : World} {bm b : Nat} {l : List It} {t : TypeId} {cs : Array Value} (h : RItems w bm l) (hb : Blk w b t cs) : bm ≠ b := by
 rintro rfl
 obtain ⟨D, ⟨es, clock, h1, _⟩, _⟩ := h
 have := h1.symm.trans hb
 cases this
end
end Go.Proofs.YtpmpnbbihmgdpaaGreatDoor
