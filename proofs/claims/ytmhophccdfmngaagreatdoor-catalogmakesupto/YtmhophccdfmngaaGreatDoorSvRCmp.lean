/- The reference: versions against each other; a number of a text. -/
import Derived.Test.YtmhophccdfmngaaGreatDoorRlNum
import Derived.Laws.CopyOwn
import Derived.Test.YtmhophccdfmngaaGreatDoorClBaseI
set_option maxHeartbeats 1000000
set_option maxRecDepth 100000
namespace Go.Proofs.YtmhophccdfmngaaGreatDoor
section
open Go.RowKit Sv
theorem run_copyN {P : Program} (w : World) (dT sT ty elem : TypeId) (g o dLen dCap : Nat) (a : Addr) (sLen sCap k : Nat) (cur : Array Value) (t : TypeId) (cs : List Value)
  (hu : P.underlying dT = some (.slice elem)) (hs : (P.info? elem).map (·.size) = some k)
  (hg : w.heap[g]? = some (.cells cur t (0, 0))) (hn : cs.length = Nat.min sLen dLen * k)
  (hsrc : ∀ j v, cs[j]? = some v -> w.cell? (a.add j) = some v) (hfit : o + cs.length <= cur.size) (h1 : ∀ v ∈ cs, v.oneCell' = true) :
  (Builtin.copy_ #[dT, sT] ty #[.slice (some ⟨g, o, none⟩) dLen dCap, .slice (some a) sLen sCap]).run P w =
   .ok (goInt (Nat.min sLen dLen)) (w.setRow g (cur.toList.take o ++ cs ++ cur.toList.drop (o + cs.length)).toArray) := by
 have hl := run_loadCells_list (P := P) w a cs hsrc
 have hst := run_storeCells_at P g o t cs 0 cur w hg (by simpa using hfit) h1
 cases hq : P.info? elem with
 | none => simp [hq] at hs
 | some i =>
  have hi : i.size = k := by simpa [hq] using hs
  simp [Builtin.copy_, run_underlying hu, Builtin.lenOf, Builtin.firstCells, sizeOf, typeInfo, hq, hi, <- hn, hl, hst]
theorem run_copyN0 {P : Program} (w : World) (dT sT ty elem : TypeId) (d a : Option Addr) (dLen dCap sLen sCap k : Nat) (hu : P.underlying dT = some (.slice elem)) (hs : (P.info? elem).map (·.size) = some k) (hn : Nat.min sLen dLen = 0) :
  (Builtin.copy_ #[dT, sT] ty #[.slice d dLen dCap, .slice a sLen sCap]).run P w = .ok (goInt 0) w := by
 have hl : ∀ a, (loadCells a 0).run P w = .ok #[] w := fun a => run_loadCells_list (P := P) w a [] (fun j v h => by simp at h)
 cases hq : P.info? elem with
 | none => simp [hq] at hs
 | some i =>
  cases d <;> cases a <;> simp [Builtin.copy_, run_underlying hu, Builtin.lenOf, Builtin.firstCells, sizeOf, typeInfo, hq, hn, storeCells, hl]
theorem step_copyN {P : Program} {ops : Array Oper} {o : Oper} {a : Act} {w : World} {K : Act -> World -> Prop} {Q : Exit -> Act -> World -> Prop} {E : Prop} (hgd : o.guard = none) (d s : Operand) (dT sT : TypeId)
  (ho : o.op = .call { callee := .builtin .copy, args := #[d, s], argTypes := #[dT, sT] }) (elem : TypeId) (hu : P.underlying dT = some (.slice elem)) (k : Nat) (hsz : (P.info? elem).map (·.size) = some k)
  (dp sp : Option Addr) (dLen dCap sLen sCap : Nat) (hd : a.eval d = .slice dp dLen dCap) (hs : a.eval s = .slice sp sLen sCap)
  (g off : Nat) (cur : List Value) (t : TypeId) (hg : w.heap[g]? = some (.cells cur.toArray t (0, 0))) (cs : List Value) (hn : cs.length = Nat.min sLen dLen * k) (hk : 0 < k)
  (hpos : 0 < cs.length -> dp = some ⟨g, off, none⟩ /\ ∃ ad, sp = some ad /\ ∀ j v, cs[j]? = some v -> w.cell? (ad.add j) = some v)
  (hfit : off + cs.length <= cur.length) (h1 : ∀ v ∈ cs, v.oneCell' = true) (B : Nat) (w0 : World) (hb : RowKit.Below B w0 w) (hBg : B <= g)
  (h : ∀ w' v, RowKit.Hid (w'.heap[g]? = some (.cells (splice cur off cs).toArray t (0, 0))) -> RowKit.Hid (∀ k, k ≠ g -> w'.heap[k]? = w.heap[k]?) -> RowKit.Below B w0 w' -> K (a.put o.dst v) w') :
  if Region.wanted o (yielded ops a.tmps) = true then Oper.wp P o a w K Q else E := by
 have hw : Region.wanted o (yielded ops a.tmps) = true := by simp [Region.wanted, hgd]
 rw [if_pos hw]
 by_cases h0 : cs.length = 0
 ·obtain rfl : cs = [] := List.eq_nil_of_length_eq_zero h0
  have hz : Nat.min sLen dLen = 0 := by
   rcases Nat.mul_eq_zero.1 (show Nat.min sLen dLen * k = 0 by simpa using hn.symm) with e | e
   ·exact e
   ·omega
  have hrun := run_copyN0 (P := P) w dT sT o.type elem dp sp dLen dCap sLen sCap k hu hsz hz
  unfold Oper.wp
  simp [execOp, ho, resolve, invoke, builtin, hd, hs, hrun, Result.andThen]
  exact h w _ (show _ = _ by simpa [splice] using hg) (fun _ _ => rfl) hb
 ·obtain ⟨rfl, ad, rfl, hsrc⟩ := hpos (by omega)
  have hrun := run_copyN (P := P) w dT sT o.type elem g off dLen dCap ad sLen sCap k cur.toArray t cs hu hsz hg hn hsrc (by simpa using hfit) h1
  unfold Oper.wp
  simp [execOp, ho, resolve, invoke, builtin, hd, hs, hrun, Result.andThen]
  exact h _ _ (show _ = _ by simpa [splice] using setRow_heap w g _ _ t _ hg) (fun k hk => setRow_other w g k _ hk) (below_setRow hb hBg _)
theorem itCells_take (l : List It) (i : Nat) : itCells (l.take i) = (itCells l).take (i * 4) := by
 rcases Nat.le_total i l.length with h | h
 ·have e : itCells l = itCells (l.take i) ++ itCells (l.drop i) := by rw [<- itCells_append, List.take_append_drop]
  have hl : (itCells (l.take i)).length = i * 4 := by rw [itCells_length, List.length_take]; omega
  rw [e, <- hl, List.take_left]
 ·rw [List.take_of_length_le h, List.take_of_length_le (by rw [itCells_length]; omega)]
theorem itCells_drop (l : List It) (i : Nat) : itCells (l.drop i) = (itCells l).drop (i * 4) := by
 rcases Nat.le_total i l.length with h | h
 ·have e : itCells l = itCells (l.take i) ++ itCells (l.drop i) := by rw [<- itCells_append, List.take_append_drop]
  have hl : (itCells (l.take i)).length = i * 4 := by rw [itCells_length, List.length_take]; omega
  rw [e, <- hl, List.drop_left]
 ·rw [List.drop_of_length_le h, List.drop_of_length_le (by rw [itCells_length]; omega)]; rfl
theorem set4 {L : List Value} {p : Nat} (h : p + 4 <= L.length) (a b c d : Value) : (((L.set p a).set (p + 1) b).set (p + 2) c).set (p + 3) d = L.take p ++ ([a, b, c, d] ++ L.drop (p + 4)) := by
 apply List.ext_getElem?
 intro j
 simp only [List.getElem?_set, List.getElem?_append, List.length_take, List.length_set, List.getElem?_take, List.length_cons, List.length_nil, List.getElem?_drop]
 rcases Nat.lt_trichotomy j p with q | q | q
 ·rw [if_neg (by omega), if_neg (by omega), if_neg (by omega), if_neg (by omega), if_pos (by omega), if_pos q]
 ·subst q
  rw [if_neg (by omega), if_neg (by omega), if_neg (by omega), if_pos rfl, if_pos (by omega), if_neg (by omega), if_pos (by omega)]
  simp [show j - min j L.length = 0 by omega]
 ·by_cases q1 : j = p + 1
  ·subst q1
   rw [if_neg (by omega), if_neg (by omega), if_pos rfl, if_pos (by omega), if_neg (by omega), if_pos (by omega)]
   simp [show p + 1 - min p L.length = 1 by omega]
  ·by_cases q2 : j = p + 2
   ·subst q2
    rw [if_neg (by omega), if_pos rfl, if_pos (by omega), if_neg (by omega), if_pos (by omega)]
    simp [show p + 2 - min p L.length = 2 by omega]
   ·by_cases q3 : j = p + 3
    ·subst q3
     rw [if_pos rfl, if_pos (by omega), if_neg (by omega), if_pos (by omega)]
     simp [show p + 3 - min p L.length = 3 by omega]
    ·rw [if_neg (by omega), if_neg (by omega), if_neg (by omega), if_neg (by omega), if_neg (by omega), if_neg (by omega)]
     congr 1; omega
theorem ins_cells {acc : List It} {x z : It} {i cap : Nat} {cur : List Value} (hi : i <= acc.length) (hsz : cur.length = cap * 4) (hnc : acc.length + 1 <= cap) (htk : cur.take ((acc.length + 1) * 4) = itCells acc ++ encIt z) :
  ((((splice cur ((i + 1) * 4) ((itCells acc).drop (i * 4))).set (i * 4) (.string x.name)).set (i * 4 + 1) (.int .i64 x.a)).set (i * 4 + 2) (.int .i64 x.b)).set (i * 4 + 3) (.int .i64 x.c) = itCells (insAt acc x i) ++ cur.drop ((acc.length + 1) * 4) := by
 have hL : (itCells acc).length = acc.length * 4 := itCells_length acc
 have hD : ((itCells acc).drop (i * 4)).length = (acc.length - i) * 4 := by rw [List.length_drop, hL]; omega
 have hcur : cur = itCells acc ++ (encIt z ++ cur.drop ((acc.length + 1) * 4)) := by
  have := List.take_append_drop ((acc.length + 1) * 4) cur
  rw [htk] at this
  rw [<- List.append_assoc]; exact this.symm
 have hlen : (splice cur ((i + 1) * 4) ((itCells acc).drop (i * 4))).length = cur.length := length_splice _ _ _ (by rw [hD, hsz]; omega)
 rw [set4 (by rw [hlen, hsz]; omega)]
 have e1 : (splice cur ((i + 1) * 4) ((itCells acc).drop (i * 4))).take (i * 4) = itCells (acc.take i) := by
  unfold splice
  rw [List.take_append_of_le_length (by rw [List.length_take, hsz]; omega), List.take_take, show min (i * 4) ((i + 1) * 4) = i * 4 by omega]
  rw [hcur, List.take_append_of_le_length (by rw [hL]; omega), itCells_take]
 have e2 : (splice cur ((i + 1) * 4) ((itCells acc).drop (i * 4))).drop (i * 4 + 4) = itCells (acc.drop i) ++ cur.drop ((acc.length + 1) * 4) := by
  unfold splice
  have hl : (cur.take ((i + 1) * 4)).length = i * 4 + 4 := by rw [List.length_take, hsz]; omega
  rw [<- hl, List.drop_left, itCells_drop, hD]
  congr 2; omega
 rw [e1, e2]
 unfold insAt
 rw [itCells_append]
 show _ = (_ ++ itCells (x :: acc.drop i)) ++ _
 rw [show itCells (x :: acc.drop i) = encIt x ++ itCells (acc.drop i) from rfl]
 simp [encIt]
theorem insR_facts {w3 : World} {B i : Nat} {acc : List It} {x z : It} {v' : Value} (hi : i <= acc.length) (hown : w3.ownsRow B 69 4 v' (acc.length + 1) (itCells acc ++ encIt z)) :
  ∃ (g cap : Nat) (cur CS : List Value), v' = .slice (some ⟨g, 0, none⟩) (acc.length + 1) cap /\ B <= g /\ acc.length + 1 <= cap /\ w3.heap[g]? = some (.cells cur.toArray 69 (0, 0)) /\
   (∀ w4 : World, w4.heap[g]? = some (.cells (splice cur ((i + 1) * 4) CS).toArray 69 (0, 0)) -> (∃ c0 c1 c2 c3, w4.cell? ⟨g, i * 4, none⟩ = some c0 /\ w4.cell? ⟨g, i * 4 + 1, none⟩ = some c1 /\ w4.cell? ⟨g, i * 4 + 2, none⟩ = some c2 /\ w4.cell? ⟨g, i * 4 + 3, none⟩ = some c3) /\ (∀ j, w4.frozen? ⟨g, j, none⟩ = false) /\ ((((w4.setCell ⟨g, i * 4, none⟩ (.string x.name)).setCell ⟨g, i * 4 + 1, none⟩ (.int .i64 x.a)).setCell ⟨g, i * 4 + 2, none⟩ (.int .i64 x.b)).setCell ⟨g, i * 4 + 3, none⟩ (.int .i64 x.c)).ownsRow B 69 4 (.slice (some ⟨g, 0, none⟩) (acc.length + 1) cap) (acc.length + 1) (itCells (insAt acc x i))) /\
   (∀ j v, CS[j]? = some v -> w3.cell? ⟨g, i * 4 + j, none⟩ = some v) /\ (∀ v ∈ CS, v.oneCell' = true) /\ CS.length = Nat.min (acc.length + 1 - i) (acc.length + 1 - (i + 1)) * 4 /\ (i + 1) * 4 + CS.length <= cur.length := by
 rcases hown.2 with ⟨_, h0'⟩ | ⟨g, cap, cur, rfl, hBg, hg, hnc, hmx, hsz, htk⟩
 ·exact absurd h0' (by simp)
 have hL : (itCells acc).length = acc.length * 4 := itCells_length acc
 have hD : ((itCells acc).drop (i * 4)).length = (acc.length - i) * 4 := by rw [List.length_drop, hL]; omega
 have hsz' : cur.toList.length = cap * 4 := by simpa using hsz
 refine ⟨g, cap, cur.toList, (itCells acc).drop (i * 4), rfl, hBg, hnc, by simpa using hg, fun w4 h4 => ?_, fun j v hv => ?_, fun v hv => ?_, ?_, ?_⟩
 ·have hlen : (splice cur.toList ((i + 1) * 4) ((itCells acc).drop (i * 4))).length = cap * 4 := by rw [length_splice _ _ _ (by rw [hD, hsz']; omega), hsz']
  have hB : Blk w4 g 69 (splice cur.toList ((i + 1) * 4) ((itCells acc).drop (i * 4))).toArray := h4
  have hex : ∀ j, j < cap * 4 -> ∃ u, w4.cell? ⟨g, j, none⟩ = some u := fun j hj => by
   rw [hB.cell]
   exact ⟨(splice cur.toList ((i + 1) * 4) ((itCells acc).drop (i * 4)))[j]'(by rw [hlen]; exact hj), by rw [List.getElem?_toArray, List.getElem?_eq_getElem]⟩
  obtain ⟨c0, h0⟩ := hex (i * 4) (by omega)
  obtain ⟨c1, h1⟩ := hex (i * 4 + 1) (by omega)
  obtain ⟨c2, h2⟩ := hex (i * 4 + 2) (by omega)
  obtain ⟨c3, h3⟩ := hex (i * 4 + 3) (by omega)
  refine ⟨⟨c0, c1, c2, c3, h0, h1, h2, h3⟩, fun j => hB.frozen j, ?_⟩
  have hF := (((hB.set (i := i * 4) (v := .string x.name)).set (i := i * 4 + 1) (v := .int .i64 x.a)).set (i := i * 4 + 2) (v := .int .i64 x.b)).set (i := i * 4 + 3) (v := .int .i64 x.c)
  refine ⟨by rw [itCells_length, insAt_len], Or.inr ⟨g, cap, _, rfl, hBg, hF, hnc, hmx, by simp [hlen], ?_⟩⟩
  simp only [List.setIfInBounds_toArray]
  rw [ins_cells hi hsz' hnc (by simpa using htk)]
  have : (itCells (insAt acc x i)).length = (acc.length + 1) * 4 := by rw [itCells_length, insAt_len]
  rw [<- this, List.take_left]
 ·have hj : i * 4 + j < acc.length * 4 := by have := (List.getElem?_eq_some_iff.1 hv).1; rw [hD] at this; omega
  rw [(show Blk w3 g 69 cur from hg).cell, <- hv, List.getElem?_drop, <- Array.getElem?_toList, show cur.toList[i * 4 + j]? = (cur.toList.take ((acc.length + 1) * 4))[i * 4 + j]? by rw [List.getElem?_take, if_pos (by omega)], htk, List.getElem?_append_left (by rw [hL]; omega)]
 ·have hm := List.mem_of_mem_drop hv
  unfold itCells at hm
  obtain ⟨y, _, hy⟩ := List.mem_flatMap.1 hm
  simp only [encIt, List.mem_cons, List.not_mem_nil, or_false] at hy
  rcases hy with rfl | rfl | rfl | rfl <;> rfl
 ·rw [hD]; show _ = min _ _ * 4; omega
 ·rw [hD, hsz']; omega
end
section
open Go.RowKit Sv
theorem rcmp_any (a b c d e f : Int) (w : World) :
  Calls Tryz.prog 88 #[.agg #[.int .i64 a, .int .i64 b, .int .i64 c], .agg #[.int .i64 d, .int .i64 e, .int .i64 f]] w fun r w' => r = .returned (.int .i64 (cmp3 (tI a b c) (tI d e f) 3)) /\ Below w.heap.size w w' := by
 have kv := (Blk.new w 48 #[.int .i64 a, .int .i64 b, .int .i64 c]).alloc (.cells #[.int .i64 d, .int .i64 e, .int .i64 f] 48)
 have kw := Blk.new (w.alloc (.cells #[.int .i64 a, .int .i64 b, .int .i64 c] 48)) 48 #[.int .i64 d, .int .i64 e, .int .i64 f]
 rw [World.size_alloc] at kw
 have hB0 : Below w.heap.size w ((w.alloc (.cells #[.int .i64 a, .int .i64 b, .int .i64 c] 48)).alloc (.cells #[.int .i64 d, .int .i64 e, .int .i64 f] 48)) := ((Below.refl _ w).alloc (Nat.le_refl _) _).alloc (by simp only [World.size_alloc]; omega) _
 have HB0 := Lib.hid hB0
 have HX : Hid (∀ W, Below ((w.alloc (.cells #[.int .i64 a, .int .i64 b, .int .i64 c] 48)).alloc (.cells #[.int .i64 d, .int .i64 e, .int .i64 f] 48)).heap.size ((w.alloc (.cells #[.int .i64 a, .int .i64 b, .int .i64 c] 48)).alloc (.cells #[.int .i64 d, .int .i64 e, .int .i64 f] 48)) W -> ∀ j, j < 3 -> W.cell? ⟨w.heap.size, j, none⟩ = some (.int .i64 (tI a b c j)) /\ W.cell? ⟨w.heap.size + 1, j, none⟩ = some (.int .i64 (tI d e f j))) := fun W hb j hj => by
  rw [(kv.below hb kv.lt).cell j, (kw.below hb kw.lt).cell j]
  match j, hj with
  | 0, _ => exact ⟨rfl, rfl⟩
  | 1, _ => exact ⟨rfl, rfl⟩
  | 2, _ => exact ⟨rfl, rfl⟩
 clear kv kw hB0
 go_enter Tryz.func88, Tryz.ntmps88
 go_wp2_with fail
 generalize (w.alloc (.cells #[.int .i64 a, .int .i64 b, .int .i64 c] 48)).alloc (.cells #[.int .i64 d, .int .i64 e, .int .i64 f] 48) = W0 at *
 go_loopw [6] (fun iV wr => ∃ k : Nat, k <= 3 /\ iV = .int .i64 (k : Int) /\ cmp3 (tI a b c) (tI d e f) 3 = cmp3 (tI a b c) (tI d e f) (3 - k) /\ Below W0.heap.size W0 wr) (fun iV _ => 3 - (intOf iV).toNat)
 case atStart => exact ⟨0, by omega, rfl, rfl, Below.refl _ _⟩
 case round =>
  obtain ⟨k, hk, rfl, heq, hbr⟩ := hrel
  have HE := Lib.hid heq
  have HBR := Lib.hid hbr
  clear heq hbr
  by_cases hlt : k < 3
  ·have hcells := fun (n : Nat) => HX.out (wr.drewN n) ⟨HBR.out.os, HBR.out.tape, HBR.out.output, HBR.out.size, HBR.out.block⟩ k hlt
   obtain ⟨c0, c1⟩ := HX.out wr HBR.out k hlt
   have HS : Hid (cmp3 (tI a b c) (tI d e f) (3 - k) = if cmpI (tI a b c k) (tI d e f k) ≠ 0 then cmpI (tI a b c k) (tI d e f k) else cmp3 (tI a b c) (tI d e f) (3 - (k + 1))) := by
    show _ = _
    match k, hlt with
    | 0, _ => rfl
    | 1, _ => rfl
    | 2, _ => rfl
   have HCL := Lib.hid hcells
   clear hcells
   generalize tI a b c k = X at *
   generalize tI d e f k = Y at *
   have HBN : Hid (∀ n, Below W0.heap.size W0 (wr.drewN n)) := fun n => ⟨HBR.out.os, HBR.out.tape, HBR.out.output, HBR.out.size, HBR.out.block⟩
   by_cases h1 : X < Y
   ·have HC : Hid (cmpI X Y = -1) := by show _ = _; unfold cmpI; rw [if_pos h1]
    go_wp2_with fail
    go_quiet (fail)
    go_wp2
    go_ret
    exact ⟨by rw [HE.out, HS.out, HC.out]; rfl, HB0.out.trans ((HBN.out _).mono HB0.out.size)⟩
   ·by_cases h2 : Y < X
    ·have HC : Hid (cmpI X Y = 1) := by show _ = _; unfold cmpI; rw [if_neg h1, if_pos h2]
     go_wp2_with fail
     go_quiet (fail)
     have d0 := (HCL.out nq).1
     have d1 := (HCL.out nq).2
     have HB9 := Lib.hid (HBN.out nq)
     clear c0 c1 HBN HCL
     generalize wr.drewN nq = W9 at *
     go_wp2_with fail
     go_quiet (fail)
     have HBN : Hid (∀ n, Below W0.heap.size W0 (W9.drewN n)) := fun n => ⟨HB9.out.os, HB9.out.tape, HB9.out.output, HB9.out.size, HB9.out.block⟩
     go_wp2
     go_ret
     exact ⟨by rw [HE.out, HS.out, HC.out]; rfl, HB0.out.trans ((HBN.out _).mono HB0.out.size)⟩
    ·have HC : Hid (cmpI X Y = 0) := by show _ = _; unfold cmpI; rw [if_neg h1, if_neg h2]
     go_wp2_with fail
     go_quiet (fail)
     have d0 := (HCL.out nq).1
     have d1 := (HCL.out nq).2
     have HB9 := Lib.hid (HBN.out nq)
     clear c0 c1 HBN HCL
     generalize wr.drewN nq = W9 at *
     go_wp2_with fail
     go_quiet (fail)
     have HBN : Hid (∀ n, Below W0.heap.size W0 (W9.drewN n)) := fun n => ⟨HB9.out.os, HB9.out.tape, HB9.out.output, HB9.out.size, HB9.out.block⟩
     go_wp2
     go_roundw
     case rel => exact ⟨k + 1, by omega, by go_num, by rw [HE.out, HS.out, HC.out, if_neg (by simp)], HBN.out _⟩
     case measure => simp [intOf]; omega
  ·obtain rfl : k = 3 := by omega
   go_wp2
   go_ret
   exact ⟨by rw [HE.out]; rfl, HB0.out.trans (HBR.out.mono HB0.out.size)⟩
end
end Go.Proofs.YtmhophccdfmngaaGreatDoor
