/- The contract of trimmed. -/
import Derived.Test.YtcjjekhecjmaeaaGreatDoorImShelf
import Derived.Test.YtcjjekhecjmaeaaGreatDoorBdErr
import Derived.Test.YtcjjekhecjmaeaaGreatDoorBdDone
import Derived.Test.YtcjjekhecjmaeaaGreatDoorErErrs
import Derived.Test.YtcjjekhecjmaeaaGreatDoorBdTab
set_option maxHeartbeats 1000000
set_option maxRecDepth 100000
namespace Go.Proofs.YtcjjekhecjmaeaaGreatDoor
section
open Go.RowKit Go.Extern.Stop Go.Stop Go.Extern
theorem place_nil (w : World) : Calls Tryz.prog 23 #[.nilIface] w fun e w' => e = .returned (.tuple #[.int .i64 0, .int .i64 (-1)]) /\ w = w' := by
 go_enter Tryz.func23, Tryz.ntmps23
 go_wp2_with fail
 refine (tell_nil _).mono ?_
 rintro e w' ⟨rfl, rfl⟩
 go_wp2_with fail
 refine wp_loop_rounds 1 ?_
 rw [rounds_succ]
 go_wp2
 go_ret2
 exact ⟨rfl, rfl⟩
theorem noAt (n : Int) (w : World) : (Instr.typeAssert (.iface 54 (.int .i64 n)) 32 118 true).run Tryz.prog w = .ok (.tuple #[.pointer none, .bool false]) w := by kernel_rfl
theorem noUnwrap (n : Int) (w : World) : (Instr.typeAssert (.iface 54 (.int .i64 n)) 32 121 true).run Tryz.prog w = .ok (.tuple #[.nilIface, .bool false]) w := run_typeAssert_lacksB Tryz.underlying121 (by kernel_rfl) (by kernel_rfl) _ 32 w
theorem place_errno (n : Int) (w : World) (hg : Glob w) : Calls Tryz.prog 23 #[.iface 54 (.int .i64 n)] w fun e w' => e = .returned (.tuple #[.int .i64 n, .int .i64 (-1)]) /\ Below w.heap.size w w' := by
 have H := tell_errno n w hg
 have h1 := noAt n
 have h2 := noUnwrap n
 go_enter Tryz.func23, Tryz.ntmps23
 go_wp2_with fail
 refine H.mono ?_
 rintro e w' ⟨rfl, hb⟩
 clear H
 go_wp2_with fail
 refine wp_loop_rounds 1 ?_
 rw [rounds_succ]
 go_wp2
 go_ret2
 exact ⟨rfl, hb⟩
def errOf (m : Int) : Value := if m = 0 then .nilIface else .iface 54 (.int .i64 m)
theorem refBare (k : Int) (w : World) : Calls Tryz.prog 53 #[.int .i64 k] w fun e w' => e = .returned (.agg #[.int .i64 k, .int .i64 (-1)]) /\ Below w.heap.size w w' := by
 go_enter Tryz.func53, Tryz.ntmps53
 go_wp2
 exact bodyPost_ret (v := .agg #[.int .i64 k, .int .i64 (-1)]) (by simp [results, Tryz.results53, go_sem]) rfl ⟨rfl, (Below.refl _ _).alloc (Nat.le_refl _) _⟩
theorem at_any (m k pl pk : Int) (v : Value) (w : World) (H : ∀ W : World, Below w.heap.size w W -> Calls Tryz.prog 23 #[v] W fun e w' => e = .returned (.tuple #[.int .i64 m, .int .i64 pl]) /\ Below W.heap.size W w') :
  Calls Tryz.prog 52 #[v, .agg #[.int .i64 k, .int .i64 pk]] w fun e w' => e = .returned (.bool (m == k && pl == pk)) /\ Below w.heap.size w w' := by
 have HH : Hid (∀ W : World, Below w.heap.size w W -> Calls Tryz.prog 23 #[v] W fun e w' => e = .returned (.tuple #[.int .i64 m, .int .i64 pl]) /\ Below W.heap.size W w') := H
 clear H
 have hb1 : Below w.heap.size w (w.alloc (.cells #[.int .i64 k, .int .i64 pk] 108)) := (Below.refl _ _).alloc (Nat.le_refl _) _
 have fin : ∀ q r : Bool, (m == k) = q -> (pl == pk) = r -> Calls Tryz.prog 52 #[v, .agg #[.int .i64 k, .int .i64 pk]] w fun e w' => e = .returned (.bool (q && r)) /\ Below w.heap.size w w' := by
  intro q r hq hr
  cases q <;> cases r
  all_goals
   go_enter Tryz.func52, Tryz.ntmps52
   go_wp2_with fail
   refine (HH.out _ hb1).mono ?_
   rintro e w2 ⟨rfl, hb2⟩
   have c0 : w2.cell? ⟨w.heap.size, 0, none⟩ = some (.int .i64 k) := (hb2.cell (p := ⟨w.heap.size, 0, none⟩) (by simp)).trans (by simp)
   have c1 : w2.cell? ⟨w.heap.size, 1, none⟩ = some (.int .i64 pk) := (hb2.cell (p := ⟨w.heap.size, 1, none⟩) (by simp)).trans (by simp)
   have hb3 : Below w.heap.size w w2 := hb1.trans (hb2.mono (by simp))
   clear hb2
   go_wp2
   go_ret
   exact ⟨rfl, hb3⟩
 exact fin _ _ rfl rfl
theorem bare_core (m k pl : Int) (v : Value) (w : World) (H : ∀ W : World, Below w.heap.size w W -> Calls Tryz.prog 23 #[v] W fun e w' => e = .returned (.tuple #[.int .i64 m, .int .i64 pl]) /\ Below W.heap.size W w') :
  Calls Tryz.prog 20 #[v, .int .i64 k] w fun e w' => e = .returned (.bool (m == k && pl == -1)) /\ Below w.heap.size w w' := by
 have HH : Hid (∀ W : World, Below w.heap.size w W -> Calls Tryz.prog 23 #[v] W fun e w' => e = .returned (.tuple #[.int .i64 m, .int .i64 pl]) /\ Below W.heap.size W w') := H
 clear H
 generalize hz : (m == k && pl == -1) = z
 go_enter Tryz.func20, Tryz.ntmps20
 go_wp2_with fail
 refine (refBare k _).mono ?_
 rintro e w1 ⟨rfl, hb1⟩
 have HA := at_any m k pl (-1) v w1 (fun W hW => HH.out W (hb1.trans (hW.mono hb1.size)))
 rw [hz] at HA
 clear hz
 go_wp2_with fail
 refine HA.mono ?_
 rintro e w2 ⟨rfl, hb2⟩
 go_wp2
 go_ret
 exact ⟨rfl, hb1.trans (hb2.mono hb1.size)⟩
theorem bare_errno (m k : Int) (w : World) (hg : Glob w) : Calls Tryz.prog 20 #[.iface 54 (.int .i64 m), .int .i64 k] w fun e w' => e = .returned (.bool (m == k)) /\ Below w.heap.size w w' := by
 have := bare_core m k (-1) (.iface 54 (.int .i64 m)) w (fun W hW => place_errno m W (hg.below hW))
 simpa using this
theorem bare_nil (k : Int) (w : World) : Calls Tryz.prog 20 #[.nilIface, .int .i64 k] w fun e w' => e = .returned (.bool (0 == k)) /\ Below w.heap.size w w' := by
 have := bare_core 0 k (-1) .nilIface w (fun W _ => (place_nil W).mono fun e w' ⟨he, hw⟩ => ⟨he, hw ▸ Below.refl _ _⟩)
 simpa using this
end
section
open Go.RowKit Go.Maps
def codeH (ns : List Nd) (x : Int) : Int := if hasB ns x = true then 0 else 7
def codeV (vars : Nat) (ns : List Nd) (x v : Int) : Int := if v < 0 \/ (vars : Int) <= v then 2 else codeH ns x
section
variable {B s b : Nat} {O : Nat -> Prop} {vars : Nat} {room : Int} {ns : List Nd} {w w' : World}
theorem joined_end (h : SpaceAt B w s b O vars room ns) (hl : ns.length <= 90000) (x v : Int) (hi : I64 x) (hx : topOf ns x = 24) (J : Value) (dk : Nat) :
  Calls Tryz.prog 140 #[.pointer (some ⟨s, 0, none⟩), .int .i64 x, .int .i64 v, J, .map (some dk)] w fun e w' => e = .returned (.tuple #[.int .i64 x, .nilIface]) /\ Below w.heap.size w w' := by
 have HG := Lib.hid (spGet h x hi hl)
 have c0 := h.c0
 rw [show decide (topOf ns x ≠ 24) = false by simp [hx]] at HG
 generalize getOf ns x = gn at *
 obtain ⟨gv, gl, gh⟩ := gn
 unfold Nd.val at HG
 clear h hx
 go_enter Tryz.func140, Tryz.ntmps140
 go_wp2_with fail
 refine HG.out.mono ?_
 rintro e w1 ⟨rfl, hb1⟩
 have hb2 := hb1.alloc hb1.size (.cells #[.int .i64 gv, .int .i64 gl, .int .i64 gh] 102)
 have HB2 := Lib.hid hb2
 clear HG hb1 hb2
 go_wp2
 go_ret2
 exact ⟨rfl, HB2.out⟩
theorem without_code (h : SpaceAt B w s b O vars room ns) (hl : ns.length <= 90000) (x v : Int) (hi : I64 x) (hx : topOf ns x = 24) (J : Value) :
  Calls Tryz.prog 102 #[.pointer (some ⟨s, 0, none⟩), .int .i64 x, .int .i64 v, J] w fun e w' => (∃ r, e = .returned (.tuple #[.int .i64 r, errOf (codeV vars ns x v)])) /\ Below w.heap.size w w' := by
 by_cases hv : v < 0 \/ (vars : Int) <= v
 ·have e : errOf (codeV vars ns x v) = .iface 54 (.int .i64 2) := by rw [show codeV vars ns x v = 2 by unfold codeV; rw [if_pos hv]]; rfl
  rw [e]
  have HV := Lib.hid (variable_no h v hv)
  clear h hx hv e
  go_enter Tryz.func102, Tryz.ntmps102
  go_wp2_with fail
  refine HV.out.mono ?_
  rintro e w1 ⟨rfl, rfl⟩
  go_wp2
  go_ret2
  exact ⟨⟨_, rfl⟩, Below.refl _ _⟩
 ·have HV := Lib.hid (variable_any h v (by omega) (by omega))
  have hb1 := below_new w (.cells #[.int .i64 x] 3)
  cases hh : hasB ns x with
  | false =>
   have e : errOf (codeV vars ns x v) = .iface 54 (.int .i64 7) := by rw [show codeV vars ns x v = 7 by unfold codeV codeH; rw [if_neg hv, hh]; rfl]; rfl
   rw [e]
   have HP := present_no (cp := 1) (h.new hb1) hl w.heap.size [x] (ints1 w x hi) (by simp) ⟨x, List.mem_singleton.2 rfl, hh⟩
   rw [show [x].length = 1 from rfl] at HP
   have HPR := Lib.hid HP
   have HB := Lib.hid hb1
   clear h hx hv e HP hb1 hh
   go_enter Tryz.func102, Tryz.ntmps102
   go_wp2_with fail
   refine HV.out.mono ?_
   rintro e w1 ⟨rfl, rfl⟩
   go_wp2_with fail
   refine HPR.out.mono ?_
   rintro e w1 ⟨rfl, rfl⟩
   go_wp2
   go_ret2
   exact ⟨⟨_, rfl⟩, HB.out⟩
  | true =>
   have e : errOf (codeV vars ns x v) = .nilIface := by rw [show codeV vars ns x v = 0 by unfold codeV codeH; rw [if_neg hv, hh]; rfl]; rfl
   rw [e]
   have HP := present_any (cp := 1) (h.new hb1) hl w.heap.size [x] (ints1 w x hi) (by simp) (fun y hy => by rw [List.mem_singleton] at hy; subst hy; exact hh)
   rw [show [x].length = 1 from rfl] at HP
   have HPR := Lib.hid HP
   have e1 : (w.alloc (.cells #[.int .i64 x] 3)).heap.size = w.heap.size + 1 := by simp
   have hb2 : Below w.heap.size w ((w.alloc (.cells #[.int .i64 x] 3)).alloc (.map #[] 0)) := hb1.alloc hb1.size _
   have HJ := Lib.hid (joined_end (h.new hb2) hl x v hi hx J (w.heap.size + 1))
   have hmm := @run_makeMap Tryz.prog
   have HB2 := Lib.hid hb2
   clear h hx hv e HP hb1 hh hb2
   go_enter Tryz.func102, Tryz.ntmps102
   go_wp2_with fail
   refine HV.out.mono ?_
   rintro e w1 ⟨rfl, rfl⟩
   go_wp2_with fail
   refine HPR.out.mono ?_
   rintro e w1 ⟨rfl, rfl⟩
   clear HV HPR
   go_wp2_with fail
   refine HJ.out.mono ?_
   rintro e w1 ⟨rfl, hb3⟩
   have HB3 := Lib.hid (HB2.out.trans (hb3.mono HB2.out.size))
   clear HJ hb3
   go_wp2
   go_ret2
   exact ⟨⟨_, rfl⟩, HB3.out⟩
theorem set_code (h : SpaceAt B w s b O vars room ns) (hl : ns.length <= 90000) (x v : Int) (hi : I64 x) (hx : topOf ns x = 24) (is : Bool) :
  Calls Tryz.prog 68 #[.pointer (some ⟨s, 0, none⟩), .int .i64 x, .int .i64 v, .bool is] w fun e w' => (∃ r, e = .returned (.tuple #[.int .i64 r, errOf (codeV vars ns x v)])) /\ Below w.heap.size w w' := by
 have hb := below_new w (.cells #[.bool is] 4)
 have HC := Lib.hid (without_code (h.new hb) hl x v hi hx (.func (.func 103) #[] #[.pointer (some ⟨w.heap.size, 0, none⟩)]))
 have HB := Lib.hid hb
 generalize errOf (codeV vars ns x v) = ev at *
 clear h hx hb
 go_enter Tryz.func68, Tryz.ntmps68
 go_wp2_with fail
 refine HC.out.mono ?_
 rintro e w' ⟨⟨r, rfl⟩, hb2⟩
 have HB3 := Lib.hid (HB.out.trans (hb2.mono HB.out.size))
 clear HC hb2
 go_wp2
 go_ret2
 exact ⟨⟨_, rfl⟩, HB3.out⟩
end
end
section
open Go.RowKit Go.Maps
structure NV where
 a : Option Addr
 n : Nat
 c : Nat
def NV.val (x : NV) : Value := .agg #[.slice x.a x.n x.c]
def NV.dat (x : NV) : DataW Unit :=
 match x.a with
 | none => .agg [.lit (.int .i64 x.n), .lit (.int .i64 x.c)]
 | some ⟨b, o, none⟩ => .agg [.lit (.int .i64 x.n), .lit (.int .i64 x.c), .lit (.int .i64 b), .lit (.int .i64 o)]
 | some ⟨b, o, some s⟩ => .agg [.lit (.int .i64 x.n), .lit (.int .i64 x.c), .lit (.int .i64 b), .lit (.int .i64 o), .lit (.int .i64 s)]
def natR (v : Value) : Option (DataW Unit × List MemPlace) :=
 match v with
 | .agg cs =>
  match cs.toList with
  | [.slice a n c] => some (NV.dat ⟨a, n, c⟩, [])
  | _ => none
 | _ => none
def NRep (D : DataW Unit) (L : List (Int × NV)) : Prop := Rep I64 (fun x => Lit.int .i64 x) NV.dat D L
section
variable {w : World} {bm n : Nat} {D : DataW Unit} {L : List (Int × NV)}
end
end
section
open Go.RowKit Go.Maps
def cntV : Nat -> Nat -> Fn' -> (Nat -> Bool) -> Nat
 | 0, _, g, f => if g f then 1 else 0
 | k + 1, v, g, f => cntV k (v + 1) g (turn f v false) + cntV k (v + 1) g (turn f v true)
def waysN (vars : Nat) (ns : List Nd) (h : Int) (v : Nat) : Nat := cntV (vars - v) v (sem ns h) (fun _ => false)
def topN (vars : Nat) (ns : List Nd) (h : Int) : Nat := min (topOf ns h).toNat vars
def belowN (vars : Nat) (ns : List Nd) (h : Int) : Nat := waysN vars ns h (topN vars ns h)
section
variable {vars : Nat} {ns : List Nd}
end
end
section
open Go.RowKit Num Go.Sort
theorem Dig.take {k : IntKind} {w : World} {a : Option Addr} {cap n : Nat} {ds : List Nat} (h : Dig k w (.slice a ds.length cap) ds) (hn : n <= ds.length) : Dig k w (.slice a n cap) (ds.take n) := by
 obtain ⟨a', cap', hv, hc, hi⟩ := h
 cases hv
 have hl : (ds.take n).length = n := by rw [List.length_take, Nat.min_eq_left hn]
 refine ⟨a, cap, by rw [hl], by omega, fun i hlt => ?_⟩
 rw [hl] at hlt
 obtain ⟨b, off, ha, hb, hcell⟩ := hi i (by omega)
 exact ⟨b, off, ha, hb, by rw [dig_take, if_pos hlt]; exact hcell⟩
theorem Dig.setCell {k : IntKind} {w : World} {v : Value} {ds : List Nat} {B : Nat} (h : Dig k w v ds) (hb : w.heap.size <= B) {W : World} (hW : Below w.heap.size w W) (u : Value) : Dig k (W.setCell ⟨B, 0, none⟩ u) v ds :=
 h.below (hW.setCell hb u)
theorem trimmed_any (v : Value) (ds : List Nat) (w : World) (hd : Dig .u64 w v ds) (sm : ∀ i, dig ds i < 1000000000) (hl : ds.length <= 100000) :
  Calls Tryz.prog 142 #[v] w fun e w' => ∃ v', e = .returned (.agg #[v']) /\ ∃ ds', Dig .u64 w' v' ds' /\ Norm 1000000000 ds' /\ val 1000000000 ds' = val 1000000000 ds /\ ds'.length <= ds.length /\ Below w.heap.size w w' := by
 obtain ⟨a, cap, hv, hc, hcell⟩ := id hd
 subst hv
 have HC : Hid (∀ i, i < ds.length -> ∃ b off, a = some ⟨b, off, none⟩ /\ b < w.heap.size /\ w.cell? ⟨b, off + i, none⟩ = some (.int .u64 ((dig ds i : Nat) : Int))) := hcell
 clear hcell
 go_enter Tryz.func142, Tryz.ntmps142
 go_wp2_with fail
 go_loop [3] (fun n => ∃ k : Nat, k <= ds.length /\ n = .int .i64 k /\ ∀ i, k <= i -> dig ds i = 0) (fun n => (intOf n).toNat)
 case atStart => exact ⟨ds.length, Nat.le_refl _, rfl, fun i hi => dig_beyond ds i hi⟩
 case round =>
  obtain ⟨k, hk, rfl, hz⟩ := hrel
  have HZ : Hid (∀ i, k <= i -> dig ds i = 0) := hz
  clear hz
  by_cases h0 : k = 0
  ·subst h0
   have hx := norm_take (B := 1000000000) (k := 0) (by omega) sm (Nat.zero_le _) (fun h => absurd rfl h)
   have hval := val_take (B := 1000000000) (k := 0) (Nat.zero_le _) HZ.out
   have hnil : ds.take 0 = [] := rfl
   rw [hnil] at hx hval
   go_wp2
   refine bodyPost_ret (v := .agg #[.slice none 0 0]) (by simp [results, Tryz.results142, go_sem]) rfl ?_
   exact ⟨_, rfl, [], Dig.nil _ _, hx, hval, Nat.zero_le _, (Below.refl _ _).alloc (Nat.le_refl _) _⟩
  ·obtain ⟨j, rfl⟩ : ∃ j, k = j + 1 := ⟨k - 1, by omega⟩
   obtain ⟨b, off, ha, hb, hcl⟩ := HC.out j (by omega)
   subst ha
   have hne : ¬ b = w.heap.size := by omega
   have hj := sm j
   by_cases hzj : dig ds j = 0
   ·rw [hzj] at hcl
    go_wp2
    go_round
    case rel =>
     refine ⟨j, by omega, by go_num, fun i hi => ?_⟩
     by_cases e : i = j
     ·rw [e]; exact hzj
     ·exact HZ.out i (by omega)
    case measure => simp [intOf]
   ·have hbq : (((dig ds j : Nat) : Int) == 0) = false := by rw [beq_eq_false_iff_ne]; omega
    have hx := norm_take (B := 1000000000) (k := j + 1) (by omega) sm hk (fun _ => hzj)
    have hval := val_take (B := 1000000000) hk HZ.out
    have hDt := Dig.take hd hk
    clear hzj
    go_wp2
    refine bodyPost_ret (v := .agg #[.slice (some ⟨b, off, none⟩) (j + 1) cap]) (by simp [results, Tryz.results142, go_sem]) rfl ?_
    exact ⟨_, rfl, ds.take (j + 1), hDt.below ((Below.refl _ _).alloc (Nat.le_refl _) _), hx, hval, by rw [List.length_take]; omega, (Below.refl _ _).alloc (Nat.le_refl _) _⟩
end
end Go.Proofs.YtcjjekhecjmaeaaGreatDoor
