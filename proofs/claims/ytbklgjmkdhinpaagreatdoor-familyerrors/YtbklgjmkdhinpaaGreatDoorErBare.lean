/- plain.Place and the laws' 'bare', by their contracts: of nil and of a plain Errno. -/
import Derived.Test.YtbklgjmkdhinpaaGreatDoorFmEMake
import Derived.Test.YtbklgjmkdhinpaaGreatDoorFmFun
set_option maxHeartbeats 2000000
set_option maxRecDepth 100000
namespace Go.Proofs.YtbklgjmkdhinpaaGreatDoor.Fm
open Go.RowKit Go.Maps Go.Proofs.YtbklgjmkdhinpaaGreatDoor.Bd
theorem makeF_nd {ns : List Nd} {n : Nd} {j : Nat} (hj : j < (makeF ns n).1.length) : nd (makeF ns n).1 j = n \/ ∃ i, i < ns.length /\ nd (makeF ns n).1 j = nd ns i := by
 unfold makeF at hj ⊢
 split at hj
 ·rename_i h
  rw [if_pos h]
  exact .inr ⟨j, hj, rfl⟩
 ·rename_i h
  rw [if_neg h]
  simp only at hj ⊢
  have hk : lfree ns <= ns.length := lfree_le ns
  by_cases e : j = lfree ns
  ·left; rw [putN_at hk j (.inr e), if_pos e]
  ·have hj2 : j < ns.length := by
    have h2 := hj
    unfold putN at h2
    rw [List.length_set] at h2
    split at h2
    ·rw [List.length_append, List.length_singleton] at h2; omega
    ·exact h2
   exact .inr ⟨j, hj2, by rw [putN_at hk j (.inl hj2), if_neg e]⟩
def OneT (B Z : Nat) (S : Nat -> Prop) (c : Ctx) (vars : Nat) (w : World) (u : Nat) (h : Int) (wr : World) : Prop :=
 u <= vars /\ vars <= 24 /\ Kept S w wr /\ Z <= w.heap.size /\ (∀ k, Z <= k -> S k) /\ S c.wk /\ ((∃ ns' O', CtxAt B wr c O' vars ns' /\ (∀ k, O' k -> S k) /\ hasB ns' h = true /\ (u : Int) <= topOf ns' h /\ h ≠ 0 /\ ∀ j, j < ns'.length -> (u : Int) <= (nd ns' j).v) \/ (h = 0 /\ ErrW c.wk c.s wr))
section
variable {B Z s b : Nat} {S : Nat -> Prop} {c : Ctx} {O : Nat -> Prop} {vars room : Nat} {ns : List Nd} {w w' : World}
theorem onet_node {u : Nat} {h : Int} (hS : OneT B Z S c vars w (u + 1) h w') :
  Calls Tryz.prog 85 #[.pointer (some ⟨c.wk, 0, none⟩), .int .i64 (u : Int), .agg #[.int .i64 0, .int .i64 h]] w' fun e w'' => ∃ h', e = .returned (.int .i64 h') /\ OneT B Z S c vars w u h' w'' := by
 obtain ⟨h1, hv24, hb, hZ, hSZ, hwS, ⟨ns', O', hC, hOS, hh, ht, hn0, hall⟩ | ⟨rfl, hE⟩⟩ := hS
 ·have hl := hC.len
  have hcl := Go.Proofs.YtbklgjmkdhinpaaGreatDoor.Bd.cnt_le ns'
  have hsz := hb.size
  have hnin : ∀ j, j < ns'.length -> nd ns' j ≠ ⟨(u : Int), 0, h⟩ := fun j hj e => by
   have := hall j hj
   rw [e] at this
   simp only at this
   omega
  by_cases hroom : (cnt ns' : Int) < (c.room : Int)
  ·have hmd := nodeZ_ok hC.good hv24 (v := (u : Int)) (l := 0) (h := h) (by omega) (by omega) (by omega) (by omega) (end_has0 ns') hh (by rw [end_top0]; omega) (by omega)
   refine (node_any hC hroom (u : Int) 0 h (by omega) (by omega) (end_has0 ns') hh (by rw [end_top0]; omega) (by omega)).mono ?_
   rintro e w5 ⟨rfl, O5, hS5, hM5⟩
   have hrm := hC.rm
   have hlen : (nodeZ ns' (u : Int) 0 h).1.length <= 4000 := by have := hmd.len; omega
   refine ⟨_, rfl, by omega, hv24, hb.trans (hM5.kept.mono hOS), hZ, hSZ, hwS, .inl ⟨_, O5, hC.moved hS5 hM5 hmd.good hmd.ext hlen, fun k hk => ?_, hmd.has, hmd.top, ?_, fun j hj => ?_⟩⟩
   ·rcases hM5.own k hk with h2 | h2
    ·exact hOS k h2
    ·exact hSZ k (by omega)
   ·unfold nodeZ; rw [if_neg hn0]; unfold makeF; split <;> (simp only; omega)
   ·have e1 : nodeZ ns' (u : Int) 0 h = makeF ns' ⟨(u : Int), 0, h⟩ := by unfold nodeZ; rw [if_neg hn0]
    rw [e1] at hj ⊢
    rcases makeF_nd (n := ⟨(u : Int), 0, h⟩) hj with e2 | ⟨i, hi, e2⟩
    ·rw [e2]; exact Int.le_refl _
    ·rw [e2]; have := hall i hi; omega
  ·refine (node_no hC hroom (u : Int) 0 h (by omega) (by omega) (end_has0 ns') hh (by rw [end_top0]; omega) (by omega) hn0 hnin).mono ?_
   rintro e w5 ⟨rfl, hE5, hK5⟩
   exact ⟨0, rfl, by omega, hv24, hb.trans (hK5.mono (fun k hk => hk ▸ hwS)), hZ, hSZ, hwS, .inr ⟨rfl, hE5⟩⟩
 ·refine (node_err hE (u : Int) 0 0).mono ?_
  rintro e w5 ⟨rfl, hb5⟩
  exact ⟨0, rfl, by omega, hv24, hb.trans (Kept.of_below hb5 _), hZ, hSZ, hwS, .inr ⟨rfl, hE.new hb5⟩⟩
theorem OneT.skip {u : Nat} {h : Int} (hS : OneT B Z S c vars w (u + 1) h w') : OneT B Z S c vars w u h w' := by
 obtain ⟨h1, hv24, hb, hZ, hSZ, hwS, ⟨ns', O', hC, hOS, hh, ht, hn0, hall⟩ | ⟨rfl, hE⟩⟩ := hS
 ·exact ⟨by omega, hv24, hb, hZ, hSZ, hwS, .inl ⟨ns', O', hC, hOS, hh, by omega, hn0, fun j hj => by have := hall j hj; omega⟩⟩
 ·exact ⟨by omega, hv24, hb, hZ, hSZ, hwS, .inr ⟨rfl, hE⟩⟩
theorem onet_c {wk : Nat} (hC : CtxAt B w c O vars []) (hwk : c.wk = wk) (hZ : Z <= w.heap.size) (hSZ : ∀ k, Z <= k -> S k) (hOS : ∀ k, O k -> S k) (hwS : S c.wk) (x : Nat) (hx : x < 2 ^ vars) :
  Calls Tryz.prog 50 #[.pointer (some ⟨wk, 0, none⟩), .int .u64 (x : Int)] w fun e w' => ∃ h, e = .returned (.int .i64 h) /\ OneT B Z S c vars w 0 h w' := by
 subst hwk
 have w0 := hC.w0
 have c1 := hC.space.c1
 have hv24 := hC.v24
 have HC : Hid (OneT B Z S c vars w vars 1 w) := ⟨Nat.le_refl _, hv24, Kept.refl _ _, hZ, hSZ, hwS, .inl ⟨[], O, hC, hOS, end_has1 [], by rw [end_top1]; omega, by decide, fun j hj => by simp at hj⟩⟩
 clear hC hZ hSZ hOS hwS
 go_enter Tryz.func50, Tryz.ntmps50
 go_wp2_with fail
 go_loopw [5, 6] (fun hV vV wr => ∃ (u : Nat) (h : Int), hV = .int .i64 h /\ vV = .int .i64 ((u : Int) - 1) /\ OneT B Z S c vars w u h wr) (fun _ vV _ => (intOf vV + 1).toNat)
 case atStart =>
  exact ⟨vars, 1, rfl, rfl, HC.out⟩
 case round =>
  obtain ⟨u, h, rfl, rfl, hS⟩ := hrel
  have hul : u <= vars := hS.1
  cases u with
  | zero =>
   have HS := Lib.hid hS
   clear hS
   go_wp2
   go_ret
   exact ⟨h, rfl, HS.out⟩
  | succ u =>
   have e1 : ((u + 1 : Nat) : Int) - 1 = (u : Int) := by omega
   rw [e1]
   have hx64 : x < 18446744073709551616 := Nat.lt_of_lt_of_le hx (Nat.le_trans (Nat.pow_le_pow_right (by omega) hv24) (by decide))
   have hsb := shr_bit x u hx64
   unfold bitsF at hsb
   have HS := Lib.hid hS
   clear hS e1
   cases hbit : x.testBit u with
   | true =>
    rw [hbit] at hsb
    have HN := Lib.hid (onet_node HS.out)
    clear hbit
    go_wp2_with fail
    refine HN.out.mono ?_
    rintro e w5 ⟨h', rfl, hS5⟩
    have HS5 := Lib.hid hS5
    clear hS5
    go_wp2
    go_roundw
    case rel => exact ⟨u, h', rfl, rfl, HS5.out⟩
    case measure => simp [intOf]
   | false =>
    rw [hbit] at hsb
    have HS5 := Lib.hid (HS.out.skip)
    clear hbit
    go_wp2
    go_roundw
    case rel => exact ⟨u, h, rfl, rfl, HS5.out⟩
    case measure => simp [intOf]
theorem one_tot (hS : FamAt B w s b O vars room []) (x : Nat) (hx : x < 2 ^ vars) :
  Calls Tryz.prog 23 #[.pointer (some ⟨s, 0, none⟩), .int .u64 (x : Int)] w fun e w' => Kept (fun k => O k \/ w.heap.size <= k) w w' /\ ((∃ h, e = .returned (.tuple #[.int .i64 h, .nilIface])) \/ e = .returned (.tuple #[.int .i64 0, .iface 42 (.int .i64 12)])) := by
 have HA := Lib.hid (among_any hS.space hS.v24 x hx)
 have hb2 := below_new w (.cells #[.pointer (some ⟨s, 0, none⟩), .nilIface] 95)
 have hC2 := ctx_start hS
 have HC := Lib.hid hC2
 have HB : Hid (Kept (fun k => O k \/ w.heap.size <= k) w (w.alloc (.cells #[.pointer (some ⟨s, 0, none⟩), .nilIface] 95))) := Kept.of_below hb2 _
 clear hS hb2 hC2
 go_enter Tryz.func23, Tryz.ntmps23
 go_wp2_with fail
 refine HA.out.mono ?_
 rintro e w1 ⟨rfl, rfl⟩
 clear HA
 go_wp2_with fail
 generalize (w.alloc (.cells #[.pointer (some ⟨s, 0, none⟩), .nilIface] 95)) = W2 at *
 refine (onet_c (S := fun k => O k \/ w.heap.size <= k) HC.out rfl HB.out.size (fun k hk => .inr hk) (fun k hk => .inl hk) (.inr (Nat.le_refl _)) x hx).mono ?_
 rintro e w4 ⟨h, rfl, -, -, hb4, -, -, -, ⟨ns', O', hC4, -, -, -, -, -⟩ | ⟨rfl, hE⟩⟩
 ·have HB4 := Lib.hid (HB.out.trans hb4)
  clear hb4 HB
  go_wp2_with fail
  refine (answer_any hC4 rfl h).mono ?_
  rintro e w5 ⟨rfl, rfl⟩
  clear hC4
  go_wp2
  go_ret2
  exact ⟨HB4.out, .inl ⟨h, rfl⟩⟩
 ·have HB4 := Lib.hid (HB.out.trans hb4)
  clear hb4
  go_wp2_with fail
  refine (answer_err hE 0).mono ?_
  rintro e w5 ⟨rfl, hb5⟩
  have HB5 := Lib.hid (HB4.out.trans (Kept.of_below hb5 _))
  clear hE hb5
  go_wp2
  go_ret2
  exact ⟨HB5.out, .inr rfl⟩
end
end Go.Proofs.YtbklgjmkdhinpaaGreatDoor.Fm
namespace Go.Proofs.YtbklgjmkdhinpaaGreatDoor
open Go.RowKit Go.Extern.Stop Go.Stop Go.Extern
theorem place_nil (w : World) : Calls Tryz.prog 62 #[.nilIface] w fun e w' => e = .returned (.tuple #[.int .i64 0, .int .i64 (-1)]) /\ w = w' := by
 go_enter Tryz.func62, Tryz.ntmps62
 go_wp2_with fail
 refine (tell_nil _).mono ?_
 rintro e w' ⟨rfl, rfl⟩
 go_wp2_with fail
 refine wp_loop_rounds 1 ?_
 rw [rounds_succ]
 go_wp2
 go_ret2
 exact ⟨rfl, rfl⟩
theorem noAt (n : Int) (w : World) : (Instr.typeAssert (.iface 42 (.int .i64 n)) 33 141 true).run Tryz.prog w = .ok (.tuple #[.pointer none, .bool false]) w := by kernel_rfl
theorem noUnwrap (n : Int) (w : World) : (Instr.typeAssert (.iface 42 (.int .i64 n)) 33 144 true).run Tryz.prog w = .ok (.tuple #[.nilIface, .bool false]) w := run_typeAssert_lacksB Tryz.underlying144 (by kernel_rfl) (by kernel_rfl) _ 33 w
theorem place_errno (n : Int) (w : World) (hg : Glob w) : Calls Tryz.prog 62 #[.iface 42 (.int .i64 n)] w fun e w' => e = .returned (.tuple #[.int .i64 n, .int .i64 (-1)]) /\ Below w.heap.size w w' := by
 have H := tell_errno n w hg
 have h1 := noAt n
 have h2 := noUnwrap n
 go_enter Tryz.func62, Tryz.ntmps62
 go_wp2_with fail
 refine H.mono ?_
 rintro e w' ⟨rfl, hb⟩
 clear H
 go_wp2_with fail
 refine wp_loop_rounds 1 ?_
 rw [rounds_succ]
 go_wp2
 go_ret2
 exact ⟨rfl, hb⟩
theorem refBare (k : Int) (w : World) : Calls Tryz.prog 32 #[.int .i64 k] w fun e w' => e = .returned (.agg #[.int .i64 k, .int .i64 (-1)]) /\ Below w.heap.size w w' := by
 go_enter Tryz.func32, Tryz.ntmps32
 go_wp2
 exact bodyPost_ret (v := .agg #[.int .i64 k, .int .i64 (-1)]) (by simp [results, Tryz.results32, go_sem]) rfl ⟨rfl, (Below.refl _ _).alloc (Nat.le_refl _) _⟩
theorem at_any (m k pl pk : Int) (v : Value) (w : World) (H : ∀ W : World, Below w.heap.size w W -> Calls Tryz.prog 62 #[v] W fun e w' => e = .returned (.tuple #[.int .i64 m, .int .i64 pl]) /\ Below W.heap.size W w') :
  Calls Tryz.prog 31 #[v, .agg #[.int .i64 k, .int .i64 pk]] w fun e w' => e = .returned (.bool (m == k && pl == pk)) /\ Below w.heap.size w w' := by
 have HH : Hid (∀ W : World, Below w.heap.size w W -> Calls Tryz.prog 62 #[v] W fun e w' => e = .returned (.tuple #[.int .i64 m, .int .i64 pl]) /\ Below W.heap.size W w') := H
 clear H
 have hb1 : Below w.heap.size w (w.alloc (.cells #[.int .i64 k, .int .i64 pk] 71)) := (Below.refl _ _).alloc (Nat.le_refl _) _
 have fin : ∀ q r : Bool, (m == k) = q -> (pl == pk) = r -> Calls Tryz.prog 31 #[v, .agg #[.int .i64 k, .int .i64 pk]] w fun e w' => e = .returned (.bool (q && r)) /\ Below w.heap.size w w' := by
  intro q r hq hr
  cases q <;> cases r
  all_goals
   go_enter Tryz.func31, Tryz.ntmps31
   go_wp2_with fail
   refine (HH.out _ hb1).mono ?_
   rintro e w2 ⟨rfl, hb2⟩
   have c0 : w2.cell? ⟨w.heap.size, 0, none⟩ = some (.int .i64 k) := (hb2.cell (p := ⟨w.heap.size, 0, none⟩) (by simp)).trans (by simp)
   have c1 : w2.cell? ⟨w.heap.size, 1, none⟩ = some (.int .i64 pk) := (hb2.cell (p := ⟨w.heap.size, 1, none⟩) (by simp)).trans (by simp)
   have hb3 : Below w.heap.size w w2 := hb1.trans (hb2.mono (by simp))
   clear hb2
   go_wp2
   go_ret
   exact ⟨rfl, hb3⟩
 exact fin _ _ rfl rfl
theorem bare_core (m k pl : Int) (v : Value) (w : World) (H : ∀ W : World, Below w.heap.size w W -> Calls Tryz.prog 62 #[v] W fun e w' => e = .returned (.tuple #[.int .i64 m, .int .i64 pl]) /\ Below W.heap.size W w') :
  Calls Tryz.prog 9 #[v, .int .i64 k] w fun e w' => e = .returned (.bool (m == k && pl == -1)) /\ Below w.heap.size w w' := by
 have HH : Hid (∀ W : World, Below w.heap.size w W -> Calls Tryz.prog 62 #[v] W fun e w' => e = .returned (.tuple #[.int .i64 m, .int .i64 pl]) /\ Below W.heap.size W w') := H
 clear H
 generalize hz : (m == k && pl == -1) = z
 go_enter Tryz.func9, Tryz.ntmps9
 go_wp2_with fail
 refine (refBare k _).mono ?_
 rintro e w1 ⟨rfl, hb1⟩
 have HA := at_any m k pl (-1) v w1 (fun W hW => HH.out W (hb1.trans (hW.mono hb1.size)))
 rw [hz] at HA
 clear hz
 go_wp2_with fail
 refine HA.mono ?_
 rintro e w2 ⟨rfl, hb2⟩
 go_wp2
 go_ret
 exact ⟨rfl, hb1.trans (hb2.mono hb1.size)⟩
theorem bare_errno (m k : Int) (w : World) (hg : Glob w) : Calls Tryz.prog 9 #[.iface 42 (.int .i64 m), .int .i64 k] w fun e w' => e = .returned (.bool (m == k)) /\ Below w.heap.size w w' := by
 have := bare_core m k (-1) (.iface 42 (.int .i64 m)) w (fun W hW => place_errno m W (hg.below hW))
 simpa using this
theorem bare_nil (k : Int) (w : World) : Calls Tryz.prog 9 #[.nilIface, .int .i64 k] w fun e w' => e = .returned (.bool (0 == k)) /\ Below w.heap.size w w' := by
 have := bare_core 0 k (-1) .nilIface w (fun W _ => (place_nil W).mono fun e w' ⟨he, hw⟩ => ⟨he, hw ▸ Below.refl _ _⟩)
 simpa using this
end Go.Proofs.YtbklgjmkdhinpaaGreatDoor
