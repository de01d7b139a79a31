/- without, Set, Some, Each. -/
import Derived.Test.YtcjjekhecjmaeaaGreatDoorBdOpsW
import Derived.Test.YtcjjekhecjmaeaaGreatDoorBdNMap
set_option maxHeartbeats 2000000
set_option maxRecDepth 100000
namespace Go.Proofs.YtcjjekhecjmaeaaGreatDoor
open Go.RowKit Go.Maps
section
variable {B s b : Nat} {O D : Nat -> Prop} {st : World -> (Nat -> Prop) -> List (Nd × Int) -> Prop} {vars : Nat} {room : Int} {v : Int} {jf : Bool -> Bool -> Bool} {P : List Nd -> List (Nd × Int) -> Prop} {ns : List Nd} {w w' : World} {J : Join} {F : FuncId} {pre caps : Array Value}
theorem ints1 (w : World) (x : Int) (hx : I64 x) : IntsAt (w.alloc (.cells #[.int .i64 x] 3)) w.heap.size [x] :=
  ⟨by simp, fun i hi => by
    obtain rfl : i = 0 := by simp at hi; omega
    simp, fun z hz => by rw [List.mem_singleton] at hz; subst hz; exact hx⟩
def WOut (B s b : Nat) (O D : Nat -> Prop) (vars : Nat) (room : Int) (r : List Nd × Int) (w : World) (e : Ending) (w' : World) : Prop :=
  e = .returned (.tuple #[.int .i64 r.2, .nilIface]) /\ ∃ O', SpaceAt B w' s b O' vars room r.1 /\ Kept (fun j => O j \/ D j) w w' /\ ∀ k, O' k -> O k \/ w.heap.size <= k
theorem without_any (hSt : ∀ dk, w.heap.size <= dk -> JSt dk D st) (hJ : JoinOk vars v jf P J) (hD : JoinDoes B s b D st vars room v P J F pre caps) (h : SpaceAt B w s b O vars room ns) (hst : st w O []) (hP : P ns []) (hg : Good vars ns) (hR : Room B w vars room ns) (x : Int) (hx : hasB ns x = true) (hv0 : 0 <= v) (hv : v < (vars : Int)) (hDl : ∀ j, D j -> j < w.heap.size /\ j ≠ s) :
    Calls Tryz.prog 102 #[.pointer (some ⟨s, 0, none⟩), .int .i64 x, .int .i64 v, .func (.func F) pre caps] w (WOut B s b O D vars room (withoutF J ns x v) w) := by
  have hone := Nat.one_le_two_pow (n := vars)
  have hr4 := hR.r
  have hrl := hR.l
  have p12 := pow12 hR.v
  have v12 := hR.v
  have hi := has_i64 hx (by omega)
  have t0 := (topOf_le hg.ranked x).1
  have hp : 2 ^ ((vars : Int) - topOf ns x).toNat <= 2 ^ vars := Nat.pow_le_pow_right (by omega) (by omega)
  have HV := Lib.hid (variable_any h v hv0 hv)
  have HP := present_any (cp := 1) (h.new (below_new w (.cells #[.int .i64 x] 3))) (by omega) w.heap.size [x] (ints1 w x hi) (by simp) (fun y hy => by rw [List.mem_singleton] at hy; subst hy; exact hx)
  rw [show [x].length = 1 from rfl] at HP
  have HPR := Lib.hid HP
  have hS := hSt (w.heap.size + 1) (by omega)
  have sl := h.slt
  have hb1 := below_new w (.cells #[.int .i64 x] 3)
  have e1 : (w.alloc (.cells #[.int .i64 x] 3)).heap.size = w.heap.size + 1 := by simp
  have hb2 : Below w.heap.size w ((w.alloc (.cells #[.int .i64 x] 3)).alloc (.map #[] 0)) := hb1.alloc hb1.size _
  have hm : ((w.alloc (.cells #[.int .i64 x] 3)).alloc (.map #[] 0)).ownsMap Tryz.prog 3 (plainElem (H := Unit) Tryz.prog 3) (w.heap.size + 1) 0 (.map []) := by
    have := World.ownsMap_made (w.alloc (.cells #[.int .i64 x] 3)) Tryz.prog 3 (plainElem (H := Unit) Tryz.prog 3)
    rwa [e1] at this
  have hw : JW B ((w.alloc (.cells #[.int .i64 x] 3)).alloc (.map #[] 0)) s b (w.heap.size + 1) O D st vars room v jf P ns [] [] :=
    ⟨h.new hb2, hS.new _ _ _ _ hst hb2, ⟨_, hm, Rep.empty⟩, hg, hP, ⟨fun p h => (by cases h), fun p h => (by cases h), fun p h => (by cases h), fun p h => (by cases h)⟩, fun ho => by have := (h.own _ ho).2; omega, by omega, fun hd => by have := (hDl _ hd).1; omega, fun hd => (hDl _ hd).2 rfl, Nat.le_trans hR.hB hb2.size⟩
  have HC := joined_any hS hJ hD hr4 hv0 (by omega) 24 ns [] [] x O _ hw hx (by omega) (by omega) (by simp; omega) (by simp; omega)
  have HC' : Hid (Calls Tryz.prog 140 #[.pointer (some ⟨s, 0, none⟩), .int .i64 x, .int .i64 v, .func (.func F) pre caps, .map (some (w.heap.size + 1))] ((w.alloc (.cells #[.int .i64 x] 3)).alloc (.map #[] 0)) (WOut B s b O D vars room (withoutF J ns x v) w)) := HC.mono fun e w' ⟨he, O', hw', hm'⟩ =>
    ⟨he, O', hw'.space, (Kept.of_below hb2 _).andThen hm'.kept (fun i hi hlt => by
      rcases hi with hi | hi | hi
      · exact .inl hi
      · exact .inr hi
      · omega), fun k hk => by
      rcases hm'.own k hk with h1 | h1
      · exact .inl h1
      · exact .inr (Nat.le_trans hb2.size h1)⟩
  have hmm := @run_makeMap Tryz.prog
  generalize withoutF J ns x v = r at *
  clear HC hw hm hb2 HP h hst hP hg hR hS hJ hD hSt hx hi
  go_enter Tryz.func102, Tryz.ntmps102
  go_wp2_with fail
  refine HV.out.mono ?_
  rintro e w1 ⟨rfl, rfl⟩
  go_wp2_with fail
  refine HPR.out.mono ?_
  rintro e w1 ⟨rfl, rfl⟩
  clear HV HPR
  go_wp2_with fail
  refine HC'.out.mono ?_
  rintro e w' ⟨rfl, hO⟩
  go_wp2
  go_ret2
  exact ⟨rfl, hO⟩
end
section
variable {B s b : Nat} {O : Nat -> Prop} {vars : Nat} {room : Int} {v : Int} {ns : List Nd} {w w' : World}
theorem set1_any (l h : Int) (p : Nat) (is : Bool) (w : World) (hc : w.cell? ⟨p, 0, none⟩ = some (.bool is)) :
    Calls Tryz.prog 103 #[.int .i64 l, .int .i64 h, .pointer (some ⟨p, 0, none⟩)] w fun e w' => e = .returned (.tuple #[.int .i64 (if is = true then h else l), .nilIface]) /\ w = w' := by
  cases is with
  | true =>
    rw [if_pos rfl]
    go_enter Tryz.func103, Tryz.ntmps103
    go_wp2
    go_ret2
    exact ⟨rfl, rfl⟩
  | false =>
    rw [if_neg (by simp)]
    go_enter Tryz.func103, Tryz.ntmps103
    go_wp2
    go_ret2
    exact ⟨rfl, rfl⟩
def setSt (p bnd : Nat) (is : Bool) (w : World) (O : Nat -> Prop) (_ : List (Nd × Int)) : Prop := w.cell? ⟨p, 0, none⟩ = some (.bool is) /\ p < w.heap.size /\ ¬ O p /\ p < bnd
theorem setSt_ok (p bnd : Nat) (is : Bool) (dk : Nat) (hdk : bnd <= dk) : JSt dk (fun _ => False) (setSt p bnd is) :=
  ⟨fun w w' O m h hb => ⟨(hb.cell (p := ⟨p, 0, none⟩) h.2.1).trans h.1, Nat.lt_of_lt_of_le h.2.1 hb.size, h.2.2.1, h.2.2.2⟩,
   fun w w' O O' m h hm => ⟨(hm.cell (a := ⟨p, 0, none⟩) h.2.1 h.2.2.1).trans h.1, Nat.lt_of_lt_of_le h.2.1 hm.size, hm.beside h.2.1 h.2.2.1, h.2.2.2⟩,
   fun w w' O m h hk => ⟨(hk.cell (a := ⟨p, 0, none⟩) h.2.1 (by have := h.2.2.2; show ¬ p = dk; omega)).trans h.1, Nat.lt_of_lt_of_le h.2.1 hk.size, h.2.2.1, h.2.2.2⟩,
   fun _ _ _ _ _ h => h.elim⟩
theorem set1_does (p bnd : Nat) (is : Bool) : JoinDoes B s b (fun _ => False) (setSt p bnd is) vars room v (fun _ _ => True) (setJ is) 103 #[] #[.pointer (some ⟨p, 0, none⟩)] :=
  ⟨fun _ _ => by kernel_rfl, fun ns m l h O w hs hst _ _ _ _ _ _ _ _ _ => (set1_any l h p is w hst.1).mono fun e w' ⟨he, hw⟩ => by
    subst hw
    exact ⟨he, O, hs, hst, Kept.refl _ _, fun _ h => .inl h⟩⟩
theorem bool_new (w : World) (is : Bool) : (w.alloc (.cells #[.bool is] 4)).cell? ⟨w.heap.size, 0, none⟩ = some (.bool is) := by simp
theorem set_op (h : SpaceAt B w s b O vars room ns) (hg : Good vars ns) (hR : Room B w vars room ns) (x : Int) (is : Bool) (hx : hasB ns x = true) (hv0 : 0 <= v) (hv : v < (vars : Int)) :
    Calls Tryz.prog 68 #[.pointer (some ⟨s, 0, none⟩), .int .i64 x, .int .i64 v, .bool is] w (OpOut B s b O vars room (withoutF (setJ is) ns x v) w) := by
  have hb := below_new w (.cells #[.bool is] 4)
  have bl : w.heap.size < (w.alloc (.cells #[.bool is] 4)).heap.size := by simp
  have HC := without_any (fun dk hdk => setSt_ok w.heap.size (w.alloc (.cells #[.bool is] 4)).heap.size is dk hdk) (setJ_ok vars v is) (set1_does w.heap.size (w.alloc (.cells #[.bool is] 4)).heap.size is) (h.new hb) ⟨bool_new w is, bl, fun ho => by have := (h.own _ ho).2; omega, bl⟩ trivial hg (hR.new hb.size) x hx hv0 hv (fun _ h => h.elim)
  have HC' : Hid (Calls Tryz.prog 102 #[.pointer (some ⟨s, 0, none⟩), .int .i64 x, .int .i64 v, .func (.func 103) #[] #[.pointer (some ⟨w.heap.size, 0, none⟩)]] (w.alloc (.cells #[.bool is] 4)) (OpOut B s b O vars room (withoutF (setJ is) ns x v) w)) := HC.mono fun e w' ⟨he, O', hS, hk, ho⟩ =>
    OpOut.later hb ⟨he, O', hS, hk.mono (fun j h => h.elim id False.elim), ho⟩
  generalize withoutF (setJ is) ns x v = r at *
  clear HC h hg hR hx hb
  go_enter Tryz.func68, Tryz.ntmps68
  go_wp2_with fail
  refine HC'.out.mono ?_
  rintro e w' ⟨rfl, hO⟩
  go_wp2
  go_ret2
  exact ⟨rfl, hO⟩
def workSt (B s wk dm bnd : Nat) (w : World) (O : Nat -> Prop) (m : List (Nd × Int)) : Prop := WorkAt B w wk dm s 98 m /\ ¬ O wk /\ ¬ O dm /\ s ≠ dm /\ wk < bnd /\ dm < bnd
theorem workSt_ok (B s wk dm bnd dk : Nat) (hdk : bnd <= dk) : JSt dk (fun j => j = dm) (workSt B s wk dm bnd) :=
  ⟨fun w w' O m h hb => ⟨h.1.new hb, h.2⟩,
   fun w w' O O' m h hm => ⟨h.1.kept hm.kept h.2.1 h.2.2.1, hm.beside h.1.lt h.2.1, hm.beside h.1.dlt h.2.2.1, h.2.2.2⟩,
   fun w w' O m h hk => ⟨h.1.kept hk (by have := h.2.2.2.2.1; show ¬ wk = dk; omega) (by have := h.2.2.2.2.2; show ¬ dm = dk; omega), h.2⟩,
   fun w O m h j hj => by subst hj; exact ⟨h.1.dlt, h.2.2.1⟩⟩
theorem work_makes (hroom : room <= 4000) {m : List (Nd × Int)} {wk dm bnd : Nat} {k : Nd} (hs : SpaceAt B w s b O vars room ns) (hst : workSt B s wk dm bnd w O m) (hg : Good vars ns) (hP : MemoOk true ns m) (h3 : Has3 ns k) (hv0 : 0 <= v) (ht : v < minT ns k) (hl : ((ns.length + 2 ^ ((vars : Int) - v - 1).toNat : Nat) : Int) <= room + 1) (hm : m.length + 2 ^ ((vars : Int) - v - 1).toNat <= 90000) (hB : B <= w.heap.size) :
    Calls Tryz.prog 139 #[.pointer (some ⟨wk, 0, none⟩), k.val] w fun e w' => e = .returned (.tuple #[.int .i64 (makesF 24 true ns m k).2.2, .nilIface]) /\ ∃ O', SpaceAt B w' s b O' vars room (makesF 24 true ns m k).1 /\ workSt B s wk dm bnd w' O' (makesF 24 true ns m k).2.1 /\ Kept (fun j => O j \/ j = dm) w w' /\ ∀ j, O' j -> O j \/ w.heap.size <= j := by
  have hp : 2 ^ rk vars ns k <= 2 ^ ((vars : Int) - v - 1).toNat := Nat.pow_le_pow_right (by omega) (by unfold rk; omega)
  refine (makes_any hroom knows_ite 24 ns m k O w ⟨hs, hst.1, hg, hP, hst.2.1, hst.2.2.1, hst.2.2.2.1, hB⟩ h3 (by omega) (by omega) (by omega)).mono ?_
  rintro e w' ⟨he, O', hw, mm⟩
  exact ⟨he, O', hw.space, ⟨hw.work, hw.o1, hw.o2, hst.2.2.2⟩, mm.kept, mm.own⟩
theorem wor_does (hroom : room <= 4000) (hv0 : 0 <= v) (hv24 : v < 24) (wk dm bnd : Nat) : JoinDoes B s b (fun j => j = dm) (workSt B s wk dm bnd) vars room v (MemoOk true) orJ 105 #[.pointer (some ⟨wk, 0, none⟩)] #[] := by
  refine ⟨fun _ _ => by kernel_rfl, fun ns m l h O w hs hst hg hP hl hh tl th hlen hml hB => ?_⟩
  have ht : v < minT ns ⟨l, 1, h⟩ := by have := minT_ge (ns := ns) (k := ⟨l, 1, h⟩) (x := v + 1) tl (by show _ <= topOf ns 1; rw [top_end1]; omega) th; omega
  have HC : Hid (∀ W, Below w.heap.size w W -> Calls Tryz.prog 139 #[.pointer (some ⟨wk, 0, none⟩), .agg #[.int .i64 l, .int .i64 1, .int .i64 h]] W fun e w' => e = .returned (.tuple #[.int .i64 (makesF 24 true ns m ⟨l, 1, h⟩).2.2, .nilIface]) /\ ∃ O', SpaceAt B w' s b O' vars room (makesF 24 true ns m ⟨l, 1, h⟩).1 /\ workSt B s wk dm bnd w' O' (makesF 24 true ns m ⟨l, 1, h⟩).2.1 /\ Kept (fun j => O j \/ j = dm) w w' /\ ∀ j, O' j -> O j \/ w.heap.size <= j) := fun W hW =>
    (work_makes hroom (hs.new hW) ⟨hst.1.new hW, hst.2⟩ hg hP (k := ⟨l, 1, h⟩) ⟨hl, has_end1 ns, hh⟩ hv0 ht hlen hml (Nat.le_trans hB hW.size)).mono fun e w' ⟨he, O', h1, h2, h3, h4⟩ => ⟨he, O', h1, h2, (Kept.of_below hW _).trans h3, fun j hj => (h4 j hj).imp id (fun h => Nat.le_trans hW.size h)⟩
  unfold orJ
  show Calls Tryz.prog 105 #[.pointer (some ⟨wk, 0, none⟩), .int .i64 l, .int .i64 h] w _
  generalize makesF 24 true ns m ⟨l, 1, h⟩ = r at *
  clear hs hst hg hP hl hh tl th hlen hml ht
  go_enter Tryz.func105, Tryz.ntmps105
  go_wp2_with fail
  refine (either_any l h w).mono ?_
  rintro e w1 ⟨rfl, hb1⟩
  have HC' := Lib.hid (HC.out w1 hb1)
  clear HC
  go_wp2_with fail
  refine HC'.out.mono ?_
  rintro e w' ⟨rfl, hO⟩
  go_wp2
  go_ret2
  exact ⟨rfl, hO⟩
theorem wand_does (hroom : room <= 4000) (hv0 : 0 <= v) (hv24 : v < 24) (wk dm bnd : Nat) : JoinDoes B s b (fun j => j = dm) (workSt B s wk dm bnd) vars room v (MemoOk true) andJ 106 #[.pointer (some ⟨wk, 0, none⟩)] #[] := by
  refine ⟨fun _ _ => by kernel_rfl, fun ns m l h O w hs hst hg hP hl hh tl th hlen hml hB => ?_⟩
  have ht : v < minT ns ⟨l, h, 0⟩ := by have := minT_ge (ns := ns) (k := ⟨l, h, 0⟩) (x := v + 1) tl th (by show _ <= topOf ns 0; rw [top_end0]; omega); omega
  have HC : Hid (∀ W, Below w.heap.size w W -> Calls Tryz.prog 139 #[.pointer (some ⟨wk, 0, none⟩), .agg #[.int .i64 l, .int .i64 h, .int .i64 0]] W fun e w' => e = .returned (.tuple #[.int .i64 (makesF 24 true ns m ⟨l, h, 0⟩).2.2, .nilIface]) /\ ∃ O', SpaceAt B w' s b O' vars room (makesF 24 true ns m ⟨l, h, 0⟩).1 /\ workSt B s wk dm bnd w' O' (makesF 24 true ns m ⟨l, h, 0⟩).2.1 /\ Kept (fun j => O j \/ j = dm) w w' /\ ∀ j, O' j -> O j \/ w.heap.size <= j) := fun W hW =>
    (work_makes hroom (hs.new hW) ⟨hst.1.new hW, hst.2⟩ hg hP (k := ⟨l, h, 0⟩) ⟨hl, hh, has_end0 ns⟩ hv0 ht hlen hml (Nat.le_trans hB hW.size)).mono fun e w' ⟨he, O', h1, h2, h3, h4⟩ => ⟨he, O', h1, h2, (Kept.of_below hW _).trans h3, fun j hj => (h4 j hj).imp id (fun h => Nat.le_trans hW.size h)⟩
  unfold andJ
  show Calls Tryz.prog 106 #[.pointer (some ⟨wk, 0, none⟩), .int .i64 l, .int .i64 h] w _
  generalize makesF 24 true ns m ⟨l, h, 0⟩ = r at *
  clear hs hst hg hP hl hh tl th hlen hml ht
  go_enter Tryz.func106, Tryz.ntmps106
  go_wp2_with fail
  refine (both_any l h w).mono ?_
  rintro e w1 ⟨rfl, hb1⟩
  have HC' := Lib.hid (HC.out w1 hb1)
  clear HC
  go_wp2_with fail
  refine HC'.out.mono ?_
  rintro e w' ⟨rfl, hO⟩
  go_wp2
  go_ret2
  exact ⟨rfl, hO⟩
theorem work_out {r : List Nd × Int} {w1 : World} {dm : Nat} {e : Ending} (hb : Below w.heap.size w w1) (hd : w.heap.size <= dm) (h : WOut B s b O (fun j => j = dm) vars room r w1 e w') : OpOut B s b O vars room r w e w' := by
  obtain ⟨he, O', hS, hk, ho⟩ := h
  exact ⟨he, O', hS, (Kept.of_below hb _).andThen hk (fun i hi hlt => hi.elim id (fun e => by omega)), fun k hk => (ho k hk).imp id (fun h => Nat.le_trans hb.size h)⟩
theorem some_op (h : SpaceAt B w s b O vars room ns) (hg : Good vars ns) (hR : Room B w vars room ns) (x : Int) (hx : hasB ns x = true) (hv0 : 0 <= v) (hv : v < (vars : Int)) :
    Calls Tryz.prog 69 #[.pointer (some ⟨s, 0, none⟩), .int .i64 x, .int .i64 v] w (OpOut B s b O vars room (withoutF orJ ns x v) w) := by
  have hv12 := hR.v
  have sl := h.slt
  have HC : Hid (∀ w1, WorkAt B w1 (w.heap.size + 1) w.heap.size s 98 [] -> Below w.heap.size w w1 -> Calls Tryz.prog 102 #[.pointer (some ⟨s, 0, none⟩), .int .i64 x, .int .i64 v, .func (.func 105) #[.pointer (some ⟨w.heap.size + 1, 0, none⟩)] #[]] w1 (OpOut B s b O vars room (withoutF orJ ns x v) w)) := fun w1 hw1 hb1 => by
    refine (without_any (D := fun j => j = w.heap.size) (fun dk hdk => workSt_ok B s (w.heap.size + 1) w.heap.size w1.heap.size dk hdk) (orJ_ok hv0 (by omega)) (wor_does hR.r hv0 (by omega) (w.heap.size + 1) w.heap.size w1.heap.size) (h.new hb1) ⟨hw1, fun ho => by have := (h.own _ ho).2; omega, fun ho => by have := (h.own _ ho).2; omega, by omega, hw1.lt, hw1.dlt⟩ (memo_nil true ns) hg (hR.new hb1.size) x hx hv0 hv (fun j hj => by subst hj; exact ⟨hw1.dlt, by omega⟩)).mono fun e w' hO => work_out hb1 (Nat.le_refl _) hO
  have HB := Lib.hid (begin_any s 98 w B hR.hB)
  generalize withoutF orJ ns x v = r at *
  clear h hg hR hx
  go_enter Tryz.func69, Tryz.ntmps69
  go_wp2_with fail
  refine HB.out.mono ?_
  rintro e w1 ⟨rfl, hw1, hb1⟩
  have HC' := Lib.hid (HC.out w1 hw1 hb1)
  clear HC HB hw1
  go_wp2_with fail
  refine HC'.out.mono ?_
  rintro e w' ⟨rfl, hO⟩
  go_wp2
  go_ret2
  exact ⟨rfl, hO⟩
theorem each_op (h : SpaceAt B w s b O vars room ns) (hg : Good vars ns) (hR : Room B w vars room ns) (x : Int) (hx : hasB ns x = true) (hv0 : 0 <= v) (hv : v < (vars : Int)) :
    Calls Tryz.prog 70 #[.pointer (some ⟨s, 0, none⟩), .int .i64 x, .int .i64 v] w (OpOut B s b O vars room (withoutF andJ ns x v) w) := by
  have hv12 := hR.v
  have sl := h.slt
  have HC : Hid (∀ w1, WorkAt B w1 (w.heap.size + 1) w.heap.size s 98 [] -> Below w.heap.size w w1 -> Calls Tryz.prog 102 #[.pointer (some ⟨s, 0, none⟩), .int .i64 x, .int .i64 v, .func (.func 106) #[.pointer (some ⟨w.heap.size + 1, 0, none⟩)] #[]] w1 (OpOut B s b O vars room (withoutF andJ ns x v) w)) := fun w1 hw1 hb1 => by
    refine (without_any (D := fun j => j = w.heap.size) (fun dk hdk => workSt_ok B s (w.heap.size + 1) w.heap.size w1.heap.size dk hdk) (andJ_ok hv0 (by omega)) (wand_does hR.r hv0 (by omega) (w.heap.size + 1) w.heap.size w1.heap.size) (h.new hb1) ⟨hw1, fun ho => by have := (h.own _ ho).2; omega, fun ho => by have := (h.own _ ho).2; omega, by omega, hw1.lt, hw1.dlt⟩ (memo_nil true ns) hg (hR.new hb1.size) x hx hv0 hv (fun j hj => by subst hj; exact ⟨hw1.dlt, by omega⟩)).mono fun e w' hO => work_out hb1 (Nat.le_refl _) hO
  have HB := Lib.hid (begin_any s 98 w B hR.hB)
  generalize withoutF andJ ns x v = r at *
  clear h hg hR hx
  go_enter Tryz.func70, Tryz.ntmps70
  go_wp2_with fail
  refine HB.out.mono ?_
  rintro e w1 ⟨rfl, hw1, hb1⟩
  have HC' := Lib.hid (HC.out w1 hw1 hb1)
  clear HC HB hw1
  go_wp2_with fail
  refine HC'.out.mono ?_
  rintro e w' ⟨rfl, hO⟩
  go_wp2
  go_ret2
  exact ⟨rfl, hO⟩
end
end Go.Proofs.YtcjjekhecjmaeaaGreatDoor
