/- Operations are made. -/
import Derived.Test.YtbklgjmkdhinpaaGreatDoorFmMk
set_option maxHeartbeats 2000000
set_option maxRecDepth 100000
namespace Go.Proofs.YtbklgjmkdhinpaaGreatDoor.Fm
open Go.RowKit Go.Maps Go.Proofs.YtbklgjmkdhinpaaGreatDoor.Bd
section
variable {B : Nat} {c c' : Ctx} {O : Nat -> Prop} {vars : Nat} {ns : List Nd} {w w' : World} {k : K}
def NoF (w : World) (j : Nat) : Prop := w.heap[j]? = some (.cells #[.nilFunc] 120)
theorem NoF.new (w : World) : NoF (w.alloc (.cells #[.nilFunc] 120)) w.heap.size := by
 show (w.heap.push _)[w.heap.size]? = _
 simp
theorem NoF.below {j : Nat} (h : NoF w j) (hb : Below w.heap.size w w') : NoF w' j := (hb.block j (Array.getElem?_eq_some_iff.1 h).1).trans h
theorem NoF.cell {j : Nat} (h : NoF w j) : w.cell? ⟨j, 0, none⟩ = some .nilFunc := by unfold NoF at h; simp [World.cell?, h]
theorem NoF.lt {j : Nat} (h : NoF w j) : j < w.heap.size := (Array.getElem?_eq_some_iff.1 h).1
theorem NoF.store {j : Nat} (h : NoF w j) (F : FuncId) (cb : Array Value) : (store ⟨j, 0, none⟩ (Value.func (Fn.func F) #[] cb)).run Tryz.prog w = .ok () (w.setCell ⟨j, 0, none⟩ (.func (.func F) #[] cb)) := by
 have f0 : w.frozen? ⟨j, 0, none⟩ = false := by unfold NoF at h; simp [World.frozen?, h]
 rw [run_store _ _ _ _ _ (by rfl), h.cell, f0]
 rfl
theorem below_put {N j : Nat} {v : Value} (hb : Below N w w') (hj : N <= j) : Below N w (w'.setCell ⟨j, 0, none⟩ v) := hb.setCell hj _
end
theorem IsOr.le {N : Nat} {c c' : Ctx} {sw sk sd sa : Nat} (h : IsOr c sw sk sd sa) (hL : Le N c c') : IsOr c' sw sk sd sa := by
 obtain ⟨dm, sx, hF, hbxs⟩ := h
 exact ⟨dm, sx, hF.le hL, hL.boxes _ hbxs⟩
theorem mk_or {B : Nat} {c : Ctx} {O : Nat -> Prop} {vars : Nat} {ns : List Nd} {w : World} {wk : Nat} (hC : CtxAt B w c O vars ns) (hwk : c.wk = wk) :
  Calls Tryz.prog 42 #[.pointer (some ⟨wk, 0, none⟩)] w fun e w' => ∃ c' sw sk sd sa, e = .returned (.func (.func 109) #[] #[.pointer (some ⟨sw, 0, none⟩), .pointer (some ⟨sk, 0, none⟩), .pointer (some ⟨sd, 0, none⟩), .pointer (some ⟨sa, 0, none⟩)]) /\ CtxAt B w' c' O vars ns /\ Le w.heap.size c c' /\ Below w.heap.size w w' /\ IsOr c' sw sk sd sa := by
 have hb1 := below_new w (.cells #[.nilFunc] 120)
 have hC1 := hC.new hb1
 have n1 := NoF.new w
 have f1 : Free c O (w.alloc (.cells #[.nilFunc] 120)) w.heap.size := Free.new hC (Nat.le_refl _) n1.lt
 have z1 : w.heap.size < (w.alloc (.cells #[.nilFunc] 120)).heap.size := n1.lt
 have HC := Lib.hid hC1
 have HB := Lib.hid hb1
 have HN := Lib.hid n1
 have HF := Lib.hid f1
 have HW := Lib.hid hwk
 clear hC hC1 hb1 n1 f1 hwk
 go_enter Tryz.func42, Tryz.ntmps42
 go_wp2_with fail
 generalize (w.alloc (.cells #[.nilFunc] 120)) = W1 at *
 refine (walk_any (k := .or) (HC.out) (HW.out) (fun _ _ => by kernel_rfl) knows_or).mono ?_
 rintro e w2 ⟨c2, sw, sk, sd, sa, dm, rfl, hC2, hL2, hb2, hI2⟩
 have n2 := (HN.out).below hb2
 have f2 := (HF.out).le hL2 z1 hb2.size
 have hst := n2.store 109 #[.pointer (some ⟨sw, 0, none⟩), .pointer (some ⟨sk, 0, none⟩), .pointer (some ⟨sd, 0, none⟩), .pointer (some ⟨sa, 0, none⟩)]
 have hC3 := hC2.putBox (v := .func (.func 109) #[] #[.pointer (some ⟨sw, 0, none⟩), .pointer (some ⟨sk, 0, none⟩), .pointer (some ⟨sd, 0, none⟩), .pointer (some ⟨sa, 0, none⟩)]) f2 n2.cell
 have c3 := (hC3.box _ (List.mem_cons_self ..)).2.1
 have hL3 := (((Le.refl w.heap.size c)).trans (hL2.mono (N := w.heap.size) (by omega)) (Nat.le_refl _)).trans (le_box c2 (N := w.heap.size) (j := w.heap.size) (Nat.le_refl _) (.func (.func 109) #[] #[.pointer (some ⟨sw, 0, none⟩), .pointer (some ⟨sk, 0, none⟩), .pointer (some ⟨sd, 0, none⟩), .pointer (some ⟨sa, 0, none⟩)])) (Nat.le_refl _)
 have HOUT : Hid (∃ c' sw' sk' sd' sa', Ending.returned (.func (.func 109) #[] #[.pointer (some ⟨sw, 0, none⟩), .pointer (some ⟨sk, 0, none⟩), .pointer (some ⟨sd, 0, none⟩), .pointer (some ⟨sa, 0, none⟩)]) = .returned (.func (.func 109) #[] #[.pointer (some ⟨sw', 0, none⟩), .pointer (some ⟨sk', 0, none⟩), .pointer (some ⟨sd', 0, none⟩), .pointer (some ⟨sa', 0, none⟩)]) /\ CtxAt B (w2.setCell ⟨w.heap.size, 0, none⟩ (.func (.func 109) #[] #[.pointer (some ⟨sw, 0, none⟩), .pointer (some ⟨sk, 0, none⟩), .pointer (some ⟨sd, 0, none⟩), .pointer (some ⟨sa, 0, none⟩)])) c' O vars ns /\ Le w.heap.size c c' /\ Below w.heap.size w (w2.setCell ⟨w.heap.size, 0, none⟩ (.func (.func 109) #[] #[.pointer (some ⟨sw, 0, none⟩), .pointer (some ⟨sk, 0, none⟩), .pointer (some ⟨sd, 0, none⟩), .pointer (some ⟨sa, 0, none⟩)])) /\ IsOr c' sw' sk' sd' sa') :=
  ⟨_, sw, sk, sd, sa, rfl, hC3, hL3, below_put ((HB.out).trans (hb2.mono (HB.out).size)) (Nat.le_refl _), dm, w.heap.size, (hI2.le (le_box c2 (N := w.heap.size) (j := w.heap.size) (Nat.le_refl _) (.func (.func 109) #[] #[.pointer (some ⟨sw, 0, none⟩), .pointer (some ⟨sk, 0, none⟩), .pointer (some ⟨sd, 0, none⟩), .pointer (some ⟨sa, 0, none⟩)]))), List.mem_cons_self ..⟩
 clear hC2 hL2 hb2 hI2 n2 f2 hC3 hL3
 go_wp2
 go_ret
 exact HOUT.out
theorem IsAnd.le {N : Nat} {c c' : Ctx} {sw sk sd sa : Nat} (h : IsAnd c sw sk sd sa) (hL : Le N c c') : IsAnd c' sw sk sd sa := by
 obtain ⟨dm, sx, hF, hbxs⟩ := h
 exact ⟨dm, sx, hF.le hL, hL.boxes _ hbxs⟩
theorem mk_and {B : Nat} {c : Ctx} {O : Nat -> Prop} {vars : Nat} {ns : List Nd} {w : World} {wk : Nat} (hC : CtxAt B w c O vars ns) (hwk : c.wk = wk) :
  Calls Tryz.prog 43 #[.pointer (some ⟨wk, 0, none⟩)] w fun e w' => ∃ c' sw sk sd sa, e = .returned (.func (.func 109) #[] #[.pointer (some ⟨sw, 0, none⟩), .pointer (some ⟨sk, 0, none⟩), .pointer (some ⟨sd, 0, none⟩), .pointer (some ⟨sa, 0, none⟩)]) /\ CtxAt B w' c' O vars ns /\ Le w.heap.size c c' /\ Below w.heap.size w w' /\ IsAnd c' sw sk sd sa := by
 have hb1 := below_new w (.cells #[.nilFunc] 120)
 have hC1 := hC.new hb1
 have n1 := NoF.new w
 have f1 : Free c O (w.alloc (.cells #[.nilFunc] 120)) w.heap.size := Free.new hC (Nat.le_refl _) n1.lt
 have z1 : w.heap.size < (w.alloc (.cells #[.nilFunc] 120)).heap.size := n1.lt
 have HC := Lib.hid hC1
 have HB := Lib.hid hb1
 have HN := Lib.hid n1
 have HF := Lib.hid f1
 have HW := Lib.hid hwk
 clear hC hC1 hb1 n1 f1 hwk
 go_enter Tryz.func43, Tryz.ntmps43
 go_wp2_with fail
 generalize (w.alloc (.cells #[.nilFunc] 120)) = W1 at *
 refine (walk_any (k := .and) (HC.out) (HW.out) (fun _ _ => by kernel_rfl) knows_and).mono ?_
 rintro e w2 ⟨c2, sw, sk, sd, sa, dm, rfl, hC2, hL2, hb2, hI2⟩
 have n2 := (HN.out).below hb2
 have f2 := (HF.out).le hL2 z1 hb2.size
 have hst := n2.store 109 #[.pointer (some ⟨sw, 0, none⟩), .pointer (some ⟨sk, 0, none⟩), .pointer (some ⟨sd, 0, none⟩), .pointer (some ⟨sa, 0, none⟩)]
 have hC3 := hC2.putBox (v := .func (.func 109) #[] #[.pointer (some ⟨sw, 0, none⟩), .pointer (some ⟨sk, 0, none⟩), .pointer (some ⟨sd, 0, none⟩), .pointer (some ⟨sa, 0, none⟩)]) f2 n2.cell
 have c3 := (hC3.box _ (List.mem_cons_self ..)).2.1
 have hL3 := (((Le.refl w.heap.size c)).trans (hL2.mono (N := w.heap.size) (by omega)) (Nat.le_refl _)).trans (le_box c2 (N := w.heap.size) (j := w.heap.size) (Nat.le_refl _) (.func (.func 109) #[] #[.pointer (some ⟨sw, 0, none⟩), .pointer (some ⟨sk, 0, none⟩), .pointer (some ⟨sd, 0, none⟩), .pointer (some ⟨sa, 0, none⟩)])) (Nat.le_refl _)
 have HOUT : Hid (∃ c' sw' sk' sd' sa', Ending.returned (.func (.func 109) #[] #[.pointer (some ⟨sw, 0, none⟩), .pointer (some ⟨sk, 0, none⟩), .pointer (some ⟨sd, 0, none⟩), .pointer (some ⟨sa, 0, none⟩)]) = .returned (.func (.func 109) #[] #[.pointer (some ⟨sw', 0, none⟩), .pointer (some ⟨sk', 0, none⟩), .pointer (some ⟨sd', 0, none⟩), .pointer (some ⟨sa', 0, none⟩)]) /\ CtxAt B (w2.setCell ⟨w.heap.size, 0, none⟩ (.func (.func 109) #[] #[.pointer (some ⟨sw, 0, none⟩), .pointer (some ⟨sk, 0, none⟩), .pointer (some ⟨sd, 0, none⟩), .pointer (some ⟨sa, 0, none⟩)])) c' O vars ns /\ Le w.heap.size c c' /\ Below w.heap.size w (w2.setCell ⟨w.heap.size, 0, none⟩ (.func (.func 109) #[] #[.pointer (some ⟨sw, 0, none⟩), .pointer (some ⟨sk, 0, none⟩), .pointer (some ⟨sd, 0, none⟩), .pointer (some ⟨sa, 0, none⟩)])) /\ IsAnd c' sw' sk' sd' sa') :=
  ⟨_, sw, sk, sd, sa, rfl, hC3, hL3, below_put ((HB.out).trans (hb2.mono (HB.out).size)) (Nat.le_refl _), dm, w.heap.size, (hI2.le (le_box c2 (N := w.heap.size) (j := w.heap.size) (Nat.le_refl _) (.func (.func 109) #[] #[.pointer (some ⟨sw, 0, none⟩), .pointer (some ⟨sk, 0, none⟩), .pointer (some ⟨sd, 0, none⟩), .pointer (some ⟨sa, 0, none⟩)]))), List.mem_cons_self ..⟩
 clear hC2 hL2 hb2 hI2 n2 f2 hC3 hL3
 go_wp2
 go_ret
 exact HOUT.out
theorem IsLess.le {N : Nat} {c c' : Ctx} {sw sk sd sa : Nat} (h : IsLess c sw sk sd sa) (hL : Le N c c') : IsLess c' sw sk sd sa := by
 obtain ⟨dm, sx, hF, hbxs⟩ := h
 exact ⟨dm, sx, hF.le hL, hL.boxes _ hbxs⟩
theorem mk_less {B : Nat} {c : Ctx} {O : Nat -> Prop} {vars : Nat} {ns : List Nd} {w : World} {wk : Nat} (hC : CtxAt B w c O vars ns) (hwk : c.wk = wk) :
  Calls Tryz.prog 44 #[.pointer (some ⟨wk, 0, none⟩)] w fun e w' => ∃ c' sw sk sd sa, e = .returned (.func (.func 109) #[] #[.pointer (some ⟨sw, 0, none⟩), .pointer (some ⟨sk, 0, none⟩), .pointer (some ⟨sd, 0, none⟩), .pointer (some ⟨sa, 0, none⟩)]) /\ CtxAt B w' c' O vars ns /\ Le w.heap.size c c' /\ Below w.heap.size w w' /\ IsLess c' sw sk sd sa := by
 have hb1 := below_new w (.cells #[.nilFunc] 120)
 have hC1 := hC.new hb1
 have n1 := NoF.new w
 have f1 : Free c O (w.alloc (.cells #[.nilFunc] 120)) w.heap.size := Free.new hC (Nat.le_refl _) n1.lt
 have z1 : w.heap.size < (w.alloc (.cells #[.nilFunc] 120)).heap.size := n1.lt
 have HC := Lib.hid hC1
 have HB := Lib.hid hb1
 have HN := Lib.hid n1
 have HF := Lib.hid f1
 have HW := Lib.hid hwk
 clear hC hC1 hb1 n1 f1 hwk
 go_enter Tryz.func44, Tryz.ntmps44
 go_wp2_with fail
 generalize (w.alloc (.cells #[.nilFunc] 120)) = W1 at *
 refine (walk_any (k := .less) (HC.out) (HW.out) (fun _ _ => by kernel_rfl) knows_less).mono ?_
 rintro e w2 ⟨c2, sw, sk, sd, sa, dm, rfl, hC2, hL2, hb2, hI2⟩
 have n2 := (HN.out).below hb2
 have f2 := (HF.out).le hL2 z1 hb2.size
 have hst := n2.store 109 #[.pointer (some ⟨sw, 0, none⟩), .pointer (some ⟨sk, 0, none⟩), .pointer (some ⟨sd, 0, none⟩), .pointer (some ⟨sa, 0, none⟩)]
 have hC3 := hC2.putBox (v := .func (.func 109) #[] #[.pointer (some ⟨sw, 0, none⟩), .pointer (some ⟨sk, 0, none⟩), .pointer (some ⟨sd, 0, none⟩), .pointer (some ⟨sa, 0, none⟩)]) f2 n2.cell
 have c3 := (hC3.box _ (List.mem_cons_self ..)).2.1
 have hL3 := (((Le.refl w.heap.size c)).trans (hL2.mono (N := w.heap.size) (by omega)) (Nat.le_refl _)).trans (le_box c2 (N := w.heap.size) (j := w.heap.size) (Nat.le_refl _) (.func (.func 109) #[] #[.pointer (some ⟨sw, 0, none⟩), .pointer (some ⟨sk, 0, none⟩), .pointer (some ⟨sd, 0, none⟩), .pointer (some ⟨sa, 0, none⟩)])) (Nat.le_refl _)
 have HOUT : Hid (∃ c' sw' sk' sd' sa', Ending.returned (.func (.func 109) #[] #[.pointer (some ⟨sw, 0, none⟩), .pointer (some ⟨sk, 0, none⟩), .pointer (some ⟨sd, 0, none⟩), .pointer (some ⟨sa, 0, none⟩)]) = .returned (.func (.func 109) #[] #[.pointer (some ⟨sw', 0, none⟩), .pointer (some ⟨sk', 0, none⟩), .pointer (some ⟨sd', 0, none⟩), .pointer (some ⟨sa', 0, none⟩)]) /\ CtxAt B (w2.setCell ⟨w.heap.size, 0, none⟩ (.func (.func 109) #[] #[.pointer (some ⟨sw, 0, none⟩), .pointer (some ⟨sk, 0, none⟩), .pointer (some ⟨sd, 0, none⟩), .pointer (some ⟨sa, 0, none⟩)])) c' O vars ns /\ Le w.heap.size c c' /\ Below w.heap.size w (w2.setCell ⟨w.heap.size, 0, none⟩ (.func (.func 109) #[] #[.pointer (some ⟨sw, 0, none⟩), .pointer (some ⟨sk, 0, none⟩), .pointer (some ⟨sd, 0, none⟩), .pointer (some ⟨sa, 0, none⟩)])) /\ IsLess c' sw' sk' sd' sa') :=
  ⟨_, sw, sk, sd, sa, rfl, hC3, hL3, below_put ((HB.out).trans (hb2.mono (HB.out).size)) (Nat.le_refl _), dm, w.heap.size, (hI2.le (le_box c2 (N := w.heap.size) (j := w.heap.size) (Nat.le_refl _) (.func (.func 109) #[] #[.pointer (some ⟨sw, 0, none⟩), .pointer (some ⟨sk, 0, none⟩), .pointer (some ⟨sd, 0, none⟩), .pointer (some ⟨sa, 0, none⟩)]))), List.mem_cons_self ..⟩
 clear hC2 hL2 hb2 hI2 n2 f2 hC3 hL3
 go_wp2
 go_ret
 exact HOUT.out
theorem IsJoin.le {N : Nat} {c c' : Ctx} {sw sk sd sa : Nat} (h : IsJoin c sw sk sd sa) (hL : Le N c c') : IsJoin c' sw sk sd sa := by
 obtain ⟨dm, ox, sx, ow, ok, od, oa, hF, hbxo, hbxs, hNo⟩ := h
 exact ⟨dm, ox, sx, ow, ok, od, oa, hF.le hL, hL.boxes _ hbxo, hL.boxes _ hbxs, hNo.le hL⟩
theorem mk_join {B : Nat} {c : Ctx} {O : Nat -> Prop} {vars : Nat} {ns : List Nd} {w : World} {wk : Nat} (hC : CtxAt B w c O vars ns) (hwk : c.wk = wk) :
  Calls Tryz.prog 45 #[.pointer (some ⟨wk, 0, none⟩)] w fun e w' => ∃ c' sw sk sd sa, e = .returned (.func (.func 109) #[] #[.pointer (some ⟨sw, 0, none⟩), .pointer (some ⟨sk, 0, none⟩), .pointer (some ⟨sd, 0, none⟩), .pointer (some ⟨sa, 0, none⟩)]) /\ CtxAt B w' c' O vars ns /\ Le w.heap.size c c' /\ Below w.heap.size w w' /\ IsJoin c' sw sk sd sa := by
 have hb1 := below_new w (.cells #[.nilFunc] 120)
 have hC1 := hC.new hb1
 have n1 := NoF.new w
 have f1 : Free c O (w.alloc (.cells #[.nilFunc] 120)) w.heap.size := Free.new hC (Nat.le_refl _) n1.lt
 have z1 : w.heap.size < (w.alloc (.cells #[.nilFunc] 120)).heap.size := n1.lt
 have HC := Lib.hid hC1
 have HB := Lib.hid hb1
 have HN := Lib.hid n1
 have HF := Lib.hid f1
 have HW := Lib.hid hwk
 clear hC hC1 hb1 n1 f1 hwk
 go_enter Tryz.func45, Tryz.ntmps45
 go_wp2_with fail
 generalize (w.alloc (.cells #[.nilFunc] 120)) = W1 at *
 refine (mk_or HC.out HW.out).mono ?_
 rintro e wo ⟨co, ow, ok, od, oa, rfl, hCo, hLo, hbo, hIo⟩
 have wko : co.wk = wk := hLo.wk.trans (HW.out)
 have no := (HN.out).below hbo
 have zo : w.heap.size < wo.heap.size := no.lt
 have fo := (HF.out).le hLo z1 hbo.size
 have Bo := (HB.out).trans (hbo.mono (HB.out).size)
 have Lo := ((Le.refl w.heap.size c)).trans (hLo.mono (N := w.heap.size) (by omega)) (Nat.le_refl _)
 have hsto : (store ⟨wo.heap.size, 0, none⟩ (Value.func (Fn.func 109) #[] #[.pointer (some ⟨ow, 0, none⟩), .pointer (some ⟨ok, 0, none⟩), .pointer (some ⟨od, 0, none⟩), .pointer (some ⟨oa, 0, none⟩)])).run Tryz.prog (wo.alloc (.cells #[.nilFunc] 120)) = .ok () (wo.alloc (.cells #[.func (.func 109) #[] #[.pointer (some ⟨ow, 0, none⟩), .pointer (some ⟨ok, 0, none⟩), .pointer (some ⟨od, 0, none⟩), .pointer (some ⟨oa, 0, none⟩)]] 120)) := by
  rw [(NoF.new wo).store]
  exact congrArg (fun X => Result.ok () X) (World.setCell_alloc_at _ _ _ _ _ rfl)
 have hba := below_new wo (.cells #[.func (.func 109) #[] #[.pointer (some ⟨ow, 0, none⟩), .pointer (some ⟨ok, 0, none⟩), .pointer (some ⟨od, 0, none⟩), .pointer (some ⟨oa, 0, none⟩)]] 120)
 have eo : (wo.alloc (.cells #[.func (.func 109) #[] #[.pointer (some ⟨ow, 0, none⟩), .pointer (some ⟨ok, 0, none⟩), .pointer (some ⟨od, 0, none⟩), .pointer (some ⟨oa, 0, none⟩)]] 120)).cell? ⟨wo.heap.size, 0, none⟩ = some (.func (.func 109) #[] #[.pointer (some ⟨ow, 0, none⟩), .pointer (some ⟨ok, 0, none⟩), .pointer (some ⟨od, 0, none⟩), .pointer (some ⟨oa, 0, none⟩)]) := by simp
 have za : (wo.alloc (.cells #[.func (.func 109) #[] #[.pointer (some ⟨ow, 0, none⟩), .pointer (some ⟨ok, 0, none⟩), .pointer (some ⟨od, 0, none⟩), .pointer (some ⟨oa, 0, none⟩)]] 120)).heap.size = wo.heap.size + 1 := by simp
 have Do := (hCo.new hba).addBox (Free.new hCo (j := wo.heap.size) (by omega) (by omega)) eo
 have Mo := (Lo).trans (le_box _ (N := w.heap.size) (j := wo.heap.size) (by omega) (.func (.func 109) #[] #[.pointer (some ⟨ow, 0, none⟩), .pointer (some ⟨ok, 0, none⟩), .pointer (some ⟨od, 0, none⟩), .pointer (some ⟨oa, 0, none⟩)])) (Nat.le_refl _)
 have HD := Lib.hid Do
 have HM := Lib.hid Mo
 have nA := (no).below hba
 have zA : w.heap.size < (wo.alloc (.cells #[.func (.func 109) #[] #[.pointer (some ⟨ow, 0, none⟩), .pointer (some ⟨ok, 0, none⟩), .pointer (some ⟨od, 0, none⟩), .pointer (some ⟨oa, 0, none⟩)]] 120)).heap.size := nA.lt
 have fA : Free (co.box (wo.heap.size) (.func (.func 109) #[] #[.pointer (some ⟨ow, 0, none⟩), .pointer (some ⟨ok, 0, none⟩), .pointer (some ⟨od, 0, none⟩), .pointer (some ⟨oa, 0, none⟩)])) O (wo.alloc (.cells #[.func (.func 109) #[] #[.pointer (some ⟨ow, 0, none⟩), .pointer (some ⟨ok, 0, none⟩), .pointer (some ⟨od, 0, none⟩), .pointer (some ⟨oa, 0, none⟩)]] 120)) w.heap.size := by
  have f := (fo).le (Le.refl (w.heap.size + 1) co) (by omega) hba.size
  exact ⟨f.lt, f.o, f.s, f.wk, f.m, fun p hp => by
   rcases List.mem_cons.1 hp with rfl | hp
   ·show wo.heap.size ≠ _; omega
   ·exact f.b p hp⟩
 have BA : Below w.heap.size w (wo.alloc (.cells #[.func (.func 109) #[] #[.pointer (some ⟨ow, 0, none⟩), .pointer (some ⟨ok, 0, none⟩), .pointer (some ⟨od, 0, none⟩), .pointer (some ⟨oa, 0, none⟩)]] 120)) := (Bo).trans (hba.mono (by omega))
 have Io := (hIo.le (le_box _ (N := 0) (j := wo.heap.size) (Nat.zero_le _) (.func (.func 109) #[] #[.pointer (some ⟨ow, 0, none⟩), .pointer (some ⟨ok, 0, none⟩), .pointer (some ⟨od, 0, none⟩), .pointer (some ⟨oa, 0, none⟩)])))
 have HWA : Hid ((co.box (wo.heap.size) (.func (.func 109) #[] #[.pointer (some ⟨ow, 0, none⟩), .pointer (some ⟨ok, 0, none⟩), .pointer (some ⟨od, 0, none⟩), .pointer (some ⟨oa, 0, none⟩)])).wk = wk) := wko
 go_wp2_with fail
 generalize hWA : (wo.alloc (.cells #[.func (.func 109) #[] #[.pointer (some ⟨ow, 0, none⟩), .pointer (some ⟨ok, 0, none⟩), .pointer (some ⟨od, 0, none⟩), .pointer (some ⟨oa, 0, none⟩)]] 120)) = WA at *
 refine (walk_any (k := .join) (HD.out) (HWA.out) (fun _ _ => by kernel_rfl) knows_join).mono ?_
 rintro e w2 ⟨c2, sw, sk, sd, sa, dm, rfl, hC2, hL2, hb2, hI2⟩
 have n2 := (nA).below hb2
 have f2 := (fA).le hL2 zA hb2.size
 have hst := n2.store 109 #[.pointer (some ⟨sw, 0, none⟩), .pointer (some ⟨sk, 0, none⟩), .pointer (some ⟨sd, 0, none⟩), .pointer (some ⟨sa, 0, none⟩)]
 have hC3 := hC2.putBox (v := .func (.func 109) #[] #[.pointer (some ⟨sw, 0, none⟩), .pointer (some ⟨sk, 0, none⟩), .pointer (some ⟨sd, 0, none⟩), .pointer (some ⟨sa, 0, none⟩)]) f2 n2.cell
 have c3 := (hC3.box _ (List.mem_cons_self ..)).2.1
 have hL3 := ((HM.out).trans (hL2.mono (N := w.heap.size) (by omega)) (Nat.le_refl _)).trans (le_box c2 (N := w.heap.size) (j := w.heap.size) (Nat.le_refl _) (.func (.func 109) #[] #[.pointer (some ⟨sw, 0, none⟩), .pointer (some ⟨sk, 0, none⟩), .pointer (some ⟨sd, 0, none⟩), .pointer (some ⟨sa, 0, none⟩)])) (Nat.le_refl _)
 have HOUT : Hid (∃ c' sw' sk' sd' sa', Ending.returned (.func (.func 109) #[] #[.pointer (some ⟨sw, 0, none⟩), .pointer (some ⟨sk, 0, none⟩), .pointer (some ⟨sd, 0, none⟩), .pointer (some ⟨sa, 0, none⟩)]) = .returned (.func (.func 109) #[] #[.pointer (some ⟨sw', 0, none⟩), .pointer (some ⟨sk', 0, none⟩), .pointer (some ⟨sd', 0, none⟩), .pointer (some ⟨sa', 0, none⟩)]) /\ CtxAt B (w2.setCell ⟨w.heap.size, 0, none⟩ (.func (.func 109) #[] #[.pointer (some ⟨sw, 0, none⟩), .pointer (some ⟨sk, 0, none⟩), .pointer (some ⟨sd, 0, none⟩), .pointer (some ⟨sa, 0, none⟩)])) c' O vars ns /\ Le w.heap.size c c' /\ Below w.heap.size w (w2.setCell ⟨w.heap.size, 0, none⟩ (.func (.func 109) #[] #[.pointer (some ⟨sw, 0, none⟩), .pointer (some ⟨sk, 0, none⟩), .pointer (some ⟨sd, 0, none⟩), .pointer (some ⟨sa, 0, none⟩)])) /\ IsJoin c' sw' sk' sd' sa') :=
  ⟨_, sw, sk, sd, sa, rfl, hC3, hL3, below_put ((BA).trans (hb2.mono (BA).size)) (Nat.le_refl _), dm, wo.heap.size, w.heap.size, ow, ok, od, oa, (hI2.le (le_box c2 (N := w.heap.size) (j := w.heap.size) (Nat.le_refl _) (.func (.func 109) #[] #[.pointer (some ⟨sw, 0, none⟩), .pointer (some ⟨sk, 0, none⟩), .pointer (some ⟨sd, 0, none⟩), .pointer (some ⟨sa, 0, none⟩)]))), List.mem_cons_of_mem _ (hL2.boxes _ (List.mem_cons_self ..)), List.mem_cons_self .., ((Io.le hL2).le (le_box c2 (N := w.heap.size) (j := w.heap.size) (Nat.le_refl _) (.func (.func 109) #[] #[.pointer (some ⟨sw, 0, none⟩), .pointer (some ⟨sk, 0, none⟩), .pointer (some ⟨sd, 0, none⟩), .pointer (some ⟨sa, 0, none⟩)])))⟩
 clear hC2 hL2 hb2 hI2 n2 f2 hC3 hL3
 go_wp2
 go_ret
 exact HOUT.out
theorem IsWithout.le {N : Nat} {c c' : Ctx} {sw sk sd sa : Nat} (h : IsWithout c sw sk sd sa) (hL : Le N c c') : IsWithout c' sw sk sd sa := by
 obtain ⟨dm, sx, ox, ow, ok, od, oa, hF, hbxs, hbxo, hNo⟩ := h
 exact ⟨dm, sx, ox, ow, ok, od, oa, hF.le hL, hL.boxes _ hbxs, hL.boxes _ hbxo, hNo.le hL⟩
theorem mk_without {B : Nat} {c : Ctx} {O : Nat -> Prop} {vars : Nat} {ns : List Nd} {w : World} {wk : Nat} (hC : CtxAt B w c O vars ns) (hwk : c.wk = wk) :
  Calls Tryz.prog 46 #[.pointer (some ⟨wk, 0, none⟩)] w fun e w' => ∃ c' sw sk sd sa, e = .returned (.func (.func 109) #[] #[.pointer (some ⟨sw, 0, none⟩), .pointer (some ⟨sk, 0, none⟩), .pointer (some ⟨sd, 0, none⟩), .pointer (some ⟨sa, 0, none⟩)]) /\ CtxAt B w' c' O vars ns /\ Le w.heap.size c c' /\ Below w.heap.size w w' /\ IsWithout c' sw sk sd sa := by
 have hb1 := below_new w (.cells #[.nilFunc] 120)
 have hC1 := hC.new hb1
 have n1 := NoF.new w
 have f1 : Free c O (w.alloc (.cells #[.nilFunc] 120)) w.heap.size := Free.new hC (Nat.le_refl _) n1.lt
 have z1 : w.heap.size < (w.alloc (.cells #[.nilFunc] 120)).heap.size := n1.lt
 have HC := Lib.hid hC1
 have HB := Lib.hid hb1
 have HN := Lib.hid n1
 have HF := Lib.hid f1
 have HW := Lib.hid hwk
 clear hC hC1 hb1 n1 f1 hwk
 go_enter Tryz.func46, Tryz.ntmps46
 go_wp2_with fail
 generalize (w.alloc (.cells #[.nilFunc] 120)) = W1 at *
 refine (mk_or HC.out HW.out).mono ?_
 rintro e wo ⟨co, ow, ok, od, oa, rfl, hCo, hLo, hbo, hIo⟩
 have wko : co.wk = wk := hLo.wk.trans (HW.out)
 have no := (HN.out).below hbo
 have zo : w.heap.size < wo.heap.size := no.lt
 have fo := (HF.out).le hLo z1 hbo.size
 have Bo := (HB.out).trans (hbo.mono (HB.out).size)
 have Lo := ((Le.refl w.heap.size c)).trans (hLo.mono (N := w.heap.size) (by omega)) (Nat.le_refl _)
 have hsto : (store ⟨wo.heap.size, 0, none⟩ (Value.func (Fn.func 109) #[] #[.pointer (some ⟨ow, 0, none⟩), .pointer (some ⟨ok, 0, none⟩), .pointer (some ⟨od, 0, none⟩), .pointer (some ⟨oa, 0, none⟩)])).run Tryz.prog (wo.alloc (.cells #[.nilFunc] 120)) = .ok () (wo.alloc (.cells #[.func (.func 109) #[] #[.pointer (some ⟨ow, 0, none⟩), .pointer (some ⟨ok, 0, none⟩), .pointer (some ⟨od, 0, none⟩), .pointer (some ⟨oa, 0, none⟩)]] 120)) := by
  rw [(NoF.new wo).store]
  exact congrArg (fun X => Result.ok () X) (World.setCell_alloc_at _ _ _ _ _ rfl)
 have hba := below_new wo (.cells #[.func (.func 109) #[] #[.pointer (some ⟨ow, 0, none⟩), .pointer (some ⟨ok, 0, none⟩), .pointer (some ⟨od, 0, none⟩), .pointer (some ⟨oa, 0, none⟩)]] 120)
 have eo : (wo.alloc (.cells #[.func (.func 109) #[] #[.pointer (some ⟨ow, 0, none⟩), .pointer (some ⟨ok, 0, none⟩), .pointer (some ⟨od, 0, none⟩), .pointer (some ⟨oa, 0, none⟩)]] 120)).cell? ⟨wo.heap.size, 0, none⟩ = some (.func (.func 109) #[] #[.pointer (some ⟨ow, 0, none⟩), .pointer (some ⟨ok, 0, none⟩), .pointer (some ⟨od, 0, none⟩), .pointer (some ⟨oa, 0, none⟩)]) := by simp
 have za : (wo.alloc (.cells #[.func (.func 109) #[] #[.pointer (some ⟨ow, 0, none⟩), .pointer (some ⟨ok, 0, none⟩), .pointer (some ⟨od, 0, none⟩), .pointer (some ⟨oa, 0, none⟩)]] 120)).heap.size = wo.heap.size + 1 := by simp
 have Do := (hCo.new hba).addBox (Free.new hCo (j := wo.heap.size) (by omega) (by omega)) eo
 have Mo := (Lo).trans (le_box _ (N := w.heap.size) (j := wo.heap.size) (by omega) (.func (.func 109) #[] #[.pointer (some ⟨ow, 0, none⟩), .pointer (some ⟨ok, 0, none⟩), .pointer (some ⟨od, 0, none⟩), .pointer (some ⟨oa, 0, none⟩)])) (Nat.le_refl _)
 have HD := Lib.hid Do
 have HM := Lib.hid Mo
 have nA := (no).below hba
 have zA : w.heap.size < (wo.alloc (.cells #[.func (.func 109) #[] #[.pointer (some ⟨ow, 0, none⟩), .pointer (some ⟨ok, 0, none⟩), .pointer (some ⟨od, 0, none⟩), .pointer (some ⟨oa, 0, none⟩)]] 120)).heap.size := nA.lt
 have fA : Free (co.box (wo.heap.size) (.func (.func 109) #[] #[.pointer (some ⟨ow, 0, none⟩), .pointer (some ⟨ok, 0, none⟩), .pointer (some ⟨od, 0, none⟩), .pointer (some ⟨oa, 0, none⟩)])) O (wo.alloc (.cells #[.func (.func 109) #[] #[.pointer (some ⟨ow, 0, none⟩), .pointer (some ⟨ok, 0, none⟩), .pointer (some ⟨od, 0, none⟩), .pointer (some ⟨oa, 0, none⟩)]] 120)) w.heap.size := by
  have f := (fo).le (Le.refl (w.heap.size + 1) co) (by omega) hba.size
  exact ⟨f.lt, f.o, f.s, f.wk, f.m, fun p hp => by
   rcases List.mem_cons.1 hp with rfl | hp
   ·show wo.heap.size ≠ _; omega
   ·exact f.b p hp⟩
 have BA : Below w.heap.size w (wo.alloc (.cells #[.func (.func 109) #[] #[.pointer (some ⟨ow, 0, none⟩), .pointer (some ⟨ok, 0, none⟩), .pointer (some ⟨od, 0, none⟩), .pointer (some ⟨oa, 0, none⟩)]] 120)) := (Bo).trans (hba.mono (by omega))
 have Io := (hIo.le (le_box _ (N := 0) (j := wo.heap.size) (Nat.zero_le _) (.func (.func 109) #[] #[.pointer (some ⟨ow, 0, none⟩), .pointer (some ⟨ok, 0, none⟩), .pointer (some ⟨od, 0, none⟩), .pointer (some ⟨oa, 0, none⟩)])))
 have HWA : Hid ((co.box (wo.heap.size) (.func (.func 109) #[] #[.pointer (some ⟨ow, 0, none⟩), .pointer (some ⟨ok, 0, none⟩), .pointer (some ⟨od, 0, none⟩), .pointer (some ⟨oa, 0, none⟩)])).wk = wk) := wko
 go_wp2_with fail
 generalize hWA : (wo.alloc (.cells #[.func (.func 109) #[] #[.pointer (some ⟨ow, 0, none⟩), .pointer (some ⟨ok, 0, none⟩), .pointer (some ⟨od, 0, none⟩), .pointer (some ⟨oa, 0, none⟩)]] 120)) = WA at *
 refine (walk_any (k := .without) (HD.out) (HWA.out) (fun _ _ => by kernel_rfl) knows_without).mono ?_
 rintro e w2 ⟨c2, sw, sk, sd, sa, dm, rfl, hC2, hL2, hb2, hI2⟩
 have n2 := (nA).below hb2
 have f2 := (fA).le hL2 zA hb2.size
 have hst := n2.store 109 #[.pointer (some ⟨sw, 0, none⟩), .pointer (some ⟨sk, 0, none⟩), .pointer (some ⟨sd, 0, none⟩), .pointer (some ⟨sa, 0, none⟩)]
 have hC3 := hC2.putBox (v := .func (.func 109) #[] #[.pointer (some ⟨sw, 0, none⟩), .pointer (some ⟨sk, 0, none⟩), .pointer (some ⟨sd, 0, none⟩), .pointer (some ⟨sa, 0, none⟩)]) f2 n2.cell
 have c3 := (hC3.box _ (List.mem_cons_self ..)).2.1
 have hL3 := ((HM.out).trans (hL2.mono (N := w.heap.size) (by omega)) (Nat.le_refl _)).trans (le_box c2 (N := w.heap.size) (j := w.heap.size) (Nat.le_refl _) (.func (.func 109) #[] #[.pointer (some ⟨sw, 0, none⟩), .pointer (some ⟨sk, 0, none⟩), .pointer (some ⟨sd, 0, none⟩), .pointer (some ⟨sa, 0, none⟩)])) (Nat.le_refl _)
 have HOUT : Hid (∃ c' sw' sk' sd' sa', Ending.returned (.func (.func 109) #[] #[.pointer (some ⟨sw, 0, none⟩), .pointer (some ⟨sk, 0, none⟩), .pointer (some ⟨sd, 0, none⟩), .pointer (some ⟨sa, 0, none⟩)]) = .returned (.func (.func 109) #[] #[.pointer (some ⟨sw', 0, none⟩), .pointer (some ⟨sk', 0, none⟩), .pointer (some ⟨sd', 0, none⟩), .pointer (some ⟨sa', 0, none⟩)]) /\ CtxAt B (w2.setCell ⟨w.heap.size, 0, none⟩ (.func (.func 109) #[] #[.pointer (some ⟨sw, 0, none⟩), .pointer (some ⟨sk, 0, none⟩), .pointer (some ⟨sd, 0, none⟩), .pointer (some ⟨sa, 0, none⟩)])) c' O vars ns /\ Le w.heap.size c c' /\ Below w.heap.size w (w2.setCell ⟨w.heap.size, 0, none⟩ (.func (.func 109) #[] #[.pointer (some ⟨sw, 0, none⟩), .pointer (some ⟨sk, 0, none⟩), .pointer (some ⟨sd, 0, none⟩), .pointer (some ⟨sa, 0, none⟩)])) /\ IsWithout c' sw' sk' sd' sa') :=
  ⟨_, sw, sk, sd, sa, rfl, hC3, hL3, below_put ((BA).trans (hb2.mono (BA).size)) (Nat.le_refl _), dm, w.heap.size, wo.heap.size, ow, ok, od, oa, (hI2.le (le_box c2 (N := w.heap.size) (j := w.heap.size) (Nat.le_refl _) (.func (.func 109) #[] #[.pointer (some ⟨sw, 0, none⟩), .pointer (some ⟨sk, 0, none⟩), .pointer (some ⟨sd, 0, none⟩), .pointer (some ⟨sa, 0, none⟩)]))), List.mem_cons_self .., List.mem_cons_of_mem _ (hL2.boxes _ (List.mem_cons_self ..)), ((Io.le hL2).le (le_box c2 (N := w.heap.size) (j := w.heap.size) (Nat.le_refl _) (.func (.func 109) #[] #[.pointer (some ⟨sw, 0, none⟩), .pointer (some ⟨sk, 0, none⟩), .pointer (some ⟨sd, 0, none⟩), .pointer (some ⟨sa, 0, none⟩)])))⟩
 clear hC2 hL2 hb2 hI2 n2 f2 hC3 hL3
 go_wp2
 go_ret
 exact HOUT.out
theorem IsLeast.le {N : Nat} {c c' : Ctx} {sw sk sd sa : Nat} (h : IsLeast c sw sk sd sa) (hL : Le N c c') : IsLeast c' sw sk sd sa := by
 obtain ⟨dm, sx, tx, tw, tk, td, ta, hF, hbxs, hbxt, hNt⟩ := h
 exact ⟨dm, sx, tx, tw, tk, td, ta, hF.le hL, hL.boxes _ hbxs, hL.boxes _ hbxt, hNt.le hL⟩
theorem mk_least {B : Nat} {c : Ctx} {O : Nat -> Prop} {vars : Nat} {ns : List Nd} {w : World} {wk : Nat} (hC : CtxAt B w c O vars ns) (hwk : c.wk = wk) :
  Calls Tryz.prog 47 #[.pointer (some ⟨wk, 0, none⟩)] w fun e w' => ∃ c' sw sk sd sa, e = .returned (.func (.func 109) #[] #[.pointer (some ⟨sw, 0, none⟩), .pointer (some ⟨sk, 0, none⟩), .pointer (some ⟨sd, 0, none⟩), .pointer (some ⟨sa, 0, none⟩)]) /\ CtxAt B w' c' O vars ns /\ Le w.heap.size c c' /\ Below w.heap.size w w' /\ IsLeast c' sw sk sd sa := by
 have hb1 := below_new w (.cells #[.nilFunc] 120)
 have hC1 := hC.new hb1
 have n1 := NoF.new w
 have f1 : Free c O (w.alloc (.cells #[.nilFunc] 120)) w.heap.size := Free.new hC (Nat.le_refl _) n1.lt
 have z1 : w.heap.size < (w.alloc (.cells #[.nilFunc] 120)).heap.size := n1.lt
 have HC := Lib.hid hC1
 have HB := Lib.hid hb1
 have HN := Lib.hid n1
 have HF := Lib.hid f1
 have HW := Lib.hid hwk
 clear hC hC1 hb1 n1 f1 hwk
 go_enter Tryz.func47, Tryz.ntmps47
 go_wp2_with fail
 generalize (w.alloc (.cells #[.nilFunc] 120)) = W1 at *
 refine (mk_without HC.out HW.out).mono ?_
 rintro e wt ⟨ct, tw, tk, td, ta, rfl, hCt, hLt, hbt, hIt⟩
 have wkt : ct.wk = wk := hLt.wk.trans (HW.out)
 have nt := (HN.out).below hbt
 have zt : w.heap.size < wt.heap.size := nt.lt
 have ft := (HF.out).le hLt z1 hbt.size
 have Bt := (HB.out).trans (hbt.mono (HB.out).size)
 have Lt := ((Le.refl w.heap.size c)).trans (hLt.mono (N := w.heap.size) (by omega)) (Nat.le_refl _)
 have hstt : (store ⟨wt.heap.size, 0, none⟩ (Value.func (Fn.func 109) #[] #[.pointer (some ⟨tw, 0, none⟩), .pointer (some ⟨tk, 0, none⟩), .pointer (some ⟨td, 0, none⟩), .pointer (some ⟨ta, 0, none⟩)])).run Tryz.prog (wt.alloc (.cells #[.nilFunc] 120)) = .ok () (wt.alloc (.cells #[.func (.func 109) #[] #[.pointer (some ⟨tw, 0, none⟩), .pointer (some ⟨tk, 0, none⟩), .pointer (some ⟨td, 0, none⟩), .pointer (some ⟨ta, 0, none⟩)]] 120)) := by
  rw [(NoF.new wt).store]
  exact congrArg (fun X => Result.ok () X) (World.setCell_alloc_at _ _ _ _ _ rfl)
 have hba := below_new wt (.cells #[.func (.func 109) #[] #[.pointer (some ⟨tw, 0, none⟩), .pointer (some ⟨tk, 0, none⟩), .pointer (some ⟨td, 0, none⟩), .pointer (some ⟨ta, 0, none⟩)]] 120)
 have et : (wt.alloc (.cells #[.func (.func 109) #[] #[.pointer (some ⟨tw, 0, none⟩), .pointer (some ⟨tk, 0, none⟩), .pointer (some ⟨td, 0, none⟩), .pointer (some ⟨ta, 0, none⟩)]] 120)).cell? ⟨wt.heap.size, 0, none⟩ = some (.func (.func 109) #[] #[.pointer (some ⟨tw, 0, none⟩), .pointer (some ⟨tk, 0, none⟩), .pointer (some ⟨td, 0, none⟩), .pointer (some ⟨ta, 0, none⟩)]) := by simp
 have za : (wt.alloc (.cells #[.func (.func 109) #[] #[.pointer (some ⟨tw, 0, none⟩), .pointer (some ⟨tk, 0, none⟩), .pointer (some ⟨td, 0, none⟩), .pointer (some ⟨ta, 0, none⟩)]] 120)).heap.size = wt.heap.size + 1 := by simp
 have Dt := (hCt.new hba).addBox (Free.new hCt (j := wt.heap.size) (by omega) (by omega)) et
 have Mt := (Lt).trans (le_box _ (N := w.heap.size) (j := wt.heap.size) (by omega) (.func (.func 109) #[] #[.pointer (some ⟨tw, 0, none⟩), .pointer (some ⟨tk, 0, none⟩), .pointer (some ⟨td, 0, none⟩), .pointer (some ⟨ta, 0, none⟩)])) (Nat.le_refl _)
 have HD := Lib.hid Dt
 have HM := Lib.hid Mt
 have nA := (nt).below hba
 have zA : w.heap.size < (wt.alloc (.cells #[.func (.func 109) #[] #[.pointer (some ⟨tw, 0, none⟩), .pointer (some ⟨tk, 0, none⟩), .pointer (some ⟨td, 0, none⟩), .pointer (some ⟨ta, 0, none⟩)]] 120)).heap.size := nA.lt
 have fA : Free (ct.box (wt.heap.size) (.func (.func 109) #[] #[.pointer (some ⟨tw, 0, none⟩), .pointer (some ⟨tk, 0, none⟩), .pointer (some ⟨td, 0, none⟩), .pointer (some ⟨ta, 0, none⟩)])) O (wt.alloc (.cells #[.func (.func 109) #[] #[.pointer (some ⟨tw, 0, none⟩), .pointer (some ⟨tk, 0, none⟩), .pointer (some ⟨td, 0, none⟩), .pointer (some ⟨ta, 0, none⟩)]] 120)) w.heap.size := by
  have f := (ft).le (Le.refl (w.heap.size + 1) ct) (by omega) hba.size
  exact ⟨f.lt, f.o, f.s, f.wk, f.m, fun p hp => by
   rcases List.mem_cons.1 hp with rfl | hp
   ·show wt.heap.size ≠ _; omega
   ·exact f.b p hp⟩
 have BA : Below w.heap.size w (wt.alloc (.cells #[.func (.func 109) #[] #[.pointer (some ⟨tw, 0, none⟩), .pointer (some ⟨tk, 0, none⟩), .pointer (some ⟨td, 0, none⟩), .pointer (some ⟨ta, 0, none⟩)]] 120)) := (Bt).trans (hba.mono (by omega))
 have It := (hIt.le (le_box _ (N := 0) (j := wt.heap.size) (Nat.zero_le _) (.func (.func 109) #[] #[.pointer (some ⟨tw, 0, none⟩), .pointer (some ⟨tk, 0, none⟩), .pointer (some ⟨td, 0, none⟩), .pointer (some ⟨ta, 0, none⟩)])))
 have HWA : Hid ((ct.box (wt.heap.size) (.func (.func 109) #[] #[.pointer (some ⟨tw, 0, none⟩), .pointer (some ⟨tk, 0, none⟩), .pointer (some ⟨td, 0, none⟩), .pointer (some ⟨ta, 0, none⟩)])).wk = wk) := wkt
 go_wp2_with fail
 generalize hWA : (wt.alloc (.cells #[.func (.func 109) #[] #[.pointer (some ⟨tw, 0, none⟩), .pointer (some ⟨tk, 0, none⟩), .pointer (some ⟨td, 0, none⟩), .pointer (some ⟨ta, 0, none⟩)]] 120)) = WA at *
 refine (walk_any (k := .least) (HD.out) (HWA.out) (fun _ _ => by kernel_rfl) knows_least).mono ?_
 rintro e w2 ⟨c2, sw, sk, sd, sa, dm, rfl, hC2, hL2, hb2, hI2⟩
 have n2 := (nA).below hb2
 have f2 := (fA).le hL2 zA hb2.size
 have hst := n2.store 109 #[.pointer (some ⟨sw, 0, none⟩), .pointer (some ⟨sk, 0, none⟩), .pointer (some ⟨sd, 0, none⟩), .pointer (some ⟨sa, 0, none⟩)]
 have hC3 := hC2.putBox (v := .func (.func 109) #[] #[.pointer (some ⟨sw, 0, none⟩), .pointer (some ⟨sk, 0, none⟩), .pointer (some ⟨sd, 0, none⟩), .pointer (some ⟨sa, 0, none⟩)]) f2 n2.cell
 have c3 := (hC3.box _ (List.mem_cons_self ..)).2.1
 have hL3 := ((HM.out).trans (hL2.mono (N := w.heap.size) (by omega)) (Nat.le_refl _)).trans (le_box c2 (N := w.heap.size) (j := w.heap.size) (Nat.le_refl _) (.func (.func 109) #[] #[.pointer (some ⟨sw, 0, none⟩), .pointer (some ⟨sk, 0, none⟩), .pointer (some ⟨sd, 0, none⟩), .pointer (some ⟨sa, 0, none⟩)])) (Nat.le_refl _)
 have HOUT : Hid (∃ c' sw' sk' sd' sa', Ending.returned (.func (.func 109) #[] #[.pointer (some ⟨sw, 0, none⟩), .pointer (some ⟨sk, 0, none⟩), .pointer (some ⟨sd, 0, none⟩), .pointer (some ⟨sa, 0, none⟩)]) = .returned (.func (.func 109) #[] #[.pointer (some ⟨sw', 0, none⟩), .pointer (some ⟨sk', 0, none⟩), .pointer (some ⟨sd', 0, none⟩), .pointer (some ⟨sa', 0, none⟩)]) /\ CtxAt B (w2.setCell ⟨w.heap.size, 0, none⟩ (.func (.func 109) #[] #[.pointer (some ⟨sw, 0, none⟩), .pointer (some ⟨sk, 0, none⟩), .pointer (some ⟨sd, 0, none⟩), .pointer (some ⟨sa, 0, none⟩)])) c' O vars ns /\ Le w.heap.size c c' /\ Below w.heap.size w (w2.setCell ⟨w.heap.size, 0, none⟩ (.func (.func 109) #[] #[.pointer (some ⟨sw, 0, none⟩), .pointer (some ⟨sk, 0, none⟩), .pointer (some ⟨sd, 0, none⟩), .pointer (some ⟨sa, 0, none⟩)])) /\ IsLeast c' sw' sk' sd' sa') :=
  ⟨_, sw, sk, sd, sa, rfl, hC3, hL3, below_put ((BA).trans (hb2.mono (BA).size)) (Nat.le_refl _), dm, w.heap.size, wt.heap.size, tw, tk, td, ta, (hI2.le (le_box c2 (N := w.heap.size) (j := w.heap.size) (Nat.le_refl _) (.func (.func 109) #[] #[.pointer (some ⟨sw, 0, none⟩), .pointer (some ⟨sk, 0, none⟩), .pointer (some ⟨sd, 0, none⟩), .pointer (some ⟨sa, 0, none⟩)]))), List.mem_cons_self .., List.mem_cons_of_mem _ (hL2.boxes _ (List.mem_cons_self ..)), ((It.le hL2).le (le_box c2 (N := w.heap.size) (j := w.heap.size) (Nat.le_refl _) (.func (.func 109) #[] #[.pointer (some ⟨sw, 0, none⟩), .pointer (some ⟨sk, 0, none⟩), .pointer (some ⟨sd, 0, none⟩), .pointer (some ⟨sa, 0, none⟩)])))⟩
 clear hC2 hL2 hb2 hI2 n2 f2 hC3 hL3
 go_wp2
 go_ret
 exact HOUT.out
theorem IsHits.le {N : Nat} {c c' : Ctx} {sw sk sd sa : Nat} (h : IsHits c sw sk sd sa) (hL : Le N c c') : IsHits c' sw sk sd sa := by
 obtain ⟨dm, sx, ox, tx, ow, ok, od, oa, tw, tk, td, ta, hF, hbxs, hbxo, hbxt, hNo, hNt⟩ := h
 exact ⟨dm, sx, ox, tx, ow, ok, od, oa, tw, tk, td, ta, hF.le hL, hL.boxes _ hbxs, hL.boxes _ hbxo, hL.boxes _ hbxt, hNo.le hL, hNt.le hL⟩
theorem mk_hits {B : Nat} {c : Ctx} {O : Nat -> Prop} {vars : Nat} {ns : List Nd} {w : World} {wk : Nat} (hC : CtxAt B w c O vars ns) (hwk : c.wk = wk) :
  Calls Tryz.prog 48 #[.pointer (some ⟨wk, 0, none⟩)] w fun e w' => ∃ c' sw sk sd sa, e = .returned (.func (.func 109) #[] #[.pointer (some ⟨sw, 0, none⟩), .pointer (some ⟨sk, 0, none⟩), .pointer (some ⟨sd, 0, none⟩), .pointer (some ⟨sa, 0, none⟩)]) /\ CtxAt B w' c' O vars ns /\ Le w.heap.size c c' /\ Below w.heap.size w w' /\ IsHits c' sw sk sd sa := by
 have hb1 := below_new w (.cells #[.nilFunc] 120)
 have hC1 := hC.new hb1
 have n1 := NoF.new w
 have f1 : Free c O (w.alloc (.cells #[.nilFunc] 120)) w.heap.size := Free.new hC (Nat.le_refl _) n1.lt
 have z1 : w.heap.size < (w.alloc (.cells #[.nilFunc] 120)).heap.size := n1.lt
 have HC := Lib.hid hC1
 have HB := Lib.hid hb1
 have HN := Lib.hid n1
 have HF := Lib.hid f1
 have HW := Lib.hid hwk
 clear hC hC1 hb1 n1 f1 hwk
 go_enter Tryz.func48, Tryz.ntmps48
 go_wp2_with fail
 generalize (w.alloc (.cells #[.nilFunc] 120)) = W1 at *
 refine (mk_or HC.out HW.out).mono ?_
 rintro e wo ⟨co, ow, ok, od, oa, rfl, hCo, hLo, hbo, hIo⟩
 have wko : co.wk = wk := hLo.wk.trans (HW.out)
 have no := (HN.out).below hbo
 have zo : w.heap.size < wo.heap.size := no.lt
 have fo := (HF.out).le hLo z1 hbo.size
 have Bo := (HB.out).trans (hbo.mono (HB.out).size)
 have Lo := ((Le.refl w.heap.size c)).trans (hLo.mono (N := w.heap.size) (by omega)) (Nat.le_refl _)
 go_wp2_with fail
 refine (mk_without hCo wko).mono ?_
 rintro e wt ⟨ct, tw, tk, td, ta, rfl, hCt, hLt, hbt, hIt⟩
 have wkt : ct.wk = wk := hLt.wk.trans (wko)
 have nt := (no).below hbt
 have zt : w.heap.size < wt.heap.size := nt.lt
 have ft := (fo).le hLt zo hbt.size
 have Bt := (Bo).trans (hbt.mono (Bo).size)
 have Lt := (Lo).trans (hLt.mono (N := w.heap.size) (by omega)) (Nat.le_refl _)
 have hsto : (store ⟨wt.heap.size, 0, none⟩ (Value.func (Fn.func 109) #[] #[.pointer (some ⟨ow, 0, none⟩), .pointer (some ⟨ok, 0, none⟩), .pointer (some ⟨od, 0, none⟩), .pointer (some ⟨oa, 0, none⟩)])).run Tryz.prog ((wt.alloc (.cells #[.nilFunc] 120)).alloc (.cells #[.nilFunc] 120)) = .ok () ((wt.alloc (.cells #[.func (.func 109) #[] #[.pointer (some ⟨ow, 0, none⟩), .pointer (some ⟨ok, 0, none⟩), .pointer (some ⟨od, 0, none⟩), .pointer (some ⟨oa, 0, none⟩)]] 120)).alloc (.cells #[.nilFunc] 120)) := by
  have hn : NoF ((wt.alloc (.cells #[.nilFunc] 120)).alloc (.cells #[.nilFunc] 120)) wt.heap.size := (NoF.new wt).below (below_new _ _)
  rw [hn.store]
  refine congrArg (fun X => Result.ok () X) ?_
  rw [World.setCell_alloc_past _ _ _ _ (by simp), World.setCell_alloc_at _ _ _ _ _ rfl]
  rfl
 have hstt : (store ⟨wt.heap.size + 1, 0, none⟩ (Value.func (Fn.func 109) #[] #[.pointer (some ⟨tw, 0, none⟩), .pointer (some ⟨tk, 0, none⟩), .pointer (some ⟨td, 0, none⟩), .pointer (some ⟨ta, 0, none⟩)])).run Tryz.prog ((wt.alloc (.cells #[.func (.func 109) #[] #[.pointer (some ⟨ow, 0, none⟩), .pointer (some ⟨ok, 0, none⟩), .pointer (some ⟨od, 0, none⟩), .pointer (some ⟨oa, 0, none⟩)]] 120)).alloc (.cells #[.nilFunc] 120)) = .ok () ((wt.alloc (.cells #[.func (.func 109) #[] #[.pointer (some ⟨ow, 0, none⟩), .pointer (some ⟨ok, 0, none⟩), .pointer (some ⟨od, 0, none⟩), .pointer (some ⟨oa, 0, none⟩)]] 120)).alloc (.cells #[.func (.func 109) #[] #[.pointer (some ⟨tw, 0, none⟩), .pointer (some ⟨tk, 0, none⟩), .pointer (some ⟨td, 0, none⟩), .pointer (some ⟨ta, 0, none⟩)]] 120)) := by
  have e1 : (wt.alloc (.cells #[.func (.func 109) #[] #[.pointer (some ⟨ow, 0, none⟩), .pointer (some ⟨ok, 0, none⟩), .pointer (some ⟨od, 0, none⟩), .pointer (some ⟨oa, 0, none⟩)]] 120)).heap.size = wt.heap.size + 1 := by simp
  have hn := NoF.new (wt.alloc (.cells #[.func (.func 109) #[] #[.pointer (some ⟨ow, 0, none⟩), .pointer (some ⟨ok, 0, none⟩), .pointer (some ⟨od, 0, none⟩), .pointer (some ⟨oa, 0, none⟩)]] 120))
  rw [e1] at hn
  rw [hn.store]
  exact congrArg (fun X => Result.ok () X) (World.setCell_alloc_at _ _ _ _ _ e1.symm)
 have hba : Below wt.heap.size wt ((wt.alloc (.cells #[.func (.func 109) #[] #[.pointer (some ⟨ow, 0, none⟩), .pointer (some ⟨ok, 0, none⟩), .pointer (some ⟨od, 0, none⟩), .pointer (some ⟨oa, 0, none⟩)]] 120)).alloc (.cells #[.func (.func 109) #[] #[.pointer (some ⟨tw, 0, none⟩), .pointer (some ⟨tk, 0, none⟩), .pointer (some ⟨td, 0, none⟩), .pointer (some ⟨ta, 0, none⟩)]] 120)) := (below_new wt _).alloc (below_new wt _).size _
 have eo : ((wt.alloc (.cells #[.func (.func 109) #[] #[.pointer (some ⟨ow, 0, none⟩), .pointer (some ⟨ok, 0, none⟩), .pointer (some ⟨od, 0, none⟩), .pointer (some ⟨oa, 0, none⟩)]] 120)).alloc (.cells #[.func (.func 109) #[] #[.pointer (some ⟨tw, 0, none⟩), .pointer (some ⟨tk, 0, none⟩), .pointer (some ⟨td, 0, none⟩), .pointer (some ⟨ta, 0, none⟩)]] 120)).cell? ⟨wt.heap.size, 0, none⟩ = some (.func (.func 109) #[] #[.pointer (some ⟨ow, 0, none⟩), .pointer (some ⟨ok, 0, none⟩), .pointer (some ⟨od, 0, none⟩), .pointer (some ⟨oa, 0, none⟩)]) := by simp
 have et : ((wt.alloc (.cells #[.func (.func 109) #[] #[.pointer (some ⟨ow, 0, none⟩), .pointer (some ⟨ok, 0, none⟩), .pointer (some ⟨od, 0, none⟩), .pointer (some ⟨oa, 0, none⟩)]] 120)).alloc (.cells #[.func (.func 109) #[] #[.pointer (some ⟨tw, 0, none⟩), .pointer (some ⟨tk, 0, none⟩), .pointer (some ⟨td, 0, none⟩), .pointer (some ⟨ta, 0, none⟩)]] 120)).cell? ⟨wt.heap.size + 1, 0, none⟩ = some (.func (.func 109) #[] #[.pointer (some ⟨tw, 0, none⟩), .pointer (some ⟨tk, 0, none⟩), .pointer (some ⟨td, 0, none⟩), .pointer (some ⟨ta, 0, none⟩)]) := by
  have e1 : (wt.alloc (.cells #[.func (.func 109) #[] #[.pointer (some ⟨ow, 0, none⟩), .pointer (some ⟨ok, 0, none⟩), .pointer (some ⟨od, 0, none⟩), .pointer (some ⟨oa, 0, none⟩)]] 120)).heap.size = wt.heap.size + 1 := by simp
  rw [<- e1]; simp
 have za : ((wt.alloc (.cells #[.func (.func 109) #[] #[.pointer (some ⟨ow, 0, none⟩), .pointer (some ⟨ok, 0, none⟩), .pointer (some ⟨od, 0, none⟩), .pointer (some ⟨oa, 0, none⟩)]] 120)).alloc (.cells #[.func (.func 109) #[] #[.pointer (some ⟨tw, 0, none⟩), .pointer (some ⟨tk, 0, none⟩), .pointer (some ⟨td, 0, none⟩), .pointer (some ⟨ta, 0, none⟩)]] 120)).heap.size = wt.heap.size + 2 := by simp
 have Do := (hCt.new hba).addBox (Free.new hCt (j := wt.heap.size) (by omega) (by omega)) eo
 have Mo := (Lt).trans (le_box _ (N := w.heap.size) (j := wt.heap.size) (by omega) (.func (.func 109) #[] #[.pointer (some ⟨ow, 0, none⟩), .pointer (some ⟨ok, 0, none⟩), .pointer (some ⟨od, 0, none⟩), .pointer (some ⟨oa, 0, none⟩)])) (Nat.le_refl _)
 have fadd1 : Free (ct.box (wt.heap.size) (.func (.func 109) #[] #[.pointer (some ⟨ow, 0, none⟩), .pointer (some ⟨ok, 0, none⟩), .pointer (some ⟨od, 0, none⟩), .pointer (some ⟨oa, 0, none⟩)])) O ((wt.alloc (.cells #[.func (.func 109) #[] #[.pointer (some ⟨ow, 0, none⟩), .pointer (some ⟨ok, 0, none⟩), .pointer (some ⟨od, 0, none⟩), .pointer (some ⟨oa, 0, none⟩)]] 120)).alloc (.cells #[.func (.func 109) #[] #[.pointer (some ⟨tw, 0, none⟩), .pointer (some ⟨tk, 0, none⟩), .pointer (some ⟨td, 0, none⟩), .pointer (some ⟨ta, 0, none⟩)]] 120)) (wt.heap.size + 1) := by
  have f := Free.new (w' := ((wt.alloc (.cells #[.func (.func 109) #[] #[.pointer (some ⟨ow, 0, none⟩), .pointer (some ⟨ok, 0, none⟩), .pointer (some ⟨od, 0, none⟩), .pointer (some ⟨oa, 0, none⟩)]] 120)).alloc (.cells #[.func (.func 109) #[] #[.pointer (some ⟨tw, 0, none⟩), .pointer (some ⟨tk, 0, none⟩), .pointer (some ⟨td, 0, none⟩), .pointer (some ⟨ta, 0, none⟩)]] 120))) hCt (j := wt.heap.size + 1) (by omega) (by omega)
  exact ⟨f.lt, f.o, f.s, f.wk, f.m, fun p hp => by
   rcases List.mem_cons.1 hp with rfl | hp
   ·show wt.heap.size ≠ _; omega
   ·exact f.b p hp⟩
 have Dt := Do.addBox (fadd1) et
 have Mt := (Mo).trans (le_box _ (N := w.heap.size) (j := wt.heap.size + 1) (by omega) (.func (.func 109) #[] #[.pointer (some ⟨tw, 0, none⟩), .pointer (some ⟨tk, 0, none⟩), .pointer (some ⟨td, 0, none⟩), .pointer (some ⟨ta, 0, none⟩)])) (Nat.le_refl _)
 have HD := Lib.hid Dt
 have HM := Lib.hid Mt
 have nA := (nt).below hba
 have zA : w.heap.size < ((wt.alloc (.cells #[.func (.func 109) #[] #[.pointer (some ⟨ow, 0, none⟩), .pointer (some ⟨ok, 0, none⟩), .pointer (some ⟨od, 0, none⟩), .pointer (some ⟨oa, 0, none⟩)]] 120)).alloc (.cells #[.func (.func 109) #[] #[.pointer (some ⟨tw, 0, none⟩), .pointer (some ⟨tk, 0, none⟩), .pointer (some ⟨td, 0, none⟩), .pointer (some ⟨ta, 0, none⟩)]] 120)).heap.size := nA.lt
 have fA : Free ((ct.box (wt.heap.size) (.func (.func 109) #[] #[.pointer (some ⟨ow, 0, none⟩), .pointer (some ⟨ok, 0, none⟩), .pointer (some ⟨od, 0, none⟩), .pointer (some ⟨oa, 0, none⟩)])).box (wt.heap.size + 1) (.func (.func 109) #[] #[.pointer (some ⟨tw, 0, none⟩), .pointer (some ⟨tk, 0, none⟩), .pointer (some ⟨td, 0, none⟩), .pointer (some ⟨ta, 0, none⟩)])) O ((wt.alloc (.cells #[.func (.func 109) #[] #[.pointer (some ⟨ow, 0, none⟩), .pointer (some ⟨ok, 0, none⟩), .pointer (some ⟨od, 0, none⟩), .pointer (some ⟨oa, 0, none⟩)]] 120)).alloc (.cells #[.func (.func 109) #[] #[.pointer (some ⟨tw, 0, none⟩), .pointer (some ⟨tk, 0, none⟩), .pointer (some ⟨td, 0, none⟩), .pointer (some ⟨ta, 0, none⟩)]] 120)) w.heap.size := by
  have f := (ft).le (Le.refl (w.heap.size + 1) ct) (by omega) hba.size
  exact ⟨f.lt, f.o, f.s, f.wk, f.m, fun p hp => by
   rcases List.mem_cons.1 hp with rfl | hp
   ·show wt.heap.size + 1 ≠ _; omega
   ·rcases List.mem_cons.1 hp with rfl | hp
    ·show wt.heap.size ≠ _; omega
    ·exact f.b p hp⟩
 have BA : Below w.heap.size w ((wt.alloc (.cells #[.func (.func 109) #[] #[.pointer (some ⟨ow, 0, none⟩), .pointer (some ⟨ok, 0, none⟩), .pointer (some ⟨od, 0, none⟩), .pointer (some ⟨oa, 0, none⟩)]] 120)).alloc (.cells #[.func (.func 109) #[] #[.pointer (some ⟨tw, 0, none⟩), .pointer (some ⟨tk, 0, none⟩), .pointer (some ⟨td, 0, none⟩), .pointer (some ⟨ta, 0, none⟩)]] 120)) := (Bt).trans (hba.mono (by omega))
 have Io := (((hIo.le hLt).le (le_box _ (N := 0) (j := wt.heap.size) (Nat.zero_le _) (.func (.func 109) #[] #[.pointer (some ⟨ow, 0, none⟩), .pointer (some ⟨ok, 0, none⟩), .pointer (some ⟨od, 0, none⟩), .pointer (some ⟨oa, 0, none⟩)]))).le (le_box _ (N := 0) (j := wt.heap.size + 1) (Nat.zero_le _) (.func (.func 109) #[] #[.pointer (some ⟨tw, 0, none⟩), .pointer (some ⟨tk, 0, none⟩), .pointer (some ⟨td, 0, none⟩), .pointer (some ⟨ta, 0, none⟩)])))
 have It := ((hIt.le (le_box _ (N := 0) (j := wt.heap.size) (Nat.zero_le _) (.func (.func 109) #[] #[.pointer (some ⟨ow, 0, none⟩), .pointer (some ⟨ok, 0, none⟩), .pointer (some ⟨od, 0, none⟩), .pointer (some ⟨oa, 0, none⟩)]))).le (le_box _ (N := 0) (j := wt.heap.size + 1) (Nat.zero_le _) (.func (.func 109) #[] #[.pointer (some ⟨tw, 0, none⟩), .pointer (some ⟨tk, 0, none⟩), .pointer (some ⟨td, 0, none⟩), .pointer (some ⟨ta, 0, none⟩)])))
 have HWA : Hid (((ct.box (wt.heap.size) (.func (.func 109) #[] #[.pointer (some ⟨ow, 0, none⟩), .pointer (some ⟨ok, 0, none⟩), .pointer (some ⟨od, 0, none⟩), .pointer (some ⟨oa, 0, none⟩)])).box (wt.heap.size + 1) (.func (.func 109) #[] #[.pointer (some ⟨tw, 0, none⟩), .pointer (some ⟨tk, 0, none⟩), .pointer (some ⟨td, 0, none⟩), .pointer (some ⟨ta, 0, none⟩)])).wk = wk) := wkt
 go_wp2_with fail
 generalize hWA : ((wt.alloc (.cells #[.func (.func 109) #[] #[.pointer (some ⟨ow, 0, none⟩), .pointer (some ⟨ok, 0, none⟩), .pointer (some ⟨od, 0, none⟩), .pointer (some ⟨oa, 0, none⟩)]] 120)).alloc (.cells #[.func (.func 109) #[] #[.pointer (some ⟨tw, 0, none⟩), .pointer (some ⟨tk, 0, none⟩), .pointer (some ⟨td, 0, none⟩), .pointer (some ⟨ta, 0, none⟩)]] 120)) = WA at *
 refine (walk_any (k := .hits) (HD.out) (HWA.out) (fun _ _ => by kernel_rfl) knows_hits).mono ?_
 rintro e w2 ⟨c2, sw, sk, sd, sa, dm, rfl, hC2, hL2, hb2, hI2⟩
 have n2 := (nA).below hb2
 have f2 := (fA).le hL2 zA hb2.size
 have hst := n2.store 109 #[.pointer (some ⟨sw, 0, none⟩), .pointer (some ⟨sk, 0, none⟩), .pointer (some ⟨sd, 0, none⟩), .pointer (some ⟨sa, 0, none⟩)]
 have hC3 := hC2.putBox (v := .func (.func 109) #[] #[.pointer (some ⟨sw, 0, none⟩), .pointer (some ⟨sk, 0, none⟩), .pointer (some ⟨sd, 0, none⟩), .pointer (some ⟨sa, 0, none⟩)]) f2 n2.cell
 have c3 := (hC3.box _ (List.mem_cons_self ..)).2.1
 have hL3 := ((HM.out).trans (hL2.mono (N := w.heap.size) (by omega)) (Nat.le_refl _)).trans (le_box c2 (N := w.heap.size) (j := w.heap.size) (Nat.le_refl _) (.func (.func 109) #[] #[.pointer (some ⟨sw, 0, none⟩), .pointer (some ⟨sk, 0, none⟩), .pointer (some ⟨sd, 0, none⟩), .pointer (some ⟨sa, 0, none⟩)])) (Nat.le_refl _)
 have HOUT : Hid (∃ c' sw' sk' sd' sa', Ending.returned (.func (.func 109) #[] #[.pointer (some ⟨sw, 0, none⟩), .pointer (some ⟨sk, 0, none⟩), .pointer (some ⟨sd, 0, none⟩), .pointer (some ⟨sa, 0, none⟩)]) = .returned (.func (.func 109) #[] #[.pointer (some ⟨sw', 0, none⟩), .pointer (some ⟨sk', 0, none⟩), .pointer (some ⟨sd', 0, none⟩), .pointer (some ⟨sa', 0, none⟩)]) /\ CtxAt B (w2.setCell ⟨w.heap.size, 0, none⟩ (.func (.func 109) #[] #[.pointer (some ⟨sw, 0, none⟩), .pointer (some ⟨sk, 0, none⟩), .pointer (some ⟨sd, 0, none⟩), .pointer (some ⟨sa, 0, none⟩)])) c' O vars ns /\ Le w.heap.size c c' /\ Below w.heap.size w (w2.setCell ⟨w.heap.size, 0, none⟩ (.func (.func 109) #[] #[.pointer (some ⟨sw, 0, none⟩), .pointer (some ⟨sk, 0, none⟩), .pointer (some ⟨sd, 0, none⟩), .pointer (some ⟨sa, 0, none⟩)])) /\ IsHits c' sw' sk' sd' sa') :=
  ⟨_, sw, sk, sd, sa, rfl, hC3, hL3, below_put ((BA).trans (hb2.mono (BA).size)) (Nat.le_refl _), dm, w.heap.size, wt.heap.size, wt.heap.size + 1, ow, ok, od, oa, tw, tk, td, ta, (hI2.le (le_box c2 (N := w.heap.size) (j := w.heap.size) (Nat.le_refl _) (.func (.func 109) #[] #[.pointer (some ⟨sw, 0, none⟩), .pointer (some ⟨sk, 0, none⟩), .pointer (some ⟨sd, 0, none⟩), .pointer (some ⟨sa, 0, none⟩)]))), List.mem_cons_self .., List.mem_cons_of_mem _ (hL2.boxes _ (List.mem_cons_of_mem _ (List.mem_cons_self ..))), List.mem_cons_of_mem _ (hL2.boxes _ (List.mem_cons_self ..)), ((Io.le hL2).le (le_box c2 (N := w.heap.size) (j := w.heap.size) (Nat.le_refl _) (.func (.func 109) #[] #[.pointer (some ⟨sw, 0, none⟩), .pointer (some ⟨sk, 0, none⟩), .pointer (some ⟨sd, 0, none⟩), .pointer (some ⟨sa, 0, none⟩)]))), ((It.le hL2).le (le_box c2 (N := w.heap.size) (j := w.heap.size) (Nat.le_refl _) (.func (.func 109) #[] #[.pointer (some ⟨sw, 0, none⟩), .pointer (some ⟨sk, 0, none⟩), .pointer (some ⟨sd, 0, none⟩), .pointer (some ⟨sa, 0, none⟩)])))⟩
 clear hC2 hL2 hb2 hI2 n2 f2 hC3 hL3
 go_wp2
 go_ret
 exact HOUT.out
end Go.Proofs.YtbklgjmkdhinpaaGreatDoor.Fm
