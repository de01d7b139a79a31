/- makes: what is seen at once, and what was worked out. -/
import Derived.Test.YtcjjekhecjmaeaaGreatDoorBdAsk
set_option maxHeartbeats 2000000
set_option maxRecDepth 100000
namespace Go.Proofs.YtcjjekhecjmaeaaGreatDoor
open Go.RowKit Go.Maps
structure WS (B : Nat) (w : World) (s b wk dm : Nat) (O : Nat -> Prop) (F : FuncId) (op : Bool) (vars : Nat) (room : Int) (ns : List Nd) (m : List (Nd × Int)) : Prop where
 space : SpaceAt B w s b O vars room ns
 work : WorkAt B w wk dm s F m
 good : Good vars ns
 memo : MemoOk op ns m
 o1 : ¬ O wk
 o2 : ¬ O dm
 sd : s ≠ dm
 hB : B <= w.heap.size
structure MM (O O' : Nat -> Prop) (dm : Nat) (w w' : World) : Prop where
 kept : Kept (fun j => O j \/ j = dm) w w'
 own : ∀ k, O' k -> O k \/ w.heap.size <= k
structure Knows (F : FuncId) (op : Bool) : Prop where
 enters : ∀ (args : Array Value) (w : World), (callFunc F args).run Tryz.prog w = .ok (.enter F args) w
 does : ∀ (k : Nd) (w : World), Calls Tryz.prog F #[k.val] w fun e w' => e = .returned (.tuple #[.int .i64 ((knownF op k).getD 0), .bool (knownF op k).isSome]) /\ Below w.heap.size w w'
theorem knows_ite : Knows 98 true := ⟨fun _ _ => by kernel_rfl, ite_any⟩
theorem knows_xor : Knows 101 false := ⟨fun _ _ => by kernel_rfl, xor_any⟩
section
variable {B s b wk dm : Nat} {O O' O'' : Nat -> Prop} {F : FuncId} {op : Bool} {vars : Nat} {room : Int} {ns : List Nd} {m : List (Nd × Int)} {w w' w'' : World} {k : Nd}
theorem WS.new (h : WS B w s b wk dm O F op vars room ns m) (hb : Below w.heap.size w w') : WS B w' s b wk dm O F op vars room ns m :=
 ⟨h.space.new hb, h.work.new hb, h.good, h.memo, h.o1, h.o2, h.sd, Nat.le_trans h.hB hb.size⟩
theorem MM.of_below (hb : Below w.heap.size w w') : MM O O dm w w' := ⟨Kept.of_below hb _, fun _ h => .inl h⟩
theorem MM.of_moves (h : Moves O O' w w') : MM O O' dm w w' := ⟨h.kept.mono (fun _ h => .inl h), h.own⟩
theorem MM.trans (h : MM O O' dm w w') (k : MM O' O'' dm w' w'') : MM O O'' dm w w'' :=
 ⟨h.kept.andThen k.kept (fun i hi hlt => by
   rcases hi with hi | hi
   ·rcases h.own i hi with h1 | h1
    ·exact .inl h1
    ·omega
   ·exact .inr hi), fun i hi => by
  rcases k.own i hi with h1 | h1
  ·exact h.own i h1
  ·exact .inr (Nat.le_trans h.kept.size h1)⟩
theorem MM.size (h : MM O O' dm w w') : w.heap.size <= w'.heap.size := h.kept.size
theorem MM.beside (h : MM O O' dm w w') {j : Nat} (hlt : j < w.heap.size) (hn : ¬ O j) : ¬ O' j := fun ho => by
 rcases h.own j ho with h1 | h1
 ·exact hn h1
 ·omega
theorem MM.cell (h : MM O O' dm w w') {a : Addr} (hlt : a.block < w.heap.size) (hn : ¬ O a.block) (hd : a.block ≠ dm) : w'.cell? a = w.cell? a := h.kept.cell hlt (fun ho => ho.elim hn hd)
theorem MM.frozen (h : MM O O' dm w w') {a : Addr} (hlt : a.block < w.heap.size) (hn : ¬ O a.block) (hd : a.block ≠ dm) : w'.frozen? a = w.frozen? a := h.kept.frozen hlt (fun ho => ho.elim hn hd)
theorem WS.moved (h : WS B w s b wk dm O F op vars room ns m) {ns' : List Nd} (hS : SpaceAt B w' s b O' vars room ns') (hm : Moves O O' w w') (hg : Good vars ns') (hx : Ext ns ns') : WS B w' s b wk dm O' F op vars room ns' m :=
 ⟨hS, h.work.kept hm.kept h.o1 h.o2, hg, h.memo.ext h.good.ranked hx, hm.beside h.work.lt h.o1, hm.beside h.work.dlt h.o2, h.sd, Nat.le_trans h.hB hm.size⟩
theorem ask_ok (h3 : Has3 ns k) (hl : ns.length <= 90000) : k.Ok := ⟨has_i64 h3.a (by omega), has_i64 h3.b (by omega), has_i64 h3.c (by omega)⟩
def MakesOut (B s b wk dm : Nat) (O : Nat -> Prop) (F : FuncId) (op : Bool) (vars : Nat) (room : Int) (r : List Nd × List (Nd × Int) × Int) (w : World) (e : Ending) (w' : World) : Prop :=
 e = .returned (.tuple #[.int .i64 r.2.2, .nilIface]) /\ ∃ O', WS B w' s b wk dm O' F op vars room r.1 r.2.1 /\ MM O O' dm w w'
theorem makes_known (h : WS B w s b wk dm O F op vars room ns m) (hF : Knows F op) (x : Int) (hk : knownF op k = some x) :
  Calls Tryz.prog 139 #[.pointer (some ⟨wk, 0, none⟩), k.val] w (MakesOut B s b wk dm O F op vars room (ns, m, x) w) := by
 have HW := Lib.hid h
 have c1 := h.work.c1
 have wl := h.work.lt
 have HK : Hid (∀ W, Calls Tryz.prog F #[k.val] W fun e w' => e = .returned (.tuple #[.int .i64 x, .bool true]) /\ Below W.heap.size W w') := fun W => by
  have := hF.does k W; rw [hk] at this; exact this
 have hent := hF.enters
 clear h hF hk
 obtain ⟨ka, kb, kc⟩ := k
 have hb := below_new w (.cells #[.int .i64 ka, .int .i64 kb, .int .i64 kc] 172)
 obtain ⟨x0, x1, x2, -⟩ := cell3 w (.int .i64 ka) (.int .i64 kb) (.int .i64 kc) 172
 have d1 := (hb.cell (p := ⟨wk, 1, none⟩) wl).trans c1
 have bl : w.heap.size < (w.alloc (.cells #[.int .i64 ka, .int .i64 kb, .int .i64 kc] 172)).heap.size := by simp
 have hbs := hb.size
 have wl1 : wk < (w.alloc (.cells #[.int .i64 ka, .int .i64 kb, .int .i64 kc] 172)).heap.size := by omega
 unfold Nd.val at HK ⊢
 go_enter Tryz.func139, Tryz.ntmps139
 go_wp2_with fail
 have HB := Lib.hid hb
 clear hb c1
 generalize (w.alloc (.cells #[.int .i64 ka, .int .i64 kb, .int .i64 kc] 172)) = W1 at *
 have e0 : W1.drew.cell? ⟨wk, 1, none⟩ = some (.func (.func F) #[] #[]) := d1
 have f0 : W1.drew.cell? ⟨w.heap.size, 0, none⟩ = some (.int .i64 ka) := x0
 have f1 : W1.drew.cell? ⟨w.heap.size, 1, none⟩ = some (.int .i64 kb) := x1
 have f2 : W1.drew.cell? ⟨w.heap.size, 2, none⟩ = some (.int .i64 kc) := x2
 go_region_held3 (fun w' => w'.cell? ⟨wk, 1, none⟩ = some (.func (.func F) #[] #[]) /\ w'.cell? ⟨w.heap.size, 0, none⟩ = some (.int .i64 ka) /\ w'.cell? ⟨w.heap.size, 1, none⟩ = some (.int .i64 kb) /\ w'.cell? ⟨w.heap.size, 2, none⟩ = some (.int .i64 kc)) (first | exact ⟨e0, f0, f1, f2⟩ | exact ⟨(hb2.cell (p := ⟨wk, 1, none⟩) wl1).trans e0, (hb2.cell (p := ⟨w.heap.size, 0, none⟩) bl).trans f0, (hb2.cell (p := ⟨w.heap.size, 1, none⟩) bl).trans f1, (hb2.cell (p := ⟨w.heap.size, 2, none⟩) bl).trans f2⟩)
  (first | (with_reducible refine (HK.out _).mono ?_; rintro e w2 ⟨rfl, hb2⟩))
 go_wp2
 go_ret2
 have hb3 : Below w.heap.size w w2 := (HB.out.drew).trans (hb2.mono HB.out.size)
 exact ⟨rfl, O, HW.out.new hb3, MM.of_below hb3⟩
theorem makes_look (h : WS B w s b wk dm O F op vars room ns m) (hF : Knows F op) (x : Int) (hk : knownF op k = none) (hx : (k, x) ∈ m) :
  Calls Tryz.prog 139 #[.pointer (some ⟨wk, 0, none⟩), k.val] w (MakesOut B s b wk dm O F op vars room (ns, m, x) w) := by
 have HW := Lib.hid h
 have c1 := h.work.c1
 have c2 := h.work.c2
 have wl := h.work.lt
 have HL : Hid (∀ W, Below w.heap.size w W -> (Instr.lookup 214 (.map (some dm)) (.agg #[.int .i64 k.v, .int .i64 k.l, .int .i64 k.h]) true).run Tryz.prog W = .ok (.tuple #[.int .i64 x, .bool true]) W) := fun W hW => by
  obtain ⟨D, hD, hR⟩ := (h.work.new hW).hmap
  exact alook_found hD hR hx
 have HK : Hid (∀ W, Calls Tryz.prog F #[k.val] W fun e w' => e = .returned (.tuple #[.int .i64 0, .bool false]) /\ Below W.heap.size W w') := fun W => by
  have := hF.does k W; rw [hk] at this; exact this
 have hent := hF.enters
 clear h hF hk hx
 obtain ⟨ka, kb, kc⟩ := k
 have hb := below_new w (.cells #[.int .i64 ka, .int .i64 kb, .int .i64 kc] 172)
 obtain ⟨x0, x1, x2, -⟩ := cell3 w (.int .i64 ka) (.int .i64 kb) (.int .i64 kc) 172
 have d1 := (hb.cell (p := ⟨wk, 1, none⟩) wl).trans c1
 have d2 := (hb.cell (p := ⟨wk, 2, none⟩) wl).trans c2
 have bl : w.heap.size < (w.alloc (.cells #[.int .i64 ka, .int .i64 kb, .int .i64 kc] 172)).heap.size := by simp
 have hbs := hb.size
 have wl1 : wk < (w.alloc (.cells #[.int .i64 ka, .int .i64 kb, .int .i64 kc] 172)).heap.size := by omega
 unfold Nd.val at HK ⊢
 simp only at HL
 go_enter Tryz.func139, Tryz.ntmps139
 go_wp2_with fail
 have HB := Lib.hid hb
 clear hb c1 c2
 generalize (w.alloc (.cells #[.int .i64 ka, .int .i64 kb, .int .i64 kc] 172)) = W1 at *
 have e0 : W1.drew.cell? ⟨wk, 1, none⟩ = some (.func (.func F) #[] #[]) := d1
 have f0 : W1.drew.cell? ⟨w.heap.size, 0, none⟩ = some (.int .i64 ka) := x0
 have f1 : W1.drew.cell? ⟨w.heap.size, 1, none⟩ = some (.int .i64 kb) := x1
 have f2 : W1.drew.cell? ⟨w.heap.size, 2, none⟩ = some (.int .i64 kc) := x2
 go_region_held3 (fun w' => w'.cell? ⟨wk, 1, none⟩ = some (.func (.func F) #[] #[]) /\ w'.cell? ⟨w.heap.size, 0, none⟩ = some (.int .i64 ka) /\ w'.cell? ⟨w.heap.size, 1, none⟩ = some (.int .i64 kb) /\ w'.cell? ⟨w.heap.size, 2, none⟩ = some (.int .i64 kc)) (first | exact ⟨e0, f0, f1, f2⟩ | exact ⟨(hb2.cell (p := ⟨wk, 1, none⟩) wl1).trans e0, (hb2.cell (p := ⟨w.heap.size, 0, none⟩) bl).trans f0, (hb2.cell (p := ⟨w.heap.size, 1, none⟩) bl).trans f1, (hb2.cell (p := ⟨w.heap.size, 2, none⟩) bl).trans f2⟩)
  (first | (with_reducible refine (HK.out _).mono ?_; rintro e w2 ⟨rfl, hb2⟩))
 have hb3 : Below w.heap.size w w2 := (HB.out.drew).trans (hb2.mono HB.out.size)
 have g0 : w2.drew.cell? ⟨w.heap.size, 0, none⟩ = some (.int .i64 ka) := (hb2.cell (p := ⟨w.heap.size, 0, none⟩) bl).trans f0
 have g1 : w2.drew.cell? ⟨w.heap.size, 1, none⟩ = some (.int .i64 kb) := (hb2.cell (p := ⟨w.heap.size, 1, none⟩) bl).trans f1
 have g2 : w2.drew.cell? ⟨w.heap.size, 2, none⟩ = some (.int .i64 kc) := (hb2.cell (p := ⟨w.heap.size, 2, none⟩) bl).trans f2
 have gm : w2.drew.cell? ⟨wk, 2, none⟩ = some (.map (some dm)) := (hb2.cell (p := ⟨wk, 2, none⟩) wl1).trans d2
 have hrun := HL.out _ hb3.drew
 clear e0 f0 f1 f2 HK HL d1 d2 x0 x1 x2
 go_wp2_with fail
 go_region_held3 (fun w' => w'.cell? ⟨wk, 2, none⟩ = some (.map (some dm)) /\ w'.cell? ⟨w.heap.size, 0, none⟩ = some (.int .i64 ka) /\ w'.cell? ⟨w.heap.size, 1, none⟩ = some (.int .i64 kb) /\ w'.cell? ⟨w.heap.size, 2, none⟩ = some (.int .i64 kc)) (exact ⟨gm, g0, g1, g2⟩) (first | fail)
 go_wp2
 go_ret2
 exact ⟨rfl, O, HW.out.new hb3.drew, MM.of_below hb3.drew⟩
end
end Go.Proofs.YtcjjekhecjmaeaaGreatDoor
