/- Operations as closures: their boxes. -/
import Derived.Test.YtbklgjmkdhinpaaGreatDoorFmAll
set_option maxHeartbeats 1000000
set_option maxRecDepth 100000
namespace Go.Proofs.YtbklgjmkdhinpaaGreatDoor.Fm
open Go.RowKit Go.Maps Go.Proofs.YtbklgjmkdhinpaaGreatDoor.Bd
structure Le (N : Nat) (c c' : Ctx) : Prop where
  s : c'.s = c.s
  b : c'.b = c.b
  wk : c'.wk = c.wk
  room : c'.room = c.room
  memos : ∀ p ∈ c.memos, p ∈ c'.memos
  boxes : ∀ p ∈ c.boxes, p ∈ c'.boxes
  newm : ∀ p ∈ c'.memos, p ∈ c.memos \/ N <= p.1
  newb : ∀ p ∈ c'.boxes, p ∈ c.boxes \/ N <= p.1
theorem Le.refl (N : Nat) (c : Ctx) : Le N c c := ⟨rfl, rfl, rfl, rfl, fun _ h => h, fun _ h => h, fun _ h => .inl h, fun _ h => .inl h⟩
theorem Le.trans {N M : Nat} {a b c : Ctx} (h : Le N a b) (k : Le M b c) (hn : N <= M) : Le N a c :=
  ⟨k.s.trans h.s, k.b.trans h.b, k.wk.trans h.wk, k.room.trans h.room, fun p hp => k.memos p (h.memos p hp), fun p hp => k.boxes p (h.boxes p hp),
   fun p hp => (k.newm p hp).elim (fun h1 => h.newm p h1) (fun h1 => .inr (Nat.le_trans hn h1)), fun p hp => (k.newb p hp).elim (fun h1 => h.newb p h1) (fun h1 => .inr (Nat.le_trans hn h1))⟩
theorem Le.mono {N M : Nat} {a b : Ctx} (h : Le M a b) (hn : N <= M) : Le N a b := ⟨h.s, h.b, h.wk, h.room, h.memos, h.boxes, fun p hp => (h.newm p hp).imp id (Nat.le_trans hn), fun p hp => (h.newb p hp).imp id (Nat.le_trans hn)⟩
def Ctx.box (c : Ctx) (j : Nat) (v : Value) : Ctx := ⟨c.s, c.b, c.wk, c.room, c.memos, (j, v) :: c.boxes⟩
def Ctx.memo (c : Ctx) (j : Nat) (k : K) : Ctx := ⟨c.s, c.b, c.wk, c.room, (j, k) :: c.memos, c.boxes⟩
theorem le_box (c : Ctx) {N j : Nat} (h : N <= j) (v : Value) : Le N c (c.box j v) := ⟨rfl, rfl, rfl, rfl, fun _ h => h, fun _ h => List.mem_cons_of_mem _ h, fun _ h => .inl h, fun p hp => by
  rcases List.mem_cons.1 hp with rfl | hp
  · exact .inr h
  · exact .inl hp⟩
theorem le_memo (c : Ctx) {N j : Nat} (h : N <= j) (k : K) : Le N c (c.memo j k) := ⟨rfl, rfl, rfl, rfl, fun _ h => List.mem_cons_of_mem _ h, fun _ h => h, fun p hp => by
  rcases List.mem_cons.1 hp with rfl | hp
  · exact .inr h
  · exact .inl hp, fun _ h => .inl h⟩
section
variable {B : Nat} {c c' : Ctx} {O : Nat -> Prop} {vars : Nat} {ns : List Nd} {w w' : World} {k : K}
structure Free (c : Ctx) (O : Nat -> Prop) (w : World) (j : Nat) : Prop where
  lt : j < w.heap.size
  o : ¬ O j
  s : c.s ≠ j
  wk : c.wk ≠ j
  m : ∀ p ∈ c.memos, p.1 ≠ j
  b : ∀ p ∈ c.boxes, p.1 ≠ j
theorem Free.new (hC : CtxAt B w c O vars ns) {j : Nat} (hj : w.heap.size <= j) (hl : j < w'.heap.size) : Free c O w' j :=
  ⟨hl, fun ho => by have := (hC.space.own _ ho).2; omega, by have := hC.space.slt; omega, by have := hC.wlt; omega, fun p hp => by have := (hC.memo p hp).1.lt; omega, fun p hp => by have := (hC.box p hp).1; omega⟩
theorem Free.le {N j : Nat} (h : Free c O w j) (hL : Le N c c') (hj : j < N) (hs : w.heap.size <= w'.heap.size) : Free c' O w' j :=
  ⟨Nat.lt_of_lt_of_le h.lt hs, h.o, by rw [hL.s]; exact h.s, by rw [hL.wk]; exact h.wk, fun p hp => (hL.newm p hp).elim (h.m p) (fun h1 => by omega), fun p hp => (hL.newb p hp).elim (h.b p) (fun h1 => by omega)⟩
theorem CtxAt.addBox (hC : CtxAt B w c O vars ns) {j : Nat} {v : Value} (hf : Free c O w j) (hv : w.cell? ⟨j, 0, none⟩ = some v) : CtxAt B w (c.box j v) O vars ns :=
  ⟨hC.space, hC.good, hC.v24, hC.rm, hC.len, hC.hB, hC.wb, hC.wO, hC.wB, hC.memo, hC.nodup, fun p hp => by
    rcases List.mem_cons.1 hp with rfl | hp
    · exact ⟨hf.lt, hv, hf.o, fun q hq => hf.m q hq⟩
    · exact hC.box p hp⟩
theorem CtxAt.putBox (hC : CtxAt B w c O vars ns) {j : Nat} {u v : Value} (hf : Free c O w j) (hu : w.cell? ⟨j, 0, none⟩ = some u) : CtxAt B (w.setCell ⟨j, 0, none⟩ v) (c.box j v) O vars ns := by
  have hk : Kept (fun i => i = j) w (w.setCell ⟨j, 0, none⟩ v) := Kept.setCell (S := fun i => i = j) w ⟨j, 0, none⟩ v rfl
  have h1 := hC.kept hk (fun i ho e => hf.o (e ▸ ho)) hf.s hf.wk hf.m hf.b
  exact h1.addBox ⟨Nat.lt_of_lt_of_le hf.lt hk.size, hf.o, hf.s, hf.wk, hf.m, hf.b⟩ (World.cell?_setCell_same' _ _ _ (by rw [hu]; rfl))
theorem CtxAt.addMemo (hC : CtxAt B w c O vars ns) {dm : Nat} (hf : Free c O w dm) (hB : B <= dm) (hm : w.ownsMap Tryz.prog 154 (plainElem (H := Unit) Tryz.prog 3) dm 0 (.map [])) : CtxAt B w (c.memo dm k) O vars ns :=
  ⟨hC.space, hC.good, hC.v24, hC.rm, hC.len, hC.hB, hC.wb, hC.wO, hC.wB, fun p hp => by
    rcases List.mem_cons.1 hp with rfl | hp
    · exact ⟨⟨[], _, hm, Rep.empty, MemoOk.nil k ns⟩, hf.o, fun e => hf.s e.symm, fun e => hf.wk e.symm, hB⟩
    · exact hC.memo p hp, by
    show (dm :: c.memos.map Prod.fst).Nodup
    rw [List.nodup_cons]
    exact ⟨fun h => by obtain ⟨p, hp, e⟩ := List.mem_map.1 h; exact hf.m p hp e, hC.nodup⟩, fun p hp => ⟨(hC.box p hp).1, (hC.box p hp).2.1, (hC.box p hp).2.2.1, fun q hq => by
    rcases List.mem_cons.1 hq with rfl | hq
    · exact fun e => hf.b p hp e.symm
    · exact (hC.box p hp).2.2.2 q hq⟩⟩
theorem IsBase.le {N : Nat} {F : FuncId} {bw bk bd ba dm : Nat} {A : Value} (h : IsBase c F k bw bk bd ba dm A) (hL : Le N c c') : IsBase c' F k bw bk bd ba dm A :=
  ⟨by rw [hL.wk]; exact hL.boxes _ h.iw, hL.boxes _ h.ik, hL.boxes _ h.id, hL.memos _ h.im, hL.boxes _ h.ia, h.enters, h.knows⟩
theorem five (w : World) (u0 u1 u2 u3 : Value) (t0 t1 t2 t3 : TypeId) :
    let W := ((((w.alloc (.cells #[u0] t0)).alloc (.cells #[u1] t1)).alloc (.cells #[u2] t2)).alloc (.map #[] 0)).alloc (.cells #[u3] t3)
    Below w.heap.size w W /\ W.heap.size = w.heap.size + 5 /\ W.cell? ⟨w.heap.size, 0, none⟩ = some u0 /\ W.cell? ⟨w.heap.size + 1, 0, none⟩ = some u1 /\ W.cell? ⟨w.heap.size + 1 + 1, 0, none⟩ = some u2 /\ W.cell? ⟨w.heap.size + 1 + 1 + 1 + 1, 0, none⟩ = some u3 /\ W.ownsMap Tryz.prog 154 (plainElem (H := Unit) Tryz.prog 3) (w.heap.size + 1 + 1 + 1) 0 (.map []) := by
  have h1 := below_new w (.cells #[u0] t0)
  have c1 : (w.alloc (.cells #[u0] t0)).cell? ⟨w.heap.size, 0, none⟩ = some u0 := by simp
  have z1 : (w.alloc (.cells #[u0] t0)).heap.size = w.heap.size + 1 := by simp
  generalize w.alloc (.cells #[u0] t0) = W1 at *
  have h2 := below_new W1 (.cells #[u1] t1)
  have c2 : (W1.alloc (.cells #[u1] t1)).cell? ⟨W1.heap.size, 0, none⟩ = some u1 := by simp
  have z2 : (W1.alloc (.cells #[u1] t1)).heap.size = W1.heap.size + 1 := by simp
  generalize W1.alloc (.cells #[u1] t1) = W2 at *
  have h3 := below_new W2 (.cells #[u2] t2)
  have c3 : (W2.alloc (.cells #[u2] t2)).cell? ⟨W2.heap.size, 0, none⟩ = some u2 := by simp
  have z3 : (W2.alloc (.cells #[u2] t2)).heap.size = W2.heap.size + 1 := by simp
  generalize W2.alloc (.cells #[u2] t2) = W3 at *
  have h4 := below_new W3 (.map #[] 0)
  have c4 := World.ownsMap_made W3 Tryz.prog 154 (plainElem (H := Unit) Tryz.prog 3)
  have z4 : (W3.alloc (.map #[] 0)).heap.size = W3.heap.size + 1 := by simp
  generalize W3.alloc (.map #[] 0) = W4 at *
  have h5 := below_new W4 (.cells #[u3] t3)
  have c5 : (W4.alloc (.cells #[u3] t3)).cell? ⟨W4.heap.size, 0, none⟩ = some u3 := by simp
  have z5 : (W4.alloc (.cells #[u3] t3)).heap.size = W4.heap.size + 1 := by simp
  have c4' := c4.alloc (.cells #[u3] t3)
  generalize W4.alloc (.cells #[u3] t3) = W5 at *
  rw [z1] at z2 h2 c2
  rw [z2] at z3 h3 c3
  rw [z3] at z4 h4 c4'
  rw [z4] at z5 h5 c5
  have g1 : Below w.heap.size w W5 := (((h1.trans (h2.mono (by omega))).trans (h3.mono (by omega))).trans (h4.mono (by omega))).trans (h5.mono (by omega))
  refine ⟨g1, by omega, ?_, ?_, ?_, c5, c4'⟩
  · rw [h5.cell (p := ⟨w.heap.size, 0, none⟩) (by show w.heap.size < _; omega), h4.cell (p := ⟨w.heap.size, 0, none⟩) (by show w.heap.size < _; omega), h3.cell (p := ⟨w.heap.size, 0, none⟩) (by show w.heap.size < _; omega), h2.cell (p := ⟨w.heap.size, 0, none⟩) (by show w.heap.size < _; omega)]; exact c1
  · rw [h5.cell (p := ⟨w.heap.size + 1, 0, none⟩) (by show w.heap.size + 1 < _; omega), h4.cell (p := ⟨w.heap.size + 1, 0, none⟩) (by show w.heap.size + 1 < _; omega), h3.cell (p := ⟨w.heap.size + 1, 0, none⟩) (by show w.heap.size + 1 < _; omega)]; exact c2
  · rw [h5.cell (p := ⟨w.heap.size + 1 + 1, 0, none⟩) (by show w.heap.size + 1 + 1 < _; omega), h4.cell (p := ⟨w.heap.size + 1 + 1, 0, none⟩) (by show w.heap.size + 1 + 1 < _; omega)]; exact c3
theorem walk_any {F FA : FuncId} {capsA : Array Value} {wk : Nat} (hC : CtxAt B w c O vars ns) (hwk : c.wk = wk) (hent : ∀ (args : Array Value) (w : World), (callFunc F args).run Tryz.prog w = .ok (.enter F args) w) (hkn : KnowsC F k) :
    Calls Tryz.prog 70 #[.pointer (some ⟨wk, 0, none⟩), .func (.func F) #[] #[], .func (.func FA) #[] capsA] w fun e w' => ∃ c' sw sk sd sa dm, e = .returned (.func (.func 109) #[] #[.pointer (some ⟨sw, 0, none⟩), .pointer (some ⟨sk, 0, none⟩), .pointer (some ⟨sd, 0, none⟩), .pointer (some ⟨sa, 0, none⟩)]) /\ CtxAt B w' c' O vars ns /\ Le w.heap.size c c' /\ Below w.heap.size w w' /\ IsBase c' F k sw sk sd sa dm (.func (.func FA) #[] capsA) := by
  subst hwk
  have hmm := @run_makeMap Tryz.prog
  obtain ⟨hb, hs, e0, e1, e2, e3, e4⟩ := five w (.pointer (some ⟨c.wk, 0, none⟩)) (.func (.func F) #[] #[]) (.func (.func FA) #[] capsA) (.map (some (w.heap.size + 1 + 1 + 1))) 93 122 125 153
  have hB := hC.hB
  have fr : ∀ j, w.heap.size <= j -> j < w.heap.size + 5 -> Free c O _ j := fun j h1 h2 => Free.new hC h1 (by rw [hs]; exact h2)
  have k1 := ((hC.new hb).addMemo (k := k) (fr (w.heap.size + 1 + 1 + 1) (by omega) (by omega)) (by omega) e4)
  have l1 := le_memo c (N := w.heap.size) (j := w.heap.size + 1 + 1 + 1) (by omega) k
  have fm : ∀ j, w.heap.size <= j -> j < w.heap.size + 5 -> j ≠ w.heap.size + 1 + 1 + 1 -> Free (c.memo (w.heap.size + 1 + 1 + 1) k) O _ j := fun j h1 h2 h3 => by
    have f := fr j h1 h2
    exact ⟨f.lt, f.o, f.s, f.wk, fun p hp => by
      rcases List.mem_cons.1 hp with rfl | hp
      · exact fun e => h3 e.symm
      · exact f.m p hp, f.b⟩
  have add : ∀ {c1 : Ctx} {j i : Nat} {v : Value}, Free c1 O (((((w.alloc (.cells #[.pointer (some ⟨c.wk, 0, none⟩)] 93)).alloc (.cells #[.func (.func F) #[] #[]] 122)).alloc (.cells #[.func (.func FA) #[] capsA] 125)).alloc (.map #[] 0)).alloc (.cells #[.map (some (w.heap.size + 1 + 1 + 1))] 153)) j -> i ≠ j -> Free (c1.box i v) O (((((w.alloc (.cells #[.pointer (some ⟨c.wk, 0, none⟩)] 93)).alloc (.cells #[.func (.func F) #[] #[]] 122)).alloc (.cells #[.func (.func FA) #[] capsA] 125)).alloc (.map #[] 0)).alloc (.cells #[.map (some (w.heap.size + 1 + 1 + 1))] 153)) j := fun f hne =>
    ⟨f.lt, f.o, f.s, f.wk, f.m, fun p hp => by
      rcases List.mem_cons.1 hp with rfl | hp
      · exact hne
      · exact f.b p hp⟩
  have f0 := fm w.heap.size (by omega) (by omega) (by omega)
  have f1 := fm (w.heap.size + 1) (by omega) (by omega) (by omega)
  have f2 := fm (w.heap.size + 1 + 1) (by omega) (by omega) (by omega)
  have f4 := fm (w.heap.size + 1 + 1 + 1 + 1) (by omega) (by omega) (by omega)
  have k2 := k1.addBox f0 e0
  have k3 := k2.addBox (add f1 (by omega)) e1
  have k4 := k3.addBox (add (add f2 (by omega)) (by omega)) e2
  have k5 := k4.addBox (add (add (add f4 (by omega)) (by omega)) (by omega)) e3
  have hall : ∃ c', CtxAt B (((((w.alloc (.cells #[.pointer (some ⟨c.wk, 0, none⟩)] 93)).alloc (.cells #[.func (.func F) #[] #[]] 122)).alloc (.cells #[.func (.func FA) #[] capsA] 125)).alloc (.map #[] 0)).alloc (.cells #[.map (some (w.heap.size + 1 + 1 + 1))] 153)) c' O vars ns /\ Le w.heap.size c c' /\ IsBase c' F k w.heap.size (w.heap.size + 1) (w.heap.size + 1 + 1 + 1 + 1) (w.heap.size + 1 + 1) (w.heap.size + 1 + 1 + 1) (.func (.func FA) #[] capsA) :=
    ⟨_, k5, ((((l1.trans (le_box _ (N := w.heap.size) (j := w.heap.size) (Nat.le_refl _) _) (Nat.le_refl _)).trans (le_box _ (N := w.heap.size) (j := w.heap.size + 1) (by omega) _) (Nat.le_refl _)).trans (le_box _ (N := w.heap.size) (j := w.heap.size + 1 + 1) (by omega) _) (Nat.le_refl _)).trans (le_box _ (N := w.heap.size) (j := w.heap.size + 1 + 1 + 1 + 1) (by omega) _) (Nat.le_refl _)),
     ⟨List.mem_cons_of_mem _ (List.mem_cons_of_mem _ (List.mem_cons_of_mem _ (List.mem_cons_self ..))), List.mem_cons_of_mem _ (List.mem_cons_of_mem _ (List.mem_cons_self ..)), List.mem_cons_self .., List.mem_cons_self .., List.mem_cons_of_mem _ (List.mem_cons_self ..), hent, hkn⟩⟩
  obtain ⟨c', hk, hl, hi⟩ := hall
  have HK := Lib.hid hk
  have HL := Lib.hid hl
  have HI := Lib.hid hi
  have HB := Lib.hid hb
  clear hk hl hi k1 k2 k3 k4 k5 l1 f0 f1 f2 f4 add fm fr hC hb hs e0 e1 e2 e3 e4
  go_enter Tryz.func70, Tryz.ntmps70
  go_wp2
  go_ret
  exact ⟨c', w.heap.size, w.heap.size + 1, w.heap.size + 1 + 1 + 1 + 1, w.heap.size + 1 + 1, w.heap.size + 1 + 1 + 1, rfl, HK.out, HL.out, HB.out, HI.out⟩
end
end Go.Proofs.YtbklgjmkdhinpaaGreatDoor.Fm
