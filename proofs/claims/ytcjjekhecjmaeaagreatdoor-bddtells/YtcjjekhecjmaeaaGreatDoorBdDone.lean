/- What was worked out by handles, in a map; what a join leaves. -/
import Derived.Test.YtcjjekhecjmaeaaGreatDoorBdRec
import Derived.Test.YtcjjekhecjmaeaaGreatDoorBdJoin
set_option maxHeartbeats 2000000
set_option maxRecDepth 100000
namespace Go.Proofs.YtcjjekhecjmaeaaGreatDoor
open Go.RowKit Go.Maps
theorem lawI : Keyed Tryz.prog 3 := int_keyed Tryz.underlying3
theorem keyI {x : Int} (h : I64 x) : keyOf Tryz.prog 3 (.int .i64 x) = some (.int .i64 x) := keyOf_int_mk Tryz.underlying3 (wf_of h)
def IRep (D : DataW Unit) (L : List (Int × Int)) : Prop := Rep I64 (fun x => Lit.int .i64 x) (fun y : Int => .lit (.int .i64 y)) D L
section
variable {w : World} {bm n : Nat} {D : DataW Unit} {L : List (Int × Int)}
theorem ilook_found (hD : w.ownsMap Tryz.prog 3 (plainElem Tryz.prog 3) bm n D) (hR : IRep D L) {p : Int × Int} (hp : p ∈ L) :
  (Instr.lookup 147 (.map (some bm)) (.int .i64 p.1) true).run Tryz.prog w = .ok (.tuple #[.int .i64 p.2, .bool true]) w := by
 obtain ⟨v, ps, hrun, hv⟩ := hD.look_ok lawI Tryz.underlying147 (zeroInt w) (zd := .lit (.int .i64 0)) (zp := []) (elInt ⟨by omega, by omega⟩) (keyI (Rep.oks hR p hp))
 rw [Rep.at' hR p hp] at hv
 obtain ⟨a, rfl, hz, -⟩ := plainElem_int_inv Tryz.underlying3 hv
 rw [(Rep.has hR p.1 (Rep.oks hR p hp)).2 (List.mem_map_of_mem hp)] at hrun
 simp at hz
 rw [<- hz.1] at hrun
 exact hrun
theorem ilook_none (hD : w.ownsMap Tryz.prog 3 (plainElem Tryz.prog 3) bm n D) (hR : IRep D L) {a : Int} (ha : I64 a) (hn : a ∉ L.map Prod.fst) :
  (Instr.lookup 147 (.map (some bm)) (.int .i64 a) true).run Tryz.prog w = .ok (.tuple #[.int .i64 0, .bool false]) w := by
 obtain ⟨v, ps, hrun, hv⟩ := hD.look_ok lawI Tryz.underlying147 (zeroInt w) (zd := .lit (.int .i64 0)) (zp := []) (elInt ⟨by omega, by omega⟩) (keyI ha)
 have hh := Rep.not hR ha hn
 rw [atKey_of_not_has hh] at hv
 obtain ⟨c, rfl, hz, -⟩ := plainElem_int_inv Tryz.underlying3 hv
 rw [hh] at hrun
 simp at hz
 rw [<- hz.1] at hrun
 exact hrun
theorem istore (hD : w.ownsMap Tryz.prog 3 (plainElem Tryz.prog 3) bm L.length D) (hR : IRep D L) (hl : L.length < 1000000) {a : Int} (ha : I64 a) {x : Int} (hx : I64 x) :
  ∃ w' D', (Instr.mapUpdate 147 (.map (some bm)) (.int .i64 a) (.int .i64 x)).run Tryz.prog w = .ok () w' /\ w'.ownsMap Tryz.prog 3 (plainElem Tryz.prog 3) bm (memoPut L a x).length D' /\ IRep D' (memoPut L a x) /\ Kept (fun k => k = bm) w w' := by
 obtain ⟨w', hrun, h1, h2⟩ := hD.update lawI Tryz.underlying147 (by unfold maxLen; omega) (keyI ha) (elInt hx)
 have hR' : IRep (D.put (.int .i64 a) (.lit (.int .i64 x))) (memoPut L a x) := by
  unfold memoPut
  by_cases hm : a ∈ L.map Prod.fst
  ·rw [if_pos hm]; exact Rep.put_over hR (fun a b _ _ e => by injection e) (fun _ => trivial) x hm
  ·rw [if_neg hm]; exact Rep.put hR (fun a b _ _ e => by injection e) (fun _ => trivial) ha hm x
 exact ⟨w', _, hrun, hR'.size ▸ ownsMap_norm h1, hR', Kept.of_grown h2 (fun i h => by cases h; rfl)⟩
end
structure JSt (dk : Nat) (D : Nat -> Prop) (st : World -> (Nat -> Prop) -> List (Nd × Int) -> Prop) : Prop where
 new : ∀ w w' O m, st w O m -> Below w.heap.size w w' -> st w' O m
 moves : ∀ w w' O O' m, st w O m -> Moves O O' w w' -> st w' O' m
 beside : ∀ w w' O m, st w O m -> Kept (fun j => j = dk) w w' -> st w' O m
 own : ∀ w O m, st w O m -> ∀ j, D j -> j < w.heap.size /\ ¬ O j
structure DoneAt (w : World) (dk : Nat) (dn : List (Int × Int)) : Prop where
 hmap : ∃ D, w.ownsMap Tryz.prog 3 (plainElem Tryz.prog 3) dk dn.length D /\ IRep D dn
theorem DoneAt.lt {w : World} {dk : Nat} {dn : List (Int × Int)} (h : DoneAt w dk dn) : dk < w.heap.size := by obtain ⟨D, hD, -⟩ := h.hmap; exact hD.lt
theorem DoneAt.kept {S : Nat -> Prop} {w w' : World} {dk : Nat} {dn : List (Int × Int)} (h : DoneAt w dk dn) (hk : Kept S w w') (hn : ¬ S dk) : DoneAt w' dk dn := by
 obtain ⟨D, hD, hR⟩ := h.hmap; exact ⟨D, ownsMap_kept hD hk hn, hR⟩
structure JW (B : Nat) (w : World) (s b dk : Nat) (O D : Nat -> Prop) (st : World -> (Nat -> Prop) -> List (Nd × Int) -> Prop) (vars : Nat) (room : Int) (v : Int) (jf : Bool -> Bool -> Bool) (P : List Nd -> List (Nd × Int) -> Prop) (ns : List Nd) (m : List (Nd × Int)) (dn : List (Int × Int)) : Prop where
 space : SpaceAt B w s b O vars room ns
 st : st w O m
 done : DoneAt w dk dn
 good : Good vars ns
 memo : P ns m
 ok : DoneOk jf v ns dn
 o : ¬ O dk
 sk : s ≠ dk
 Dk : ¬ D dk
 Ds : ¬ D s
 hB : B <= w.heap.size
structure MJ (O O' D : Nat -> Prop) (dk : Nat) (w w' : World) : Prop where
 kept : Kept (fun j => O j \/ D j \/ j = dk) w w'
 own : ∀ k, O' k -> O k \/ w.heap.size <= k
section
variable {B s b dk : Nat} {O O' O'' D : Nat -> Prop} {st : World -> (Nat -> Prop) -> List (Nd × Int) -> Prop} {vars : Nat} {room : Int} {v : Int} {jf : Bool -> Bool -> Bool} {P : List Nd -> List (Nd × Int) -> Prop} {ns : List Nd} {m : List (Nd × Int)} {dn : List (Int × Int)} {w w' w'' : World}
theorem JW.new (hS : JSt dk D st) (h : JW B w s b dk O D st vars room v jf P ns m dn) (hb : Below w.heap.size w w') : JW B w' s b dk O D st vars room v jf P ns m dn :=
 ⟨h.space.new hb, hS.new _ _ _ _ h.st hb, h.done.kept (Kept.of_below hb (fun _ => False)) (fun h => h), h.good, h.memo, h.ok, h.o, h.sk, h.Dk, h.Ds, Nat.le_trans h.hB hb.size⟩
theorem MJ.of_below (hb : Below w.heap.size w w') : MJ O O D dk w w' := ⟨Kept.of_below hb _, fun _ h => .inl h⟩
theorem MJ.of_moves (h : Moves O O' w w') : MJ O O' D dk w w' := ⟨h.kept.mono (fun _ h => .inl h), h.own⟩
theorem MJ.size (h : MJ O O' D dk w w') : w.heap.size <= w'.heap.size := h.kept.size
theorem MJ.trans (h : MJ O O' D dk w w') (k : MJ O' O'' D dk w' w'') : MJ O O'' D dk w w'' :=
 ⟨h.kept.andThen k.kept (fun i hi hlt => by
   rcases hi with hi | hi
   ·rcases h.own i hi with h1 | h1
    ·exact .inl h1
    ·omega
   ·exact .inr hi), fun i hi => by
  rcases k.own i hi with h1 | h1
  ·exact h.own i h1
  ·exact .inr (Nat.le_trans h.kept.size h1)⟩
theorem MJ.beside (h : MJ O O' D dk w w') {j : Nat} (hlt : j < w.heap.size) (hn : ¬ O j) : ¬ O' j := fun ho => by
 rcases h.own j ho with h1 | h1
 ·exact hn h1
 ·omega
def JOut (B s b dk : Nat) (O D : Nat -> Prop) (st : World -> (Nat -> Prop) -> List (Nd × Int) -> Prop) (vars : Nat) (room : Int) (v : Int) (jf : Bool -> Bool -> Bool) (P : List Nd -> List (Nd × Int) -> Prop) (r : JoinedR) (w : World) (e : Ending) (w' : World) : Prop :=
 e = .returned (.tuple #[.int .i64 r.2.2.2, .nilIface]) /\ ∃ O', JW B w' s b dk O' D st vars room v jf P r.1 r.2.1 r.2.2.1 /\ MJ O O' D dk w w'
structure JoinDoes (B s b : Nat) (D : Nat -> Prop) (st : World -> (Nat -> Prop) -> List (Nd × Int) -> Prop) (vars : Nat) (room : Int) (v : Int) (P : List Nd -> List (Nd × Int) -> Prop) (J : Join) (F : FuncId) (pre caps : Array Value) : Prop where
 enters : ∀ (args : Array Value) (w : World), (callFunc F args).run Tryz.prog w = .ok (.enter F args) w
 does : ∀ (ns : List Nd) (m : List (Nd × Int)) (l h : Int) (O : Nat -> Prop) (w : World), SpaceAt B w s b O vars room ns -> st w O m -> Good vars ns -> P ns m -> hasB ns l = true -> hasB ns h = true -> v < topOf ns l -> v < topOf ns h ->
  ((ns.length + 2 ^ ((vars : Int) - v - 1).toNat : Nat) : Int) <= room + 1 -> m.length + 2 ^ ((vars : Int) - v - 1).toNat <= 90000 -> B <= w.heap.size ->
  Calls Tryz.prog F (pre ++ (#[.int .i64 l, .int .i64 h] ++ caps)) w fun e w' => e = .returned (.tuple #[.int .i64 (J ns m l h).2.2, .nilIface]) /\ ∃ O', SpaceAt B w' s b O' vars room (J ns m l h).1 /\ st w' O' (J ns m l h).2.1 /\ Kept (fun j => O j \/ D j) w w' /\ (∀ k, O' k -> O k \/ w.heap.size <= k)
theorem joined_above (hS : JSt dk D st) (h : JW B w s b dk O D st vars room v jf P ns m dn) (x : Int) (hx : hasB ns x = true) (hl : ns.length <= 90000) (hv : v < topOf ns x) (jv : Value) :
  Calls Tryz.prog 140 #[.pointer (some ⟨s, 0, none⟩), .int .i64 x, .int .i64 v, jv, .map (some dk)] w (JOut B s b dk O D st vars room v jf P (ns, m, dn, x) w) := by
 have HW := Lib.hid h
 have HG := Lib.hid (spGet h.space x (has_i64 hx (by omega)) hl)
 have c0 := h.space.c0
 have hgv : (getOf ns x).v = topOf ns x \/ topOf ns x = 24 := by
  by_cases e : topOf ns x = 24
  ·exact .inr e
  ·exact .inl (by unfold getOf; rw [if_neg e]; exact (node_at e).2.2.1.symm)
 by_cases e : topOf ns x = 24
 ·rw [show decide (topOf ns x ≠ 24) = false by simp [e]] at HG
  generalize getOf ns x = gn at *
  obtain ⟨gv, gl, gh⟩ := gn
  unfold Nd.val at HG
  clear h hgv e hv
  go_enter Tryz.func140, Tryz.ntmps140
  go_wp2_with fail
  refine HG.out.mono ?_
  rintro e w1 ⟨rfl, hb1⟩
  have hb2 := hb1.alloc hb1.size (.cells #[.int .i64 gv, .int .i64 gl, .int .i64 gh] 102)
  clear HG
  go_wp2
  go_ret2
  exact ⟨rfl, O, HW.out.new hS hb2, MJ.of_below hb2⟩
 ·rw [show decide (topOf ns x ≠ 24) = true by simp [e]] at HG
  have hgt : v < (getOf ns x).v := by rcases hgv with h | h <;> omega
  generalize getOf ns x = gn at *
  obtain ⟨gv, gl, gh⟩ := gn
  unfold Nd.val at HG
  simp only at hgt
  clear h hgv e hv
  go_enter Tryz.func140, Tryz.ntmps140
  go_wp2_with fail
  refine HG.out.mono ?_
  rintro e w1 ⟨rfl, hb1⟩
  have hb2 := hb1.alloc hb1.size (.cells #[.int .i64 gv, .int .i64 gl, .int .i64 gh] 102)
  obtain ⟨x0, x1, x2, -⟩ := cell3 w1 (.int .i64 gv) (.int .i64 gl) (.int .i64 gh) 102
  clear HG
  go_wp2
  go_ret2
  exact ⟨rfl, O, HW.out.new hS hb2, MJ.of_below hb2⟩
theorem joined_at {J : Join} {F : FuncId} {pre caps : Array Value} (hS : JSt dk D st) (hJ : JoinOk vars v jf P J) (hD : JoinDoes B s b D st vars room v P J F pre caps) (h : JW B w s b dk O D st vars room v jf P ns m dn) (x : Int) (hx : hasB ns x = true) (hroom : room <= 4000) (hl : ((ns.length + 2 ^ ((vars : Int) - v - 1).toNat : Nat) : Int) <= room + 1) (hml : m.length + 2 ^ ((vars : Int) - v - 1).toNat <= 90000) (hv24 : v < 24) (hv : topOf ns x = v) :
  Calls Tryz.prog 140 #[.pointer (some ⟨s, 0, none⟩), .int .i64 x, .int .i64 v, .func (.func F) pre caps, .map (some dk)] w (JOut B s b dk O D st vars room v jf P ((J ns m (nd ns (pl x)).l (nd ns (pl x)).h).1, (J ns m (nd ns (pl x)).l (nd ns (pl x)).h).2.1, dn, (J ns m (nd ns (pl x)).l (nd ns (pl x)).h).2.2) w) := by
 have e : topOf ns x ≠ 24 := by omega
 have hk := kids h.good.ranked e
 have hone := Nat.one_le_two_pow (n := ((vars : Int) - v - 1).toNat)
 have hgn : getOf ns x = nd ns (pl x) := by unfold getOf; rw [if_neg e]; rfl
 have HG := Lib.hid (spGet h.space x (has_i64 hx (by omega)) (by omega))
 have j := hJ.good ns m _ _ h.good h.memo hk.2.1 hk.2.2.2 (by omega) (by omega) (by omega)
 have HC : Hid (∀ W, Below w.heap.size w W -> Calls Tryz.prog F (pre ++ (#[.int .i64 (nd ns (pl x)).l, .int .i64 (nd ns (pl x)).h] ++ caps)) W fun e w' => e = .returned (.tuple #[.int .i64 (J ns m (nd ns (pl x)).l (nd ns (pl x)).h).2.2, .nilIface]) /\ ∃ O', SpaceAt B w' s b O' vars room (J ns m (nd ns (pl x)).l (nd ns (pl x)).h).1 /\ st w' O' (J ns m (nd ns (pl x)).l (nd ns (pl x)).h).2.1 /\ Kept (fun j => O j \/ D j) W w' /\ (∀ k, O' k -> O k \/ W.heap.size <= k)) := fun W hW =>
  hD.does ns m _ _ O W (h.space.new hW) (hS.new _ _ _ _ h.st hW) h.good h.memo hk.2.1 hk.2.2.2 (by omega) (by omega) hl hml (Nat.le_trans h.hB hW.size)
 have hgv : (getOf ns x).v = v := by rw [hgn, <- (node_at e).2.2.1]; exact hv
 rw [show decide (topOf ns x ≠ 24) = true by simp [e]] at HG
 rw [<- hgn] at HC j ⊢
 have hent := hD.enters
 have c0 := h.space.c0
 have HW := Lib.hid h
 have HJG := Lib.hid j
 generalize getOf ns x = gn at *
 obtain ⟨gv, gl, gh⟩ := gn
 simp only at HC HJG hgv ⊢
 subst hgv
 unfold Nd.val at HG
 generalize J ns m gl gh = r at *
 clear h hgn e hv hk hD hJ j
 go_enter Tryz.func140, Tryz.ntmps140
 go_wp2_with fail
 refine HG.out.mono ?_
 rintro e w1 ⟨rfl, hb1⟩
 have hb2 := hb1.alloc hb1.size (.cells #[.int .i64 gv, .int .i64 gl, .int .i64 gh] 102)
 obtain ⟨x0, x1, x2, -⟩ := cell3 w1 (.int .i64 gv) (.int .i64 gl) (.int .i64 gh) 102
 have HC' := Lib.hid (HC.out _ hb2)
 have HB2 := Lib.hid hb2
 clear HG HC hb2
 go_wp2_with fail
 refine HC'.out.mono ?_
 rintro e w3 ⟨rfl, O', hs3, hst3, hk3, ho3⟩
 clear HC'
 go_wp2
 go_ret2
 have hw := HW.out
 have hb := HB2.out
 have hbs := hb.size
 have dl := hw.done.lt
 obtain ⟨j1, j2, j3, -⟩ := HJG.out
 refine ⟨rfl, O', ⟨hs3, hst3, (hw.done.kept (Kept.of_below hb (fun _ => False)) (fun h => h)).kept hk3 (fun ho => ho.elim hw.o hw.Dk), j1, j3, hw.ok.ext hw.good.ranked j2, fun ho => ?_, hw.sk, hw.Dk, hw.Ds, by have := hk3.size; have := hw.hB; omega⟩, (Kept.of_below hb _).andThen hk3 (fun i hi _ => hi.elim .inl (fun h => .inr (.inl h))), fun k hk => ?_⟩
 ·rcases ho3 dk ho with h | h
  ·exact hw.o h
  ·omega
 ·rcases ho3 k hk with h | h
  ·exact .inl h
  ·exact .inr (by omega)
end
end Go.Proofs.YtcjjekhecjmaeaaGreatDoor
