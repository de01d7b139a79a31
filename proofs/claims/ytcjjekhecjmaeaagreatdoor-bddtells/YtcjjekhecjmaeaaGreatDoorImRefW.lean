/- The reference's Image: the state of its walk. -/
import Derived.Test.YtcjjekhecjmaeaaGreatDoorBdTabS
import Derived.Test.YtcjjekhecjmaeaaGreatDoorImLayP
import Derived.Test.YtcjjekhecjmaeaaGreatDoorBdFree
import Derived.Test.YtcjjekhecjmaeaaGreatDoorQuads
set_option maxHeartbeats 2000000
set_option maxRecDepth 100000
namespace Go.Proofs.YtcjjekhecjmaeaaGreatDoor
section
open Go.RowKit Go.Maps
structure RF (w : World) (n N vars : Nat) (gs : List Nat) (T : List Fn') (q : Quad) (g ga gb gc p1 p2 p3 v1 v2 t : Nat) (fA fB fC : Nat -> Bool) (L : List Bool) : Prop where
 P1 : ∀ W, Calls Tryz.prog 72 #[.int .i64 q.b, .int .i64 (N : Int)] W fun e w' => e = .returned (.int .i64 (p1 : Int)) /\ W = w'
 P2 : ∀ W, Calls Tryz.prog 72 #[.int .i64 q.c, .int .i64 (N : Int)] W fun e w' => e = .returned (.int .i64 (p2 : Int)) /\ W = w'
 P3 : ∀ W, Calls Tryz.prog 72 #[.int .i64 q.d, .int .i64 (N : Int)] W fun e w' => e = .returned (.int .i64 (p3 : Int)) /\ W = w'
 P4 : ∀ W, Calls Tryz.prog 72 #[.int .i64 q.c, .int .i64 (vars : Int)] W fun e w' => e = .returned (.int .i64 (v2 : Int)) /\ W = w'
 P5 : ∀ W, Calls Tryz.prog 72 #[.int .i64 q.b, .int .i64 (vars : Int)] W fun e w' => e = .returned (.int .i64 (v1 : Int)) /\ W = w'
 P9 : ∀ W, Calls Tryz.prog 72 #[.int .i64 q.a, .int .i64 9] W fun e w' => e = .returned (.int .i64 (t : Int)) /\ W = w'
 l1 : p1 < N
 l2 : p2 < N
 l3 : p3 < N
 lv1 : v1 < vars
 lv2 : v2 < vars
 lt9 : t < 9
 gl : g < w.heap.size
 gn : ∀ x ∈ gs, g ≠ x
 o1 : w.cell? ⟨g, p1, none⟩ = some (.slice (some ⟨ga, 0, none⟩) n n)
 o2 : w.cell? ⟨g, p2, none⟩ = some (.slice (some ⟨gb, 0, none⟩) n n)
 o3 : w.cell? ⟨g, p3, none⟩ = some (.slice (some ⟨gc, 0, none⟩) n n)
 al : ga < w.heap.size
 bl : gb < w.heap.size
 cl : gc < w.heap.size
 cA : ∀ j, j < n -> w.cell? ⟨ga, j, none⟩ = some (.bool (fA j))
 cB : ∀ j, j < n -> w.cell? ⟨gb, j, none⟩ = some (.bool (fB j))
 cC : ∀ j, j < n -> w.cell? ⟨gc, j, none⟩ = some (.bool (fC j))
 Ll : L.length = n
 V0 : t = 0 -> ∀ j (hj : j < L.length), L[j] = (bitsF j v1 == oddB q.c)
 V1 : t = 1 -> ∀ j (hj : j < L.length), L[j] = !(fA j)
 V2 : t = 2 -> ∀ j (hj : j < L.length), L[j] = (fA j && fB j)
 V3 : t = 3 -> ∀ j (hj : j < L.length), L[j] = (fA j || fB j)
 V4 : t = 4 -> ∀ j (hj : j < L.length), L[j] = (fA j != fB j)
 V5 : t = 5 -> ∀ j (hj : j < L.length), L[j] = if fA j = true then fB j else fC j
 V6 : t = 6 -> ∀ j (hj : j < L.length), L[j] = fA (if oddB q.d then j ||| 1 <<< v2 else offN j v2)
 V7 : t = 7 -> ∀ j (hj : j < L.length), L[j] = (fA (offN j v2) || fA (j ||| 1 <<< v2))
 V8 : t = 8 -> ∀ j (hj : j < L.length), L[j] = (fA (offN j v2) && fA (j ||| 1 <<< v2))
 next : (roundT vars T q).map (tabOf vars) = T.map (tabOf vars) ++ [L]
 offs : ∀ j, j < n -> bits .or .i64 (j : Int) ((2 : Int) ^ v2) = ((j ||| 1 <<< v2 : Nat) : Int) /\ j ||| 1 <<< v2 < n /\ bits .andNot .i64 (j : Int) ((2 : Int) ^ v2) = (offN j v2 : Int) /\ offN j v2 < n
 bit : ∀ j, j < n -> (bits .and .i64 ((j : Int) / 2 ^ v1) 1 == 1) = bitsF j v1
theorem round_facts {B vars n N : Nat} {T : List Fn'} {gs : List Nat} {w : World} {v : Value} (hn : 2 ^ vars = n) (hv0 : 0 < vars) (hv6 : vars <= 6) (hN : 0 < N) (hN2 : N <= 100) (hTl : T.length = N) (htab : TabsAt B w v n gs (T.map (tabOf vars))) (q : Quad) :
  ∃ (g c ga gb gc p1 p2 p3 v1 v2 t : Nat) (fA fB fC : Nat -> Bool) (L : List Bool), v = .slice (some ⟨g, 0, none⟩) N c /\ RF w n N vars gs T q g ga gb gc p1 p2 p3 v1 v2 t fA fB fC L := by
 subst hn
 have p6 := pow_le6 hv6
 have hgl : gs.length = N := by rw [htab.len, List.length_map]; exact hTl
 obtain ⟨g, c, e, hgo, hoc, hgne⟩ := htab.form (by omega)
 rw [hgl] at e
 have pl : ∀ x, pickV x N < gs.length := fun x => by rw [hgl]; exact pickV_lt x hN
 have tat : ∀ x, tAt T x = T[pickV x N]'(by rw [hTl]; exact pickV_lt x hN) := fun x => by
  unfold tAt
  have h1 : pickV x T.length < T.length := pickV_lt x (by omega)
  simp only [List.getD_eq_getElem?_getD, List.getElem?_eq_getElem h1, Option.getD_some]
  exact getElem_congr_idx (by rw [hTl])
 have hc : ∀ x j, j < 2 ^ vars -> w.cell? ⟨gs[pickV x N]'(pl x), j, none⟩ = some (.bool (tAt T x (bitsF j))) := fun x j hj => by
  rw [htab.cell rfl (pl x) (by rw [hTl]; exact pickV_lt x hN) j hj, tat]
 have hLi : ∀ j (hj : j < (tabOf vars (stepT vars T q)).length), (tabOf vars (stepT vars T q))[j] = stepT vars T q (bitsF j) := fun j hj => tabOf_at _ _ j hj
 have hlt : ∀ j, j < (tabOf vars (stepT vars T q)).length -> j < 2 ^ vars := fun j hj => by rwa [tabOf_len] at hj
 have v2l := pickV_lt q.c hv0
 have v1l := pickV_lt q.b hv0
 exact ⟨g, c, gs[pickV q.b N]'(pl _), gs[pickV q.c N]'(pl _), gs[pickV q.d N]'(pl _), pickV q.b N, pickV q.c N, pickV q.d N, pickV q.b vars, pickV q.c vars, pickV q.a 9, fun j => tAt T q.b (bitsF j), fun j => tAt T q.c (bitsF j), fun j => tAt T q.d (bitsF j), tabOf vars (stepT vars T q), e,
  {
   P1 := fun W => rat_any q.b N hN (by omega) W
   P2 := fun W => rat_any q.c N hN (by omega) W
   P3 := fun W => rat_any q.d N hN (by omega) W
   P4 := fun W => rat_any q.c vars hv0 (by omega) W
   P5 := fun W => rat_any q.b vars hv0 (by omega) W
   P9 := fun W => rat_any q.a 9 (by omega) (by omega) W
   l1 := pickV_lt q.b hN
   l2 := pickV_lt q.c hN
   l3 := pickV_lt q.d hN
   lv1 := v1l
   lv2 := v2l
   lt9 := pickV_lt q.a (by omega)
   gl := hgo
   gn := hgne
   o1 := hoc _ (pl _)
   o2 := hoc _ (pl _)
   o3 := hoc _ (pl _)
   al := htab.lt _ (List.getElem_mem _)
   bl := htab.lt _ (List.getElem_mem _)
   cl := htab.lt _ (List.getElem_mem _)
   cA := fun j hj => hc q.b j hj
   cB := fun j hj => hc q.c j hj
   cC := fun j hj => hc q.d j hj
   Ll := tabOf_len _ _
   V0 := fun h j hj => (hLi j hj).trans (step0 h)
   V1 := fun h j hj => (hLi j hj).trans (step1 h)
   V2 := fun h j hj => (hLi j hj).trans (step2 h)
   V3 := fun h j hj => (hLi j hj).trans (step3 h)
   V4 := fun h j hj => (hLi j hj).trans (step4 h)
   V5 := fun h j hj => (hLi j hj).trans (step5 h)
   V6 := fun h j hj => (hLi j hj).trans (step6 h (hlt j hj) v2l hv6)
   V7 := fun h j hj => (hLi j hj).trans (step7 h (hlt j hj) v2l hv6)
   V8 := fun h j hj => (hLi j hj).trans (step8 h (hlt j hj) v2l hv6)
   next := by simp [roundT]
   offs := fun j hj => ⟨(on_num hj v2l hv6).1, (on_num hj v2l hv6).2, (off_num hj v2l hv6).1, (off_num hj v2l hv6).2⟩
   bit := fun j hj => bit_num (by omega) (by omega) }⟩
theorem TabsAt.snoc {B n N gt k' : Nat} {w w7 : World} {v v7 : Value} {gs : List Nat} {ts : List (List Bool)} {L : List Bool} (h : TabsAt B w v n gs ts) (hN : gs.length = N) (hb : BoolsAt w gt L) (hL : L.length = n) (hB : B <= gt) (hgt : v.ownBlock ≠ some gt) (hk : Kept (fun i => v.ownBlock = some i) w w7)
  (hrow : w7.ownsRow B 43 1 v7 (N + 1) (tcells n gs ++ [.slice (some ⟨gt, 0, none⟩) n n])) (hloc : v7.ownBlock = v.ownBlock \/ v7.ownBlock = some k') (hk' : w.heap.size <= k') : TabsAt B w7 v7 n (gs ++ [gt]) (ts ++ [L]) := by
 subst hN
 have hlt := h.lt
 refine ⟨?_, by simp [h.len], fun t ht => ?_, fun g hg => ?_, fun g hg e => ?_, fun j h1 h2 => ?_⟩
 ·have e : tcells n (gs ++ [gt]) = tcells n gs ++ [.slice (some ⟨gt, 0, none⟩) n n] := by simp [tcells]
  rw [e, List.length_append]; exact hrow
 ·rcases List.mem_append.1 ht with h3 | h3
  ·exact h.lens t h3
  ·rw [List.mem_singleton] at h3; subst h3; exact hL
 ·rcases List.mem_append.1 hg with h3 | h3
  ·exact h.old g h3
  ·rw [List.mem_singleton] at h3; subst h3; exact hB
 ·have hgl : g < w.heap.size := by
   rcases List.mem_append.1 hg with h3 | h3
   ·exact hlt g h3
   ·rw [List.mem_singleton] at h3; subst h3; exact hb.lt
  rcases hloc with h4 | h4
  ·rw [h4] at e
   rcases List.mem_append.1 hg with h3 | h3
   ·exact h.apart g h3 e
   ·rw [List.mem_singleton] at h3; subst h3; exact hgt e
  ·rw [h4] at e
   have : k' = g := by simpa using e
   omega
 ·by_cases hj : j < gs.length
  ·have e1 : (gs ++ [gt])[j] = gs[j] := List.getElem_append_left hj
   have hj2 : j < ts.length := by rw [<- h.len]; exact hj
   have e2 : (ts ++ [L])[j] = ts[j] := List.getElem_append_left hj2
   rw [e1, e2]
   exact (h.tabs j hj hj2).kept hk (h.apart _ (List.getElem_mem hj))
  ·have e : j = gs.length := by simp at h1; omega
   subst e
   have e1 : (gs ++ [gt])[gs.length] = gt := by simp
   have e2 : (ts ++ [L])[gs.length] = L := by simp [h.len]
   rw [e1, e2]
   exact hb.kept hk hgt
theorem store_tab {B g i n : Nat} {W3 ws X : World} {L : List Bool} (hL : L.length = n) (hi : i < n) (hrow : ws.ownsRow B 4 1 (.slice (some ⟨g, 0, none⟩) n n) n (mcells (partT L n i))) (hk : Kept (fun j => j = g) W3 ws) (hX : Below ws.heap.size ws X) (b : Bool) (hb : L[i]'(by omega) = b) :
  Kept (fun j => j = g) W3 (X.setCell ⟨g, i, none⟩ (.bool b)) /\ (X.setCell ⟨g, i, none⟩ (.bool b)).ownsRow B 4 1 (.slice (some ⟨g, 0, none⟩) n n) n (mcells (partT L n (i + 1))) := by
 have h1 := ownsRow_new hrow hX
 have h2 := (h1.stored i (.bool b)).1
 rw [mcells_setB, partT_set hL hi b hb] at h2
 exact ⟨(hk.trans (Kept.of_below hX _)).trans (Kept.setCell _ _ _ rfl), h2⟩
theorem store_tab_drew {B g i n : Nat} {W3 ws X : World} {L : List Bool} (hL : L.length = n) (hi : i < n) (hrow : ws.ownsRow B 4 1 (.slice (some ⟨g, 0, none⟩) n n) n (mcells (partT L n i))) (hk : Kept (fun j => j = g) W3 ws) (hX : Below ws.heap.size ws X) (b : Bool) (hb : L[i]'(by omega) = b) :
  Kept (fun j => j = g) W3 (X.setCell ⟨g, i, none⟩ (.bool b)).drew /\ (X.setCell ⟨g, i, none⟩ (.bool b)).drew.ownsRow B 4 1 (.slice (some ⟨g, 0, none⟩) n n) n (mcells (partT L n (i + 1))) := by
 obtain ⟨h1, h2⟩ := store_tab hL hi hrow hk hX b hb
 exact ⟨h1.trans (Kept.of_below (Below.refl _ _).drew _), ownsRow_new h2 (Below.refl _ _).drew⟩
theorem store_tab2 {B g i n : Nat} {W3 ws X : World} {L : List Bool} (hL : L.length = n) (hi : i < n) (hrow : ws.ownsRow B 4 1 (.slice (some ⟨g, 0, none⟩) n n) n (mcells (partT L n i))) (hk : Kept (fun j => j = g) W3 ws) (hX : Below ws.heap.size ws X) (b' b : Bool) (hb : L[i]'(by omega) = b) :
  Kept (fun j => j = g) W3 ((X.setCell ⟨g, i, none⟩ (.bool b')).setCell ⟨g, i, none⟩ (.bool b)) /\ ((X.setCell ⟨g, i, none⟩ (.bool b')).setCell ⟨g, i, none⟩ (.bool b)).ownsRow B 4 1 (.slice (some ⟨g, 0, none⟩) n n) n (mcells (partT L n (i + 1))) := by
 have h1 := ownsRow_new hrow hX
 have h2 := ((h1.stored i (.bool b')).1.stored i (.bool b)).1
 rw [mcells_setB, mcells_setB, List.set_set, partT_set hL hi b hb] at h2
 exact ⟨((hk.trans (Kept.of_below hX _)).trans (Kept.setCell _ _ _ rfl)).trans (Kept.setCell _ _ _ rfl), h2⟩
end
section
open Go.RowKit Go.Maps
theorem same_any {w : World} {g1 g2 c1 c2 n : Nat} {l1 l2 : List Bool} (h1 : BoolsAt w g1 l1) (h2 : BoolsAt w g2 l2) (e1 : l1.length = n) (e2 : l2.length = n) (hn : n <= 1000) :
  Calls Tryz.prog 45 #[.slice (some ⟨g1, 0, none⟩) n c1, .slice (some ⟨g2, 0, none⟩) n c2] w fun e w' => e = .returned (.bool (decide (l1 = l2))) /\ Below w.heap.size w w' := by
 have H1 := Lib.hid h1
 have H2 := Lib.hid h2
 have E1 := Lib.hid e1
 have E2 := Lib.hid e2
 clear h1 h2 e1 e2
 go_enter Tryz.func45, Tryz.ntmps45
 go_wp2_with fail
 go_loopw [8] (fun iV wr => ∃ k : Nat, k <= n /\ iV = .int .i64 (k : Int) /\ Below w.heap.size w wr /\ l1.take k = l2.take k) (fun iV _ => n - (intOf iV).toNat)
 case atStart => exact ⟨0, Nat.zero_le _, rfl, Below.refl _ _, by simp⟩
 case round =>
  obtain ⟨k, hk, rfl, hb, ht⟩ := hrel
  by_cases hlt : k < n
  ·have hk1 : k < l1.length := by rw [E1.out]; exact hlt
   have hk2 : k < l2.length := by rw [E2.out]; exact hlt
   have q1 := (hb.cell (p := ⟨g1, k, none⟩) H1.out.lt).trans (H1.out.cells k hk1)
   have q2 := (hb.cell (p := ⟨g2, k, none⟩) H2.out.lt).trans (H2.out.cells k hk2)
   have i1 : (k : Int) < (n : Int) := by omega
   have HT := Lib.hid ht
   have ts : Hid (l1[k] = l2[k] -> l1.take (k + 1) = l2.take (k + 1)) := fun e => by
    rw [List.take_succ_eq_append_getElem hk1, List.take_succ_eq_append_getElem hk2, ht, e]
   have nt : Hid (l1[k] ≠ l2[k] -> decide (l1 = l2) = false) := fun e => by
    rw [decide_eq_false_iff_not]; intro h; apply e; subst h; rfl
   clear ht
   generalize l1[k] = a at *
   generalize l2[k] = b at *
   by_cases e : a = b
   ·subst e
    have eb : (a != a) = false := by simp
    have TS := Lib.hid (ts.out rfl)
    clear ts nt
    go_wp2_with fail
    go_quiet (fail)
    go_wp2
    go_roundw
    case rel => exact ⟨k + 1, by omega, by go_num, hb.trans (below_drewN _ _ _), TS.out⟩
    case measure => simp [intOf]; omega
   ·have eb : (a == b) = false := by simpa using e
    have NT := Lib.hid (nt.out e)
    clear ts nt e
    go_wp2_with fail
    go_quiet (fail)
    go_wp2
    go_ret
    exact ⟨by rw [NT.out]; rfl, hb.trans (below_drewN _ _ _)⟩
  ·obtain rfl : k = n := by omega
   have hfin : decide (l1 = l2) = true := by
    rw [decide_eq_true_iff]
    rw [List.take_of_length_le (by rw [E1.out]; exact Nat.le_refl _), List.take_of_length_le (by rw [E2.out]; exact Nat.le_refl _)] at ht
    exact ht
   have HFIN := Lib.hid hfin
   clear hfin ht
   go_wp2
   go_ret
   exact ⟨by rw [HFIN.out]; rfl, hb⟩
end
section
open Go.RowKit Go.Maps
structure RSt (w : World) (vars : Nat) (ns : List Nd) (vb db fb bb : Nat) (D : List Int) (gs : List Nat) (dv : Value) : Prop where
 cv : w.cell? ⟨vb, 0, none⟩ = some (.int .i64 (vars : Int))
 cd : w.heap[db]? = some (.cells #[dv] 25)
 cf : w.cell? ⟨fb, 0, none⟩ = some (.func (.func 50) #[] #[.pointer (some ⟨vb, 0, none⟩), .pointer (some ⟨db, 0, none⟩), .pointer (some ⟨fb, 0, none⟩), .pointer (some ⟨bb, 0, none⟩)])
 cb : w.heap[bb]? = some (.cells #[.string ⟨(D.flatMap (lineF ns D)).toArray⟩] 9)
 tabs : TabsAt 0 w dv (2 ^ vars) gs (D.map (tabH vars ns))
 lt : vb < w.heap.size /\ fb < w.heap.size
 ne : vb ≠ db /\ vb ≠ bb /\ fb ≠ db /\ fb ≠ bb /\ db ≠ bb
 own : ∀ k, dv.ownBlock = some k -> k ≠ vb /\ k ≠ db /\ k ≠ fb /\ k ≠ bb
 aps : ∀ g ∈ gs, g ≠ db /\ g ≠ bb
section
variable {w w' : World} {vars : Nat} {ns : List Nd} {vb db fb bb : Nat} {D : List Int} {gs : List Nat} {dv : Value}
theorem RSt.dlt (h : RSt w vars ns vb db fb bb D gs dv) : db < w.heap.size /\ bb < w.heap.size := ⟨(Array.getElem?_eq_some_iff.1 h.cd).1, (Array.getElem?_eq_some_iff.1 h.cb).1⟩
theorem RSt.d0 (h : RSt w vars ns vb db fb bb D gs dv) : w.cell? ⟨db, 0, none⟩ = some dv := by simp [World.cell?, h.cd]
theorem RSt.b0 (h : RSt w vars ns vb db fb bb D gs dv) : w.cell? ⟨bb, 0, none⟩ = some (.string ⟨(D.flatMap (lineF ns D)).toArray⟩) := by simp [World.cell?, h.cb]
theorem RSt.kept {S : Nat -> Prop} (h : RSt w vars ns vb db fb bb D gs dv) (hk : Kept S w w') (hS : ∀ k, S k -> k ≠ vb /\ k ≠ db /\ k ≠ fb /\ k ≠ bb /\ dv.ownBlock ≠ some k /\ k ∉ gs) : RSt w' vars ns vb db fb bb D gs dv := by
 obtain ⟨l1, l2⟩ := h.lt
 have hsz := hk.size
 exact ⟨(hk.cell (a := ⟨vb, 0, none⟩) l1 (fun e => (hS _ e).1 rfl)).trans h.cv, (hk.block db h.dlt.1 (fun e => (hS _ e).2.1 rfl)).trans h.cd, (hk.cell (a := ⟨fb, 0, none⟩) l2 (fun e => (hS _ e).2.2.1 rfl)).trans h.cf, (hk.block bb h.dlt.2 (fun e => (hS _ e).2.2.2.1 rfl)).trans h.cb,
  h.tabs.kept hk (fun k e hs => (hS k hs).2.2.2.2.1 e) (fun g hg hs => (hS g hs).2.2.2.2.2 hg), ⟨by omega, by omega⟩, h.ne, h.own, h.aps⟩
theorem RSt.new (h : RSt w vars ns vb db fb bb D gs dv) (hb : Below w.heap.size w w') : RSt w' vars ns vb db fb bb D gs dv :=
 h.kept (Kept.of_below hb (fun _ => False)) (fun _ e => e.elim)
theorem RSt.bools (h : RSt w vars ns vb db fb bb D gs dv) (k : Nat) (hk : k < D.length) : ∃ hg : k < gs.length, BoolsAt w gs[k] (tabH vars ns D[k]) := by
 have hl := h.tabs.len
 rw [List.length_map] at hl
 refine ⟨by omega, ?_⟩
 have := h.tabs.tabs k (by omega) (by rw [List.length_map]; exact hk)
 simpa using this
end
end
end Go.Proofs.YtcjjekhecjmaeaaGreatDoor
