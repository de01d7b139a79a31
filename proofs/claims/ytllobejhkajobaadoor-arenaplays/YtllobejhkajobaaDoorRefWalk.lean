/- The reference's walk: a function that calls itself by a captured variable. -/
import Derived.Test.YtllobejhkajobaaDoorRefNew
namespace Go.Proofs.YtllobejhkajobaaDoor
open Go.RowKit Go.Maps Go.Sort

def SRep (D : DataW Unit) (Ls : List (Int × Bool)) : Prop := Rep I64 (fun x => Lit.int .i64 x) (fun b : Bool => .lit (.bool b)) D Ls
/-- The handles that are marked, each with true. -/
structure Seen (n : Nat) (m : List Bool) (Ls : List (Int × Bool)) : Prop where
  mem : ∀ x b, (x, b) ∈ Ls ↔ b = true ∧ ∃ i : Nat, i < n ∧ mk m i = true ∧ x = 2 + (i : Int)
  len : Ls.length = (reachTo m n).length

theorem reach_len_set (m : List Bool) (j : Nat) (hj : j < m.length) (hm : mk m j = false) : ∀ n, (reachTo (m.set j true) n).length = (reachTo m n).length + (if j < n then 1 else 0)
  | 0 => by simp [reachTo]
  | n + 1 => by
    have ih := reach_len_set m j hj hm n
    rw [reachTo_succ, reachTo_succ, List.length_append, List.length_append, ih, mk_set _ _ _ hj]
    by_cases e : n = j
    · subst e; simp [hm]
    · rw [decide_eq_false e, Bool.false_or]
      by_cases h1 : j < n
      · rw [if_pos h1, if_pos (show j < n + 1 by omega)]; omega
      · rw [if_neg h1, if_neg (show ¬ j < n + 1 by omega)]; omega

theorem zeroBool (w : World) : (zeroValue 4).run Tryd.prog w = .ok (.bool false) w := by kernel_rfl
set_option maxRecDepth 100000 in
theorem elBool_inv {v : Value} {b : Bool} {ps : List MemPlace} (h : plainElem (H := Unit) Tryd.prog 4 v = some (.lit (.bool b), ps)) : v = .bool b := by
  unfold plainElem at h
  rw [Tryd.underlying4] at h
  cases v <;> simp at h
  rw [h.1]

section
variable {w : World} {sm cnt : Nat} {D : DataW Unit} {Ls : List (Int × Bool)} {n : Nat} {m : List Bool}

theorem seen_look (hD : w.ownsMap Tryd.prog 3 (plainElem Tryd.prog 4) sm cnt D) (hR : SRep D Ls) (hS : Seen n m Ls) {j : Nat} (hj : j < n) (hx : I64 (2 + (j : Int))) :
    (Instr.lookup 68 (.map (some sm)) (.int .i64 (2 + (j : Int))) false).run Tryd.prog w = .ok (.bool (mk m j)) w := by
  obtain ⟨v, ps, hrun, hv⟩ := hD.lookup lawInt Tryd.underlying68 (zeroBool w) (plainElem_bool Tryd.underlying4 false) (keyInt hx)
  by_cases hm : mk m j = true
  · have hin : (2 + (j : Int), true) ∈ Ls := (hS.mem _ _).2 ⟨rfl, j, hj, hm, rfl⟩
    rw [hR.at' _ hin] at hv
    rw [elBool_inv hv] at hrun
    rw [hm]; exact hrun
  · have hn : 2 + (j : Int) ∉ Ls.map Prod.fst := by
      intro h
      obtain ⟨p, hp, hpx⟩ := List.mem_map.1 h
      obtain ⟨-, i, hi, hmi, hxi⟩ := (hS.mem p.1 p.2).1 hp
      have : i = j := by omega
      exact hm (this ▸ hmi)
    rw [atKey_of_not_has (hR.not hx hn)] at hv
    rw [elBool_inv hv] at hrun
    simp at hm
    rw [hm]; exact hrun

theorem seen_store (hD : w.ownsMap Tryd.prog 3 (plainElem Tryd.prog 4) sm Ls.length D) (hR : SRep D Ls) (hS : Seen n m Ls) (hl : Ls.length < 1000000) (hml : m.length = n) {j : Nat} (hj : j < n) (hx : I64 (2 + (j : Int))) (hm : mk m j = false) :
    ∃ w' D' Ls', (Instr.mapUpdate 68 (.map (some sm)) (.int .i64 (2 + (j : Int))) (.bool true)).run Tryd.prog w = .ok () w' ∧ w'.ownsMap Tryd.prog 3 (plainElem Tryd.prog 4) sm Ls'.length D' ∧ SRep D' Ls' ∧ Seen n (m.set j true) Ls' ∧ Kept (fun k => k = sm) w w' := by
  have hn : 2 + (j : Int) ∉ Ls.map Prod.fst := by
    intro h
    obtain ⟨p, hp, hpx⟩ := List.mem_map.1 h
    obtain ⟨-, i, hi, hmi, hxi⟩ := (hS.mem p.1 p.2).1 hp
    have : i = j := by omega
    rw [this, hm] at hmi; cases hmi
  obtain ⟨w', hrun, h1, h2⟩ := hD.update lawInt Tryd.underlying68 (by unfold maxLen; omega) (keyInt hx) (plainElem_bool Tryd.underlying4 true)
  refine ⟨w', _, Ls ++ [(2 + (j : Int), true)], hrun, by rw [List.length_append]; exact h1, Rep.put hR (fun a b _ _ e => by injection e) (fun _ => trivial) hx hn true, ⟨fun x b => ?_, by rw [List.length_append, List.length_singleton, reach_len_set m j (by omega) hm, if_pos hj, hS.len]⟩, Kept.of_grown h2 (fun i h => by cases h; rfl)⟩
  rw [List.mem_append, List.mem_singleton, hS.mem x b]
  constructor
  · rintro (⟨rfl, i, hi, hmi, rfl⟩ | h)
    · exact ⟨rfl, i, hi, by rw [mk_set _ _ _ (by omega), hmi, Bool.or_true], rfl⟩
    · obtain ⟨rfl, rfl⟩ := Prod.mk.inj h
      exact ⟨rfl, j, hj, by rw [mk_set _ _ _ (by omega)]; simp, rfl⟩
  · rintro ⟨rfl, i, hi, hmi, rfl⟩
    rw [mk_set _ _ _ (by omega)] at hmi
    by_cases e : i = j
    · subst e; exact .inr rfl
    · rw [decide_eq_false e, Bool.false_or] at hmi
      exact .inl ⟨rfl, i, hi, hmi, rfl⟩
end

structure WalkAt (B : Nat) (w : World) (rb rm pa sm ps pw : Nat) (ns : List Nd) (L : List (Int × Nd)) (room : Int) (m : List Bool) : Prop where
  ref : RefAt B w rb rm ns L room
  ca : w.cell? ⟨pa, 0, none⟩ = some (.pointer (some ⟨rb, 0, none⟩))
  cs : w.cell? ⟨ps, 0, none⟩ = some (.map (some sm))
  cw : w.cell? ⟨pw, 0, none⟩ = some (.func (.func 24) #[] #[.pointer (some ⟨pa, 0, none⟩), .pointer (some ⟨ps, 0, none⟩), .pointer (some ⟨pw, 0, none⟩)])
  seen : ∃ D Ls, w.ownsMap Tryd.prog 3 (plainElem Tryd.prog 4) sm Ls.length D ∧ SRep D Ls ∧ Seen ns.length m Ls
  ml : m.length = ns.length
  d1 : rb ≠ sm
  d2 : rm ≠ sm
  d3 : pa ≠ sm
  d4 : ps ≠ sm
  d5 : pw ≠ sm

section
variable {B : Nat} {w w' : World} {rb rm pa sm ps pw : Nat} {ns : List Nd} {L : List (Int × Nd)} {room : Int} {m m' : List Bool}

theorem WalkAt.new (h : WalkAt B w rb rm pa sm ps pw ns L room m) (hb : Below w.heap.size w w') : WalkAt B w' rb rm pa sm ps pw ns L room m := by
  obtain ⟨D, Ls, hD, hR⟩ := h.seen
  exact ⟨h.ref.new hb, (hb.cell (World.block_lt_of_cell? _ _ h.ca)).trans h.ca, (hb.cell (World.block_lt_of_cell? _ _ h.cs)).trans h.cs, (hb.cell (World.block_lt_of_cell? _ _ h.cw)).trans h.cw, ⟨D, Ls, ownsMap_kept hD (Kept.of_below hb (fun _ => False)) (fun h => h), hR⟩, h.ml, h.d1, h.d2, h.d3, h.d4, h.d5⟩

theorem WalkAt.turned {D : DataW Unit} {Ls : List (Int × Bool)} (h : WalkAt B w rb rm pa sm ps pw ns L room m) (hk : Kept (fun j => j = sm) w w') (hD : w'.ownsMap Tryd.prog 3 (plainElem Tryd.prog 4) sm Ls.length D) (hR : SRep D Ls) (hS : Seen ns.length m' Ls) (hml : m'.length = ns.length) : WalkAt B w' rb rm pa sm ps pw ns L room m' :=
  ⟨h.ref.kept hk h.d1 h.d2, (hk.cell (World.block_lt_of_cell? _ _ h.ca) h.d3).trans h.ca, (hk.cell (World.block_lt_of_cell? _ _ h.cs) h.d4).trans h.cs, (hk.cell (World.block_lt_of_cell? _ _ h.cw) h.d5).trans h.cw, ⟨D, Ls, hD, hR, hS⟩, hml, h.d1, h.d2, h.d3, h.d4, h.d5⟩
end

section
variable {B : Nat} {rb rm pa sm ps pw : Nat} {ns : List Nd} {L : List (Int × Nd)} {room : Int}

def RWalkOk (B : Nat) (rb rm pa sm ps pw : Nat) (ns : List Nd) (L : List (Int × Nd)) (room : Int) (d : Nat) : Prop :=
  ∀ (h : Int) (m : List Bool) (w : World), WalkAt B w rb rm pa sm ps pw ns L room m → I64 h → 24 ≤ topOf ns h + d →
    Calls Tryd.prog 24 #[.int .i64 h, .pointer (some ⟨pa, 0, none⟩), .pointer (some ⟨ps, 0, none⟩), .pointer (some ⟨pw, 0, none⟩)] w fun e w' => e = .returned (.tuple #[]) ∧ WalkAt B w' rb rm pa sm ps pw ns L room (markF d ns h m) ∧ Kept (fun j => j = sm) w w'

set_option maxRecDepth 100000 in
set_option maxHeartbeats 4000000 in
theorem rwalk_stop (hr : Ranked ns) (h : Int) (m : List Bool) (w : World) (hW : WalkAt B w rb rm pa sm ps pw ns L room m) (hi : I64 h) (ht : topOf ns h = 24) :
    Calls Tryd.prog 24 #[.int .i64 h, .pointer (some ⟨pa, 0, none⟩), .pointer (some ⟨ps, 0, none⟩), .pointer (some ⟨pw, 0, none⟩)] w fun e w' => e = .returned (.tuple #[]) ∧ WalkAt B w' rb rm pa sm ps pw ns L room m ∧ Kept (fun j => j = sm) w w' := by
  have hlk := look_ref hW.ref hr h hi
  rw [decide_eq_false (by simp [ht])] at hlk
  have hbn := below_new w (.cells #[.int .i64 (getOf ns h).v, .int .i64 (getOf ns h).l, .int .i64 (getOf ns h).h] 42)
  have HW := Lib.hid (hW.new hbn)
  have ca := hW.ca
  have cm := hW.ref.cmap
  clear hW hr hi ht
  generalize getOf ns h = n at *
  go_enter Tryd.func24, Tryd.ntmps24
  go_wp2
  refine bodyPost_end (v := .tuple #[]) (by simp [results, Tryd.results24, go_sem]) rfl ?_
  exact ⟨rfl, HW.out, Kept.of_below hbn _⟩

set_option maxRecDepth 100000 in
set_option maxHeartbeats 4000000 in
theorem rwalk_step (hr : Ranked ns) (hl : ns.length ≤ 100000) (d : Nat) (ih : RWalkOk B rb rm pa sm ps pw ns L room d) : RWalkOk B rb rm pa sm ps pw ns L room (d + 1) := by
  intro h m w hW hi hd
  by_cases ht : topOf ns h = 24
  · rw [markF_stop (.inl ht) (d + 1)]
    exact rwalk_stop hr h m w hW hi ht
  have hlk := look_ref hW.ref hr h hi
  rw [decide_eq_true ht] at hlk
  obtain ⟨b1, b2, b3⟩ := topOf_node ht
  have hv24 : (nd ns (h - 2).toNat).v < 24 := by have := (topOf_le hr h).2; omega
  obtain ⟨i, rfl⟩ : ∃ i : Nat, h = 2 + (i : Int) := ⟨(h - 2).toNat, by omega⟩
  have e1 : (2 + (i : Int) - 2).toNat = i := by omega
  have hgn : getOf ns (2 + (i : Int)) = nd ns i := by unfold getOf; rw [if_neg ht, e1]
  rw [e1] at b2 b3 hv24
  rw [hgn] at hlk
  have hok := hr.ok i b2
  have hfl : 24 ≤ topOf ns (nd ns i).l + d := by have := (hr.l i b2 hv24).1; omega
  have hfh : 24 ≤ topOf ns (nd ns i).h + d := by have := (hr.h i b2 hv24).1; omega
  have HSTOP : Hid (mk m i = true → markF (d + 1) ns (2 + (i : Int)) m = m) := fun hm => markF_stop (.inr (by rw [e1]; exact hm)) (d + 1)
  have HGO : Hid (mk m i = false → markF (d + 1) ns (2 + (i : Int)) m = markF d ns (nd ns i).h (markF d ns (nd ns i).l (m.set i true))) := fun hm => by
    show markF (d + 1) ns (2 + (i : Int)) m = _
    rw [markF, e1, if_neg (by rw [hm]; simp [ht])]
  generalize nd ns i = n at *
  obtain ⟨nv, nl, nh⟩ := n
  simp only at hlk HGO hfl hfh hok
  have IL : Hid (∀ (m : List Bool) (W : World), WalkAt B W rb rm pa sm ps pw ns L room m → Calls Tryd.prog 24 #[.int .i64 nl, .pointer (some ⟨pa, 0, none⟩), .pointer (some ⟨ps, 0, none⟩), .pointer (some ⟨pw, 0, none⟩)] W fun e w' => e = .returned (.tuple #[]) ∧ WalkAt B w' rb rm pa sm ps pw ns L room (markF d ns nl m) ∧ Kept (fun j => j = sm) W w') := fun m W h1 => ih nl m W h1 hok.2.1 hfl
  have IH : Hid (∀ (m : List Bool) (W : World), WalkAt B W rb rm pa sm ps pw ns L room m → Calls Tryd.prog 24 #[.int .i64 nh, .pointer (some ⟨pa, 0, none⟩), .pointer (some ⟨ps, 0, none⟩), .pointer (some ⟨pw, 0, none⟩)] W fun e w' => e = .returned (.tuple #[]) ∧ WalkAt B w' rb rm pa sm ps pw ns L room (markF d ns nh m) ∧ Kept (fun j => j = sm) W w') := fun m W h1 => ih nh m W h1 hok.2.2 hfh
  have hbn := below_new w (.cells #[.int .i64 nv, .int .i64 nl, .int .i64 nh] 42)
  have hW2 := hW.new hbn
  have ca := hW.ca
  have cm := hW.ref.cmap
  have cs2 := hW2.cs
  have cw2 := hW2.cw
  obtain ⟨D, Ls, hD, hR, hS⟩ := hW2.seen
  have hix : I64 (2 + (i : Int)) := ⟨by omega, by omega⟩
  have hsl := seen_look hD hR hS b2 hix
  obtain ⟨c0, c1, c2, -⟩ := cell3 w (.int .i64 nv) (.int .i64 nl) (.int .i64 nh) 42
  have HW2 := Lib.hid hW2
  have lN : w.heap.size < (w.alloc (.cells #[.int .i64 nv, .int .i64 nl, .int .i64 nh] 42)).heap.size := by simp
  have hsmw : sm < w.heap.size := by
    obtain ⟨D, Ls, hD, -⟩ := hW.seen
    exact hD.lt
  by_cases hm : mk m i = true
  · rw [hm] at hsl
    have HE := Lib.hid (HSTOP.out hm)
    clear hW hW2 hD hR hS hr hd ih HSTOP HGO IL IH hm ht hgn hfl hfh hok
    go_enter Tryd.func24, Tryd.ntmps24
    go_wp2
    refine bodyPost_end (v := .tuple #[]) (by simp [results, Tryd.results24, go_sem]) rfl ?_
    rw [HE.out]
    exact ⟨rfl, HW2.out, Kept.of_below hbn _⟩
  · have hm' : mk m i = false := by simpa using hm
    rw [hm'] at hsl
    have HE := Lib.hid (HGO.out hm')
    have hlen := hS.len
    have hrl := reachTo_length m ns.length
    obtain ⟨W3, D3, Ls3, hrun3, hD3, hR3, hS3, hK3⟩ := seen_store hD hR hS (by omega) hW.ml b2 hix hm'
    have hW3 := HW2.out.turned hK3 hD3 hR3 hS3 (by rw [List.length_set]; exact hW.ml)
    have cw3 := hW3.cw
    have bne : w.heap.size ≠ sm := by omega
    have c13 := (hK3.cell (a := ⟨w.heap.size, 1, none⟩) lN bne).trans c1
    have c23 := (hK3.cell (a := ⟨w.heap.size, 2, none⟩) lN bne).trans c2
    have l3 := Nat.lt_of_lt_of_le lN hK3.size
    have I1 := Lib.hid (IL.out _ _ hW3)
    have HK3 := Lib.hid ((Kept.of_below hbn (fun j => j = sm)).trans hK3)
    clear hW hW2 hD hR hS hr hd ih HSTOP HGO IL hm hm' ht hgn hfl hfh hok hD3 hR3 hS3 hK3 hW3 HW2 c0 c1 c2 hlen hrl
    go_enter Tryd.func24, Tryd.ntmps24
    go_wp2_with fail
    refine I1.out.mono ?_
    rintro e w4 ⟨rfl, hW4, hk4⟩
    have c24 := (hk4.cell (a := ⟨w.heap.size, 2, none⟩) l3 bne).trans c23
    have cw4 := hW4.cw
    have I2 := Lib.hid (IH.out _ _ hW4)
    have HK4 := Lib.hid (HK3.out.trans hk4)
    clear I1 hW4 hk4 IH
    go_wp2_with fail
    refine I2.out.mono ?_
    rintro e w5 ⟨rfl, hW5, hk5⟩
    go_wp2
    refine bodyPost_end (v := .tuple #[]) (by simp [results, Tryd.results24, go_sem]) rfl ?_
    rw [HE.out]
    exact ⟨rfl, hW5, HK4.out.trans hk5⟩

theorem rwalk_any (hr : Ranked ns) (hl : ns.length ≤ 100000) : ∀ d, RWalkOk B rb rm pa sm ps pw ns L room d
  | 0 => fun h m w hW hi hd => by
    have ht : topOf ns h = 24 := by have := (topOf_le hr h).2; omega
    rw [markF_stop (.inl ht) 0]
    exact rwalk_stop hr h m w hW hi ht
  | d + 1 => rwalk_step hr hl d (rwalk_any hr hl d)
end
end Go.Proofs.YtllobejhkajobaaDoor
