/- ArenaOnce: a node is made. -/
import Derived.Test.YteipbfadljgppaaOnceA
namespace Go.Proofs.Yteipbfadljgppaa
open Go.RowKit Go.Maps

theorem kept_below {S : Nat → Prop} {B : Nat} {W0 w w' : World} (h : Below B W0 w) (hk : Kept S w w') (hB : B ≤ w.heap.size) (hs : ∀ i, S i → B ≤ i) : Below B W0 w' := h.trans (hk.below hB hs)

/-- What stands behind Make, where it made or found the node n, with handle h: 'kk', 'okk' are what the other map says of n. -/
structure Half (B : Nat) (W0 w : World) (b bm bo : Nat) (v : Value) (a : Option Addr) (cap : Nat) (ns : List Nd) (al : List Int) (next : Int) (n : Nd) (h kk : Int) (okk : Bool) : Prop where
  arena : ArenaAt B w b bm v ns (pairsOf ns) 100 next
  full : Full ns
  next' : ∃ i : Nat, next = 2 + (i : Int) ∧ i ≤ ns.length
  node : ∃ j : Nat, j < ns.length ∧ nd ns j = n ∧ h = 2 + (j : Int)
  look : ∀ W, Kept (fun _ => False) w W → (Instr.lookup 29 (.map (some bo)) (.agg #[.int .i64 n.v, .int .i64 n.l, .int .i64 n.h]) true).run Try.prog W = .ok (.tuple #[.int .i64 kk, .bool okk]) W
  okk' : okk = true → kk = h
  store : ∀ W, Kept (fun _ => False) w W → ∃ W' D', (Instr.mapUpdate 29 (.map (some bo)) (.agg #[.int .i64 n.v, .int .i64 n.l, .int .i64 n.h]) (.int .i64 h)).run Try.prog W = .ok () W' ∧ W'.ownsMap Try.prog 32 (plainElem Try.prog 3) bo (pairsOf ns).length D' ∧ Rep Nd.Ok Nd.lit (fun x : Int => .lit (.int .i64 x)) D' (pairsOf ns) ∧ Kept (fun k => k = bo) W W'
  all : w.ownsRow B 3 1 (.slice a al.length cap) al.length (icells al)
  two : 2 ≤ al.length
  has : ∀ x ∈ al, hasB ns x = true ∧ 0 ≤ x ∧ x ≤ 1000
  o1 : ¬ Own b bm v bo
  o2 : ∀ k, (Value.slice a al.length cap).ownBlock = some k → ¬ Own b bm v k ∧ k ≠ bo
  Bo : B ≤ bo
  below : Below B W0 w

/-- What Make leaves: an error, or the node with its handle. -/
def MadeOut (B : Nat) (W0 : World) (b bm bo : Nat) (v : Value) (a : Option Addr) (cap : Nat) (ns : List Nd) (al : List Int) (n : Nd) (W1 : World) (e : Ending) (w' : World) : Prop :=
  (∃ m : Int, e = .returned (.tuple #[.int .i64 0, .iface 45 (.int .i64 m)]) ∧ Below W1.heap.size W1 w') ∨
  ∃ (h kk : Int) (okk : Bool) (v' : Value) (ns' : List Nd) (next' : Int), e = .returned (.tuple #[.int .i64 h, .nilIface]) ∧ Half B W0 w' b bm bo v' a cap ns' al next' n h kk okk ∧ ns'.length ≤ ns.length + 1 ∧ (∀ k, k < W1.heap.size → ¬ Own b bm v k → w'.heap[k]? = W1.heap[k]?) ∧ W1.heap.size ≤ w'.heap.size

section
variable {B : Nat} {W0 w w' : World} {b bm bo : Nat} {v : Value} {a : Option Addr} {cap : Nat} {ns : List Nd} {al : List Int} {next : Int}

theorem Making.kept (h : Making B W0 w b bm bo v a cap ns al next) (hk : Kept (fun _ => False) w w') (hB : B ≤ w.heap.size) : Making B W0 w' b bm bo v a cap ns al next := by
  obtain ⟨D, hD, hR⟩ := h.ofs
  exact ⟨h.arena.kept hk (fun _ _ h => h), h.full, h.next', ⟨D, ownsMap_kept hD hk (fun h => h), hR⟩, ownsRow_kept h.all hk (fun _ _ h => h), h.two, h.has, h.o1, h.o2, h.Bo, kept_below h.below hk hB (fun _ h => h.elim)⟩

theorem making_make (h : Making B W0 w b bm bo v a cap ns al next) (hB : B ≤ w.heap.size) (hl : ns.length ≤ 40) (n : Nd) (hn : n.Ok) (h0 : 0 ≤ n.v) (h1 : n.v < 24) (h2 : n.l ∈ al) (h3 : n.h ∈ al) :
    Calls Try.prog 7 #[.pointer (some ⟨b, 0, none⟩), n.val] w (MadeOut B W0 b bm bo v a cap ns al n w) := by
  obtain ⟨D, hD, hR⟩ := h.ofs
  have hl1 := (h.has _ h2).1
  have hl2 := (h.has _ h3).1
  by_cases ho : topOf ns n.l ≤ n.v ∨ topOf ns n.h ≤ n.v
  · exact (make_order h.arena (by omega) n hn h0 h1 hl1 hl2 ho).mono fun e w' ⟨he, hb⟩ => .inl ⟨10, he, hb⟩
  have hf : Fit ns n := ⟨h0, h1, hl1, hl2, by omega, by omega⟩
  by_cases hin : n ∈ (pairsOf ns).map Prod.fst
  · obtain ⟨p, hp, hpn⟩ := List.mem_map.1 hin
    obtain ⟨j, hj, rfl⟩ := mem_pairsOf.1 hp
    simp only at hpn
    rw [hpn] at hp
    have hx : I64 (2 + (j : Int)) := ⟨by omega, by omega⟩
    refine (make_found h.arena (by omega) n hn hf _ hp).mono fun e w' ⟨he, hb⟩ => .inr ⟨2 + (j : Int), 2 + (j : Int), true, v, ns, next, he, ?_, by omega, fun k hk _ => hb.block k hk, hb.size⟩
    have hk := Kept.of_below hb (fun _ => False)
    have hm := h.kept hk hB
    have hD' := ownsMap_kept hD hk (fun h => h)
    refine ⟨hm.arena, hm.full, hm.next', ⟨j, hj, hpn, rfl⟩, fun W hW => look_found (p := (n, 2 + (j : Int))) (ownsMap_kept hD' hW (fun h => h)) hR hp, fun _ => rfl, fun W hW => ?_, hm.all, hm.two, hm.has, hm.o1, hm.o2, hm.Bo, hm.below⟩
    exact store_same (p := (n, 2 + (j : Int))) (ownsMap_kept hD' hW (fun h => h)) hR (by rw [pairsOf_length]; omega) hp hx
  · obtain ⟨i, hni, hil⟩ := h.next'
    refine (make_new h.arena (by omega) n hn hf hin (by rw [pairsOf_length]; omega) (by rw [pairsOf_length]; omega) i hni hil hB).mono ?_
    rintro e w' ⟨k, v', rfl, hk, hocc, hfree, hA, hK, hv⟩
    have hkn : k = ns.length := by
      by_cases hlt : k < ns.length
      · exact absurd (h.full.occ k hlt) (hfree hlt)
      · omega
    subst hkn
    rw [if_pos rfl, set_snoc, ← pairsOf_snoc] at hA
    have hx : I64 (2 + (ns.length : Int)) := ⟨by omega, by omega⟩
    have hF := h.full.snoc hn hf hin
    have hob := h.o1
    have hD' := ownsMap_kept hD hK hob
    have hwb := hD.lt
    refine .inr ⟨2 + (ns.length : Int), 0, false, v', ns ++ [n], 2 + (ns.length : Int), rfl, ?_, by simp, fun k hk hn => hK.block k hk hn, hK.size⟩
    have hown' : ∀ k, k < w.heap.size → ¬ Own b bm v k → ¬ Own b bm v' k := fun k hk hn ho => by
      rcases ho with ho | ho | ho
      · exact hn (.inl ho)
      · exact hn (.inr (.inl ho))
      · rcases hv with hv | ⟨g, hg, hgl⟩
        · exact hn (.inr (.inr (hv ▸ ho)))
        · rw [hg] at ho; cases ho; omega
    refine ⟨hA, hF, ⟨ns.length, rfl, by simp⟩, ⟨ns.length, by simp, by rw [nd_snoc, if_neg (by omega), if_pos rfl], rfl⟩, fun W hW => look_none (ownsMap_kept hD' hW (fun h => h)) hR hn hin, fun h => (by cases h), fun W hW => ?_, ownsRow_kept h.all hK (fun k hk => (h.o2 k hk).1), h.two, fun x hx => ⟨hasB_snoc n (h.has x hx).1, (h.has x hx).2⟩, hown' bo hwb hob, fun k hk => ⟨hown' k (h.all.lt k hk).2 (h.o2 k hk).1, (h.o2 k hk).2⟩, h.Bo, kept_below h.below hK hB (own_ge h.arena)⟩
    rw [pairsOf_snoc]
    exact store_new (ownsMap_kept hD' hW (fun h => h)) hR (by rw [pairsOf_length]; omega) hn hin hx

/-- Behind the store and the append the next round begins. -/
theorem half_done {n : Nd} {h kk : Int} {okk : Bool} {W W' w4 : World} {D' : DataW Unit} {a' : Option Addr} {cap' : Nat} (hH : Half B W0 w b bm bo v a cap ns al next n h kk okk) (hl : ns.length ≤ 100) (hB : B ≤ w.heap.size) (hk : Kept (fun _ => False) w W)
    (hD : W'.ownsMap Try.prog 32 (plainElem Try.prog 3) bo (pairsOf ns).length D') (hR : Rep Nd.Ok Nd.lit (fun x : Int => .lit (.int .i64 x)) D' (pairsOf ns)) (hkW : Kept (fun k => k = bo) W W')
    (hrow : w4.ownsRow B 3 1 (.slice a' (al.length + 1) cap') (al.length + 1) (icells al ++ [.int .i64 h])) (hk4 : Kept (fun k => (Value.slice a al.length cap).ownBlock = some k) W' w4)
    (hloc : (Value.slice a' (al.length + 1) cap').ownBlock = (Value.slice a al.length cap).ownBlock ∨ ∃ g, (Value.slice a' (al.length + 1) cap').ownBlock = some g ∧ W'.heap.size ≤ g) :
    Making B W0 w4 b bm bo v a' cap' ns (al ++ [h]) next := by
  have hA := ((hH.arena.kept hk (fun _ _ h => h)).kept hkW (fun k ho e => hH.o1 (e ▸ ho))).kept hk4 (fun k ho e => (hH.o2 k e).1 ho)
  have hsz1 := hk.size
  have hsz2 := hkW.size
  obtain ⟨j, hj, hjn, rfl⟩ := hH.node
  have hbo : bo < W'.heap.size := hD.lt
  refine ⟨hA, hH.full, hH.next', ⟨D', ownsMap_kept hD hk4 (fun e => (hH.o2 bo e).2 rfl), hR⟩, ?_, by rw [List.length_append]; have := hH.two; omega, ?_, hH.o1, ?_, hH.Bo, ?_⟩
  · rw [List.length_append, List.length_singleton]
    simpa [icells] using hrow
  · intro x hx
    rcases List.mem_append.1 hx with hx | hx
    · exact hH.has x hx
    · rw [List.mem_singleton] at hx
      subst hx
      refine ⟨?_, by omega, by omega⟩
      unfold hasB
      rw [topOf_at hj]
      simp [hH.full.occ j hj]
  · intro k hkb
    rw [List.length_append, List.length_singleton] at hkb
    rcases hloc with hloc | ⟨g, hg, hgl⟩
    · exact hH.o2 k (hloc ▸ hkb)
    · have hgk : g = k := Option.some.inj (hg.symm.trans hkb)
      refine ⟨?_, by omega⟩
      have hlt := hH.arena.lt
      obtain ⟨D, hD0, -⟩ := hH.arena.hmap
      have hlm := hD0.lt
      rintro (ho | ho | ho)
      · omega
      · omega
      · have := (hH.arena.row.lt k ho).2; omega
  · exact kept_below (kept_below (kept_below hH.below hk hB (fun _ h => h.elim)) hkW (by omega) (fun i hi => by rw [hi]; exact hH.Bo)) hk4 (by omega) (fun i hi => (hH.all.lt i hi).1)
end
end Go.Proofs.Yteipbfadljgppaa
