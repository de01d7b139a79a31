/- List of two sets; the fact 'sets'. -/
import Derived.Test.YtbklgjmkdhinpaaFmOneS
import Derived.Test.YtbklgjmkdhinpaaCnAdd
import Derived.Test.YtbklgjmkdhinpaaCnBaseB
namespace Go.Proofs.Ytbklgjmkdhinpaa.Fm
open Go.RowKit Go.Maps Go.Proofs.Ytbklgjmkdhinpaa.Bd Go.Proofs.Ytbklgjmkdhinpaa.Bd.Num
def nsF : Nat -> List Nd -> Int -> Nat
 | 0, _, h => if h = 1 then 1 else 0
 | d + 1, ns, h => if topOf ns h = 24 then (if h = 1 then 1 else 0) else nsF d ns (nd ns (pl h)).l + nsF d ns (nd ns (pl h)).h
def nsN (ns : List Nd) (h : Int) : Nat := nsF 24 ns h
theorem nodupLe : ∀ (n : Nat) (l : List Nat), l.Nodup -> (∀ x ∈ l, x < n) -> l.length <= n
 | 0, l, _, h => by
  cases l with
  | nil => simp
  | cons a l => have := h a (List.mem_cons_self ..); omega
 | n + 1, l, hd, h => by
  have ih := nodupLe n (l.erase n) (hd.erase n) (fun x hx => by
   have h1 := (hd.mem_erase_iff).1 hx
   have h2 := h x h1.2
   have h3 := h1.1
   omega)
  by_cases hm : n ∈ l
  ·rw [List.length_erase_of_mem hm] at ih; omega
  ·rw [List.erase_of_not_mem hm] at ih; omega
def NatAt (w : World) (v : Value) (m : Nat) : Prop := ∃ x : NV, v = x.val /\ ∃ ds, Dig .u64 w (.slice x.a x.n x.c) ds /\ Norm 1000000000 ds /\ val 1000000000 ds = m
theorem NatAt.new {w w' : World} {v : Value} {m : Nat} (h : NatAt w v m) (hb : Below w.heap.size w w') : NatAt w' v m := by
 obtain ⟨x, e, ds, h1, h2, h3⟩ := h
 exact ⟨x, e, ds, h1.below hb, h2, h3⟩
theorem NatAt.kept {S : Nat -> Prop} {w w' : World} {v : Value} {m : Nat} (h : NatAt w v m) (hk : Kept S w w') (hn : ∀ b o n, S b -> w.cell? ⟨b, o, none⟩ ≠ some (.int .u64 n)) : NatAt w' v m := by
 obtain ⟨x, e, ds, ⟨a, cap, hv, hc, hi⟩, h2, h3⟩ := h
 refine ⟨x, e, ds, ⟨a, cap, hv, hc, fun i hl => ?_⟩, h2, h3⟩
 obtain ⟨b, off, ha, hb, hcell⟩ := hi i hl
 exact ⟨b, off, ha, Nat.lt_of_lt_of_le hb hk.size, (hk.cell (a := ⟨b, off + i, none⟩) hb (fun hs => hn b _ _ hs hcell)).trans hcell⟩
theorem natAt_mk {w : World} {s : Value} {ds : List Nat} {m : Nat} (h : Dig .u64 w s ds) (hN : Norm 1000000000 ds) (hv : val 1000000000 ds = m) : NatAt w (.agg #[s]) m := by
 have h0 := h
 obtain ⟨a, cap, e, -⟩ := h0
 subst e
 exact ⟨⟨a, ds.length, cap⟩, rfl, ds, h, hN, hv⟩
theorem NatAt.open {w : World} {v : Value} {m : Nat} (h : NatAt w v m) (hm : m <= 100000000) : ∃ s ds, v = .agg #[s] /\ Dig .u64 w s ds /\ Norm 1000000000 ds /\ val 1000000000 ds = m /\ ds.length <= 1 := by
 obtain ⟨x, e, ds, h1, h2, h3⟩ := h
 exact ⟨_, ds, e, h1, h2, h3, norm_len (by omega) h2 (by rw [h3]; omega)⟩
structure DoneN (w : World) (dk vars : Nat) (ns : List Nd) (L : List (Int × NV)) : Prop where
 hmap : ∃ D, w.ownsMap Try.prog 3 natR dk L.length D /\ NRep D L
 keys : ∀ p ∈ L, topOf ns p.1 ≠ 24
 nums : ∀ p ∈ L, NatAt w p.2.val (nsN ns p.1)
section
variable {w w' : World} {dk vars : Nat} {ns : List Nd} {L : List (Int × NV)}
theorem DoneN.lt (h : DoneN w dk vars ns L) : dk < w.heap.size := by obtain ⟨D, hD, -⟩ := h.hmap; exact hD.lt
theorem DoneN.none (h : DoneN w dk vars ns L) (o : Nat) : w.cell? ⟨dk, o, none⟩ = none := by
 obtain ⟨D, ⟨es, clock, hb, -⟩, -⟩ := h.hmap
 unfold World.cell?
 simp only [hb]
theorem DoneN.kept {S : Nat -> Prop} (h : DoneN w dk vars ns L) (hk : Kept S w w') (hn : ¬ S dk) (hc : ∀ b o n, S b -> w.cell? ⟨b, o, Option.none⟩ ≠ some (.int .u64 n)) : DoneN w' dk vars ns L := by
 obtain ⟨D, hD, hR⟩ := h.hmap
 exact ⟨⟨D, ownsMap_kept hD hk hn, hR⟩, h.keys, fun p hp => (h.nums p hp).kept hk hc⟩
theorem DoneN.new (h : DoneN w dk vars ns L) (hb : Below w.heap.size w w') : DoneN w' dk vars ns L := h.kept (Kept.of_below hb (fun _ => False)) (fun h => h) (fun _ _ _ h => h.elim)
theorem DoneN.no (h : DoneN w dk vars ns L) (b o : Nat) (n : Int) (e : b = dk) : w.cell? ⟨b, o, Option.none⟩ ≠ some (.int .u64 n) := by rw [e, h.none]; exact fun h => by cases h
theorem NatAt.box {v : Value} {m bx : Nat} (h : NatAt w v m) (hb : ∀ o n, w.cell? ⟨bx, o, Option.none⟩ ≠ some (.int .u64 n)) (u : Value) : NatAt (w.setCell ⟨bx, 0, Option.none⟩ u) v m :=
 h.kept (S := fun j => j = bx) (Kept.setCell _ _ _ rfl) (fun b o n e => by rw [e]; exact hb o n)
theorem DoneN.box {bx : Nat} (h : DoneN w dk vars ns L) (hb : ∀ o n, w.cell? ⟨bx, o, Option.none⟩ ≠ some (.int .u64 n)) (hne : bx ≠ dk) (u : Value) : DoneN (w.setCell ⟨bx, 0, Option.none⟩ u) dk vars ns L :=
 h.kept (S := fun j => j = bx) (Kept.setCell _ _ _ rfl) (fun e => hne e.symm) (fun b o n e => by rw [e]; exact hb o n)
theorem DoneN.len (h : DoneN w dk vars ns L) : L.length <= ns.length := by
 obtain ⟨D, -, hR⟩ := h.hmap
 have hk : ∀ p ∈ L, p.1 = 2 + (pl p.1 : Int) /\ pl p.1 < ns.length := fun p hp => ⟨(node_at (h.keys p hp)).2.2.2, (node_at (h.keys p hp)).2.1⟩
 have hd := Rep.nodup hR
 have := nodupLe ns.length (L.map fun p => pl p.1) (by
  have e : (L.map fun p => pl p.1) = (L.map Prod.fst).map pl := by simp
  rw [e]
  refine (List.nodup_iff_pairwise_ne.1 hd |> fun hp => ?_)
  refine List.nodup_iff_pairwise_ne.2 (List.pairwise_map.2 (hp.imp_of_mem fun {a b} ha hb hab e => hab ?_))
  obtain ⟨p, hp1, rfl⟩ := List.mem_map.1 ha
  obtain ⟨q, hq1, rfl⟩ := List.mem_map.1 hb
  rw [(hk p hp1).1, (hk q hq1).1, e]) (fun x hx => by
  obtain ⟨p, hp1, rfl⟩ := List.mem_map.1 hx
  exact (hk p hp1).2)
 simpa using this
end
def CntOut (dk vars : Nat) (ns : List Nd) (m : Nat) (w : World) (e : Ending) (w' : World) : Prop :=
 ∃ v L', e = .returned v /\ NatAt w' v m /\ DoneN w' dk vars ns L' /\ Kept (fun j => j = dk) w w'
def WaysOk (B s b dk : Nat) (O : Nat -> Prop) (vars : Nat) (room : Int) (ns : List Nd) (d : Nat) : Prop :=
 ∀ (h : Int) (L : List (Int × NV)) (w : World), SpaceAt B w s b O vars room ns -> DoneN w dk vars ns L -> hasB ns h = true -> 24 <= topOf ns h + d ->
  Calls Try.prog 80 #[.pointer (some ⟨s, 0, none⟩), .int .i64 h, .map (some dk)] w (CntOut dk vars ns (nsN ns h) w)
section
variable {B s b dk : Nat} {O : Nat -> Prop} {vars : Nat} {room : Int} {ns : List Nd}
end
section
variable {w w' : World} {dk vars : Nat} {ns : List Nd} {L : List (Int × NV)}
end
structure BoxAt (w : World) (bx : Nat) : Prop where
 lt : bx < w.heap.size
 c : w.cell? ⟨bx, 0, none⟩ = some (.slice none 0 0)
 f : w.frozen? ⟨bx, 0, none⟩ = false
 no : ∀ o n, w.cell? ⟨bx, o, none⟩ ≠ some (.int .u64 n)
theorem BoxAt.kept {S : Nat -> Prop} {w w' : World} {bx : Nat} (h : BoxAt w bx) (hk : Kept S w w') (hn : ¬ S bx) : BoxAt w' bx :=
 ⟨Nat.lt_of_lt_of_le h.lt hk.size, (hk.cell (a := ⟨bx, 0, none⟩) h.lt hn).trans h.c, (hk.frozen (a := ⟨bx, 0, none⟩) h.lt hn).trans h.f, fun o n => by rw [hk.cell (a := ⟨bx, o, none⟩) h.lt hn]; exact h.no o n⟩
theorem BoxAt.new {w w' : World} {bx : Nat} (h : BoxAt w bx) (hb : Below w.heap.size w w') : BoxAt w' bx := h.kept (Kept.of_below hb (fun _ => False)) (fun h => h)
structure CS (B s b dk : Nat) (O : Nat -> Prop) (vars : Nat) (room : Int) (ns : List Nd) (W0 w : World) (nb bx : Nat) (gv gl gh : Int) (L : List (Int × NV)) : Prop where
 space : SpaceAt B w s b O vars room ns
 done : DoneN w dk vars ns L
 tri : Tri w nb gv gl gh
 box : BoxAt w bx
 kept : Kept (fun j => j = dk) W0 w
section
variable {B s b dk : Nat} {O : Nat -> Prop} {vars : Nat} {room : Int} {ns : List Nd} {W0 w w' : World} {nb bx : Nat} {gv gl gh : Int} {L : List (Int × NV)}
theorem CS.new (h : CS B s b dk O vars room ns W0 w nb bx gv gl gh L) (hb : Below w.heap.size w w') : CS B s b dk O vars room ns W0 w' nb bx gv gl gh L :=
 ⟨h.space.new hb, h.done.new hb, h.tri.new hb, h.box.new hb, h.kept.trans (Kept.of_below hb _)⟩
theorem CS.ways {d : Nat} (hW : WaysOk B s b dk O vars room ns d) (ho : ¬ O dk) (hs : s ≠ dk) (hn : nb ≠ dk) (hx : bx ≠ dk) (h : CS B s b dk O vars room ns W0 w nb bx gv gl gh L) (g : Int) (hh : hasB ns g = true) (hd : 24 <= topOf ns g + d) :
  Calls Try.prog 80 #[.pointer (some ⟨s, 0, none⟩), .int .i64 g, .map (some dk)] w fun e w' => ∃ r L', e = .returned r /\ NatAt w' r (nsN ns g) /\ CS B s b dk O vars room ns W0 w' nb bx gv gl gh L' /\ Kept (fun j => j = dk) w w' := by
 refine (hW g L w h.space h.done hh hd).mono ?_
 rintro e w2 ⟨r, L', he, hr, hD, hk⟩
 exact ⟨r, L', he, hr, ⟨h.space.kept hk (fun j hj e => ho (e ▸ hj)) hs, hD, h.tri.kept hk hn, h.box.kept hk hx, h.kept.trans hk⟩, hk⟩
theorem CS.add (h : CS B s b dk O vars room ns W0 w nb bx gv gl gh L) {r1 r2 : Value} {m1 m2 : Nat} (h1 : NatAt w r1 m1) (h2 : NatAt w r2 m2) (l1 : m1 <= 100000000) (l2 : m2 <= 100000000) :
  Calls Try.prog 100 #[r1, r2] w fun e w' => ∃ a n c, e = .returned (.agg #[.slice a n c]) /\ NatAt w' (.agg #[.slice a n c]) (m1 + m2) /\ CS B s b dk O vars room ns W0 w' nb bx gv gl gh L /\ Below w.heap.size w w' := by
 obtain ⟨s1, d1, rfl, g1, n1, v1, k1⟩ := h1.open l1
 obtain ⟨s2, d2, rfl, g2, n2, v2, k2⟩ := h2.open l2
 refine (add_any s1 s2 d1 d2 w g1 g2 n1.small n2.small (by omega) (by omega)).mono ?_
 rintro e w2 ⟨s3, he, d3, g3, n3, v3, -, hb⟩
 have hn := natAt_mk g3 n3 v3
 rw [v1, v2] at hn
 obtain ⟨a, c, e3, -⟩ := id g3
 subst e3
 exact ⟨a, _, c, he, hn, h.new hb, hb⟩
end
section
variable {B s b dk : Nat} {O : Nat -> Prop} {vars : Nat} {room : Int} {ns : List Nd} {W0 w w' : World} {nb bx : Nat} {gv gl gh : Int} {L : List (Int × NV)}
end
end Go.Proofs.Ytbklgjmkdhinpaa.Fm
namespace Go.Proofs.Ytbklgjmkdhinpaa.Fm
open Go.RowKit Go.Maps Go.Proofs.Ytbklgjmkdhinpaa.Bd
def UAt (w : World) (g : Nat) (l : List Nat) : Prop := g < w.heap.size /\ ∀ i, i < l.length -> w.cell? ⟨g, i, none⟩ = some (.int .u64 (l.getD i 0 : Nat))
theorem UAt.below {w w' : World} {g : Nat} {l : List Nat} (h : UAt w g l) (hb : Below w.heap.size w w') : UAt w' g l := ⟨Nat.lt_of_lt_of_le h.1 hb.size, fun i hi => (hb.cell (p := ⟨g, i, none⟩) h.1).trans (h.2 i hi)⟩
section
variable {B s b : Nat} {O : Nat -> Prop} {vars room : Nat} {ns : List Nd}
end
end Go.Proofs.Ytbklgjmkdhinpaa.Fm
