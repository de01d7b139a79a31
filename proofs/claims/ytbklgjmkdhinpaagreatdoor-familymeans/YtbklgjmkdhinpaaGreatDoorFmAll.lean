/- Each operation makes what it says. -/
import Derived.Test.YtbklgjmkdhinpaaGreatDoorFmAtLess
import Derived.Test.YtbklgjmkdhinpaaGreatDoorFmAtLeast
namespace Go.Proofs.YtbklgjmkdhinpaaGreatDoor.Fm
open Go.RowKit Go.Maps Go.Proofs.YtbklgjmkdhinpaaGreatDoor.Bd
section
variable {B : Nat} {c : Ctx} {vars : Nat} {k : K} {F FA : FuncId} {bw bk bd ba dm : Nat} {capsA : Array Value} {v : Int}
theorem sub_step (hF : IsBase c F k bw bk bd ba dm (.func (.func FA) #[] capsA)) (hentA : ∀ (args : Array Value) (w : World), (callFunc FA args).run Tryz.prog w = .ok (.enter FA args) w)
  (hat : ∀ (W : World) (O : Nat -> Prop) (ns : List Nd) (a b : Int), CtxAt B W c O vars ns -> hasB ns a = true -> hasB ns b = true -> v < minZ ns a b -> minZ ns a b < 24 -> cntT vars ns + cost (rk vars ns a b) k + 18 < c.room -> Calls Tryz.prog FA (#[.agg #[.int .i64 (loZ ns a (minZ ns a b)), .int .i64 (hiZ ns a (minZ ns a b))], .agg #[.int .i64 (loZ ns b (minZ ns a b)), .int .i64 (hiZ ns b (minZ ns a b))]] ++ capsA) W fun e w' => ∃ p q ns' O', e = .returned (.agg #[.int .i64 p, .int .i64 q]) /\ CtxAt B w' c O' vars ns' /\ MM c O O' W w' /\ AtRes vars k ns a b ns' p q) :
  SubC B c vars k bw bk bd ba v := by
 intro w O ns a b hC ua ub hun hroom
 have hmz : v < minZ ns a b := by have := ua.2; have := ub.2; unfold minZ; omega
 have hrk : rk vars ns a b <= rr vars v := by unfold rk rr; omega
 have hco := cost_mono hrk k
 have key : Calls Tryz.prog 109 #[.int .i64 a, .int .i64 b, .pointer (some ⟨bw, 0, none⟩), .pointer (some ⟨bk, 0, none⟩), .pointer (some ⟨bd, 0, none⟩), .pointer (some ⟨ba, 0, none⟩)] w (OpOut B c O vars k ns a b w) := by
  cases e : knownZ k a b with
  | some x => exact walk_known hC hF ua.1 ub.1 x e
  | none =>
   obtain ⟨⟨m, D, hD, hR, hm⟩, -⟩ := hC.memo _ hF.im
   by_cases hx : (a, b) ∈ m.map Prod.fst
   ·obtain ⟨q, hq, eq⟩ := List.mem_map.1 hx
    obtain ⟨q1, q2⟩ := q
    simp only at eq
    subst eq
    exact walk_found hC hF e hD hR hm q2 hq
   ·have hv := known_none (k := k) hC.good.ranked ua.1 ub.1 e
    exact walk_step hC hF ua.1 ub.1 e hD hR hx (by omega) hentA (fun W hW => hat W O ns a b (hC.new hW) ua.1 ub.1 hmz hv (by omega))
 refine key.mono ?_
 rintro e w' ⟨h, ns', O', rfl, hC', hM', hR'⟩
 refine ⟨h, ns', O', rfl, hC', hM', hR'.ext, ⟨hR'.has, by have := hR'.top; omega⟩, hR'.mem, ?_⟩
 have := hR'.cnt
 omega
theorem up_lo {ns : List Nd} {h u : Int} (hr : Ranked ns) (hu : u < 24) (hh : hasB ns h = true) (hle : u <= topOf ns h) : Up u ns (loZ ns h u) := ⟨(loZ_has hr hu hh).1, (loZ_has hr hu hh).2 hle⟩
theorem up_hi {ns : List Nd} {h u : Int} (hr : Ranked ns) (hu : u < 24) : Up u ns (hiZ ns h u) := ⟨(hiZ_has (h := h) hr hu).1, (hiZ_has (h := h) hr hu).2⟩
theorem rk_cases (vars : Nat) (ns : List Nd) (a b : Int) : (minZ ns a b + 2 < (vars : Int) /\ rk vars ns a b = rr vars (minZ ns a b) + 1) \/ (¬ minZ ns a b + 2 < (vars : Int) /\ rk vars ns a b = 0 /\ rr vars (minZ ns a b) = 0) := by
 unfold rk rr
 by_cases h : minZ ns a b + 2 < (vars : Int)
 ·exact .inl ⟨h, by omega⟩
 ·exact .inr ⟨h, by omega, by omega⟩
end
def IsOr (c : Ctx) (sw sk sd sa : Nat) : Prop := ∃ dm sx, IsBase c 71 .or sw sk sd sa dm (.func (.func 72) #[] #[.pointer (some ⟨sx, 0, none⟩)]) /\ (sx, .func (.func 109) #[] #[.pointer (some ⟨sw, 0, none⟩), .pointer (some ⟨sk, 0, none⟩), .pointer (some ⟨sd, 0, none⟩), .pointer (some ⟨sa, 0, none⟩)]) ∈ c.boxes
theorem sub_or {B : Nat} {c : Ctx} {vars : Nat} {sw sk sd sa : Nat} (hI : IsOr c sw sk sd sa) (v : Int) : SubC B c vars .or sw sk sd sa v := by
 obtain ⟨dm, sx, hF, hbxs⟩ := hI
 have main : ∀ (d : Nat) (v : Int), 23 <= v + d -> SubC B c vars .or sw sk sd sa v := by
  intro d
  induction d with
  | zero => exact fun v hv => sub_step hF (fun _ _ => by kernel_rfl) (fun W O ns a b hC ha hb hv1 hv2 => by omega)
  | succ d ih =>
   intro v hv
   have hind : ∀ u, v < u -> SubC B c vars .or sw sk sd sa u := fun u hu => ih u (by omega)
   refine sub_step hF (fun _ _ => by kernel_rfl) (fun W O ns a b hC ha hb hv1 hv2 hroom => ?_)
   have hr := hC.good.ranked
   have hv0 := (minZ_bd hr a b).1
   obtain ⟨m1, m2⟩ := minZ_le ns a b
   have hsum : cntT vars ns + cost (rr vars (minZ ns a b)) .or + cost (rr vars (minZ ns a b)) .or + (if minZ ns a b + 2 < (vars : Int) then 1 else 0) <= cntT vars ns + cost (rk vars ns a b) .or := by
    rcases rk_cases vars ns a b with ⟨h1, h2⟩ | ⟨h1, h2, h3⟩
    ·rw [if_pos h1, h2]; simp only [cost]; omega
    ·rw [if_neg h1, h2, h3]; simp only [cost]; omega
   have da := dec_of hr hv0 hv2 ha m1
   have db := dec_of hr hv0 hv2 hb m2
   refine (at_or hC (hind (minZ ns a b) hv1) hbxs (up_lo hr hv2 ha m1) (up_hi hr hv2) (up_lo hr hv2 hb m2) (up_hi hr hv2) (by omega)).mono ?_
   rintro e w' ⟨p, q, ns', O', rfl, hC', hM', hx', hp', hq', mp, mq, hc'⟩
   refine ⟨p, q, ns', O', rfl, hC', hM', hx', hp'.1, hq'.1, hp'.2, hq'.2, fun x => ?_, by omega⟩
   rw [dec_or da db x]
   split
   ·exact mq _
   ·exact mp _
 exact main (23 - v).toNat v (by omega)
def IsAnd (c : Ctx) (sw sk sd sa : Nat) : Prop := ∃ dm sx, IsBase c 73 .and sw sk sd sa dm (.func (.func 74) #[] #[.pointer (some ⟨sx, 0, none⟩)]) /\ (sx, .func (.func 109) #[] #[.pointer (some ⟨sw, 0, none⟩), .pointer (some ⟨sk, 0, none⟩), .pointer (some ⟨sd, 0, none⟩), .pointer (some ⟨sa, 0, none⟩)]) ∈ c.boxes
theorem sub_and {B : Nat} {c : Ctx} {vars : Nat} {sw sk sd sa : Nat} (hI : IsAnd c sw sk sd sa) (v : Int) : SubC B c vars .and sw sk sd sa v := by
 obtain ⟨dm, sx, hF, hbxs⟩ := hI
 have main : ∀ (d : Nat) (v : Int), 23 <= v + d -> SubC B c vars .and sw sk sd sa v := by
  intro d
  induction d with
  | zero => exact fun v hv => sub_step hF (fun _ _ => by kernel_rfl) (fun W O ns a b hC ha hb hv1 hv2 => by omega)
  | succ d ih =>
   intro v hv
   have hind : ∀ u, v < u -> SubC B c vars .and sw sk sd sa u := fun u hu => ih u (by omega)
   refine sub_step hF (fun _ _ => by kernel_rfl) (fun W O ns a b hC ha hb hv1 hv2 hroom => ?_)
   have hr := hC.good.ranked
   have hv0 := (minZ_bd hr a b).1
   obtain ⟨m1, m2⟩ := minZ_le ns a b
   have hsum : cntT vars ns + cost (rr vars (minZ ns a b)) .and + cost (rr vars (minZ ns a b)) .and + (if minZ ns a b + 2 < (vars : Int) then 1 else 0) <= cntT vars ns + cost (rk vars ns a b) .and := by
    rcases rk_cases vars ns a b with ⟨h1, h2⟩ | ⟨h1, h2, h3⟩
    ·rw [if_pos h1, h2]; simp only [cost]; omega
    ·rw [if_neg h1, h2, h3]; simp only [cost]; omega
   have da := dec_of hr hv0 hv2 ha m1
   have db := dec_of hr hv0 hv2 hb m2
   refine (at_and hv2 hC (hind (minZ ns a b) hv1) hbxs (up_lo hr hv2 ha m1) (up_hi hr hv2) (up_lo hr hv2 hb m2) (up_hi hr hv2) (by omega)).mono ?_
   rintro e w' ⟨p, q, ns', O', rfl, hC', hM', hx', hp', hq', mp, mq, hc'⟩
   refine ⟨p, q, ns', O', rfl, hC', hM', hx', hp'.1, hq'.1, hp'.2, hq'.2, fun x => ?_, by omega⟩
   rw [dec_and da db x]
   split
   ·exact mq _
   ·exact mp _
 exact main (23 - v).toNat v (by omega)
def IsLess (c : Ctx) (sw sk sd sa : Nat) : Prop := ∃ dm sx, IsBase c 75 .less sw sk sd sa dm (.func (.func 76) #[] #[.pointer (some ⟨sx, 0, none⟩)]) /\ (sx, .func (.func 109) #[] #[.pointer (some ⟨sw, 0, none⟩), .pointer (some ⟨sk, 0, none⟩), .pointer (some ⟨sd, 0, none⟩), .pointer (some ⟨sa, 0, none⟩)]) ∈ c.boxes
theorem sub_less {B : Nat} {c : Ctx} {vars : Nat} {sw sk sd sa : Nat} (hI : IsLess c sw sk sd sa) (v : Int) : SubC B c vars .less sw sk sd sa v := by
 obtain ⟨dm, sx, hF, hbxs⟩ := hI
 have main : ∀ (d : Nat) (v : Int), 23 <= v + d -> SubC B c vars .less sw sk sd sa v := by
  intro d
  induction d with
  | zero => exact fun v hv => sub_step hF (fun _ _ => by kernel_rfl) (fun W O ns a b hC ha hb hv1 hv2 => by omega)
  | succ d ih =>
   intro v hv
   have hind : ∀ u, v < u -> SubC B c vars .less sw sk sd sa u := fun u hu => ih u (by omega)
   refine sub_step hF (fun _ _ => by kernel_rfl) (fun W O ns a b hC ha hb hv1 hv2 hroom => ?_)
   have hr := hC.good.ranked
   have hv0 := (minZ_bd hr a b).1
   obtain ⟨m1, m2⟩ := minZ_le ns a b
   have hsum : cntT vars ns + cost (rr vars (minZ ns a b)) .less + cost (rr vars (minZ ns a b)) .less + (if minZ ns a b + 2 < (vars : Int) then 1 else 0) <= cntT vars ns + cost (rk vars ns a b) .less := by
    rcases rk_cases vars ns a b with ⟨h1, h2⟩ | ⟨h1, h2, h3⟩
    ·rw [if_pos h1, h2]; simp only [cost]; omega
    ·rw [if_neg h1, h2, h3]; simp only [cost]; omega
   have da := dec_of hr hv0 hv2 ha m1
   have db := dec_of hr hv0 hv2 hb m2
   refine (at_less hv2 hC (hind (minZ ns a b) hv1) hbxs (up_lo hr hv2 ha m1) (up_hi hr hv2) (up_lo hr hv2 hb m2) (up_hi hr hv2) (by omega)).mono ?_
   rintro e w' ⟨p, q, ns', O', rfl, hC', hM', hx', hp', hq', mp, mq, hc'⟩
   refine ⟨p, q, ns', O', rfl, hC', hM', hx', hp'.1, hq'.1, hp'.2, hq'.2, fun x => ?_, by omega⟩
   rw [dec_less da db x]
   split
   ·exact mq _
   ·exact mp _
 exact main (23 - v).toNat v (by omega)
def IsJoin (c : Ctx) (sw sk sd sa : Nat) : Prop := ∃ dm ox sx ow ok od oa, IsBase c 77 .join sw sk sd sa dm (.func (.func 78) #[] #[.pointer (some ⟨ox, 0, none⟩), .pointer (some ⟨sx, 0, none⟩)]) /\ (ox, .func (.func 109) #[] #[.pointer (some ⟨ow, 0, none⟩), .pointer (some ⟨ok, 0, none⟩), .pointer (some ⟨od, 0, none⟩), .pointer (some ⟨oa, 0, none⟩)]) ∈ c.boxes /\ (sx, .func (.func 109) #[] #[.pointer (some ⟨sw, 0, none⟩), .pointer (some ⟨sk, 0, none⟩), .pointer (some ⟨sd, 0, none⟩), .pointer (some ⟨sa, 0, none⟩)]) ∈ c.boxes /\ IsOr c ow ok od oa
theorem sub_join {B : Nat} {c : Ctx} {vars : Nat} {sw sk sd sa : Nat} (hI : IsJoin c sw sk sd sa) (v : Int) : SubC B c vars .join sw sk sd sa v := by
 obtain ⟨dm, ox, sx, ow, ok, od, oa, hF, hbxo, hbxs, hNo⟩ := hI
 have hSo : ∀ v, SubC B c vars .or ow ok od oa v := fun v => sub_or hNo v
 have main : ∀ (d : Nat) (v : Int), 23 <= v + d -> SubC B c vars .join sw sk sd sa v := by
  intro d
  induction d with
  | zero => exact fun v hv => sub_step hF (fun _ _ => by kernel_rfl) (fun W O ns a b hC ha hb hv1 hv2 => by omega)
  | succ d ih =>
   intro v hv
   have hind : ∀ u, v < u -> SubC B c vars .join sw sk sd sa u := fun u hu => ih u (by omega)
   refine sub_step hF (fun _ _ => by kernel_rfl) (fun W O ns a b hC ha hb hv1 hv2 hroom => ?_)
   have hr := hC.good.ranked
   have hv0 := (minZ_bd hr a b).1
   obtain ⟨m1, m2⟩ := minZ_le ns a b
   have hsum : cntT vars ns + cost (rr vars (minZ ns a b)) .or + cost (rr vars (minZ ns a b)) .join + cost (rr vars (minZ ns a b)) .join + cost (rr vars (minZ ns a b)) .or + cost (rr vars (minZ ns a b)) .join + (if minZ ns a b + 2 < (vars : Int) then 1 else 0) <= cntT vars ns + cost (rk vars ns a b) .join := by
    rcases rk_cases vars ns a b with ⟨h1, h2⟩ | ⟨h1, h2, h3⟩
    ·rw [if_pos h1, h2]; simp only [cost]; omega
    ·rw [if_neg h1, h2, h3]; simp only [cost]; omega
   have da := dec_of hr hv0 hv2 ha m1
   have db := dec_of hr hv0 hv2 hb m2
   refine (at_join hv2 hC (hSo (minZ ns a b)) (hind (minZ ns a b) hv1) hbxo hbxs (up_lo hr hv2 ha m1) (up_hi hr hv2) (up_lo hr hv2 hb m2) (up_hi hr hv2) (by omega)).mono ?_
   rintro e w' ⟨p, q, ns', O', rfl, hC', hM', hx', hp', hq', mp, mq, hc'⟩
   refine ⟨p, q, ns', O', rfl, hC', hM', hx', hp'.1, hq'.1, hp'.2, hq'.2, fun x => ?_, by omega⟩
   rw [dec_join da db x]
   split
   ·exact mq _
   ·exact mp _
 exact main (23 - v).toNat v (by omega)
def IsWithout (c : Ctx) (sw sk sd sa : Nat) : Prop := ∃ dm sx ox ow ok od oa, IsBase c 79 .without sw sk sd sa dm (.func (.func 80) #[] #[.pointer (some ⟨sx, 0, none⟩), .pointer (some ⟨ox, 0, none⟩)]) /\ (sx, .func (.func 109) #[] #[.pointer (some ⟨sw, 0, none⟩), .pointer (some ⟨sk, 0, none⟩), .pointer (some ⟨sd, 0, none⟩), .pointer (some ⟨sa, 0, none⟩)]) ∈ c.boxes /\ (ox, .func (.func 109) #[] #[.pointer (some ⟨ow, 0, none⟩), .pointer (some ⟨ok, 0, none⟩), .pointer (some ⟨od, 0, none⟩), .pointer (some ⟨oa, 0, none⟩)]) ∈ c.boxes /\ IsOr c ow ok od oa
theorem sub_without {B : Nat} {c : Ctx} {vars : Nat} {sw sk sd sa : Nat} (hI : IsWithout c sw sk sd sa) (v : Int) : SubC B c vars .without sw sk sd sa v := by
 obtain ⟨dm, sx, ox, ow, ok, od, oa, hF, hbxs, hbxo, hNo⟩ := hI
 have hSo : ∀ v, SubC B c vars .or ow ok od oa v := fun v => sub_or hNo v
 have main : ∀ (d : Nat) (v : Int), 23 <= v + d -> SubC B c vars .without sw sk sd sa v := by
  intro d
  induction d with
  | zero => exact fun v hv => sub_step hF (fun _ _ => by kernel_rfl) (fun W O ns a b hC ha hb hv1 hv2 => by omega)
  | succ d ih =>
   intro v hv
   have hind : ∀ u, v < u -> SubC B c vars .without sw sk sd sa u := fun u hu => ih u (by omega)
   refine sub_step hF (fun _ _ => by kernel_rfl) (fun W O ns a b hC ha hb hv1 hv2 hroom => ?_)
   have hr := hC.good.ranked
   have hv0 := (minZ_bd hr a b).1
   obtain ⟨m1, m2⟩ := minZ_le ns a b
   have hsum : cntT vars ns + cost (rr vars (minZ ns a b)) .without + cost (rr vars (minZ ns a b)) .or + cost (rr vars (minZ ns a b)) .without + (if minZ ns a b + 2 < (vars : Int) then 1 else 0) <= cntT vars ns + cost (rk vars ns a b) .without := by
    rcases rk_cases vars ns a b with ⟨h1, h2⟩ | ⟨h1, h2, h3⟩
    ·rw [if_pos h1, h2]; simp only [cost]; omega
    ·rw [if_neg h1, h2, h3]; simp only [cost]; omega
   have da := dec_of hr hv0 hv2 ha m1
   have db := dec_of hr hv0 hv2 hb m2
   refine (at_without hv2 hC (hind (minZ ns a b) hv1) (hSo (minZ ns a b)) hbxs hbxo (up_lo hr hv2 ha m1) (up_hi hr hv2) (up_lo hr hv2 hb m2) (up_hi hr hv2) (by omega)).mono ?_
   rintro e w' ⟨p, q, ns', O', rfl, hC', hM', hx', hp', hq', mp, mq, hc'⟩
   refine ⟨p, q, ns', O', rfl, hC', hM', hx', hp'.1, hq'.1, hp'.2, hq'.2, fun x => ?_, by omega⟩
   rw [dec_without da db x]
   split
   ·exact mq _
   ·exact mp _
 exact main (23 - v).toNat v (by omega)
def IsLeast (c : Ctx) (sw sk sd sa : Nat) : Prop := ∃ dm sx tx tw tk td ta, IsBase c 81 .least sw sk sd sa dm (.func (.func 82) #[] #[.pointer (some ⟨sx, 0, none⟩), .pointer (some ⟨tx, 0, none⟩)]) /\ (sx, .func (.func 109) #[] #[.pointer (some ⟨sw, 0, none⟩), .pointer (some ⟨sk, 0, none⟩), .pointer (some ⟨sd, 0, none⟩), .pointer (some ⟨sa, 0, none⟩)]) ∈ c.boxes /\ (tx, .func (.func 109) #[] #[.pointer (some ⟨tw, 0, none⟩), .pointer (some ⟨tk, 0, none⟩), .pointer (some ⟨td, 0, none⟩), .pointer (some ⟨ta, 0, none⟩)]) ∈ c.boxes /\ IsWithout c tw tk td ta
theorem sub_least {B : Nat} {c : Ctx} {vars : Nat} {sw sk sd sa : Nat} (hI : IsLeast c sw sk sd sa) (v : Int) : SubC B c vars .least sw sk sd sa v := by
 obtain ⟨dm, sx, tx, tw, tk, td, ta, hF, hbxs, hbxt, hNt⟩ := hI
 have hSt : ∀ v, SubC B c vars .without tw tk td ta v := fun v => sub_without hNt v
 have main : ∀ (d : Nat) (v : Int), 23 <= v + d -> SubC B c vars .least sw sk sd sa v := by
  intro d
  induction d with
  | zero => exact fun v hv => sub_step hF (fun _ _ => by kernel_rfl) (fun W O ns a b hC ha hb hv1 hv2 => by omega)
  | succ d ih =>
   intro v hv
   have hind : ∀ u, v < u -> SubC B c vars .least sw sk sd sa u := fun u hu => ih u (by omega)
   refine sub_step hF (fun _ _ => by kernel_rfl) (fun W O ns a b hC ha hb hv1 hv2 hroom => ?_)
   have hr := hC.good.ranked
   have hv0 := (minZ_bd hr a b).1
   obtain ⟨m1, m2⟩ := minZ_le ns a b
   have hsum : cntT vars ns + cost (rr vars (minZ ns a b)) .least + cost (rr vars (minZ ns a b)) .least + cost (rr vars (minZ ns a b)) .without + (if minZ ns a b + 2 < (vars : Int) then 1 else 0) <= cntT vars ns + cost (rk vars ns a b) .least := by
    rcases rk_cases vars ns a b with ⟨h1, h2⟩ | ⟨h1, h2, h3⟩
    ·rw [if_pos h1, h2]; simp only [cost]; omega
    ·rw [if_neg h1, h2, h3]; simp only [cost]; omega
   have da := dec_of hr hv0 hv2 ha m1
   refine (at_least hv2 hC (hind (minZ ns a b) hv1) (hSt (minZ ns a b)) hbxs hbxt (up_lo hr hv2 ha m1) (up_hi hr hv2) (up_lo hr hv2 hb m2) (up_hi hr hv2) (by omega)).mono ?_
   rintro e w' ⟨p, q, ns', O', rfl, hC', hM', hx', hp', hq', mp, mq, hc'⟩
   refine ⟨p, q, ns', O', rfl, hC', hM', hx', hp'.1, hq'.1, hp'.2, hq'.2, fun x => ?_, by omega⟩
   rw [dec_least da x (In ns b) (In ns 0)]
   split
   ·exact mq _
   ·exact mp _
 exact main (23 - v).toNat v (by omega)
def IsHits (c : Ctx) (sw sk sd sa : Nat) : Prop := ∃ dm sx ox tx ow ok od oa tw tk td ta, IsBase c 83 .hits sw sk sd sa dm (.func (.func 84) #[] #[.pointer (some ⟨sx, 0, none⟩), .pointer (some ⟨ox, 0, none⟩), .pointer (some ⟨tx, 0, none⟩)]) /\ (sx, .func (.func 109) #[] #[.pointer (some ⟨sw, 0, none⟩), .pointer (some ⟨sk, 0, none⟩), .pointer (some ⟨sd, 0, none⟩), .pointer (some ⟨sa, 0, none⟩)]) ∈ c.boxes /\ (ox, .func (.func 109) #[] #[.pointer (some ⟨ow, 0, none⟩), .pointer (some ⟨ok, 0, none⟩), .pointer (some ⟨od, 0, none⟩), .pointer (some ⟨oa, 0, none⟩)]) ∈ c.boxes /\ (tx, .func (.func 109) #[] #[.pointer (some ⟨tw, 0, none⟩), .pointer (some ⟨tk, 0, none⟩), .pointer (some ⟨td, 0, none⟩), .pointer (some ⟨ta, 0, none⟩)]) ∈ c.boxes /\ IsOr c ow ok od oa /\ IsWithout c tw tk td ta
end Go.Proofs.YtbklgjmkdhinpaaGreatDoor.Fm
