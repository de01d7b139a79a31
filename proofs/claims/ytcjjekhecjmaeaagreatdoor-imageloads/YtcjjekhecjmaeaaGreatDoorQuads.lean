/- A list of structs of four ints, as an argument. -/
import Derived.Test.YtcjjekhecjmaeaaGreatDoorImLayP
import Derived.Test.YtcjjekhecjmaeaaGreatDoorImCut
import Derived.Test.YtcjjekhecjmaeaaGreatDoorImSave
import Derived.Test.YtcjjekhecjmaeaaGreatDoorImBlk
import Derived.Test.YtcjjekhecjmaeaaGreatDoorBdFree
import Derived.Deep.Slices
import Derived.Lib.SmallJoins
set_option maxHeartbeats 2000000
set_option maxRecDepth 100000
namespace Go.Proofs.YtcjjekhecjmaeaaGreatDoor
section
open Go.RowKit Go.Maps
theorem cutF_le {l : List UInt8} {v t : Nat} {N : List (List UInt8)} (h : cutF l = some (v, t, N)) : v <= 24 /\ t <= 9223372036854775807 /\ N.length <= l.length /\ (∀ p ∈ N, p.length <= l.length) /\ 2 <= l.length /\ (N.map (fun p => p.length + 1)).sum <= l.length := by
  unfold cutF at h
  split at h
  · rename_i h1
    split at h
    · rename_i h2
      split at h
      · rename_i v' n t' h3
        split at h
        · rename_i h4
          obtain ⟨rfl, rfl, rfl⟩ : v' = v /\ t' = t /\ ((splitL 10 (l.take (l.length - 1))).drop 1).dropLast = N := by simpa using h
          have hs := splitL_sum 10 (l.take (l.length - 1))
          have hm : ∀ p ∈ ((splitL 10 (l.take (l.length - 1))).drop 1).dropLast, p ∈ splitL 10 (l.take (l.length - 1)) := fun p hp => List.mem_of_mem_drop (List.dropLast_subset _ hp)
          have h5 := (threeF_le h3).2.2.2
          have hlt : (l.take (l.length - 1)).length = l.length - 1 := by rw [List.length_take]; omega
          rw [hlt] at hs
          have hle : ∀ (L : List (List UInt8)), L.length <= (L.map (fun p => p.length + 1)).sum := by
            intro L
            induction L with
            | nil => simp
            | cons x L ih => rw [List.map_cons, List.sum_cons, List.length_cons]; omega
          have hdl : ∀ (L : List (List UInt8)), (L.dropLast.map (fun p => p.length + 1)).sum <= (L.map (fun p => p.length + 1)).sum := by
            intro L
            induction L with
            | nil => simp
            | cons x L ih =>
              cases L with
              | nil => simp
              | cons y L => rw [List.dropLast_cons_cons, List.map_cons, List.sum_cons, List.map_cons, List.sum_cons]; omega
          have hd1 : ∀ (L : List (List UInt8)), ((L.drop 1).map (fun p => p.length + 1)).sum <= (L.map (fun p => p.length + 1)).sum := by
            intro L
            cases L with
            | nil => simp
            | cons x L => rw [List.drop_one, List.tail_cons, List.map_cons, List.sum_cons]; omega
          have e1 := hdl ((splitL 10 (l.take (l.length - 1))).drop 1)
          have e2 := hd1 (splitL 10 (l.take (l.length - 1)))
          have e3 := hle ((splitL 10 (l.take (l.length - 1))).drop 1).dropLast
          refine ⟨h4.1, (threeF_le h3).2.2.1, by omega, fun p hp => ?_, ?_, by omega⟩
          · have := split_le (hm p hp)
            omega
          · have h6 : ∀ (L : List (List UInt8)), 11 <= (L.headD []).length -> 12 <= (L.map (fun p => p.length + 1)).sum := by
              intro L
              cases L with
              | nil => simp
              | cons x L => intro h; rw [List.map_cons, List.sum_cons]; simp at h; omega
            have h7 := h6 (splitL 10 (l.take (l.length - 1))) (by rw [List.length_drop] at h5; omega)
            omega
        · cases h
      · cases h
    · cases h
  · cases h
open Classical in
noncomputable def loadF (l : List UInt8) (room : Int) : Except Int (Nat × List Nd × Int) :=
  match cutF l with
  | none => .error 3
  | some (v, t, N) => if 0 <= room /\ room <= 4000 then (match laidF v room N [] [0, 1] with
    | .error x => .error x
    | .ok (ns, H) => if t < H.length /\ imgF v ns (postF ns 25 (H.getD t 0) []) (H.getD t 0) = l then .ok (v, ns, H.getD t 0) else .error 3)
   else .error 2
theorem load_none {l : List UInt8} {room : Int} (h : cutF l = none) : loadF l room = .error 3 := by unfold loadF; rw [h]
section
variable {l : List UInt8} {room : Int} {v t : Nat} {N : List (List UInt8)} (h : cutF l = some (v, t, N))
include h
theorem load_room (hr : ¬ (0 <= room /\ room <= 4000)) : loadF l room = .error 2 := by unfold loadF; rw [h]; exact if_neg hr
theorem load_laid (hr : 0 <= room /\ room <= 4000) : loadF l room = match laidF v room N [] [0, 1] with
    | .error x => .error x
    | .ok (ns, H) => if t < H.length /\ imgF v ns (postF ns 25 (H.getD t 0) []) (H.getD t 0) = l then .ok (v, ns, H.getD t 0) else .error 3 := by
  conv => lhs; unfold loadF
  rw [h]; exact if_pos hr
theorem load_err (hr : 0 <= room /\ room <= 4000) {x : Int} (hx : laidF v room N [] [0, 1] = .error x) : loadF l room = .error x := by
  rw [load_laid h hr, hx]
theorem load_form (hr : 0 <= room /\ room <= 4000) {ns : List Nd} {H : List Int} (hx : laidF v room N [] [0, 1] = .ok (ns, H)) (hn : ¬ (t < H.length /\ imgF v ns (postF ns 25 (H.getD t 0) []) (H.getD t 0) = l)) : loadF l room = .error 3 := by
  rw [load_laid h hr, hx]; exact if_neg hn
theorem load_ok (hr : 0 <= room /\ room <= 4000) {ns : List Nd} {H : List Int} (hx : laidF v room N [] [0, 1] = .ok (ns, H)) (hn : t < H.length /\ imgF v ns (postF ns 25 (H.getD t 0) []) (H.getD t 0) = l) : loadF l room = .ok (v, ns, H.getD t 0) := by
  rw [load_laid h hr, hx]; exact if_pos hn
end
theorem load_which {l : List UInt8} {room x : Int} (h : loadF l room = .error x) : x = 3 \/ (x = 12 /\ 0 <= room /\ room <= 4000 /\ room * 6 <= l.length) \/ (x = 2 /\ ¬ (0 <= room /\ room <= 4000)) := by
  unfold loadF at h
  split at h
  · cases h; exact .inl rfl
  · rename_i v t N hc
    obtain ⟨h1, h2, h3, h4, h5, h6⟩ := cutF_le hc
    split at h
    · rename_i hr
      split at h
      · rename_i y hy
        cases h
        rcases laidF_err h1 hr.2 N (LayInv.start v hr.1) hy with e | ⟨e, e2⟩
        · exact .inl e
        · refine .inr (.inl ⟨e, hr.1, hr.2, ?_⟩)
          simp at e2; omega
      · split at h
        · cases h
        · cases h; exact .inl rfl
    · rename_i hr
      cases h; exact .inr (.inr ⟨rfl, hr⟩)
theorem load_fine {l : List UInt8} {room : Int} {v : Nat} {ns : List Nd} {h : Int} (hl : loadF l room = .ok (v, ns, h)) : v <= 24 /\ 0 <= room /\ room <= 4000 /\ FullN ns /\ hasB ns h = true /\ (ns.length : Int) <= room /\ imgF v ns (postF ns 25 h []) h = l := by
  unfold loadF at hl
  split at hl
  · cases hl
  · rename_i v' t N hc
    obtain ⟨h1, h2, h3, h4, h5, h6⟩ := cutF_le hc
    split at hl
    · rename_i hr
      split at hl
      · cases hl
      · rename_i ns' H hH
        split at hl
        · rename_i hn
          obtain ⟨rfl, rfl, rfl⟩ : v' = v /\ ns' = ns /\ H.getD t 0 = h := by simpa using hl
          obtain ⟨i1, i2, i3⟩ := laidF_ok h1 hr.2 N (LayInv.start v' hr.1) hH
          exact ⟨h1, hr.1, hr.2, i1.full, i1.has _ (getD_mem hn.1), i1.room, hn.2⟩
        · cases hl
    · cases hl
end
section
open Go.RowKit Go.Maps
section
variable {A : Nat} {w : World} {s b : Nat} {O : Nat -> Prop} {vars : Nat} {room : Int} {ns : List Nd}
theorem leads_any (hS : SpaceAt A w s b O vars room ns) (hl : ns.length <= 90000) (H : List Int) (hH : ∀ x ∈ H, hasB ns x = true) (g c pb sb : Nat) (v n : Nat)
    (c6 : w.cell? ⟨pb, 0, none⟩ = some (.slice (some ⟨g, 0, none⟩) H.length c)) (c2 : w.cell? ⟨sb, 0, none⟩ = some (.pointer (some ⟨s, 0, none⟩)))
    (hc : ∀ j (h : j < H.length), w.cell? ⟨g, j, none⟩ = some (.int .i64 H[j])) :
    Calls Tryz.prog 89 #[.int .i64 (v : Int), .int .i64 (n : Int), .pointer (some ⟨pb, 0, none⟩), .pointer (some ⟨sb, 0, none⟩)] w fun e w' => e = .returned (.bool (decide (n < H.length /\ (v : Int) < topOf ns (H.getD n 0)))) /\ ∃ m, w' = w.drewN m := by
  by_cases h : n < H.length
  · have e0 : H.getD n 0 = H[n] := by simp [List.getD_eq_getElem?_getD, h]
    have cH := hc n h
    have hi : I64 H[n] := has_i64 (hH _ (List.getElem_mem h)) (by omega)
    have TL : Hid (∀ m, Calls Tryz.prog 37 #[.pointer (some ⟨b, 0, none⟩), .int .i64 H[n]] (w.drewN m) fun e w' => e = .returned (.int .i64 (topOf ns H[n])) /\ ∃ m', w' = w.drewN m') := fun m => (spTop (hS.kept (kept_drewN (fun _ => False) w m) (fun _ _ h => h) (fun h => h)) H[n] hi (by omega)).mono fun e w' ⟨h1, h2⟩ => ⟨h1, m, h2.symm⟩
    have c0 := hS.c0
    have e1 : decide (n < H.length /\ (v : Int) < topOf ns (H.getD n 0)) = decide ((v : Int) < topOf ns H[n]) := by rw [e0]; simp [h]
    rw [e1]
    have i1 : (n : Int) < (H.length : Int) := by omega
    clear hS hH hc hi e0 e1
    generalize topOf ns H[n] = t at *
    generalize H[n] = x at *
    generalize H.length = N at *
    go_enter Tryz.func89, Tryz.ntmps89
    go_wp2_with fail
    go_quiet (first | (go_at_call 37; with_reducible exact TL.out _))
    go_wp2
    go_ret
    exact ⟨rfl, _, rfl⟩
  · have e1 : decide (n < H.length /\ (v : Int) < topOf ns (H.getD n 0)) = false := decide_eq_false (fun e => h e.1)
    rw [e1]
    have i1 : decide ((n : Int) < (H.length : Int)) = false := decide_eq_false (by omega)
    clear hS hH hc e1 c2
    generalize H.length = N at *
    go_enter Tryz.func89, Tryz.ntmps89
    go_wp2_with fail
    go_quiet (fail)
    go_wp2
    go_ret
    exact ⟨rfl, _, rfl⟩
end
end
section
open Go.ChangeShapes Go.WideShapes Go.ChangeAt Go.RowKit Go.Deep
def Quad.Ok (q : Quad) : Prop := I64 q.a /\ I64 q.b /\ I64 q.c /\ I64 q.d
structure QuadAt (w : World) (ad : Addr) (i : Nat) (q : Quad) : Prop where
  lt : ad.block < w.heap.size
  c0 : w.cell? (ad.add (i * 4)) = some (.int .i64 q.a)
  c1 : w.cell? ⟨(ad.add (i * 4)).block, (ad.add (i * 4)).off + 1, none⟩ = some (.int .i64 q.b)
  c2 : w.cell? ⟨(ad.add (i * 4)).block, (ad.add (i * 4)).off + 2, none⟩ = some (.int .i64 q.c)
  c3 : w.cell? ⟨(ad.add (i * 4)).block, (ad.add (i * 4)).off + 3, none⟩ = some (.int .i64 q.d)
  ok : q.Ok
theorem addr_block (a : Addr) (i : Nat) : (a.add i).block = a.block := by unfold Addr.add; split <;> rfl
theorem QuadAt.kept {S : Nat -> Prop} {w w' : World} {ad : Addr} {i : Nat} {q : Quad} (h : QuadAt w ad i q) (hk : Kept S w w') (hn : ¬ S ad.block) : QuadAt w' ad i q :=
  ⟨Nat.lt_of_lt_of_le h.lt hk.size, (hk.cell (by rw [addr_block]; exact h.lt) (by rw [addr_block]; exact hn)).trans h.c0, (hk.cell (by show (ad.add (i * 4)).block < _; rw [addr_block]; exact h.lt) (by show ¬ S (ad.add (i * 4)).block; rw [addr_block]; exact hn)).trans h.c1, (hk.cell (by show (ad.add (i * 4)).block < _; rw [addr_block]; exact h.lt) (by show ¬ S (ad.add (i * 4)).block; rw [addr_block]; exact hn)).trans h.c2, (hk.cell (by show (ad.add (i * 4)).block < _; rw [addr_block]; exact h.lt) (by show ¬ S (ad.add (i * 4)).block; rw [addr_block]; exact hn)).trans h.c3, h.ok⟩
theorem QuadAt.below {B : Nat} {w w' : World} {ad : Addr} {i : Nat} {q : Quad} (h : QuadAt w ad i q) (hb : Below B w w') (hB : ad.block < B) : QuadAt w' ad i q :=
  ⟨Nat.lt_of_lt_of_le h.lt hb.size, (hb.cell (by rw [addr_block]; exact hB)).trans h.c0, (hb.cell (by show (ad.add (i * 4)).block < _; rw [addr_block]; exact hB)).trans h.c1, (hb.cell (by show (ad.add (i * 4)).block < _; rw [addr_block]; exact hB)).trans h.c2, (hb.cell (by show (ad.add (i * 4)).block < _; rw [addr_block]; exact hB)).trans h.c3, h.ok⟩
end
end Go.Proofs.YtcjjekhecjmaeaaGreatDoor
