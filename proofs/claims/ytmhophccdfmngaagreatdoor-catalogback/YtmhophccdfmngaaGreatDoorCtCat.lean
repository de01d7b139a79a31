/- A catalog in memory; Number; what New gives. -/
import Derived.Test.YtmhophccdfmngaaGreatDoorCtOrd
import Derived.Test.YtmhophccdfmngaaGreatDoorCtGath
import Derived.Test.YtmhophccdfmngaaGreatDoorSvCmpG
import Derived.Test.YtmhophccdfmngaaGreatDoorCtRowsW
set_option maxHeartbeats 1000000
set_option maxRecDepth 100000
namespace Go.Proofs.YtmhophccdfmngaaGreatDoor
open Go.RowKit Go.Shelf Go.Lib Go.Sort Sv
theorem cmpc_any (x y : It) (W : World) :
  Calls Tryz.prog 125 #[.agg #[.string x.name, .int .i64 x.a, .int .i64 x.b, .int .i64 x.c], .agg #[.string y.name, .int .i64 y.a, .int .i64 y.b, .int .i64 y.c]] W fun e w' => e = .returned (.int .i64 (ctCmp x y)) /\ Gr W w' := by
 have hg : Gr W ((W.alloc (.cells #[.string x.name, .int .i64 x.a, .int .i64 x.b, .int .i64 x.c] 71)).alloc (.cells #[.string y.name, .int .i64 y.a, .int .i64 y.b, .int .i64 y.c] 71)) := ((Gr.refl W).alloc _).alloc _
 have HG := Lib.hid hg
 clear hg
 have HV : Hid (∀ W', Calls Tryz.prog 47 #[.agg #[.int .i64 y.a, .int .i64 y.b, .int .i64 y.c], .agg #[.int .i64 x.a, .int .i64 x.b, .int .i64 x.c]] W' fun r w' => r = .returned (.int .i64 (cmp3 (tI y.a y.b y.c) (tI x.a x.b x.c) 3)) /\ Gr W' w') := fun W' => cmpw_gr y.a y.b y.c x.a x.b x.c W'
 have HN : Hid (∀ W', Calls Tryz.prog 126 #[.string x.name, .string y.name] W' fun r w' => r = .returned (.int .i64 (compareBytes x.name.data.toList y.name.data.toList)) /\ w' = W') := fun W' => Tryz.strings_Compare x.name y.name W'
 by_cases h : x.name.toList = y.name.toList
 ·have HC : Hid (ctCmp x y = cmp3 (tI y.a y.b y.c) (tI x.a x.b x.c) 3) := by show _ = _; unfold ctCmp; rw [if_pos h]
  have hb : (x.name.toList == y.name.toList) = true := by rw [h]; exact beq_self_eq_true _
  clear h HN
  generalize cmp3 (tI y.a y.b y.c) (tI x.a x.b x.c) 3 = Z at *
  go_enter Tryz.func125, Tryz.ntmps125
  go_wp2_with fail
  refine (HV.out _).mono ?_
  rintro e w1 ⟨rfl, hg1⟩
  have HG1 : Hid (Gr W w1) := HG.out.trans hg1
  clear hg1 HG HV
  go_wp2
  go_ret
  exact ⟨by rw [HC.out]; rfl, HG1.out⟩
 ·have HC : Hid (ctCmp x y = compareBytes x.name.data.toList y.name.data.toList) := by show _ = _; unfold ctCmp; rw [if_neg h]
  have hb : (x.name.toList == y.name.toList) = false := by rw [beq_eq_false_iff_ne]; exact h
  clear h HV
  generalize compareBytes x.name.data.toList y.name.data.toList = Z at *
  go_enter Tryz.func125, Tryz.ntmps125
  go_wp2_with fail
  refine (HN.out _).mono ?_
  rintro e w1 ⟨rfl, rfl⟩
  clear HN
  go_wp2
  go_ret
  exact ⟨by rw [HC.out]; rfl, HG.out⟩
theorem cmpLays (blk off size : Nat) (w : World) : CmpLays Tryz.prog 125 #[] encIt 4 ctCmp blk off size w :=
 fun _ _ _ _ x y => cmpc_any x y _
theorem flat_its (l : List It) : flatK encIt 4 l.toArray = (itCells l).toArray := by
 apply Array.ext_getElem?
 intro t
 by_cases ht : t < l.length * 4
 ·have h1 : t < (flatK encIt 4 l.toArray).size := by rw [size_flatK]; simpa using ht
  have hj : t / 4 < l.length := by omega
  have h2 : (itCells l)[t]? = some ((encIt (l.getD (t / 4) default))[t % 4]!) := by
   have hlt : t % 4 < (encIt (l.getD (t / 4) default)).length := by simp [encIt]; omega
   have := itCells_at l (t / 4) hj (t % 4) _ (List.getElem?_eq_getElem hlt)
   rw [show t / 4 * 4 + t % 4 = t by omega] at this
   rw [this, getElem!_pos (encIt (l.getD (t / 4) default)) (t % 4) hlt]
  have e1 : (flatK encIt 4 l.toArray)[t]? = some ((flatK encIt 4 l.toArray)[t]!) := by rw [Array.getElem?_eq_getElem h1, getElem!_pos (flatK encIt 4 l.toArray) t h1]
  have e2 : (itCells l).toArray[t]? = (itCells l)[t]? := by simp
  have e3 : l.toArray[t / 4]! = l.getD (t / 4) default := by
   rw [getElem!_pos l.toArray (t / 4) (by simpa using hj), List.getD_eq_getElem?_getD, List.getElem?_eq_getElem hj]; rfl
  rw [e1, get_flatK encIt 4 _ t (by simpa using ht), e2, h2, e3]
 ·rw [Array.getElem?_eq_none (by rw [size_flatK]; simpa using ht), Array.getElem?_eq_none (by simp [itCells_length]; omega)]
theorem sort_any (l : List It) (v : Value) (B : Nat) (w : World) (h : w.ownsRow B 71 4 v l.length (itCells l)) (hl : l.length <= 100000) :
  Calls Tryz.prog 84 #[v] w fun e w' => e = .returned (.tuple #[]) /\ w'.ownsRow B 71 4 v l.length (itCells (sortF l)) /\ Below B w w' := by
 have H : Hid (Calls Tryz.prog 124 #[v, .func (.func 125) #[] #[]] w fun e w' => e = .returned (.tuple #[]) /\ w'.ownsRow B 71 4 v l.length (itCells (sortF l)) /\ Below B w w') := by
  rcases h.2 with ⟨rfl, e0⟩ | ⟨g, cap, cur, rfl, hB, hg, hn, hm, hsz, htake⟩
  ·obtain rfl : l = [] := List.eq_nil_of_length_eq_zero e0
   refine (AnyF.slices_SortFunc_none Tryz.sortItem none 0 _ w).mono fun e w' ⟨he, hw⟩ => ⟨he, ?_, by rw [hw]; exact Below.refl _ _⟩
   rw [hw, show sortF [] = [] by unfold sortF; simp]; exact h
  ·have eg : ∀ args w, (callFunc 125 args).run Tryz.prog w = .ok (.enter 125 args) w := enters_of Tryz.func125 (by kernel_rfl) rfl
   have hlt : g < w.heap.size := (Array.getElem?_eq_some_iff.1 hg).1
   have hH : HoldsK encIt 4 w g 0 l.toArray := by
    intro j hj
    rw [size_flatK] at hj
    have hj' : j < l.length * 4 := by simpa using hj
    rw [flat_its]
    have hjl : j < (itCells l).length := by rw [itCells_length]; exact hj'
    rw [getElem!_pos _ j (by simpa using hjl)]
    constructor
    ·rw [Nat.zero_add]
     have hc : cur[j]? = (itCells l)[j]? := by
      rw [<- htake, List.getElem?_take, if_pos hj', Array.getElem?_toList]
     show w.cell? _ = some (itCells l)[j]
     simp [World.cell?, hg, hc, List.getElem?_eq_getElem hjl]
    ·simp [World.frozen?, hg]
   refine (AnyQ.slices_SortFunc_total Tryz.sortItem 4 Tryz.isAgg71 Tryz.sizeOf71 encIt (fun _ => rfl) (fun x u hu => one_it [x] u (by simpa [itCells] using hu)) ctCmp ctSwo 125 #[] g 0 cap l.toArray w eg (cmpLays g 0 _ w) hH hlt (by simp; omega) ctTotal).mono fun e w' ⟨he, n, os, hw⟩ => ⟨he, ?_⟩
   have hw2 : w' = grow (putRow id (Sort.ahead w n) g 0 ((itCells (sortF l)).toArray)) os := by
    rw [hw, <- flat_its]; rfl
   have hblk : w'.heap[g]? = some (.cells (putCells id 0 (itCells (sortF l)).toArray cur) 71 (0, 0)) := by
    rw [hw2]
    show ((putRow id (Sort.ahead w n) g 0 ((itCells (sortF l)).toArray)).heap ++ os)[g]? = _
    rw [Array.getElem?_append_left (by simp [putRow, mapBlock, Sort.ahead]; exact hlt)]
    simp [putRow, mapBlock, Sort.ahead, Array.getElem?_modify, hg, onCells]
   refine ⟨⟨by rw [itCells_length, sortF_len], Or.inr ⟨g, cap, _, rfl, hB, hblk, hn, hm, by simp [putCells, hsz], ?_⟩⟩, ?_⟩
   ·apply List.ext_getElem?
    intro t
    rw [List.getElem?_take]
    have hlen : (itCells (sortF l)).length = l.length * 4 := by rw [itCells_length, sortF_len]
    by_cases ht : t < l.length * 4
    ·have htc : t < cur.size := by rw [hsz]; omega
     rw [if_pos ht, Array.getElem?_toList]
     simp only [putCells, Array.getElem?_mapIdx, Array.getElem?_eq_getElem htc, Option.map_some]
     rw [if_pos ⟨Nat.zero_le _, by simp [hlen]; exact ht⟩, Nat.sub_zero, getElem!_pos _ t (by simp [hlen]; exact ht), List.getElem?_eq_getElem (by rw [hlen]; exact ht)]
     rfl
    ·rw [if_neg ht, List.getElem?_eq_none (by rw [hlen]; omega)]
   ·rw [hw2]
    refine ⟨rfl, rfl, rfl, by simp [grow, putRow, mapBlock, Sort.ahead], fun k hk => ?_⟩
    show ((putRow id (Sort.ahead w n) g 0 ((itCells (sortF l)).toArray)).heap ++ os)[k]? = _
    have hkw : (putRow id (Sort.ahead w n) g 0 ((itCells (sortF l)).toArray)).heap[k]? = w.heap[k]? := by
     simp only [putRow, mapBlock, Sort.ahead, Array.getElem?_modify]
     rw [if_neg (by omega)]
    rcases Nat.lt_or_ge k w.heap.size with hkl | hkl
    ·rw [Array.getElem?_append_left (by simp [putRow, mapBlock, Sort.ahead]; exact hkl), hkw]
    ·exfalso; omega
 obtain ⟨a, cap, rfl, -⟩ := (rowAt_own h).form
 clear h
 go_enter Tryz.func84, Tryz.ntmps84
 go_wp2_with fail
 refine H.out.mono ?_
 rintro e w1 ⟨rfl, h1, h2⟩
 have H1 := Lib.hid h1
 have H2 := Lib.hid h2
 clear h1 h2 H
 go_wp2
 go_end0
 exact ⟨rfl, H1.out, H2.out⟩
end Go.Proofs.YtmhophccdfmngaaGreatDoor
namespace Go.Proofs.YtmhophccdfmngaaGreatDoor
open Go.RowKit Go.Deep Sv
def CatAt (w : World) (b : Nat) (ls : List Ln) (its : List It) : Prop :=
 ∃ lv iv bm, Blk w b 152 #[lv, iv, .map (some bm)] /\ LnsAt w lv ls /\ ItsAt w iv its /\ RowsAt w bm (ctRowO its) its.length
theorem CatAt.below {B : Nat} {w w' : World} {b : Nat} {ls : List Ln} {its : List It} (h : CatAt w b ls its) (hb : Below B w w') (hB : w.heap.size <= B) : CatAt w' b ls its := by
 obtain ⟨lv, iv, bm, h1, h2, h3, h4⟩ := h
 exact ⟨lv, iv, bm, h1.below hb (Nat.lt_of_lt_of_le h1.lt hB), h2.below hb hB, h3.below hb hB, h4.below hb hB⟩
theorem CatAt.lt {w : World} {b : Nat} {ls : List Ln} {its : List It} (h : CatAt w b ls its) : b < w.heap.size := by
 obtain ⟨lv, iv, bm, h1, _⟩ := h
 exact h1.lt
def CatV (w : World) (b : Nat) (ls : List Ln) (vs : List Value) (its : List It) (B : Nat) : Prop :=
 ∃ lv iv bm, Blk w b 152 #[lv, iv, .map (some bm)] /\ RgsAt w ls vs /\ RowAt w lv ls.length (lnCells ls vs) /\ ItsAt w iv its /\ RowsAt w bm (ctRowO its) its.length /\ B <= b /\ B <= bm /\ (∀ g, lv.ownBlock = some g -> B <= g) /\ (∀ g, iv.ownBlock = some g -> B <= g)
theorem CatV.cat {w : World} {b : Nat} {ls : List Ln} {vs : List Value} {its : List It} {B : Nat} (h : CatV w b ls vs its B) : CatAt w b ls its := by
 obtain ⟨lv, iv, bm, h1, h2, h3, h4, h5, -⟩ := h
 exact ⟨lv, iv, bm, h1, ⟨vs, h2, h3⟩, h4, h5⟩
theorem CatV.below {B' : Nat} {w w' : World} {b : Nat} {ls : List Ln} {vs : List Value} {its : List It} {B : Nat} (h : CatV w b ls vs its B) (hb : Below B' w w') (hB : w.heap.size <= B') : CatV w' b ls vs its B := by
 obtain ⟨lv, iv, bm, h1, h2, h3, h4, h5, h6⟩ := h
 exact ⟨lv, iv, bm, h1.below hb (Nat.lt_of_lt_of_le h1.lt hB), h2.below hb hB, h3.below hb hB, h4.below hb hB, h5.below hb hB, h6⟩
theorem RowAt.set {w : World} {v x : Value} {n b i : Nat} {cs : List Value} (h : RowAt w v n cs) (hn : ∀ g, v.ownBlock = some g -> g ≠ b) : RowAt (w.setCell ⟨b, i, none⟩ x) v n cs :=
 ⟨h.form, fun h0 => by
  obtain ⟨g, cap, e, hg, hc⟩ := h.cells h0
  have hne := hn g (by rw [e]; rfl)
  exact ⟨g, cap, e, by simp [World.setCell]; exact hg, fun j u hu => by unfold World.cell?; rw [Below.heap_setCell _ _ _ g hne]; exact hc j u hu⟩⟩
theorem RowAt.put {w : World} {v : Value} {n l : Nat} {cs : List Value} {o o' : Obj} (h : RowAt w v n cs) (hl : w.heap[l]? = some o) (hc : o.isCells = false) (hcs : cs.length = 0 -> n = 0) : RowAt (w.putObj l o') v n cs :=
 ⟨h.form, fun h0 => by
  obtain ⟨g, cap, e, hg, hcl⟩ := h.cells h0
  have hne : g ≠ l := by
   rintro rfl
   have hcp : 0 < cs.length := by
    rcases Nat.eq_zero_or_pos cs.length with h | h
    ·have := hcs h; omega
    ·exact h
   have := hcl 0 _ (List.getElem?_eq_getElem hcp)
   unfold World.cell? at this
   rw [hl] at this
   cases o <;> simp [Obj.isCells] at hc this
  exact ⟨g, cap, e, by simp [World.putObj]; exact hg, fun j u hu => by unfold World.cell?; rw [World.putObj_heap_other hne]; exact hcl j u hu⟩⟩
theorem number_c (bk : Nat) (ls : List Ln) (its : List It) (name : ByteArray) (a b c : Int) (w : World) (h : CatAt w bk ls its) (hl : its.length <= 100000) :
  Calls Tryz.prog 37 #[.pointer (some ⟨bk, 0, none⟩), .string name, .agg #[.int .i64 a, .int .i64 b, .int .i64 c]] w fun e w' => e = .returned (.int .i64 (ctNumb its ⟨name, a, b, c⟩)) /\ Below w.heap.size w w' := by
 obtain ⟨lv, iv, bm, h1, h2, h3, h4⟩ := h
 obtain ⟨la, lc, rfl, -⟩ : ∃ la lc, lv = .slice la ls.length lc /\ True := by obtain ⟨vs, _, h2⟩ := h2; obtain ⟨x, y, e, _⟩ := h2.form; exact ⟨x, y, e, trivial⟩
 obtain ⟨va, vc, rfl, -⟩ := h3.form
 have HI : Hid (∀ W, Below w.heap.size w W -> Calls Tryz.prog 93 #[.slice va its.length vc, .agg #[.string name, .int .i64 a, .int .i64 b, .int .i64 c]] W fun e w' => e = .returned (.int .i64 (ctNumb its ⟨name, a, b, c⟩)) /\ Below W.heap.size W w') := fun W hW => ix_item its ⟨name, a, b, c⟩ _ W (h3.below hW (Nat.le_refl _)) hl
 have kv := Blk.new w 42 #[.int .i64 a, .int .i64 b, .int .i64 c]
 have hb0 : Below w.heap.size w (w.alloc (.cells #[.int .i64 a, .int .i64 b, .int .i64 c] 42)) := (Below.refl _ w).alloc (Nat.le_refl _) _
 have k1 := h1.below hb0 h1.lt
 clear h1 h2 h3 h4 hl
 generalize ctNumb its ⟨name, a, b, c⟩ = Z at *
 go_enter Tryz.func37, Tryz.ntmps37
 go_wp2_with fail
 have D0 : Below w.heap.size w (w.alloc (.cells #[.int .i64 a, .int .i64 b, .int .i64 c] 42)).drew := hb0.drew
 generalize w.alloc (.cells #[.int .i64 a, .int .i64 b, .int .i64 c] 42) = W0 at *
 have SC : Hid (∀ W, Below W0.heap.size W0 W -> W.cell? ⟨bk, 1, none⟩ = some (.slice va its.length vc) /\ W.cell? ⟨w.heap.size, 0, none⟩ = some (.int .i64 a) /\ W.cell? ⟨w.heap.size, 1, none⟩ = some (.int .i64 b) /\ W.cell? ⟨w.heap.size, 2, none⟩ = some (.int .i64 c)) := fun W h => ⟨(k1.below h k1.lt).cell 1, (kv.below h kv.lt).cell 0, (kv.below h kv.lt).cell 1, (kv.below h kv.lt).cell 2⟩
 have E0 : Below W0.heap.size W0 W0.drew := (Below.refl _ _).drew
 clear kv k1
 go_region_held3 (fun W => W.cell? ⟨bk, 1, none⟩ = some (.slice va its.length vc) /\ W.cell? ⟨w.heap.size, 0, none⟩ = some (.int .i64 a) /\ W.cell? ⟨w.heap.size, 1, none⟩ = some (.int .i64 b) /\ W.cell? ⟨w.heap.size, 2, none⟩ = some (.int .i64 c)) (first | exact SC.out _ E0 | exact SC.out _ E1)
  (((with_reducible refine (HI.out _ D0).mono ?_); rintro e x1 ⟨rfl, hb1⟩; have E1 : Below W0.heap.size W0 x1 := E0.trans (hb1.mono E0.size); have D1 : Below w.heap.size w x1 := D0.trans (hb1.mono D0.size); clear HI D0 E0 hb1))
 have HB1 := Lib.hid D1
 clear D1 E1
 go_wp2
 go_ret
 exact ⟨rfl, HB1.out⟩
def NewRes (w : World) (ls : List Ln) (vs : List Value) (r : Except (Int × Option Nat) (List It)) (e : Ending) (w' : World) : Prop :=
 match r with
 | .ok its => ∃ bc, e = .returned (.tuple #[.pointer (some ⟨bc, 0, none⟩), .nilIface]) /\ CatV w' bc ls vs its w.heap.size /\ Below w.heap.size w w'
 | .error (k, p) => ∃ er, e = .returned (.tuple #[.pointer none, er]) /\ ErrP w' er k p /\ Below w.heap.size w w'
theorem gathF_ok {P : It -> Prop} : ∀ (ls : List Ln) (i : Nat) (its out : List It), gathF ls i its = .ok out -> (∀ x ∈ its, P x) -> (∀ x : Ln, ctCheck x = 0 -> P x.it) -> (∀ x ∈ out, P x) /\ out.length <= its.length + ls.length
 | [], i, its, out, h, h1, _ => by cases h; exact ⟨h1, by simp⟩
 | x :: r, i, its, out, h, h1, h2 => by
  rw [gathF] at h
  by_cases hz : ctCheck x = 0
  ·rw [if_neg (fun h => h hz)] at h
   by_cases hk : x.kind = 1
   ·rw [if_pos hk] at h
    split at h
    ·cases h
    ·split at h
     ·cases h
     ·have := gathF_ok r (i + 1) (its ++ [x.it]) out h (fun y hy => by
       rcases List.mem_append.1 hy with hy | hy
       ·exact h1 y hy
       ·rw [List.mem_singleton] at hy; subst hy; exact h2 x hz) h2
      refine ⟨this.1, ?_⟩
      have h3 := this.2
      simp at h3 ⊢; omega
   ·rw [if_neg hk] at h
    have := gathF_ok r (i + 1) its out h h1 h2
    exact ⟨this.1, by have h3 := this.2; simp; omega⟩
  ·rw [if_pos hz] at h; cases h
theorem missF_at {ls : List Ln} {i : Nat} (hi : i < ls.length) (its : List It) : missF (ls.drop i) i its = if (ls.getD i default).pair /\ (ls.getD i default).it ∉ its then some i else missF (ls.drop (i + 1)) (i + 1) its := by
 rw [drop_cons (d := default) hi, missF]
theorem numb_neg (its : List It) (x : It) : ctNumb its x < 0 ↔ x ∉ its := by
 unfold ctNumb
 cases h : its.findIdx? (fun y => decide (x = y)) with
 | none =>
  simp only [List.findIdx?_eq_none_iff, decide_eq_false_iff_not] at h
  constructor
  ·intro _ hm; exact h x hm rfl
  ·intro _; decide
 | some i =>
  rw [List.findIdx?_eq_some_iff_getElem] at h
  obtain ⟨hi, hp, -⟩ := h
  simp at hp
  constructor
  ·intro h; have h' : (i : Int) < 0 := h; omega
  ·intro h; exact absurd (hp ▸ List.getElem_mem hi) h
end Go.Proofs.YtmhophccdfmngaaGreatDoor
