/- The reference's Sweep. -/
import Derived.Test.YtllobejhkajobaaDoorRefReach
namespace Go.Proofs.YtllobejhkajobaaDoor
open Go.RowKit Go.Maps Go.Sort

/-- The pairs that are kept. -/
def keptL (ns : List Nd) (l : List Int) : List (Int × Nd) := l.map fun x => (x, nd ns (x - 2).toNat)

theorem markF_real {ns : List Nd} (hr : Ranked ns) : ∀ (d : Nat) (h : Int) (m : List Bool), m.length = ns.length → (∀ i, mk m i = true → (nd ns i).v < 24) → ∀ i, mk (markF d ns h m) i = true → (nd ns i).v < 24
  | 0, _, _, _, hm => hm
  | d + 1, h, m, hl, hm => by
    unfold markF
    split
    · exact hm
    · rename_i hn
      obtain ⟨b1, b2, b3⟩ := topOf_node (not_or.1 hn).1
      have b4 := (topOf_le hr h).2
      have b5 := (not_or.1 hn).1
      refine markF_real hr d _ _ (by rw [markF_length, List.length_set, hl]) (markF_real hr d _ _ (by rw [List.length_set, hl]) ?_)
      intro i hi
      rw [mk_set _ _ _ (by omega)] at hi
      by_cases e : i = (h - 2).toNat
      · rw [e]; omega
      · rw [decide_eq_false e, Bool.false_or] at hi; exact hm i hi
theorem marksOf_real {ns : List Nd} (hr : Ranked ns) (fs : List Int) : ∀ i, mk (marksOf ns fs) i = true → (nd ns i).v < 24 := by
  have : ∀ (fs : List Int) (m : List Bool), m.length = ns.length → (∀ i, mk m i = true → (nd ns i).v < 24) → ∀ i, mk (fs.foldl (fun m h => markF 24 ns h m) m) i = true → (nd ns i).v < 24 := by
    intro fs
    induction fs with
    | nil => intro m _ h; exact h
    | cons f fs ih => intro m hl h; exact ih _ (by rw [markF_length, hl]) (markF_real hr 24 f m hl h)
  exact this fs _ (by simp) (fun i h => by rw [mk_none] at h; cases h)

theorem reachTo_nodup (M : List Bool) (k : Nat) : (reachTo M k).Nodup := by
  unfold reachTo
  exact List.Pairwise.map _ (fun a b h e => h (by omega)) (List.nodup_range.filter _)
theorem not_in_take {l : List Int} (h : l.Nodup) {k : Nat} (hk : k < l.length) : l[k] ∉ l.take k := by
  have h1 := h.sublist (List.take_sublist (k + 1) l)
  rw [List.take_succ_eq_append_getElem hk, List.nodup_append] at h1
  intro hm
  exact h1.2.2 _ hm _ (List.mem_singleton.2 rfl) rfl
theorem keptL_fst (ns : List Nd) (l : List Int) : (keptL ns l).map Prod.fst = l := by
  unfold keptL; rw [List.map_map]; exact List.map_id l
theorem keptL_length (ns : List Nd) (l : List Int) : (keptL ns l).length = l.length := by simp [keptL]
theorem keptL_take (ns : List Nd) (l : List Int) (k : Nat) (h : k < l.length) : keptL ns (l.take (k + 1)) = keptL ns (l.take k) ++ [(l[k], nd ns (l[k] - 2).toNat)] := by
  unfold keptL; rw [List.take_succ_eq_append_getElem h, List.map_append]; rfl
theorem keptL_book {ns : List Nd} {M : List Bool} (hM : ∀ i, mk M i = true → (nd ns i).v < 24) : RBook (swept ns M) (keptL ns (reachTo M ns.length)) := by
  refine ⟨fun x n => ?_⟩
  unfold keptL
  rw [List.mem_map]
  constructor
  · rintro ⟨y, hy, e⟩
    obtain ⟨i, hi, hm, rfl⟩ := mem_reachTo.1 hy
    obtain ⟨rfl, rfl⟩ := Prod.mk.inj e
    rw [show (2 + (i : Int) - 2).toNat = i by omega]
    refine ⟨i, by rw [swept_length]; exact hi, ?_, rfl, ?_⟩ <;> rw [swept_at ns M i hi, if_pos hm]
    exact hM i hm
  · rintro ⟨i, hi, hv, rfl, rfl⟩
    rw [swept_length] at hi
    rw [swept_at ns M i hi] at hv ⊢
    by_cases hm : mk M i = true
    · rw [if_pos hm]
      exact ⟨2 + (i : Int), mem_reachTo.2 ⟨i, hi, hm, rfl⟩, by rw [show (2 + (i : Int) - 2).toNat = i by omega]⟩
    · rw [if_neg hm] at hv; simp at hv

section
variable {B : Nat} {w : World} {rb rm : Nat} {ns : List Nd} {L : List (Int × Nd)} {room : Int}

set_option maxRecDepth 100000 in
set_option maxHeartbeats 4000000 in
theorem rsweep_any (hr : Ranked ns) (hl : ns.length ≤ 100000) (h : RefAt B w rb rm ns L room) (hLl : L.length ≤ 100000) (bf : Nat) (fs : List Int) (hF : IntsAt w bf fs) (hfl : fs.length ≤ 1000) :
    Calls Tryd.prog 12 #[.pointer (some ⟨rb, 0, none⟩), .slice (some ⟨bf, 0, none⟩) fs.length fs.length] w fun e w' => ∃ nm, e = .returned (.int .i64 ((L.length : Int) - ((reachTo (marksOf ns fs) ns.length).length : Int))) ∧ w.heap.size ≤ nm ∧ RefAt B w' rb nm (swept ns (marksOf ns fs)) (keptL ns (reachTo (marksOf ns fs) ns.length)) room ∧ Kept (fun j => j = rb) w w' := by
  have hmm := @run_makeMap Tryd.prog
  have HC := Lib.hid (rreach_any hr hl h bf fs hF hfl)
  have HBK := Lib.hid (keptL_book (marksOf_real hr fs))
  have HMEM : Hid (∀ x ∈ reachTo (marksOf ns fs) ns.length, I64 x ∧ (x, nd ns (x - 2).toNat) ∈ L) := fun x hx => by
    obtain ⟨i, hi, hm, rfl⟩ := mem_reachTo.1 hx
    refine ⟨⟨by omega, by omega⟩, (h.book.mem _ _).2 ⟨i, hi, marksOf_real hr fs i hm, rfl, by rw [show (2 + (i : Int) - 2).toNat = i by omega]⟩⟩
  have HND := Lib.hid (reachTo_nodup (marksOf ns fs) ns.length)
  have hll := reachTo_length (marksOf ns fs) ns.length
  have HA := Lib.hid h
  have hrmw : rm < w.heap.size := by obtain ⟨D, hD, -⟩ := h.hmap; exact hD.lt
  have hrbw := h.lt
  have hBw := h.B1
  generalize reachTo (marksOf ns fs) ns.length = l at *
  generalize marksOf ns fs = M at *
  clear h hF hr
  go_enter Tryd.func12, Tryd.ntmps12
  go_wp2_with fail
  refine HC.out.mono ?_
  rintro e w1 ⟨a, c, rfl, hrow, hb1⟩
  have hA1 := HA.out.new hb1
  have cm1 := hA1.cmap
  have hs1 := hb1.size
  have hln : ∀ ty, (Builtin.len_ #[31] ty #[.map (some rm)]).run Tryd.prog w1 = .ok (.int .i64 (L.length : Int)) w1 := fun ty => by
    obtain ⟨D, hD, hR⟩ := hA1.hmap
    have := hD.len Tryd.underlying31 ty
    rwa [hR.size] at this
  clear HC HA
  have hA2 := hA1.new (below_new w1 (Obj.map #[] 0))
  have hb2 : Below w.heap.size w (w1.alloc (Obj.map #[] 0)) := hb1.trans ((below_new w1 _).mono hs1)
  have hD2 := World.ownsMap_made w1 Tryd.prog 3 ndElem
  have hs2 : w1.heap.size < (w1.alloc (Obj.map #[] 0)).heap.size := by simp
  have hrow2 := hrow.alloc (Obj.map #[] 0)
  have hrlt : ∀ j, (Value.slice a l.length c).ownBlock = some j → j < w1.heap.size := fun j hj => (hrow.lt j hj).2
  go_wp2_with fail
  go_loopw [9, 21] (fun _ i wr => ∃ k : Nat, k ≤ l.length ∧ i = .int .i64 (k : Int) ∧ RefAt B wr rb rm ns L room ∧ wr.ownsRow w.heap.size 3 1 (.slice a l.length c) l.length (icells l) ∧ (∃ D, wr.ownsMap Tryd.prog 3 ndElem w1.heap.size (keptL ns (l.take k)).length D ∧ BRep D (keptL ns (l.take k))) ∧ Below w.heap.size w wr ∧ w1.heap.size < wr.heap.size)
    (fun _ i _ => l.length - (intOf i).toNat)
  case atStart => exact ⟨0, Nat.zero_le _, rfl, hA2, hrow2, ⟨_, hD2, Rep.empty⟩, hb2, hs2⟩
  case round =>
    obtain ⟨k, hk, rfl, hAr, hrowr, ⟨D, hD, hR⟩, hbr, hsr⟩ := hrel
    clear hA1 cm1 hA2 hb2 hD2 hs2 hrow2 hrow hln
    have cmr := hAr.cmap
    by_cases hlt : k < l.length
    · obtain ⟨hx, hin⟩ := HMEM.out _ (List.getElem_mem hlt)
      have hni : l[k] ∉ (keptL ns (l.take k)).map Prod.fst := by rw [keptL_fst]; exact not_in_take HND.out hlt
      have hkl : (keptL ns (l.take k)).length ≤ 100000 := by rw [keptL_length, List.length_take]; omega
      obtain ⟨w3, D3, hrun3, hD3, hR3, hK3⟩ := back_store hD hR (by omega) hx hni (nd ns (l[k] - 2).toNat)
      have hlk : (Instr.lookup 31 (.map (some rm)) (.int .i64 l[k]) false).run Tryd.prog wr = .ok (.agg #[.int .i64 (nd ns (l[k] - 2).toNat).v, .int .i64 (nd ns (l[k] - 2).toNat).l, .int .i64 (nd ns (l[k] - 2).toNat).h]) wr := by
        obtain ⟨Dr, hDr, hRr⟩ := hAr.hmap
        exact (back_found hDr hRr hin).2
      rw [← keptL_take ns l k hlt] at hD3 hR3
      have hA3 := Lib.hid (hAr.kept hK3 (by omega) (by omega))
      have hb3 := Lib.hid (hbr.trans (hK3.below hbr.size (fun i hi => by omega)))
      have hs3 := Nat.lt_of_lt_of_le hsr hK3.size
      have hrow3 := Lib.hid (ownsRow_kept hrowr hK3 (fun j hj h2 => by have := hrlt j hj; omega))
      have HD3 := Lib.hid hD3
      have HR3 := Lib.hid hR3
      obtain ⟨g, rfl⟩ : ∃ g, a = some ⟨g, 0, none⟩ := by
        rcases hrowr.2 with ⟨-, e⟩ | ⟨g, _, _, e, -⟩
        · omega
        · cases e; exact ⟨g, rfl⟩
      have ck := hrowr.cellAt k (by omega)
      rw [icells_at l k hlt] at ck
      have ib : (k : Int) < (l.length : Int) := by omega
      clear hAr hrowr hD hR hbr hK3 hD3 hR3 hni hin hx hkl
      generalize nd ns (l[k] - 2).toNat = n at *
      generalize l[k] = x at *
      go_wp2
      go_roundw
      case rel => exact ⟨k + 1, by omega, by go_num, hA3.out, hrow3.out, ⟨_, HD3.out, HR3.out⟩, hb3.out, hs3⟩
      case measure => simp [intOf]; omega
    · obtain rfl : k = l.length := by omega
      rw [List.take_length] at hD hR
      have hln : ∀ ty W, W.ownsMap Tryd.prog 3 ndElem w1.heap.size (keptL ns l).length D → (Builtin.len_ #[31] ty #[.map (some w1.heap.size)]).run Tryd.prog W = .ok (.int .i64 (l.length : Int)) W := fun ty W hW => by
        have := hW.len Tryd.underlying31 ty
        rwa [hR.size, keptL_length] at this
      have fr := hAr.froz 1
      have hDs := hD.setCell (a := ⟨rb, 1, none⟩) (by show w1.heap.size ≠ rb; omega) (.map (some w1.heap.size))
      have hln2 := fun ty => hln ty _ hDs
      have HF : Hid (RefAt B (wr.setCell ⟨rb, 1, none⟩ (.map (some w1.heap.size))) rb w1.heap.size (swept ns M) (keptL ns l) room) :=
        ⟨by simpa using hAr.lt, by rw [World.cell?_setCell_other _ _ _ _ (by simp)]; exact hAr.croom, World.cell?_setCell_same _ _ _ hAr.cmap, fun i => by rw [World.frozen?_setCell]; exact hAr.froz i, ⟨D, hDs, hR⟩, HBK.out, by omega, hAr.B1, by omega⟩
      have HK : Hid (Kept (fun j => j = rb) w (wr.setCell ⟨rb, 1, none⟩ (.map (some w1.heap.size)))) := (Kept.of_below hbr _).trans (Kept.setCell (S := fun j => j = rb) _ _ _ rfl)
      clear hAr hrowr hD hR hbr hln hDs
      go_wp2
      go_ret
      exact ⟨w1.heap.size, by go_num, hs1, HF.out, HK.out⟩
end
end Go.Proofs.YtllobejhkajobaaDoor
