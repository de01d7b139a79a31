/- follows: in whatever order, a clause can't hold, or none can't. -/
import Derived.Test.YtcmmoinkhodjfabDoorPfOnly
import Derived.Test.YtcmmoinkhodjfabDoorPfConf
import Derived.Test.YtcmmoinkhodjfabDoorClPlain
import Derived.Laws.NewBlocks
namespace Go.Proofs.YtcmmoinkhodjfabDoor
open Go.RowKit Go.Deep

/-- What is told by then. -/
structure FInv (known : List (List Int)) (t0 t : List Int) : Prop where
  cons : Cons t
  lits : Lits 24 t
  nodup : t.Nodup
  sub : ∀ x ∈ t0, x ∈ t
  back : Conf known t → Conf known t0
theorem FInv.len {known : List (List Int)} {t0 t : List Int} (h : FInv known t0 t) : t.length ≤ 48 := nodup_small h.nodup h.lits
theorem FInv.tell {known : List (List Int)} {t0 t d : List Int} {x : Int} (h : FInv known t0 t) (hl : LitsL 24 known) (hd : d ∈ known) (hx : x ∈ d) (h1 : x ∉ t) (h2 : -x ∉ t) (ho : ∀ y ∈ d, y ≠ x → y ∉ t ∧ -y ∈ t) : FInv known t0 (t ++ [x]) := by
  have hlx := hl d hd x hx
  refine ⟨cons_tell h.cons (litB_iff.1 hlx).1 h2, lits_tell h.lits hlx, ?_, fun y hy => List.mem_append_left _ (h.sub y hy), fun hc => h.back (.unit hd hx (fun y hy hne => (ho y hy hne).2) (hc.mono (SubC.refl _) fun z hz => ?_))⟩
  · rw [List.nodup_append]
    refine ⟨h.nodup, by simp, fun y hy z hz => ?_⟩
    rw [List.mem_singleton] at hz
    subst hz
    exact fun e => h1 (e ▸ hy)
  · rcases List.mem_append.1 hz with hz | hz
    · exact List.mem_cons_of_mem _ hz
    · rw [List.mem_singleton] at hz; rw [hz]; exact List.mem_cons_self
def Quiet (t d : List Int) : Prop := (∃ x ∈ d, x ∈ t) ∨ ∃ x ∈ d, ∃ y ∈ d, x ≠ y ∧ -x ∉ t ∧ -y ∉ t
theorem quiet_of {t d : List Int} {n : Int} (h : OnlyIs t d (n, false)) : Quiet t d := by
  generalize hr : ((n, false) : Int × Bool) = r at h
  cases h with
  | none _ => cases hr
  | one _ _ _ _ => cases hr
  | held hx h => exact Or.inl ⟨_, hx, h⟩
  | two hx hy hne _ h1 _ h3 => exact Or.inr ⟨_, hx, _, hy, hne, h1, h3⟩
theorem only_zero {t d : List Int} (hl : Lits 24 d) (h : OnlyIs t d (0, true)) : ∀ x ∈ d, -x ∈ t := by
  generalize hr : ((0, true) : Int × Bool) = r at h
  cases h with
  | none h => exact fun x hx => (h x hx).2
  | one hx _ _ _ => cases hr; exact absurd rfl (litB_iff.1 (hl _ hx)).1
  | held _ _ => cases hr
  | two _ _ _ _ _ _ _ => cases hr
theorem only_tell {t d : List Int} {x : Int} (h : OnlyIs t d (x, true)) (hx : x ≠ 0) : x ∈ d ∧ x ∉ t ∧ -x ∉ t ∧ ∀ y ∈ d, y ≠ x → y ∉ t ∧ -y ∈ t := by
  generalize hr : ((x, true) : Int × Bool) = r at h
  cases h with
  | none _ => cases hr; exact absurd rfl hx
  | one h0 h1 h2 h3 => cases hr; exact ⟨h0, h1, h2, h3⟩
  | held _ _ => cases hr
  | two _ _ _ _ _ _ _ => cases hr
theorem satu_of {known : List (List Int)} {t : List Int} (h : ∀ i, i < known.length → Quiet t (known.getD i [])) : Satu known t := fun c hc => by
  obtain ⟨i, hi, rfl⟩ := List.getElem_of_mem hc
  have := h i hi
  rw [List.getD_eq_getElem?_getD, List.getElem?_eq_getElem hi] at this
  exact this

/-- What follows has in memory: the map, and a box with it. -/
structure FM (w wr : World) (t : List Int) : Prop where
  told : ToldAt wr w.heap.size t
  box : wr.cell? ⟨w.heap.size + 1, 0, none⟩ = some (.map (some w.heap.size))
  lt : w.heap.size + 1 < wr.heap.size
  below : Below w.heap.size w wr
theorem FM.start (w : World) : FM w ((w.alloc (.map #[] 0)).alloc (.cells #[.map (some w.heap.size)] 119)) [] := by
  have h := ToldAt.made w
  refine ⟨h.below (below_new _ _), ?_, by simp, (below_new w _).alloc (by simp) _⟩
  rw [← World.size_alloc w (.map #[] 0)]
  simp
theorem FM.tell {w wr wr' : World} {t t' : List Int} (h : FM w wr t) (hT : ToldAt wr' w.heap.size t') (hg : wr.grownBy wr' (some w.heap.size)) : FM w wr' t' := by
  refine ⟨hT, ?_, Nat.lt_of_lt_of_le h.lt hg.size, ?_⟩
  · rw [World.cell?_of_block (w := wr) (hg.block _ h.lt (by simp))]; exact h.box
  · exact h.below.grown hg h.below.size (fun k hk => by injection hk; omega)

def FollowAns (known : List (List Int)) (t0 : List Int) (e : Ending) : Prop := ∃ B, e = .returned (.bool B) ∧ (B = true ↔ Conf known t0)
set_option maxRecDepth 100000 in
theorem ent_follows1 : ∀ args w, (callFunc 57 args).run Tryd.prog w = .ok (.enter 57 args) w := by intro args w; kernel_rfl

set_option maxRecDepth 100000 in
set_option maxHeartbeats 4000000 in
theorem pfollows_any (c : List Int) (hcl : Lits 24 c) (hcn : c.Nodup) (hcb : ¬ Both c) (known : List (List Int)) (hkl : LitsL 24 known) (hkn : ∀ d ∈ known, d.Nodup) (a1 a2 : Option Addr) (c1 c2 : Nat) (w : World) (hI : IntsIn w a1 c) (hm : c.length ≤ 9223372036854775807) (hK : ClsIn w a2 known) (hmk : known.length ≤ 9223372036854775807) :
    Calls Tryd.prog 48 #[.slice a1 c.length c1, .slice a2 known.length c2] w fun e w' => FollowAns known (negC c) e ∧ Below w.heap.size w w' := by
  have hmm := @run_makeMap Tryd.prog
  have HI := Lib.hid hI
  have HK := Lib.hid hK
  have HKL := Lib.hid hkl
  have HKN := Lib.hid hkn
  have HS := Lib.hid (FM.start w)
  have HF : Hid (FInv known (negC c) (negC c)) := ⟨cons_negC hcb, fun x hx => by
      have := litB_iff.1 (hcl _ (mem_negC.1 hx)); rw [litB_iff]; omega, by
      unfold negC
      rw [List.nodup_iff_pairwise_ne, List.pairwise_map]
      exact hcn.imp fun hne e => hne (by omega), fun _ h => h, fun h => h⟩
  have HT : Hid (∀ k, k < c.length → ∀ W, FM w W (negC (c.take k)) → Calls Tryd.prog 56 #[.map (some w.heap.size), .int .i64 (-(c.getD k 0))] W fun e w' => e = .returned (.tuple #[]) ∧ FM w w' (negC (c.take (k + 1)))) := fun k hk W hW => by
    have hlx := litB_iff.1 (hcl _ (getD_mem (d := 0) hk))
    have hnt : c.getD k 0 ∉ c.take k := fun hmem => by
      obtain ⟨j, hj, e⟩ := List.getElem_of_mem hmem
      rw [List.length_take] at hj
      rw [List.getElem_take, List.getD_eq_getElem?_getD, List.getElem?_eq_getElem hk] at e
      exact List.pairwise_iff_getElem.1 hcn j k (by omega) hk (by omega) e
    have e : negC (c.take (k + 1)) = negC (c.take k) ++ [-(c.getD k 0)] := by rw [take_succ' hk]; unfold negC; rw [List.map_append]; rfl
    refine (vtell_any w.heap.size (negC (c.take k)) (-(c.getD k 0)) (by rw [litB_iff]; omega) (fun h => ?_) (fun h => ?_) ?_ W hW.told).mono fun e' w' ⟨he, h1, h2⟩ => ⟨he, by rw [e]; exact hW.tell h1 h2⟩
    · rw [mem_negC, Int.neg_neg] at h; exact hnt h
    · rw [Int.neg_neg, mem_negC] at h
      exact hcb ⟨_, getD_mem (d := 0) hk, List.mem_of_mem_take h⟩
    · have h1 := HF.out.len
      unfold negC at *
      rw [List.length_map] at *
      rw [List.length_take]; omega
  have HCL := Lib.hid hcl
  obtain ⟨t0, ht0⟩ : ∃ t0, t0 = negC c := ⟨_, rfl⟩
  rw [← ht0] at HF ⊢
  have HT0 := Lib.hid ht0
  clear hI hK hkl hkn hcl hcn hcb ht0
  go_enter Tryd.func48, Tryd.ntmps48
  go_wp2_with fail
  go_loopw [17] (fun kV wr => ∃ k : Nat, k ≤ c.length ∧ kV = .int .i64 (k : Int) ∧ FM w wr (negC (c.take k))) (fun kV _ => c.length - (intOf kV).toNat)
  case atStart => exact ⟨0, Nat.zero_le _, rfl, HS.out⟩
  case round =>
    obtain ⟨k, hk, rfl, hfm⟩ := hrel
    have HFM := Lib.hid hfm
    clear hfm HS
    by_cases hlt : k < c.length
    · obtain ⟨ad, rfl, hl, hcell⟩ := HI.out.below HFM.out.below k hlt
      have HC := Lib.hid (HT.out k hlt _ HFM.out)
      have hbox := HFM.out.box
      obtain ⟨hx0, hx1, hx2⟩ := litB_iff.1 (HCL.out _ (getD_mem (d := 0) hlt))
      generalize c.getD k 0 = x at *
      go_wp2_with fail
      refine HC.out.mono ?_
      rintro e w1 ⟨rfl, hf1⟩
      have HF1 := Lib.hid hf1
      clear hf1 HC
      go_wp2
      go_roundw
      case rel => exact ⟨k + 1, hlt, by go_num, HF1.out⟩
      case measure => simp [intOf]; omega
    · obtain rfl : k = c.length := by omega
      rw [List.take_length, ← HT0.out] at HFM
      go_wp2_with fail
      go_loopw [9] (fun bV wr => ∃ (b : Int) (t : List Int), bV = .int .i64 b ∧ FM w wr t ∧ FInv known t0 t ∧ -1 ≤ b ∧ b ≤ 2 * (t.length : Int) ∧ (b = 2 * (t.length : Int) → Satu known t)) (fun bV _ => (200 - intOf bV).toNat)
      case atStart => exact ⟨-1, t0, rfl, HFM.out, HF.out, by omega, by omega, fun h => by omega⟩
      case round =>
        obtain ⟨b, t, rfl, hfm, hfi, hb0, hb1, hb2⟩ := hrel
        have HF2 := Lib.hid hfm
        have HFI := Lib.hid hfi
        have HSA := Lib.hid hb2
        have hlen := hfi.len
        have hbox := hfm.box
        have hlm := hfm.told.len 3
        have hcast : ((2 * t.length : Nat) : Int) = 2 * (t.length : Int) := by omega
        rw [hcast] at hlm
        clear hfm hfi hb2 hcast HFM
        by_cases hgo : b < 2 * (t.length : Int)
        · clear HSA
          generalize hn : t.length = n at *
          have HS3 : Hid (FM w wr t ∧ FInv known t0 t ∧ n ≤ t.length ∧ (t.length = n → ∀ i, i < 0 → Quiet t (known.getD i []))) := ⟨HF2.out, HFI.out, by omega, fun _ i hi => by omega⟩
          clear HF2 HFI hn
          go_wp2_with fail
          go_loopw [35] (fun jV wr2 => ∃ (j : Nat) (t' : List Int), j ≤ known.length ∧ jV = .int .i64 (j : Int) ∧ FM w wr2 t' ∧ FInv known t0 t' ∧ n ≤ t'.length ∧ (t'.length = n → ∀ i, i < j → Quiet t' (known.getD i []))) (fun jV _ => known.length - (intOf jV).toNat)
          case atStart => exact ⟨0, t, Nat.zero_le _, rfl, HS3.out⟩
          case round =>
            obtain ⟨j, t', hj, rfl, hfm, hfi, hn1, hn2⟩ := hrel
            have HF2 := Lib.hid hfm
            have HFI := Lib.hid hfi
            have HQ := Lib.hid hn2
            have hlen2 := hfi.len
            have hbox2 := hfm.box
            clear hfm hfi hn2 HS3
            by_cases hjl : j < known.length
            · obtain ⟨ad, a', cap', rfl, hl, hcell, g1, g2, g3⟩ := HK.out.below HF2.out.below j hjl
              have hdm := getD_mem (d := []) hjl
              have hdl := HKL.out _ hdm
              have HO := Lib.hid (ponly_any w.heap.size (w.heap.size + 1) t' HFI.out.cons (known.getD j []) hdl (HKN.out _ hdm) a' cap' _ g3 HF2.out.told hbox2)
              have HDM := Lib.hid hdm
              have HDL := Lib.hid hdl
              generalize hd : known.getD j [] = d at *
              have HD := Lib.hid hd
              clear g3 hdm hdl hd
              go_wp2_with fail
              refine HO.out.mono ?_
              rintro e w2 ⟨⟨⟨x, ok⟩, rfl, hon⟩, rfl⟩
              have HON := Lib.hid hon
              clear hon HO
              cases ok with
              | false =>
                have HQ2 := Lib.hid (quiet_of HON.out)
                go_wp2
                go_roundw
                case rel => exact ⟨j + 1, t', hjl, by go_num, HF2.out, HFI.out, hn1, fun h i hi => (by
                  rcases Nat.lt_succ_iff_lt_or_eq.1 hi with e | e
                  · exact HQ.out h i e
                  · rw [e, HD.out]; exact HQ2.out)⟩
                case measure => simp [intOf]; omega
              | true =>
                by_cases hx0 : x = 0
                · subst hx0
                  have HCF : Hid (Conf known t0) := HFI.out.back (.bad HDM.out (only_zero HDL.out HON.out))
                  go_wp2
                  go_ret
                  exact ⟨⟨true, rfl, iff_of_true rfl HCF.out⟩, HF2.out.below⟩
                · obtain ⟨m1, m2, m3, m4⟩ := only_tell HON.out hx0
                  have HFI2 := Lib.hid (HFI.out.tell HKL.out HDM.out m1 m2 m3 m4)
                  have HTL := Lib.hid (vtell_any w.heap.size t' x (HDL.out x m1) m2 m3 (by omega) _ HF2.out.told)
                  have hx0' : (x == 0) = false := by simpa using hx0
                  clear m1 m2 m3 m4 hx0
                  go_wp2_with fail
                  refine HTL.out.mono ?_
                  rintro e w3 ⟨rfl, ht3, hg3⟩
                  have HF3 := Lib.hid (HF2.out.tell ht3 hg3)
                  clear ht3 hg3 HTL
                  go_wp2
                  go_roundw
                  case rel => exact ⟨j + 1, t' ++ [x], hjl, by go_num, HF3.out, HFI2.out, by simp; omega, fun h => by simp at h; omega⟩
                  case measure => simp [intOf]; omega
            · obtain rfl : j = known.length := by omega
              have HSX : Hid (2 * (n : Int) = 2 * (t'.length : Int) → Satu known t') := fun h => satu_of (HQ.out (by omega))
              go_wp2
              go_roundw
              case rel => exact ⟨2 * (n : Int), t', rfl, HF2.out, HFI.out, by omega, by omega, HSX.out⟩
              case measure => simp [intOf]; omega
        · have HNO : Hid (¬ Conf known t0) := fun hcf => no_conf HFI.out.cons (HSA.out (by omega)) hcf HFI.out.sub
          go_wp2
          go_ret
          exact ⟨⟨false, rfl, iff_of_false (by simp) HNO.out⟩, HF2.out.below⟩
end Go.Proofs.YtcmmoinkhodjfabDoor
