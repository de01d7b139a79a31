/- forms, and Shows. -/
import Derived.Test.YtcmmoinkhodjfabDoorPfFollowsW
import Derived.Test.YtcmmoinkhodjfabDoorPfKnown
import Derived.Test.YtcmmoinkhodjfabDoorPfFormW
import Derived.Test.YtcmmoinkhodjfabDoorClKp
namespace Go.Proofs.YtcmmoinkhodjfabDoor
open Go.RowKit Go.Deep

/-- A row of ints of one's own stays. -/
theorem intsK_row {B : Nat} {w : World} {a : Option Addr} {c : Nat} {l : List Int} (h : w.ownsRow B 3 1 (.slice a l.length c) l.length (icells l)) : IntsK 0 w a l := fun i hi => by
  obtain ⟨ad, e, q1, q2⟩ := ints_row h i hi
  rcases h.2 with ⟨e', e0⟩ | ⟨g, cap, cur, e', _, hg, _⟩
  · omega
  · injection e' with e1 e2 e3
    rw [e1] at e
    obtain rfl := Option.some.inj e
    exact ⟨_, e1, q1, Or.inr ⟨cur, _, hg⟩, q2⟩

/-- Clauses in a row of one's own, each in memory that stays. -/
structure KN (B : Nat) (wr : World) (kV : Value) (ks : List (List Int)) : Prop where
  row : ∃ cs, wr.ownsRow B 23 1 kV ks.length cs ∧ ClsK 0 wr cs ks
theorem KN.nil (B : Nat) (w : World) : KN B w (.slice none 0 0) [] := ⟨⟨[], World.ownsRow_nil _ _ _ _, ClsK.nil⟩⟩
theorem KN.new {B : Nat} {w w' : World} {kV : Value} {ks : List (List Int)} (h : KN B w kV ks) (hb : Below w.heap.size w w') : KN B w' kV ks := by
  obtain ⟨cs, h1, h2⟩ := h.row
  exact ⟨⟨cs, row_new' h1 hb, h2.kp (Kp.new hb)⟩⟩
theorem KN.form {B : Nat} {w : World} {kV : Value} {ks : List (List Int)} (h : KN B w kV ks) : ∃ a c, kV = .slice a ks.length c ∧ ks.length ≤ c ∧ c ≤ 9223372036854775807 := by
  obtain ⟨cs, h1, _⟩ := h.row
  exact row_form h1
theorem KN.cls {B : Nat} {w : World} {a : Option Addr} {cap : Nat} {ks : List (List Int)} (h : KN B w (.slice a ks.length cap) ks) : ClsIn w a ks := by
  obtain ⟨cs, h1, h2⟩ := h.row
  exact h2.cls (ownsRow_base h1 (Nat.zero_le _))
theorem KN.app {B : Nat} {w w7 : World} {kV v7 : Value} {ks : List (List Int)} {cs : List Value} {a : Option Addr} {cap : Nat} {c : List Int} (o : Obj) (hB : B ≤ w.heap.size) (hrow : w.ownsRow B 23 1 kV ks.length cs) (hck : ClsK 0 w cs ks) (hown : w7.ownsRow B 23 1 v7 (ks.length + 1) (cs ++ [.slice a c.length cap])) (hg : (w.alloc o).grownBy w7 kV.ownBlock) (hc1 : c.length ≤ cap) (hc2 : cap ≤ 9223372036854775807) (hi : IntsK 0 w a c) : KN B w7 v7 (ks ++ [c]) ∧ Below B w w7 := by
  have hbn := below_new w o
  have hk := Kp.grown (row_new' hrow hbn) hg (by decide)
  refine ⟨⟨⟨_, by simpa using hown, ((hck.kp (Kp.new hbn)).kp hk.zero).snoc hc1 hc2 ((hi.kp (Kp.new hbn)).kp hk.zero)⟩⟩, ?_⟩
  exact (hbn.mono hB).grown hg (by simp; omega) (fun k hk => (hrow.lt k hk).1)
theorem clit (w : World) (u : Value) (t : TypeId) : ∀ (j : Nat) (x : Value), [u][j]? = some x → (w.alloc (.cells #[u] t)).cell? ((⟨w.heap.size, 0, none⟩ : Addr).add j) = some x := by
  intro j x hu
  cases j with
  | zero => simp at hu; subst hu; rw [add_plain]; simp
  | succ j => simp at hu
theorem cone (a : Option Addr) (n c : Nat) : ∀ u ∈ [Value.slice a n c], u.oneCell' = true := by
  intro u hu
  rw [List.mem_singleton] at hu
  subst hu
  rfl

def FormsAns (B : Nat) (ks : List (List Int)) (e : Ending) (w' : World) : Prop := ∃ a cap, e = .returned (.slice a ks.length cap) ∧ KN B w' (.slice a ks.length cap) ks

set_option maxRecDepth 100000 in
set_option maxHeartbeats 2000000 in
theorem formsW_any (l : List (List Int)) (a : Option Addr) (cap : Nat) (w : World) (hI : ClsIn w a l) (hm : l.length ≤ 1000000) :
    Calls Tryd.prog 47 #[.slice a l.length cap] w fun e w' => FormsAns w.heap.size (formsK l) e w' ∧ Below w.heap.size w w' := by
  have HI := Lib.hid hI
  have HS : Hid (KN w.heap.size w (.slice none 0 0) (formsK (l.take 0))) := KN.nil _ _
  obtain ⟨ic, hic, hc0, hc1, hc2⟩ := info_parts infoCls
  clear hI
  go_enter Tryd.func47, Tryd.ntmps47
  go_wp2_with fail
  go_loopw [3, 10] (fun kV iV wr => ∃ i : Nat, i ≤ l.length ∧ iV = .int .i64 (i : Int) ∧ KN w.heap.size wr kV (formsK (l.take i)) ∧ Below w.heap.size w wr) (fun _ iV _ => l.length - (intOf iV).toNat)
  case atStart => exact ⟨0, Nat.zero_le _, rfl, HS.out, Below.refl _ _⟩
  case round =>
    obtain ⟨i, hi, rfl, hkn, hbr⟩ := hrel
    obtain ⟨ka, kc, rfl, -, -⟩ := hkn.form
    have HKN := Lib.hid hkn
    have HBR := Lib.hid hbr
    have hfl := formsK_len (l.take i)
    rw [List.length_take] at hfl
    clear hkn hbr HS
    by_cases hlt : i < l.length
    · obtain ⟨ad, a', cap', rfl, hl, hcell, g1, g2, g3⟩ := HI.out.below HBR.out i hlt
      have HFO := Lib.hid (form_any (l.getD i []) a' cap' wr g3 (by omega))
      have HSN := Lib.hid (show formsK (l.take (i + 1)) = formsK (l.take i) ++ (if (formF (l.getD i [])).2 = true then [] else [(formF (l.getD i [])).1]) by
        rw [takeC hlt, formsK_snoc]
        unfold formF
        cases alwaysF (sidesF (l.getD i [])) <;> rfl)
      have hfl2 : (formF (l.getD i [])).1.length ≤ 24 := by
        unfold formF; split
        · simp
        · exact clauseK_len _ _
      generalize formF (l.getD i []) = r at *
      obtain ⟨r1, r2⟩ := r
      simp only at *
      generalize l.getD i [] = c at *
      clear g3
      go_wp2_with fail
      refine HFO.out.mono ?_
      rintro e w1 ⟨⟨ra, rc, rfl, hrow⟩, hb1⟩
      have HB1 : Hid (Below w.heap.size w w1) := HBR.out.trans (hb1.mono HBR.out.size)
      have HKN1 := Lib.hid (HKN.out.new hb1)
      simp only at *
      clear hb1 HFO HKN HBR
      cases r2 with
      | true =>
        rw [if_pos rfl, List.append_nil] at HSN
        clear hrow
        go_wp2
        go_roundw
        case rel => exact ⟨i + 1, hlt, by go_num, by rw [HSN.out]; exact HKN1.out, HB1.out⟩
        case measure => simp [intOf]; omega
      | false =>
        rw [if_neg (by simp)] at HSN
        obtain ⟨cs, hcs, hck⟩ := HKN1.out.row
        obtain ⟨ra2, rc2, hre, hr1, hr2⟩ := row_form hrow
        injection hre with e1 e2 e3
        subst e1 e3
        have HIK := Lib.hid (intsK_row hrow)
        have HCS := Lib.hid hcs
        have HCK := Lib.hid hck
        have hws := HB1.out.size
        generalize hks : formsK (l.take i) = ks at *
        clear hrow hcs hck hks
        go_wp2_with (first | (at_builtin; refine wpList_append_own_at _ rfl _ _ 28 rfl w.heap.size 23 ic (.slice none 0 0) 1 24 Tryd.underlying28 hic hc0 hc1 hc2 rfl (by decide) _ _ _ rfl (HCS.out.alloc _) ⟨w1.heap.size, 0, none⟩ 1 1 [.slice ra r1.length rc] rfl rfl ?c1 ?c2 ?c3 ?c4 ?c5 ?_))
        case c2 => rfl
        case c3 => unfold maxLen; omega
        case c4 => omega
        case c5 => first | omega | (simp; omega)
        intro v7 w7 hown7 hgrow7 _ _
        obtain ⟨hkn7, hb7⟩ := KN.app _ hws HCS.out HCK.out hown7 hgrow7 hr1 hr2 HIK.out
        have HK7 := Lib.hid hkn7
        have HB7 : Hid (Below w.heap.size w w7) := HB1.out.trans hb7
        clear hown7 hgrow7 hkn7 hb7
        go_wp2
        go_roundw
        case rel => exact ⟨i + 1, hlt, by go_num, by rw [HSN.out]; exact HK7.out, HB7.out⟩
        case measure => simp [intOf]; omega
    · obtain rfl : i = l.length := by omega
      rw [List.take_length] at *
      go_wp2
      go_ret
      exact ⟨⟨ka, kc, rfl, HKN.out⟩, HBR.out⟩

set_option maxRecDepth 100000 in
set_option maxHeartbeats 1000000 in
theorem shows1_any (x v : Int) (h0 : 0 ≤ v) (h1 : v ≤ 24) (b : Nat) (w : World) (hc : w.cell? ⟨b, 0, none⟩ = some (.int .i64 v)) :
    Calls Tryd.prog 46 #[.int .i64 x, .pointer (some ⟨b, 0, none⟩)] w fun e w' => e = .returned (.bool (!litB v x)) ∧ w = w' := by
  by_cases hx : x = 0
  · have e : (!litB v x) = true := by simp [litB, hx]
    rw [e]
    subst hx
    go_enter Tryd.func46, Tryd.ntmps46
    go_wp2
    go_ret
    exact ⟨rfl, rfl⟩
  · have hx' : (x == 0) = false := by simpa using hx
    by_cases h2 : x < -v
    · have e : (!litB v x) = true := by simp [litB]; omega
      rw [e]
      go_enter Tryd.func46, Tryd.ntmps46
      go_wp2
      go_ret
      exact ⟨rfl, rfl⟩
    · by_cases h3 : v < x
      · have e : (!litB v x) = true := by simp [litB]; omega
        rw [e]
        go_enter Tryd.func46, Tryd.ntmps46
        go_wp2
        go_ret
        exact ⟨rfl, rfl⟩
      · have e : (!litB v x) = false := by simp [litB]; omega
        rw [e]
        go_enter Tryd.func46, Tryd.ntmps46
        go_wp2
        go_ret
        exact ⟨rfl, rfl⟩
set_option maxRecDepth 100000 in
theorem ent_shows1 : ∀ args w, (callFunc 46 args).run Tryd.prog w = .ok (.enter 46 args) w := by intro args w; kernel_rfl

/-- What Shows tells. -/
def ShowsAns (v : Int) (l pr : List (List Int)) (e : Ending) (w' : World) : Prop :=
  ((checkF v l).1 ≠ 0 ∧ ∃ er, e = .returned (.tuple #[.bool false, .int .i64 0, er]) ∧ ErrIs w' er (checkF v l).1 (checkF v l).2) ∨
  ((checkF v l).1 = 0 ∧ 5000 < pr.length ∧ e = .returned (.tuple #[.bool false, .int .i64 0, .iface 33 (.int .i64 4)])) ∨
  ((checkF v l).1 = 0 ∧ pr.length ≤ 5000 ∧ ∃ B n, e = .returned (.tuple #[.bool B, .int .i64 n, .nilIface]) ∧ ShowsR v l pr B n)

theorem err_form {w : World} {er : Value} {m pl : Int} (h : ErrIs w er m pl) (hm : m ≠ 0) : ∃ t u, er = .iface t u := by
  rcases h with h | h | ⟨_, b, _, h, _⟩
  · exact absurd h.1 hm
  · exact ⟨_, _, h.2.2⟩
  · exact ⟨_, _, h⟩

/-- Between the rounds. -/
structure SI (v : Int) (l pr : List (List Int)) (w wr : World) (k : Nat) (kV : Value) (K : List (List Int)) : Prop where
  kn : KN w.heap.size wr kV K
  inv : KInv K (l ++ pr.take k)
  len : K.length ≤ 200 + k
  ok : ∀ j, j < k → okAt v l pr j
  box : Blk wr w.heap.size 3 #[.int .i64 v]
  below : Below w.heap.size w wr
  lt : w.heap.size < wr.heap.size
theorem SI.new {v : Int} {l pr : List (List Int)} {w wr w' : World} {k : Nat} {kV : Value} {K : List (List Int)} (h : SI v l pr w wr k kV K) (hb : Below wr.heap.size wr w') : SI v l pr w w' k kV K :=
  ⟨h.kn.new hb, h.inv, h.len, h.ok, h.box.below hb h.lt, h.below.trans (hb.mono h.below.size), Nat.lt_of_lt_of_le h.lt hb.size⟩

set_option maxRecDepth 100000 in
set_option maxHeartbeats 4000000 in
theorem shows_any (v : Int) (l pr : List (List Int)) (a1 a2 : Option Addr) (c1 c2 : Nat) (w : World) (hI : ClsIn w a1 l) (hm : l.length ≤ 9223372036854775807) (hI2 : ClsIn w a2 pr) (hm2 : pr.length ≤ 9223372036854775807) :
    Calls Tryd.prog 27 #[.int .i64 v, .slice a1 l.length c1, .slice a2 pr.length c2] w fun e w' => ShowsAns v l pr e w' ∧ Below w.heap.size w w' := by
  have hb0 := below_new w (.cells #[.int .i64 v] 3)
  have HCH := Lib.hid (check_any v l a1 c1 (w.alloc (.cells #[.int .i64 v] 3)) (hI.below hb0) hm)
  have HB0 := Lib.hid hb0
  have HI := Lib.hid hI
  have HI2 := Lib.hid hI2
  have HBX := Lib.hid (Blk.new w 3 #[.int .i64 v])
  clear hI hI2 hb0
  go_enter Tryd.func27, Tryd.ntmps27
  go_wp2_with fail
  refine HCH.out.mono ?_
  rintro e w1 ⟨er, rfl, her, hb1⟩
  have HB1 : Hid (Below w.heap.size w w1) := HB0.out.trans (hb1.mono HB0.out.size)
  have hlt1 : w.heap.size < w1.heap.size := by have := hb1.size; rw [World.size_alloc] at this; omega
  have HBX1 := Lib.hid (HBX.out.below hb1 (by simp))
  clear hb1 HCH HB0 HBX
  by_cases hz : (checkF v l).1 = 0
  · obtain ⟨hv0, hv1, hl200, hls, -, -⟩ := check_fine hz
    obtain rfl : er = .nilIface := by
      rcases her with h | h | ⟨h, _⟩
      · exact h.2.2
      · exact absurd hz h.1
      · exact absurd hz h
    have h24 : LitsL 24 l := fun c hc x hx => lit_24 hv1 (hls c hc x hx)
    have HZ := Lib.hid hz
    have HLS := Lib.hid hls
    have HKF := Lib.hid (kinv_forms h24)
    clear her hz hls h24
    by_cases h5 : 5000 < pr.length
    · go_wp2
      go_ret3
      exact ⟨Or.inr (Or.inl ⟨HZ.out, h5, rfl⟩), HB1.out⟩
    · have HL5 : Hid (pr.length ≤ 5000) := by show pr.length ≤ 5000; omega
      have HFO := Lib.hid (formsW_any l a1 c1 w1 (HI.out.below HB1.out) (by omega))
      have hfl := formsK_len l
      go_wp2_with fail
      refine HFO.out.mono ?_
      rintro e w2 ⟨⟨ka, kc, rfl, hkn⟩, hb2⟩
      have HST : Hid (SI v l pr w w2 0 (.slice ka (formsK l).length kc) (formsK l)) := ⟨⟨by obtain ⟨cs, q1, q2⟩ := hkn.row; exact ⟨cs, ownsRow_base q1 HB1.out.size, q2⟩⟩, by rw [List.take_zero, List.append_nil]; exact HKF.out, by omega, fun j hj => by omega, HBX1.out.below hb2 hlt1, HB1.out.trans (hb2.mono HB1.out.size), Nat.lt_of_lt_of_le hlt1 hb2.size⟩
      clear hkn hb2 HFO HBX1 HKF
      go_wp2_with fail
      go_loopw [11, 32] (fun kV iV wr => ∃ (i : Nat) (K : List (List Int)), i ≤ pr.length ∧ iV = .int .i64 (i : Int) ∧ SI v l pr w wr i kV K) (fun _ iV _ => pr.length - (intOf iV).toNat)
      case atStart => exact ⟨0, _, Nat.zero_le _, rfl, HST.out⟩
      case round =>
        obtain ⟨i, K, hi, rfl, hsi⟩ := hrel
        obtain ⟨ka2, kc2, rfl, -, -⟩ := hsi.kn.form
        have HSI := Lib.hid hsi
        have hkl := hsi.len
        clear hsi HST
        by_cases hlt : i < pr.length
        · obtain ⟨ad, a', cap', rfl, hl, hcell, g1, g2, g3⟩ := HI2.out.below HSI.out.below i hlt
          have HCF := Lib.hid (cf_ints 46 #[.pointer (some ⟨w.heap.size, 0, none⟩)] (fun x => !litB v x) (pr.getD i []) a' cap' wr (by omega) ent_shows1 g3 (fun W j hW hj => (shows1_any _ v hv0 hv1 w.heap.size W ((HSI.out.box.below hW HSI.out.lt).cell 0)).mono fun e w' ⟨he, hw⟩ => ⟨he, hw ▸ Below.refl _ _⟩))
          have HFM : Hid (∀ W, Below wr.heap.size wr W → Calls Tryd.prog 11 #[.slice a' (pr.getD i []).length cap'] W fun e w' => FormAns W.heap.size (formF (pr.getD i [])) e w' ∧ Below W.heap.size W w') := fun W hW => form_any _ a' cap' W (g3.below hW) (by omega)
          have HTK := Lib.hid (takeC hlt)
          have HNOK : Hid (¬ okAt v l pr i → ShowsR v l pr false (i : Int)) := fun h => Or.inl ⟨i, hlt, rfl, rfl, h, HSI.out.ok⟩
          have HOKD : Hid (okAt v l pr i ↔ Lits v (pr.getD i []) ∧ (Both (pr.getD i []) ∨ Conf (l ++ pr.take i) (negC (pr.getD i [])))) := Iff.rfl
          generalize pr.getD i [] = c at *
          clear g3
          cases hany : c.any (fun x => !litB v x) with
          | true =>
            rw [hany] at HCF
            have HR : Hid (ShowsR v l pr false (i : Int)) := HNOK.out (fun h => by
              obtain ⟨x, hx, h2⟩ := List.any_eq_true.1 hany
              rw [(HOKD.out.1 h).1 x hx] at h2; cases h2)
            clear hany HNOK HOKD
            go_wp2_with fail
            refine HCF.out.mono ?_
            rintro e w3 ⟨rfl, hb3⟩
            have HB3 : Hid (Below w.heap.size w w3) := HSI.out.below.trans (hb3.mono HSI.out.below.size)
            clear hb3 HCF
            go_wp2
            go_ret3
            exact ⟨Or.inr (Or.inr ⟨HZ.out, HL5.out, false, _, rfl, HR.out⟩), HB3.out⟩
          | false =>
            rw [hany] at HCF
            have hcl : Lits v c := fun x hx => by
              rw [List.any_eq_false] at hany
              simpa using hany x hx
            have hc24 : Lits 24 c := fun x hx => lit_24 hv1 (hcl x hx)
            have HCL := Lib.hid hcl
            have HC24 := Lib.hid hc24
            clear hany hcl hc24
            go_wp2_with fail
            refine HCF.out.mono ?_
            rintro e w3 ⟨rfl, hb3⟩
            have HS3 := Lib.hid (HSI.out.new hb3)
            have HF3 := Lib.hid (HFM.out w3 hb3)
            clear hb3 HCF HSI HFM
            have hfl2 : (formF c).1.length ≤ 24 := by
              unfold formF; split
              · simp
              · exact clauseK_len _ _
            cases hal : alwaysF (sidesF c) with
            | true =>
              have hff : formF c = ([], true) := by unfold formF; rw [hal]; rfl
              rw [hff] at HF3
              have HOK : Hid (okAt v l pr i) := HOKD.out.2 ⟨HCL.out, Or.inl ((both_iff HC24.out).2 hal)⟩
              have HKI : Hid (KInv K (l ++ pr.take (i + 1))) := by
                show KInv _ _
                rw [HTK.out, ← List.append_assoc]; exact HS3.out.inv.skip HC24.out hal
              clear hal hff hfl2 HOKD HNOK
              go_wp2_with fail
              refine HF3.out.mono ?_
              rintro e w4 ⟨⟨ra, rc, rfl, -⟩, hb4⟩
              have HS4 := Lib.hid (HS3.out.new hb4)
              clear hb4 HF3 HS3
              simp only at *
              go_wp2
              go_roundw
              case rel => exact ⟨i + 1, K, hlt, by go_num, HS4.out.kn, HKI.out, by omega, fun j hj => (by
                rcases Nat.lt_succ_iff_lt_or_eq.1 hj with e | e
                · exact HS4.out.ok j e
                · rw [e]; exact HOK.out), HS4.out.box, HS4.out.below, HS4.out.lt⟩
              case measure => simp [intOf]; omega
            | false =>
              have hff : formF c = (clauseF (sidesF c), false) := by unfold formF; rw [hal]; rfl
              rw [hff] at HF3 hfl2
              have HFI := Lib.hid (follows_iff HS3.out.inv HC24.out hal)
              have HNB := Lib.hid (not_both_form HC24.out hal)
              have HNB2 : Hid (¬ Both c) := fun h => by
                have := (both_iff HC24.out).1 h
                rw [hal] at this; cases this
              have HKI : Hid (KInv (K ++ [clauseF (sidesF c)]) (l ++ pr.take (i + 1))) := by
                show KInv _ _
                rw [HTK.out, ← List.append_assoc]; exact HS3.out.inv.snoc HC24.out hal
              have hlf : Hid (Lits 24 (clauseF (sidesF c))) := lits_clauseF
              have hnf := Lib.hid (nodup_clauseF (sidesF c))
              generalize clauseF (sidesF c) = f at *
              clear hal hff
              simp only at hfl2
              go_wp2_with fail
              refine HF3.out.mono ?_
              rintro e w4 ⟨⟨ra, rc, rfl, hrow⟩, hb4⟩
              have HS4 := Lib.hid (HS3.out.new hb4)
              obtain ⟨ra2, rc2, hre, hr1, hr2⟩ := row_form hrow
              injection hre with e1 e2 e3
              subst e1 e3
              have HRW := Lib.hid hrow
              clear hb4 HF3 HS3 hrow
              simp only at *
              have HFW := Lib.hid (pfollows_any f hlf.out hnf.out HNB.out K HS4.out.inv.lits HS4.out.inv.nodup ra ka2 rc kc2 w4 (ints_row HRW.out) (by omega) HS4.out.kn.cls (by omega))
              go_wp2_with fail
              refine HFW.out.mono ?_
              rintro e w5 ⟨⟨B, rfl, hB⟩, hb5⟩
              have HS5 := Lib.hid (HS4.out.new hb5)
              have HRW5 := Lib.hid (row_new HRW.out hb5)
              have HBI := Lib.hid hB
              clear hb5 hB HFW HS4 HRW
              cases B with
              | false =>
                have HR : Hid (ShowsR v l pr false (i : Int)) := HNOK.out (fun h => by
                  rcases (HOKD.out.1 h).2 with h2 | h2
                  · exact HNB2.out h2
                  · have := HBI.out.2 (HFI.out.2 h2); cases this)
                go_wp2
                go_ret3
                exact ⟨Or.inr (Or.inr ⟨HZ.out, HL5.out, false, _, rfl, HR.out⟩), HS5.out.below⟩
              | true =>
                have HOK : Hid (okAt v l pr i) := HOKD.out.2 ⟨HCL.out, Or.inr (HFI.out.1 (HBI.out.1 rfl))⟩
                obtain ⟨cs, hcs, hck⟩ := HS5.out.kn.row
                obtain ⟨ic, hic, hc0, hc1, hc2⟩ := info_parts infoCls
                have HIK := Lib.hid (intsK_row HRW5.out)
                have HCS := Lib.hid hcs
                have HCK := Lib.hid hck
                have hws := HS5.out.below.size
                clear hcs hck HNOK HOKD HBI HFI
                go_wp2_with (first | (at_builtin; refine wpList_append_own_at _ rfl _ _ 28 rfl w.heap.size 23 ic (.slice none 0 0) 1 24 Tryd.underlying28 hic hc0 hc1 hc2 rfl (by decide) _ _ _ rfl (HCS.out.alloc _) ⟨w5.heap.size, 0, none⟩ 1 1 [.slice ra f.length rc] rfl rfl ?c1 ?c2 ?c3 ?c4 ?c5 ?_))
                case c1 => exact clit _ _ _
                case c2 => exact cone _ _ _
                case c3 => unfold maxLen; omega
                case c4 => omega
                case c5 => simp; omega
                intro v7 w7 hown7 hgrow7 _ _
                obtain ⟨hkn7, hb7⟩ := KN.app _ hws HCS.out HCK.out hown7 hgrow7 hr1 hr2 HIK.out
                have HK7 := Lib.hid hkn7
                have HB7 : Hid (Below w.heap.size w w7) := HS5.out.below.trans hb7
                have hbx7 : Hid (Blk w7 w.heap.size 3 #[.int .i64 v] ∧ w.heap.size < w7.heap.size) := by
                  have hlt5 := HS5.out.lt
                  refine ⟨(HS5.out.box.alloc _).kept hgrow7 (fun e => ownBlock_ne' HCS.out HS5.out.box (by decide) e.symm), ?_⟩
                  have := hgrow7.size
                  rw [World.size_alloc] at this
                  omega
                clear hown7 hgrow7 hkn7 hb7
                go_wp2
                go_roundw
                case rel => exact ⟨i + 1, K ++ [f], hlt, by go_num, HK7.out, HKI.out, by simp; omega, fun j hj => (by
                  rcases Nat.lt_succ_iff_lt_or_eq.1 hj with e | e
                  · exact HS5.out.ok j e
                  · rw [e]; exact HOK.out), hbx7.out.1, HB7.out, hbx7.out.2⟩
                case measure => simp [intOf]; omega
        · obtain rfl : i = pr.length := by omega
          have HOK := Lib.hid HSI.out.ok
          by_cases hp : pr.length = 0
          · have HR : Hid (ShowsR v l pr false (pr.length : Int)) := Or.inr ⟨HOK.out, rfl, iff_of_false (by simp) (fun h => h.1 (List.length_eq_zero_iff.1 hp))⟩
            clear HOK
            obtain rfl : pr = [] := List.length_eq_zero_iff.1 hp
            clear hp
            go_wp2
            go_ret3
            exact ⟨Or.inr (Or.inr ⟨HZ.out, HL5.out, false, _, rfl, HR.out⟩), HSI.out.below⟩
          · obtain ⟨m, hm⟩ : ∃ m, pr.length = m + 1 := ⟨pr.length - 1, by omega⟩
            obtain ⟨ad, a', cap', rfl, hl, hcell, g1, g2, g3⟩ := HI2.out.below HSI.out.below m (by omega)
            have HR : Hid (ShowsR v l pr (decide ((pr.getD m []).length = 0)) (pr.length : Int)) := Or.inr ⟨HOK.out, rfl, by
              rw [decide_eq_true_eq, hm, Nat.add_sub_cancel, List.length_eq_zero_iff]
              exact ⟨fun h => ⟨fun h2 => (by rw [h2] at hm; cases hm), h⟩, fun h => h.2⟩⟩
            have hmb : m < 5000 := by omega
            clear HOK g3 hp
            generalize (pr.getD m []).length = q at *
            rw [hm] at *
            clear hm
            have hq : ((q : Int) == 0) = decide (q = 0) := by
              rw [Bool.eq_iff_iff]; simp
            have HQ := Lib.hid hq
            clear hq
            have hlt2 : (m : Int) < (m : Int) + 1 := by omega
            go_wp2
            go_ret3
            exact ⟨Or.inr (Or.inr ⟨HZ.out, HL5.out, _, _, by rw [HQ.out]; rfl, HR.out⟩), HSI.out.below⟩
  · obtain ⟨tt, uu, rfl⟩ := err_form her hz
    have HER := Lib.hid her
    clear her
    go_wp2
    go_ret3
    exact ⟨Or.inl ⟨hz, _, rfl, HER.out⟩, HB1.out⟩
end Go.Proofs.YtcmmoinkhodjfabDoor
