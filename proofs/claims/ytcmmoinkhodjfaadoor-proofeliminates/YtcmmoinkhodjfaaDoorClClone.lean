/- Clone of clauses. -/
import Derived.Test.YtcmmoinkhodjfaaDoorClKp
import Derived.Lib.SliceRun
namespace Go.Proofs.YtcmmoinkhodjfaaDoor
open Go.RowKit Go.Deep

/-- The cells of clauses that came in. -/
theorem cls_cells {W0 w : World} {ad : Addr} {l : List (List Int)} (h : ClsIn W0 (some ad) l) (hb : Below W0.heap.size W0 w) : ∃ cs : List Value, ClsK W0.heap.size w cs l ∧ ∀ j u, cs[j]? = some u → ad.block < W0.heap.size ∧ w.cell? (ad.add j) = some u := by
  have each : ∀ i, i < l.length → ∃ u : Value, (∃ (a : Option Addr) (cap : Nat), u = .slice a (l.getD i []).length cap ∧ (l.getD i []).length ≤ cap ∧ cap ≤ 9223372036854775807 ∧ IntsK W0.heap.size w a (l.getD i [])) ∧ ad.block < W0.heap.size ∧ w.cell? (ad.add i) = some u := by
    intro i hi
    obtain ⟨ad', a', cap, e, h1, h2, h3, h4, h5⟩ := h i hi
    obtain rfl := Option.some.inj e
    exact ⟨_, ⟨a', cap, rfl, h3, h4, IntsK.of h5 hb⟩, h1, (hb.cell (by rw [addr_block]; exact h1)).trans h2⟩
  obtain ⟨q, hq⟩ := choose_lt (fun i hi => each i hi)
  have hlen : ((List.range l.length).map q).length = l.length := by simp
  have hat : ∀ i, i < l.length → ((List.range l.length).map q)[i]? = some (q i) := fun i hi => by simp [hi]
  refine ⟨(List.range l.length).map q, ⟨hlen, fun i hi => ?_⟩, fun j u hj => ?_⟩
  · obtain ⟨a, cap, e, h1, h2, h3⟩ := (hq i hi).1
    exact ⟨a, cap, by rw [hat i hi, e], h1, h2, h3⟩
  · have hj' : j < l.length := by have := (List.getElem?_eq_some_iff.1 hj).1; rw [hlen] at this; exact this
    rw [hat j hj'] at hj
    obtain rfl := Option.some.inj hj
    exact (hq j hj').2

set_option maxRecDepth 100000 in
set_option maxHeartbeats 2000000 in
theorem clone_any (W0 : World) (l : List (List Int)) (a : Option Addr) (cap : Nat) (hn : a = none → cap = 0) (hl : l.length ≤ 100000) (w : World) (hI : ClsIn W0 a l) (hb : Below W0.heap.size W0 w) :
    Calls Tryd.prog 34 #[.slice a l.length cap] w fun e w' => ∃ va vc, e = .returned (.slice va l.length vc) ∧ (∃ cs, w'.ownsRow w.heap.size 23 1 (.slice va l.length vc) l.length cs ∧ ClsK W0.heap.size w' cs l) ∧ Below w.heap.size w w' := by
  obtain ⟨ic, hic, hc0, hc1, hc2⟩ := info_parts infoCls
  have hq := fun (x : Option Addr) (n c : Nat) (W : World) => Lib.run_eql_slice_nil (P := Tryd.prog) W 37 23 x n c 0 0 Tryd.underlying37
  cases a with
  | none =>
    obtain rfl : cap = 0 := hn rfl
    obtain rfl : l = [] := by
      cases l with
      | nil => rfl
      | cons c l => obtain ⟨ad, _, _, e, _⟩ := hI 0 (by simp); cases e
    have fin : Calls Tryd.prog 34 #[.slice none 0 0] w fun e w' => e = .returned (.slice none 0 0) ∧ w = w' := by
      go_enter Tryd.func34, Tryd.ntmps34
      go_wp2
      go_ret
      exact ⟨rfl, rfl⟩
    exact fin.mono fun e w' ⟨he, hw⟩ => ⟨none, 0, he, ⟨[], World.ownsRow_nil _ _ _ _, ClsK.nil⟩, hw ▸ Below.refl _ _⟩
  | some ad =>
    obtain ⟨cs, hck, hcell⟩ := cls_cells hI hb
    have hcl := hck.1
    have hrow := World.ownsRow_lit (base := w.heap.size) (e := 23) (size := 1) w #[] 0 (Nat.le_refl _) (by decide) rfl
    have hone := hck.one
    have hnews : ∀ j u, cs[j]? = some u → (w.alloc (.cells #[] 23)).cell? (ad.add j) = some u := fun j u hu => by
      obtain ⟨h1, h2⟩ := hcell j u hu
      rw [World.cell?_alloc_lt _ _ _ (by rw [addr_block]; exact Nat.lt_of_lt_of_le h1 hb.size)]; exact h2
    have HCK := Lib.hid hck
    have HROW := Lib.hid hrow
    have HONE := Lib.hid hone
    have HNEWS := Lib.hid hnews
    have HCL := Lib.hid hcl
    clear hI hck hcell hrow hone hnews hcl hn
    generalize hL : l.length = L at *
    clear hL
    go_enter Tryd.func34, Tryd.ntmps34
    go_wp2_with (at_builtin; refine wpList_append_own_at _ rfl _ _ 37 rfl w.heap.size 23 ic (.slice none 0 0) 1 24 Tryd.underlying37 hic hc0 hc1 hc2 rfl (by decide) _ _ _ rfl HROW.out ad L cap cs rfl (by rw [HCL.out, Nat.mul_one]) HNEWS.out HONE.out ?c3 ?c4 ?c5 ?_)
    case c3 => unfold maxLen; omega
    case c4 => omega
    intro v7 w7 hown7 hgrow7 _ _
    have hb7 : Below w.heap.size w w7 := (below_new w (.cells #[] 23)).grown hgrow7 (by simp) (fun k hk => by
      simp [Value.ownBlock] at hk; omega)
    have HK : Hid (ClsK W0.heap.size w7 cs l) := HCK.out.kp (Kp.new hb7)
    have hown8 : w7.ownsRow w.heap.size 23 1 v7 L cs := by simpa using hown7
    obtain ⟨va, vc, rfl, -, -⟩ := row_form hown8
    have HO := Lib.hid hown8
    have HB7 := Lib.hid hb7
    clear hown7 hown8 hgrow7 hb7 HROW HNEWS
    go_wp2
    go_ret
    exact ⟨_, _, rfl, ⟨cs, HO.out, HK.out⟩, HB7.out⟩
end Go.Proofs.YtcmmoinkhodjfaaDoor
