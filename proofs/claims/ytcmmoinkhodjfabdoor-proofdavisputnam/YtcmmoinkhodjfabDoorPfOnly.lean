/- tell, and the literal by which alone a clause can hold. -/
import Derived.Test.YtcmmoinkhodjfabDoorPfMap
import Derived.Test.YtcmmoinkhodjfabDoorClPlain
namespace Go.Proofs.YtcmmoinkhodjfabDoor
open Go.RowKit Go.Deep

theorem i64_lit {v x : Int} (h : litB v x = true) (hv : v ≤ 24) : I64 x ∧ I64 (-x) := by
  rw [litB_iff] at h
  exact ⟨⟨by omega, by omega⟩, ⟨by omega, by omega⟩⟩

set_option maxRecDepth 100000 in
set_option maxHeartbeats 1000000 in
theorem vtell_any (bm : Nat) (t : List Int) (x : Int) (hx : litB 24 x = true) (h1 : x ∉ t) (h2 : -x ∉ t) (hl : t.length ≤ 1000) (w : World) (hT : ToldAt w bm t) :
    Calls Tryd.prog 56 #[.map (some bm), .int .i64 x] w fun e w' => e = .returned (.tuple #[]) ∧ ToldAt w' bm (t ++ [x]) ∧ w.grownBy w' (some bm) := by
  obtain ⟨w1, w2, hr1, hr2, hT2, hg⟩ := hT.tell hl (litB_iff.1 hx).1 (i64_lit hx (by omega)).1 (i64_lit hx (by omega)).2 h1 h2
  have HT := Lib.hid hT2
  have HG := Lib.hid hg
  have hb := litB_iff.1 hx
  obtain ⟨hb0, hb1, hb2⟩ := hb
  clear hT hT2 hg h1 h2 hx
  go_enter Tryd.func56, Tryd.ntmps56
  go_wp2
  refine bodyPost_end (v := .tuple #[]) (by simp [results, Tryd.results56, go_sem]) rfl ?_
  exact ⟨rfl, HT.out, HG.out⟩

/-- Of what was looked at: the one literal that nothing is told of (0: none); all others' other sides are told. -/
def OnlyI (t pre : List Int) (one : Int) : Prop := (one = 0 ∧ ∀ x ∈ pre, -x ∈ t) ∨ (one ≠ 0 ∧ one ∈ pre ∧ one ∉ t ∧ -one ∉ t ∧ ∀ y ∈ pre, y ≠ one → -y ∈ t)
theorem OnlyI.skip {t pre : List Int} {one x : Int} (h : OnlyI t pre one) (hx : -x ∈ t) : OnlyI t (pre ++ [x]) one := by
  rcases h with ⟨h1, h2⟩ | ⟨h0, h1, h2, h3, h4⟩
  · refine Or.inl ⟨h1, fun y hy => ?_⟩
    rcases List.mem_append.1 hy with hy | hy
    · exact h2 y hy
    · rw [List.mem_singleton] at hy; rw [hy]; exact hx
  · refine Or.inr ⟨h0, List.mem_append_left _ h1, h2, h3, fun y hy hne => ?_⟩
    rcases List.mem_append.1 hy with hy | hy
    · exact h4 y hy hne
    · rw [List.mem_singleton] at hy; rw [hy]; exact hx
theorem OnlyI.take {t pre : List Int} {x : Int} (h : OnlyI t pre 0) (h0 : x ≠ 0) (h1 : x ∉ t) (h2 : -x ∉ t) : OnlyI t (pre ++ [x]) x := by
  rcases h with ⟨_, h3⟩ | ⟨h, _⟩
  · refine Or.inr ⟨h0, by simp, h1, h2, fun y hy hne => ?_⟩
    rcases List.mem_append.1 hy with hy | hy
    · exact h3 y hy
    · rw [List.mem_singleton] at hy; exact absurd hy hne
  · exact absurd rfl h

def OnlyAns (t d : List Int) (e : Ending) : Prop := ∃ r : Int × Bool, e = .returned (.tuple #[.int .i64 r.1, .bool r.2]) ∧ OnlyIs t d r

set_option maxRecDepth 100000 in
set_option maxHeartbeats 2000000 in
theorem ponly_any (bm bb : Nat) (t : List Int) (hc : Cons t) (d : List Int) (hd : Lits 24 d) (hnd : d.Nodup) (a : Option Addr) (cap : Nat) (w : World) (hI : IntsIn w a d) (hT : ToldAt w bm t) (hb : w.cell? ⟨bb, 0, none⟩ = some (.map (some bm))) :
    Calls Tryd.prog 57 #[.slice a d.length cap, .pointer (some ⟨bb, 0, none⟩)] w fun e w' => OnlyAns t d e ∧ w = w' := by
  have hm : d.length ≤ 48 := nodup_small hnd hd
  have HI := Lib.hid hI
  have HD := Lib.hid hd
  have HL : Hid (∀ x, litB 24 x = true → (Instr.lookup 119 (.map (some bm)) (.int .i64 x) false).run Tryd.prog w = .ok (.int .i8 (sideF t x)) w) := fun x hx => hT.look (i64_lit hx (by omega)).1
  have HC := Lib.hid hc
  have HN : Hid (∀ k, k < d.length → d.getD k 0 ∉ d.take k) := fun k hk hmem => by
    obtain ⟨j, hj, e⟩ := List.getElem_of_mem hmem
    rw [List.length_take] at hj
    rw [List.getElem_take, List.getD_eq_getElem?_getD, List.getElem?_eq_getElem hk] at e
    exact List.pairwise_iff_getElem.1 hnd j k (by omega) hk (by omega) e
  clear hI hd hT hc hnd
  go_enter Tryd.func57, Tryd.ntmps57
  go_wp2_with fail
  go_loop [3, 10] (fun oV kV => ∃ (k : Nat) (one : Int), k ≤ d.length ∧ kV = .int .i64 (k : Int) ∧ oV = .int .i64 one ∧ OnlyI t (d.take k) one) (fun _ kV => d.length - (intOf kV).toNat)
  case atStart => exact ⟨0, 0, Nat.zero_le _, rfl, rfl, Or.inl ⟨rfl, fun x hx => by simp at hx⟩⟩
  case round =>
    obtain ⟨k, one, hk, rfl, rfl, hoi⟩ := hrel
    have HOI := Lib.hid hoi
    clear hoi
    by_cases hlt : k < d.length
    · obtain ⟨ad, rfl, hl, hcell⟩ := HI.out k hlt
      have hmem := getD_mem (d := 0) hlt
      have hlit := HD.out _ hmem
      have hnew := HN.out k hlt
      have HTK := Lib.hid (take_succ' hlt)
      have hlook := HL.out _ hlit
      have HM := Lib.hid hmem
      have HW := Lib.hid hnew
      generalize d.getD k 0 = x at *
      have hx0 := (litB_iff.1 hlit).1
      clear hlit hmem hnew
      by_cases q1 : x ∈ t
      · rw [show sideF t x = 1 by unfold sideF; rw [if_pos q1]] at hlook
        have HA : Hid (OnlyIs t d (0, false)) := OnlyIs.held HM.out q1
        clear q1
        go_wp2
        go_ret2
        exact ⟨⟨(0, false), rfl, HA.out⟩, rfl⟩
      · by_cases q2 : -x ∈ t
        · rw [show sideF t x = -1 by unfold sideF; rw [if_neg q1, if_pos q2]] at hlook
          have HA : Hid (OnlyI t (d.take (k + 1)) one) := by show OnlyI _ _ _; rw [HTK.out]; exact HOI.out.skip q2
          clear q1 q2
          go_wp2
          go_round
          case rel => exact ⟨k + 1, one, hlt, by go_num, rfl, HA.out⟩
          case measure => simp [intOf]; omega
        · rw [show sideF t x = 0 by unfold sideF; rw [if_neg q1, if_neg q2]] at hlook
          by_cases h0 : one = 0
          · subst h0
            have HA : Hid (OnlyI t (d.take (k + 1)) x) := by show OnlyI _ _ _; rw [HTK.out]; exact HOI.out.take hx0 q1 q2
            clear q1 q2
            go_wp2
            go_round
            case rel => exact ⟨k + 1, x, hlt, by go_num, rfl, HA.out⟩
            case measure => simp [intOf]; omega
          · have h0' : (one != 0) = true := by simpa using h0
            have HA : Hid (OnlyIs t d (0, false)) := by
              rcases HOI.out with ⟨h, _⟩ | ⟨_, g1, g2, g3, _⟩
              · exact absurd h h0
              · exact OnlyIs.two (List.mem_of_mem_take g1) HM.out (fun e => HW.out (e ▸ g1)) g2 g3 q1 q2
            clear q1 q2
            go_wp2
            go_ret2
            exact ⟨⟨(0, false), rfl, HA.out⟩, rfl⟩
    · obtain rfl : k = d.length := by omega
      rw [List.take_length] at HOI
      have HA : Hid (OnlyIs t d (one, true)) := by
        rcases HOI.out with ⟨rfl, h⟩ | ⟨_, g1, g2, g3, g4⟩
        · exact OnlyIs.none fun x hx => ⟨fun hx2 => HC.out x hx2 (h x hx), h x hx⟩
        · exact OnlyIs.one g1 g2 g3 fun y hy hne => ⟨fun hy2 => HC.out y hy2 (g4 y hy hne), g4 y hy hne⟩
      go_wp2
      go_ret2
      exact ⟨⟨(one, true), rfl, HA.out⟩, rfl⟩
end Go.Proofs.YtcmmoinkhodjfabDoor
