/- Reach. -/
import Derived.Test.YtiimdhmbbmkbfaaGreatDoorArReachM
namespace Go.Proofs.YtiimdhmbbmkbfaaGreatDoor
open Go.RowKit Go.Maps

section
variable {B b bm : Nat} {v : Value} {ns : List Nd} {L : List (Nd × Int)} {room next : Int} {w : World}

set_option maxRecDepth 100000 in
set_option maxHeartbeats 4000000 in
theorem reach_any (hr : Ranked ns) (hl : ns.length ≤ 100000) (hA : ArenaAt B w b bm v ns L room next) (bf : Nat) {cp : Nat} (fs : List Int) (hF : IntsAt w bf fs) (hfl : fs.length ≤ 1000) (hB : B ≤ w.heap.size) :
    Calls Tryz.prog 31 #[.pointer (some ⟨b, 0, none⟩), .slice (some ⟨bf, 0, none⟩) fs.length cp] w fun e w' => ∃ a c, e = .returned (.slice a (reachTo (marksOf ns fs) ns.length).length c) ∧ w'.ownsRow w.heap.size 3 1 (.slice a (reachTo (marksOf ns fs) ns.length).length c) (reachTo (marksOf ns fs) ns.length).length (icells (reachTo (marksOf ns fs) ns.length)) ∧ Below w.heap.size w w' := by
  have HC := Lib.hid (reached_any (cp := cp) hr hl hA bf fs hF hfl hB)
  have hML := marksOf_length ns fs
  generalize marksOf ns fs = M at *
  have HML := Lib.hid hML
  obtain ⟨i0, hi, hz0, hz1, hz2⟩ := info_parts infoInt
  clear hA hF hr hML
  go_enter Tryz.func31, Tryz.ntmps31
  go_wp2_with fail
  refine HC.out.mono ?_
  rintro e w1 ⟨rfl, hm1, hb1⟩
  have hs1 : w.heap.size < w1.heap.size := (hm1.lt w.heap.size rfl).2
  clear HC
  go_wp2_with fail
  go_loopw [5, 6, 7, 12] (fun out _ _ i wr => ∃ (k : Nat) (a : Option Addr) (c : Nat), k ≤ ns.length ∧ i = .int .i64 (k : Int) ∧ out = .slice a (reachTo M k).length c ∧ wr.ownsRow (w.heap.size + 1) 3 1 (.slice a (reachTo M k).length c) (reachTo M k).length (icells (reachTo M k)) ∧ wr.ownsRow B 4 1 (.slice (some ⟨w.heap.size, 0, none⟩) ns.length ns.length) ns.length (mcells M) ∧ Below w.heap.size w wr ∧ w.heap.size < wr.heap.size)
    (fun _ _ _ i _ => ns.length - (intOf i).toNat)
  case atStart => exact ⟨0, none, 0, Nat.zero_le _, rfl, rfl, World.ownsRow_nil _ _ _ _, hm1, hb1, hs1⟩
  case round =>
    obtain ⟨k, a, c, hk, rfl, rfl, hown, hmr, hbelr, hsr⟩ := hrel
    clear hm1 hb1 hs1
    by_cases hlt : k < ns.length
    · have cm := hmr.cellAt k (by omega)
      rw [mcells_at M k (by rw [HML.out]; exact hlt)] at cm
      have hrl := reachTo_length M k
      have hsu := reachTo_succ M k
      by_cases hm : mk M k = true
      · rw [if_pos hm] at hsu
        rw [hm] at cm
        have HSU := Lib.hid hsu
        have HB := Lib.hid hbelr
        have HM := Lib.hid hmr
        clear hm hsu hbelr hmr
        have ib : (k : Int) < (ns.length : Int) := by omega
        go_wp2_with (at_builtin; refine wpList_append_own _ rfl _ _ 24 rfl (w.heap.size + 1) 3 i0 (.int .i64 0) 1 8 Tryz.underlying24 hi hz0 hz1 hz2 rfl (by decide) _ _ _ rfl (hown.alloc _) ⟨wr.heap.size, 0, none⟩ 1 1 [.int .i64 (2 + (k : Int))] rfl rfl ?c1 ?c2 ?c3 ?c4 ?c5 ?_)
        case c1 => exact cell_one_new _ _ _
        case c2 => intro u hu; simp at hu; subst hu; rfl
        case c3 => unfold maxLen; omega
        case c4 => omega
        case c5 => simp; omega
        · intro v' w4 hown' hgrow _
          have hk4 : Kept (fun j => (Value.slice a (reachTo M k).length c).ownBlock = some j) wr w4 := (Kept.alloc _ wr _).andThen (Kept.of_grown hgrow (fun i h => h)) (fun i h _ => h)
          have hb4 := HB.out.trans (hk4.below HB.out.size (fun i hi => by have := (hown.lt i hi).1; omega))
          have hm4 := ownsRow_kept HM.out hk4 (fun j hj h2 => by have := (hown.lt j h2).1; have hj2 : w.heap.size = j := Option.some.inj hj; omega)
          have hs4 := Nat.lt_of_lt_of_le hsr hk4.size
          obtain ⟨a', c', rfl⟩ : ∃ a' c', v' = .slice a' ((reachTo M k).length + 1) c' := by
            rcases hown'.2 with ⟨h1, h2⟩ | ⟨g, cp, cur, h1, -⟩
            · omega
            · exact ⟨_, _, h1⟩
          clear hown hgrow hk4 HM HB
          go_wp2
          go_roundw
          case rel =>
            have e5 := HSU.out
            have e6 : (reachTo M (k + 1)).length = (reachTo M k).length + 1 := by rw [e5]; simp
            refine ⟨k + 1, a', c', by omega, by go_num, by rw [e6], ?_, hm4, hb4, hs4⟩
            rw [e6, e5]
            simpa [icells] using hown'
          case measure => simp [intOf]; omega
      · rw [if_neg hm, List.append_nil] at hsu
        have hm' : mk M k = false := by simpa using hm
        rw [hm'] at cm
        have HSU := Lib.hid hsu
        have HO := Lib.hid hown
        have HB := Lib.hid hbelr
        have HM := Lib.hid hmr
        clear hm hm' hsu hown hbelr hmr
        have ib : (k : Int) < (ns.length : Int) := by omega
        go_wp2
        go_roundw
        case rel => exact ⟨k + 1, a, c, by omega, by go_num, by rw [HSU.out], by rw [HSU.out]; exact HO.out, HM.out, HB.out, hsr⟩
        case measure => simp [intOf]; omega
    · obtain rfl : k = ns.length := by omega
      go_wp2
      go_ret
      exact ⟨a, c, rfl, ownsRow_base hown (by omega), hbelr⟩
end
end Go.Proofs.YtiimdhmbbmkbfaaGreatDoor
