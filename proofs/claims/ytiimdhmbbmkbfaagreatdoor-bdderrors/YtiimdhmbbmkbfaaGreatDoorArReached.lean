/- reached. -/
import Derived.Test.YtiimdhmbbmkbfaaGreatDoorArMark
namespace Go.Proofs.YtiimdhmbbmkbfaaGreatDoor
open Go.RowKit Go.Maps

/-- The marks behind reached. -/
def marksOf (ns : List Nd) (fs : List Int) : List Bool := fs.foldl (fun m h => markF 24 ns h m) (List.replicate ns.length false)
theorem marksOf_length (ns : List Nd) (fs : List Int) : (marksOf ns fs).length = ns.length := by
  unfold marksOf
  have : ∀ (fs : List Int) (m : List Bool), (fs.foldl (fun m h => markF 24 ns h m) m).length = m.length := by
    intro fs
    induction fs with
    | nil => intro m; rfl
    | cons f fs ih => intro m; rw [List.foldl_cons, ih, markF_length]
  rw [this]; simp
theorem marksOf_take (ns : List Nd) (fs : List Int) (k : Nat) (h : k < fs.length) : marksOf ns (fs.take (k + 1)) = markF 24 ns fs[k] (marksOf ns (fs.take k)) := by
  unfold marksOf; rw [List.take_succ_eq_append_getElem h, List.foldl_append]; rfl

theorem ownsRow_base {w : World} {B B' e size n : Nat} {v : Value} {xs : List Value} (h : w.ownsRow B e size v n xs) (hB : B' ≤ B) : w.ownsRow B' e size v n xs := by
  refine ⟨h.1, ?_⟩
  rcases h.2 with h1 | ⟨g, cap, cur, h1, h2, h3⟩
  · exact .inl h1
  · exact .inr ⟨g, cap, cur, h1, Nat.le_trans hB h2, h3⟩

theorem infoBool : (Tryz.prog.info? 4).map (fun i => (i.zero, i.size, i.bytes)) = some (some (.bool false), 1, 1) := by kernel_rfl
theorem mcells_made (n : Nat) : (madeCells #[Value.bool false] n).toList = mcells (List.replicate n false) := by rw [toList_madeCells_one]; simp [mcells]

/-- A slice of ints that lies in memory. -/
structure IntsAt (w : World) (bf : Nat) (fs : List Int) : Prop where
  lt : bf < w.heap.size
  cells : ∀ i (h : i < fs.length), w.cell? ⟨bf, i, none⟩ = some (.int .i64 fs[i])
  ok : ∀ x ∈ fs, I64 x
theorem IntsAt.kept {S : Nat → Prop} {w w' : World} {bf : Nat} {fs : List Int} (h : IntsAt w bf fs) (hk : Kept S w w') (hn : ¬ S bf) : IntsAt w' bf fs :=
  ⟨Nat.lt_of_lt_of_le h.lt hk.size, fun i hi => (hk.cell (a := ⟨bf, i, none⟩) h.lt hn).trans (h.cells i hi), h.ok⟩

section
variable {B b bm : Nat} {v : Value} {ns : List Nd} {L : List (Nd × Int)} {room next : Int} {w : World}

set_option maxRecDepth 100000 in
set_option maxHeartbeats 4000000 in
theorem reached_any (hr : Ranked ns) (hl : ns.length ≤ 100000) (hA : ArenaAt B w b bm v ns L room next) (bf : Nat) {cp : Nat} (fs : List Int) (hF : IntsAt w bf fs) (hfl : fs.length ≤ 1000) (hB : B ≤ w.heap.size) :
    Calls Tryz.prog 63 #[.pointer (some ⟨b, 0, none⟩), .slice (some ⟨bf, 0, none⟩) fs.length cp] w fun e w' => e = .returned (.slice (some ⟨w.heap.size, 0, none⟩) ns.length ns.length) ∧ w'.ownsRow B 4 1 (.slice (some ⟨w.heap.size, 0, none⟩) ns.length ns.length) ns.length (mcells (marksOf ns fs)) ∧ Below w.heap.size w w' := by
  obtain ⟨a, cap, rfl, -⟩ := hA.form
  have hg : ¬ Own b bm (.slice a ns.length cap) w.heap.size := by
    obtain ⟨D, hD, -⟩ := hA.hmap
    have hbm := hD.lt
    have hlt := hA.lt
    rintro (h | h | h)
    · omega
    · omega
    · have := (hA.row.lt _ h).2; omega
  have cn := hA.cnodes
  obtain ⟨i0, hi, hz0, hz1, hz2⟩ := info_parts infoBool
  have HA := Lib.hid hA
  have HF := Lib.hid hF
  have HG := Lib.hid hg
  have HR := Lib.hid hr
  clear hA hF hg hr
  go_enter Tryz.func63, Tryz.ntmps63
  go_wp2_with (at_make; refine wpList_make_full _ rfl _ _ 42 rfl w.heap.size 4 i0 (.bool false) 1 Tryz.underlying42 hi hz0 hz1 .i64 .i64 _ _ ns.length rfl rfl ?c1 ?c2 ?c3 ?c4 ?c5 ?_)
  case c1 => rfl
  case c2 => rfl
  case c3 => rw [hz2]; omega
  case c4 => unfold maxLen; omega
  case c5 => omega
  intro w1 hown hgrow
  rw [mcells_made] at hown
  have hbel : Below w.heap.size w w1 := (Below.refl _ _).grown hgrow (Nat.le_refl _) (fun k hk => by cases hk)
  clear hgrow
  go_wp2_with fail
  go_loopw [7, 16] (fun _ i wr => ∃ k : Nat, k ≤ fs.length ∧ i = .int .i64 (k : Int) ∧ wr.ownsRow w.heap.size 4 1 (.slice (some ⟨w.heap.size, 0, none⟩) ns.length ns.length) ns.length (mcells (marksOf ns (fs.take k))) ∧ Below w.heap.size w wr)
    (fun _ i _ => fs.length - (intOf i).toNat)
  case atStart => exact ⟨0, Nat.zero_le _, rfl, hown, hbel⟩
  case round =>
    obtain ⟨k, hk, rfl, hownr, hbelr⟩ := hrel
    clear hown hbel
    by_cases hlt : k < fs.length
    · have ck := (hbelr.cell (p := ⟨bf, k, none⟩) HF.out.lt).trans (HF.out.cells k hlt)
      have HC : Hid (Calls Tryz.prog 84 #[.pointer (some ⟨b, 0, none⟩), .int .i64 fs[k], .slice (some ⟨w.heap.size, 0, none⟩) ns.length ns.length] wr fun e w' => e = .returned (.tuple #[]) ∧ w'.ownsRow w.heap.size 4 1 (.slice (some ⟨w.heap.size, 0, none⟩) ns.length ns.length) ns.length (mcells (marksOf ns (fs.take (k + 1)))) ∧ Kept (fun k => k = w.heap.size) wr w') := by
        have hr' := HR.out
        have := mark_any (B := B) (L := L) (room := room) (next := next) hr' hl HG.out 24 fs[k] (marksOf ns (fs.take k)) wr (HA.out.kept (Kept.of_below hbelr (fun _ => False)) (fun _ _ h => h)) (marksOf_length _ _) (ownsRow_base hownr hB) (HF.out.ok _ (List.getElem_mem hlt)) (by have := (topOf_le hr' fs[k]).1; omega)
        rw [← marksOf_take ns fs k hlt] at this
        refine this.mono ?_
        rintro e w' ⟨h1, h2, h3⟩
        refine ⟨h1, ⟨h2.1, ?_⟩, h3⟩
        rcases h2.2 with h4 | ⟨g, cp, cur, h4, h5⟩
        · exact .inl h4
        · refine .inr ⟨g, cp, cur, h4, ?_, h5.2⟩
          cases h4; exact Nat.le_refl _
      have HB := Lib.hid hbelr
      clear hownr hbelr
      generalize fs[k] = x at *
      go_wp2_with fail
      refine HC.out.mono ?_
      rintro e w2 ⟨rfl, hr2, hk2⟩
      have hb2 := HB.out.trans (hk2.below HB.out.size (fun i hi => by omega))
      clear HC hk2
      go_wp2
      go_roundw
      case rel => exact ⟨k + 1, by omega, by go_num, hr2, hb2⟩
      case measure => simp [intOf]; omega
    · obtain rfl : k = fs.length := by omega
      rw [List.take_length] at hownr
      go_wp2
      go_ret
      exact ⟨rfl, ownsRow_base hownr hB, hbelr⟩
end
end Go.Proofs.YtiimdhmbbmkbfaaGreatDoor
