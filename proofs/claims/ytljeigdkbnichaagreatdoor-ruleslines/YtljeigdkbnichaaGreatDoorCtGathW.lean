/- gather. -/
import Derived.Test.YtljeigdkbnichaaGreatDoorCtChkC
import Derived.Test.YtljeigdkbnichaaGreatDoorCtMap
import Derived.Test.YtljeigdkbnichaaGreatDoorCtFind
import Derived.Test.YtljeigdkbnichaaGreatDoorCtLine
import Derived.Deep.CutBlock
namespace Go.Proofs.YtljeigdkbnichaaGreatDoor
open Go.RowKit Go.Deep Go.Maps Sv

/-- Inside gather: the row of items, the names. -/
structure GS (w W : World) (bm : Nat) (itV : Value) (its nms : List It) : Prop where
  row : W.ownsRow w.heap.size 71 4 itV its.length (itCells its)
  nm : NamesAt W bm nms
  bmB : w.heap.size ≤ bm
  B : Below w.heap.size w W
theorem GS.step {w W W' : World} {bm : Nat} {itV : Value} {its nms : List It} (h : GS w W bm itV its nms) (hb : Below W.heap.size W W') : GS w W' bm itV its nms :=
  ⟨row_new' h.row hb, h.nm.below hb (Nat.le_refl _), h.bmB, h.B.trans (hb.mono h.B.size)⟩
theorem row_ne_map {W : World} {B t k n bm : Nat} {v : Value} {cs : List Value} {l : List It} (h : W.ownsRow B t k v n cs) (hn : NamesAt W bm l) : v.ownBlock ≠ some bm := by
  obtain ⟨D, ⟨es, clock, h1, _⟩, _⟩ := hn
  rcases h.2 with ⟨rfl, _⟩ | ⟨g, cap, cur, rfl, _, hg, _⟩
  · simp [Value.ownBlock]
  · intro e
    simp only [Value.ownBlock, Option.some.injEq] at e
    subst e
    rw [h1] at hg
    cases hg
theorem row_grown {W W' : World} {B t k n bm : Nat} {v : Value} {cs : List Value} (h : W.ownsRow B t k v n cs) (hg : W.grownBy W' (some bm)) (hne : v.ownBlock ≠ some bm) : W'.ownsRow B t k v n cs := by
  obtain ⟨h1, h2⟩ := h
  refine ⟨h1, ?_⟩
  rcases h2 with h2 | ⟨g, cap, cur, rfl, hB, hh, r⟩
  · exact Or.inl h2
  · exact Or.inr ⟨g, cap, cur, rfl, hB, (hg.block g (Array.getElem?_eq_some_iff.1 hh).1 (fun e => hne e)).trans hh, r⟩
theorem GS.put {w W : World} {bm : Nat} {itV : Value} {its nms : List It} (h : GS w W bm itV its nms) (hl : nms.length < 1000000) {x : It} (hs : x.name.size ≤ 100000) :
    ∃ W', (Instr.mapUpdate 195 (.map (some bm)) (.string x.name) (.agg #[])).run Tryz.prog W = .ok () W' ∧ GS w W' bm itV its (nms ++ [x]) ∧ (∀ b t cs, Blk W b t cs → Blk W' b t cs) := by
  obtain ⟨W', hrun, h1, h2⟩ := h.nm.put hl hs
  refine ⟨W', hrun, ⟨row_grown h.row h2 (row_ne_map h.row h.nm), h1, h.bmB, h.B.grown h2 h.B.size (fun k hk => by cases hk; exact h.bmB)⟩, fun b t cs hb => ?_⟩
  refine hb.kept h2 (fun e => ?_)
  obtain ⟨D, ⟨es, clock, h3, _⟩, _⟩ := h.nm
  cases e
  rw [show W.heap[bm]? = _ from hb] at h3
  cases h3
theorem GS.app {w W W' : World} {bm : Nat} {itV v' : Value} {its nms : List It} {x : It} (h : GS w W bm itV its nms) (hown : W'.ownsRow w.heap.size 71 4 v' (its.length + 1) (itCells its ++ encIt x)) (hg : W.grownBy W' itV.ownBlock) : GS w W' bm v' (its ++ [x]) nms := by
  refine ⟨?_, h.nm.block (hg.block bm h.nm.lt (fun e => row_ne_map h.row h.nm e.symm)), h.bmB, h.B.grown hg h.B.size (fun k hk => (h.row.lt k hk).1)⟩
  rw [itCells_append, List.length_append]
  simpa [itCells] using hown

theorem cell_four_new (w : World) (A B C D : Value) (t : TypeId) : ∀ (j : Nat) (u : Value), [A, B, C, D][j]? = some u → (w.alloc (.cells #[A, B, C, D] t)).cell? (Addr.add ⟨w.heap.size, 0, none⟩ j) = some u := by
  intro j u h
  match j, h with
  | 0, h => simp at h; subst h; simp [Addr.add]
  | 1, h => simp at h; subst h; simp [Addr.add]
  | 2, h => simp at h; subst h; simp [Addr.add]
  | 3, h => simp at h; subst h; simp [Addr.add]
  | j + 4, h => simp at h
/-- What gather gives. -/
def GaRes (w : World) (r : Except (Int × Nat) (List It)) (e : Ending) (w' : World) : Prop :=
  match r with
  | .ok its => ∃ v, e = .returned (.tuple #[v, .nilIface]) ∧ w'.ownsRow w.heap.size 71 4 v its.length (itCells its) ∧ Below w.heap.size w w'
  | .error (k, i) => ∃ N, e = .returned (.tuple #[.slice none 0 0, .iface 153 (.pointer (some ⟨N, 0, none⟩))]) ∧ Blk w' N 154 #[.int .i64 k, .int .i64 (i : Int)] ∧ Below w.heap.size w w'

theorem gathF_at {ls : List Ln} {i : Nat} (hi : i < ls.length) (its : List It) : gathF (ls.drop i) i its = (if ctCheck (ls.getD i default) ≠ 0 then .error (ctCheck (ls.getD i default), i)
    else if (ls.getD i default).kind = 1 then
      if (ls.getD i default).it ∈ its then .error (9, i)
      else if 8 < namesN (its ++ [(ls.getD i default).it]) ∨ its.length = 24 then .error (4, i)
      else gathF (ls.drop (i + 1)) (i + 1) (its ++ [(ls.getD i default).it])
    else gathF (ls.drop (i + 1)) (i + 1) its) := by
  rw [drop_cons (d := default) hi, gathF]
theorem check_name {x : Ln} (h : ctCheck x = 0) : x.name.size ≤ 12 := by
  unfold ctCheck at h
  split at h
  · cases h
  · split at h
    · cases h
    · rename_i h2
      by_cases hn : NameOk x.name
      · exact hn.len
      · exact absurd (Or.inl hn) h2
end Go.Proofs.YtljeigdkbnichaaGreatDoor

namespace Go.Proofs.YtljeigdkbnichaaGreatDoor
open Go.RowKit Go.Deep Go.Maps Sv

set_option maxRecDepth 100000 in
set_option maxHeartbeats 4000000 in
theorem gather_any (ls : List Ln) (lv : Value) (w : World) (h : LnsAt w lv ls) (hl : ls.length ≤ 100000) :
    Calls Tryz.prog 83 #[lv] w (GaRes w (gathF ls 0 [])) := by
  obtain ⟨R, hR⟩ : ∃ R, gathF ls 0 [] = R := ⟨_, rfl⟩
  rw [hR]
  have HR := Lib.hid hR
  have HL := Lib.hid h
  clear hR
  obtain ⟨la, lc, rfl, -⟩ : ∃ la lc, lv = .slice la ls.length lc ∧ True := by obtain ⟨vs, _, h2⟩ := h; obtain ⟨a, c, e, _⟩ := h2.form; exact ⟨a, c, e, trivial⟩
  clear h
  have hg0 : GS w (w.alloc (.map #[] 0)) w.heap.size (.slice none 0 0) [] [] := ⟨World.ownsRow_nil _ _ _ _, NamesAt.made w, Nat.le_refl _, (Below.refl _ w).alloc (Nat.le_refl _) _⟩
  have HG0 := Lib.hid hg0
  clear hg0
  obtain ⟨i0, hin, hz0, hz1, hz2⟩ := info_parts infoIt
  have hmm := @run_makeMap Tryz.prog
  go_enter Tryz.func83, Tryz.ntmps83
  go_wp2_with fail
  clear hmm
  go_loopw [4, 13] (fun itV iV wr => ∃ (i : Nat) (its : List It), i ≤ ls.length ∧ iV = .int .i64 (i : Int) ∧ its.length ≤ i ∧ gathF (ls.drop i) i its = R ∧ GS w wr w.heap.size itV its its) (fun _ iV _ => ls.length - (intOf iV).toNat)
  case atStart => exact ⟨0, [], Nat.zero_le _, rfl, Nat.le_refl _, by rw [List.drop_zero]; exact HR.out, HG0.out⟩
  case round =>
    obtain ⟨i, its, hi, rfl, hil, hga, hgs⟩ := hrel
    clear HR HG0
    obtain ⟨iva, ivc, rfl, -⟩ := (rowAt_own hgs.row).form
    by_cases hlt : i < ls.length
    · obtain ⟨g, cap', rv, e, hg, hsp, hrg, c0, c1, c2, c3, c4, c5, c6⟩ := (HL.out.below hgs.B (Nat.le_refl _)).at i hlt
      simp at e
      obtain ⟨rfl, rfl⟩ := e
      rw [gathF_at hlt] at hga
      have HGA := Lib.hid hga
      clear hga hrg
      generalize ls.getD i default = x at *
      have HSP := Lib.hid hsp
      obtain ⟨rra, rrc, rfl⟩ := hsp.form
      clear hsp
      have kx := Blk.new wr 76 #[.int .i64 x.kind, .string x.name, .int .i64 x.a, .int .i64 x.b, .int .i64 x.c, .string x.other, .slice rra x.rng.length rrc]
      have hbx : Below wr.heap.size wr (wr.alloc (.cells #[.int .i64 x.kind, .string x.name, .int .i64 x.a, .int .i64 x.b, .int .i64 x.c, .string x.other, .slice rra x.rng.length rrc] 76)) := (Below.refl _ _).alloc (Nat.le_refl _) _
      have HG1 : Hid (GS w (wr.alloc (.cells #[.int .i64 x.kind, .string x.name, .int .i64 x.a, .int .i64 x.b, .int .i64 x.c, .string x.other, .slice rra x.rng.length rrc] 76)) w.heap.size (.slice iva its.length ivc) its its) := hgs.step hbx
      have HCHK := Lib.hid (chk_any x (.slice rra x.rng.length rrc) (wr.alloc (.cells #[.int .i64 x.kind, .string x.name, .int .i64 x.a, .int .i64 x.b, .int .i64 x.c, .string x.other, .slice rra x.rng.length rrc] 76)) (HSP.out.below hbx (Nat.le_refl _)))
      have HNM : Hid (ctCheck x = 0 → x.name.size ≤ 12) := check_name
      clear hgs hbx HSP
      go_upto_region 6 with fail
      clear c0 c1 c2 c3 c4 c5 c6
      generalize wr.alloc (.cells #[.int .i64 x.kind, .string x.name, .int .i64 x.a, .int .i64 x.b, .int .i64 x.c, .string x.other, .slice rra x.rng.length rrc] 76) = W1 at *
      generalize wr.heap.size = bx at *
      have d0 : W1.cell? ⟨bx, 0, none⟩ = some (.int .i64 x.kind) := kx.cell 0
      have d1 : W1.cell? ⟨bx, 1, none⟩ = some (.string x.name) := kx.cell 1
      have d2 : W1.cell? ⟨bx, 2, none⟩ = some (.int .i64 x.a) := kx.cell 2
      have d3 : W1.cell? ⟨bx, 3, none⟩ = some (.int .i64 x.b) := kx.cell 3
      have d4 : W1.cell? ⟨bx, 4, none⟩ = some (.int .i64 x.c) := kx.cell 4
      have d5 : W1.cell? ⟨bx, 5, none⟩ = some (.string x.other) := kx.cell 5
      have d6 : W1.cell? ⟨bx, 6, none⟩ = some (.slice rra x.rng.length rrc) := kx.cell 6
      go_wp2_with fail
      clear d0 d1 d2 d3 d4 d5 d6
      refine HCHK.out.mono ?_
      rintro e w2 ⟨rfl, hb2⟩
      have kx2 := kx.below hb2 kx.lt
      have HG2 := Lib.hid (HG1.out.step hb2)
      clear HCHK hb2 kx HG1
      by_cases hz : ctCheck x = 0
      · have hnm := HNM.out hz
        rw [hz] at HGA ⊢
        rw [if_neg (by simp)] at HGA
        clear hz HNM
        by_cases hk : x.kind = 1
        · rw [if_pos hk] at HGA
          have d0 : w2.cell? ⟨bx, 0, none⟩ = some (.int .i64 x.kind) := kx2.cell 0
          have d1 : w2.cell? ⟨bx, 1, none⟩ = some (.string x.name) := kx2.cell 1
          have d2 : w2.cell? ⟨bx, 2, none⟩ = some (.int .i64 x.a) := kx2.cell 2
          have d3 : w2.cell? ⟨bx, 3, none⟩ = some (.int .i64 x.b) := kx2.cell 3
          have d4 : w2.cell? ⟨bx, 4, none⟩ = some (.int .i64 x.c) := kx2.cell 4
          have d5 : w2.cell? ⟨bx, 5, none⟩ = some (.string x.other) := kx2.cell 5
          have d6 : w2.cell? ⟨bx, 6, none⟩ = some (.slice rra x.rng.length rrc) := kx2.cell 6
          rw [hk] at d0
          have ki := Blk.new w2 71 #[.string x.name, .int .i64 x.a, .int .i64 x.b, .int .i64 x.c]
          have hbi : Below w2.heap.size w2 (w2.alloc (.cells #[.string x.name, .int .i64 x.a, .int .i64 x.b, .int .i64 x.c] 71)) := (Below.refl _ _).alloc (Nat.le_refl _) _
          have HG3 := Lib.hid (HG2.out.step hbi)
          have kx3 := kx2.below hbi kx2.lt
          clear hbi HG2 kx2
          go_upto_region 9 with fail
          clear d0 d1 d2 d3 d4 d5 d6
          generalize w2.alloc (.cells #[.string x.name, .int .i64 x.a, .int .i64 x.b, .int .i64 x.c] 71) = W3 at *
          generalize w2.heap.size = bi at *
          obtain ⟨w4, hrun, hgs4, hkeep⟩ := HG3.out.put (by omega) (x := x.it) (show x.name.size ≤ 100000 by omega)
          have hrun' : (Instr.mapUpdate 195 (.map (some w.heap.size)) (.string x.name) (.agg #[])).run Tryz.prog W3 = .ok () w4 := hrun
          have ki4 := hkeep _ _ _ ki
          have kx4 := hkeep _ _ _ kx3
          have HG4 := Lib.hid hgs4
          clear hrun hgs4 hkeep HG3
          have d1 : W3.cell? ⟨bx, 1, none⟩ = some (.string x.name) := kx3.cell 1
          go_upto_region 10 with fail
          clear d1 hrun' ki kx3
          have hm0 := has_item its x.it (.slice iva its.length ivc) w4 (rowAt_own HG4.out.row) (by omega)
          by_cases hm : x.it ∈ its
          · rw [if_pos hm] at HGA
            have HHAS : Hid (Calls Tryz.prog 123 #[.slice iva its.length ivc, .agg #[.string x.name, .int .i64 x.a, .int .i64 x.b, .int .i64 x.c]] w4 fun e w' => e = .returned (.bool true) ∧ Below w4.heap.size w4 w') := by have h := hm0; rw [decide_eq_true hm] at h; exact h
            clear hm hm0
            have e0 : w4.cell? ⟨bi, 0, none⟩ = some (.string x.name) := ki4.cell 0
            have e1 : w4.cell? ⟨bi, 1, none⟩ = some (.int .i64 x.a) := ki4.cell 1
            have e2 : w4.cell? ⟨bi, 2, none⟩ = some (.int .i64 x.b) := ki4.cell 2
            have e3 : w4.cell? ⟨bi, 3, none⟩ = some (.int .i64 x.c) := ki4.cell 3
            go_wp2_with fail
            clear e0 e1 e2 e3
            refine HHAS.out.mono ?_
            rintro e w5 ⟨rfl, hb5⟩
            have ki5 := ki4.below hb5 ki4.lt
            have HG5 := Lib.hid (HG4.out.step hb5)
            clear HHAS hb5 ki4 HG4 kx4
            have f0 : w5.cell? ⟨bi, 0, none⟩ = some (.string x.name) := ki5.cell 0
            have f1 : w5.cell? ⟨bi, 1, none⟩ = some (.int .i64 x.a) := ki5.cell 1
            have f2 : w5.cell? ⟨bi, 2, none⟩ = some (.int .i64 x.b) := ki5.cell 2
            have f3 : w5.cell? ⟨bi, 3, none⟩ = some (.int .i64 x.c) := ki5.cell 3
            have HROW := Lib.hid HG5.out.row
            have HGA5 := Lib.hid (HG5.out.step ((Below.refl _ w5).alloc (Nat.le_refl _) (.cells #[.string x.name, .int .i64 x.a, .int .i64 x.b, .int .i64 x.c] 71)))
            have hws := HG5.out.B.size
            go_wp2_with (at_builtin; refine wpList_append_own_at _ rfl _ _ 64 rfl w.heap.size 71 i0 (.agg #[.string ⟨#[]⟩, .int .i64 0, .int .i64 0, .int .i64 0]) 4 40 Tryz.underlying64 hin hz0 hz1 hz2 rfl (by decide) _ _ _ rfl (HROW.out.alloc _) ⟨w5.heap.size, 0, none⟩ 1 1 [.string x.name, .int .i64 x.a, .int .i64 x.b, .int .i64 x.c] rfl rfl ?c1a ?c2a ?c3a ?c4a ?c5a ?_)
            case c1a => exact cell_four_new _ _ _ _ _ _
            case c2a => intro u hu; simp at hu; rcases hu with rfl | rfl | rfl | rfl <;> rfl
            case c3a => unfold maxLen; omega
            case c4a => omega
            case c5a => simp; omega
            intro v7 w7 hown7 hgrow7 _ hloc7
            have HG7 : Hid (GS w w7 w.heap.size v7 (its ++ [x.it]) (its ++ [x.it])) := HGA5.out.app hown7 hgrow7
            clear hown7 hgrow7 hloc7 HGA5 HROW f0 f1 f2 f3 hws
            have HBF : Hid (Below w.heap.size w (w7.alloc (.cells #[.int .i64 9, .int .i64 (i : Int)] 154))) := HG7.out.B.alloc HG7.out.B.size _
            have HKF : Hid (Blk (w7.alloc (.cells #[.int .i64 9, .int .i64 (i : Int)] 154)) w7.heap.size 154 #[.int .i64 9, .int .i64 (i : Int)]) := Blk.new _ _ _
            clear HG7
            go_wp2
            go_ret2
            rw [← HGA.out]
            exact ⟨_, rfl, HKF.out, HBF.out⟩
          · rw [if_neg hm] at HGA
            have HHAS : Hid (Calls Tryz.prog 123 #[.slice iva its.length ivc, .agg #[.string x.name, .int .i64 x.a, .int .i64 x.b, .int .i64 x.c]] w4 fun e w' => e = .returned (.bool false) ∧ Below w4.heap.size w4 w') := by have h := hm0; rw [decide_eq_false hm] at h; exact h
            clear hm hm0
            have e0 : w4.cell? ⟨bi, 0, none⟩ = some (.string x.name) := ki4.cell 0
            have e1 : w4.cell? ⟨bi, 1, none⟩ = some (.int .i64 x.a) := ki4.cell 1
            have e2 : w4.cell? ⟨bi, 2, none⟩ = some (.int .i64 x.b) := ki4.cell 2
            have e3 : w4.cell? ⟨bi, 3, none⟩ = some (.int .i64 x.c) := ki4.cell 3
            go_wp2_with fail
            clear e0 e1 e2 e3
            refine HHAS.out.mono ?_
            rintro e w5 ⟨rfl, hb5⟩
            have ki5 := ki4.below hb5 ki4.lt
            have HG5 := Lib.hid (HG4.out.step hb5)
            clear HHAS hb5 ki4 HG4 kx4
            have hlenN := fun ty => HG5.out.nm.len ty
            generalize hN : namesN (its ++ [x.it]) = N at *
            clear hN
            by_cases h8 : 8 < N
            · rw [if_pos (Or.inl h8)] at HGA
              have h8' : (8 : Int) < (N : Int) := by omega
              have f0 : w5.cell? ⟨bi, 0, none⟩ = some (.string x.name) := ki5.cell 0
              have f1 : w5.cell? ⟨bi, 1, none⟩ = some (.int .i64 x.a) := ki5.cell 1
              have f2 : w5.cell? ⟨bi, 2, none⟩ = some (.int .i64 x.b) := ki5.cell 2
              have f3 : w5.cell? ⟨bi, 3, none⟩ = some (.int .i64 x.c) := ki5.cell 3
              have HROW := Lib.hid HG5.out.row
              have HGA5 := Lib.hid (HG5.out.step ((Below.refl _ w5).alloc (Nat.le_refl _) (.cells #[.string x.name, .int .i64 x.a, .int .i64 x.b, .int .i64 x.c] 71)))
              have hws := HG5.out.B.size
              go_wp2_with (at_builtin; refine wpList_append_own_at _ rfl _ _ 64 rfl w.heap.size 71 i0 (.agg #[.string ⟨#[]⟩, .int .i64 0, .int .i64 0, .int .i64 0]) 4 40 Tryz.underlying64 hin hz0 hz1 hz2 rfl (by decide) _ _ _ rfl (HROW.out.alloc _) ⟨w5.heap.size, 0, none⟩ 1 1 [.string x.name, .int .i64 x.a, .int .i64 x.b, .int .i64 x.c] rfl rfl ?c1b ?c2b ?c3b ?c4b ?c5b ?_)
              case c1b => exact cell_four_new _ _ _ _ _ _
              case c2b => intro u hu; simp at hu; rcases hu with rfl | rfl | rfl | rfl <;> rfl
              case c3b => unfold maxLen; omega
              case c4b => omega
              case c5b => simp; omega
              intro v7 w7 hown7 hgrow7 _ hloc7
              have HG7 : Hid (GS w w7 w.heap.size v7 (its ++ [x.it]) (its ++ [x.it])) := HGA5.out.app hown7 hgrow7
              clear hown7 hgrow7 hloc7 HGA5 HROW f0 f1 f2 f3 hws
              have HBF : Hid (Below w.heap.size w (w7.alloc (.cells #[.int .i64 4, .int .i64 (i : Int)] 154))) := HG7.out.B.alloc HG7.out.B.size _
              have HKF : Hid (Blk (w7.alloc (.cells #[.int .i64 4, .int .i64 (i : Int)] 154)) w7.heap.size 154 #[.int .i64 4, .int .i64 (i : Int)]) := Blk.new _ _ _
              clear HG7
              go_wp2
              go_ret2
              rw [← HGA.out]
              exact ⟨_, rfl, HKF.out, HBF.out⟩
            · have h8' : ¬ (8 : Int) < (N : Int) := by omega
              by_cases h24 : its.length = 24
              · rw [if_pos (Or.inr h24)] at HGA
                have hq : ((its.length : Int) == 24) = true := by rw [h24]; rfl
                clear h24
                have f0 : w5.cell? ⟨bi, 0, none⟩ = some (.string x.name) := ki5.cell 0
                have f1 : w5.cell? ⟨bi, 1, none⟩ = some (.int .i64 x.a) := ki5.cell 1
                have f2 : w5.cell? ⟨bi, 2, none⟩ = some (.int .i64 x.b) := ki5.cell 2
                have f3 : w5.cell? ⟨bi, 3, none⟩ = some (.int .i64 x.c) := ki5.cell 3
                have HROW := Lib.hid HG5.out.row
                have HGA5 := Lib.hid (HG5.out.step ((Below.refl _ w5).alloc (Nat.le_refl _) (.cells #[.string x.name, .int .i64 x.a, .int .i64 x.b, .int .i64 x.c] 71)))
                have hws := HG5.out.B.size
                go_wp2_with (at_builtin; refine wpList_append_own_at _ rfl _ _ 64 rfl w.heap.size 71 i0 (.agg #[.string ⟨#[]⟩, .int .i64 0, .int .i64 0, .int .i64 0]) 4 40 Tryz.underlying64 hin hz0 hz1 hz2 rfl (by decide) _ _ _ rfl (HROW.out.alloc _) ⟨w5.heap.size, 0, none⟩ 1 1 [.string x.name, .int .i64 x.a, .int .i64 x.b, .int .i64 x.c] rfl rfl ?c1c ?c2c ?c3c ?c4c ?c5c ?_)
                case c1c => exact cell_four_new _ _ _ _ _ _
                case c2c => intro u hu; simp at hu; rcases hu with rfl | rfl | rfl | rfl <;> rfl
                case c3c => unfold maxLen; omega
                case c4c => omega
                case c5c => simp; omega
                intro v7 w7 hown7 hgrow7 _ hloc7
                have HG7 : Hid (GS w w7 w.heap.size v7 (its ++ [x.it]) (its ++ [x.it])) := HGA5.out.app hown7 hgrow7
                clear hown7 hgrow7 hloc7 HGA5 HROW f0 f1 f2 f3 hws
                have HBF : Hid (Below w.heap.size w (w7.alloc (.cells #[.int .i64 4, .int .i64 (i : Int)] 154))) := HG7.out.B.alloc HG7.out.B.size _
                have HKF : Hid (Blk (w7.alloc (.cells #[.int .i64 4, .int .i64 (i : Int)] 154)) w7.heap.size 154 #[.int .i64 4, .int .i64 (i : Int)]) := Blk.new _ _ _
                clear HG7
                go_wp2
                go_ret2
                rw [← HGA.out]
                exact ⟨_, rfl, HKF.out, HBF.out⟩
              · rw [if_neg (fun h => h.elim h8 h24)] at HGA
                have hq : ((its.length : Int) == 24) = false := by rw [beq_eq_false_iff_ne]; omega
                clear h24
                have f0 : w5.cell? ⟨bi, 0, none⟩ = some (.string x.name) := ki5.cell 0
                have f1 : w5.cell? ⟨bi, 1, none⟩ = some (.int .i64 x.a) := ki5.cell 1
                have f2 : w5.cell? ⟨bi, 2, none⟩ = some (.int .i64 x.b) := ki5.cell 2
                have f3 : w5.cell? ⟨bi, 3, none⟩ = some (.int .i64 x.c) := ki5.cell 3
                have HROW := Lib.hid HG5.out.row
                have HGA5 := Lib.hid (HG5.out.step ((Below.refl _ w5).alloc (Nat.le_refl _) (.cells #[.string x.name, .int .i64 x.a, .int .i64 x.b, .int .i64 x.c] 71)))
                have hws := HG5.out.B.size
                go_wp2_with (at_builtin; refine wpList_append_own_at _ rfl _ _ 64 rfl w.heap.size 71 i0 (.agg #[.string ⟨#[]⟩, .int .i64 0, .int .i64 0, .int .i64 0]) 4 40 Tryz.underlying64 hin hz0 hz1 hz2 rfl (by decide) _ _ _ rfl (HROW.out.alloc _) ⟨w5.heap.size, 0, none⟩ 1 1 [.string x.name, .int .i64 x.a, .int .i64 x.b, .int .i64 x.c] rfl rfl ?c1d ?c2d ?c3d ?c4d ?c5d ?_)
                case c1d => exact cell_four_new _ _ _ _ _ _
                case c2d => intro u hu; simp at hu; rcases hu with rfl | rfl | rfl | rfl <;> rfl
                case c3d => unfold maxLen; omega
                case c4d => omega
                case c5d => simp; omega
                intro v7 w7 hown7 hgrow7 _ hloc7
                have HG7 : Hid (GS w w7 w.heap.size v7 (its ++ [x.it]) (its ++ [x.it])) := HGA5.out.app hown7 hgrow7
                clear hown7 hgrow7 hloc7 HGA5 HROW f0 f1 f2 f3 hws
                go_wp2
                go_roundw
                case rel => exact ⟨i + 1, its ++ [x.it], by omega, by go_num, by simp; omega, HGA.out, HG7.out⟩
                case measure => simp [intOf]; omega
        · rw [if_neg hk] at HGA
          have hk2 : (x.kind == 1) = false := by simpa using hk
          have d0 : w2.cell? ⟨bx, 0, none⟩ = some (.int .i64 x.kind) := kx2.cell 0
          clear kx2 hk
          go_wp2
          go_roundw
          case rel => exact ⟨i + 1, its, by omega, by go_num, by omega, HGA.out, HG2.out⟩
          case measure => simp [intOf]; omega
      · have hz2 : (ctCheck x == 0) = false := by simpa using hz
        rw [if_pos hz] at HGA
        generalize ctCheck x = E at *
        have HBF : Hid (Below w.heap.size w (w2.alloc (.cells #[.int .i64 E, .int .i64 (i : Int)] 154))) := HG2.out.B.alloc HG2.out.B.size _
        have HKF : Hid (Blk (w2.alloc (.cells #[.int .i64 E, .int .i64 (i : Int)] 154)) w2.heap.size 154 #[.int .i64 E, .int .i64 (i : Int)]) := Blk.new _ _ _
        clear HG2 kx2 hz HNM
        go_wp2
        go_ret2
        rw [← HGA.out]
        exact ⟨_, rfl, HKF.out, HBF.out⟩
    · obtain rfl : i = ls.length := by omega
      have hga2 : R = .ok its := by rw [← hga, List.drop_length, gathF]
      have HGA := Lib.hid hga2
      have HGS := Lib.hid hgs
      clear hga hga2 hgs
      go_wp2
      go_ret2
      rw [HGA.out]
      exact ⟨_, rfl, HGS.out.row, HGS.out.B⟩
end Go.Proofs.YtljeigdkbnichaaGreatDoor
