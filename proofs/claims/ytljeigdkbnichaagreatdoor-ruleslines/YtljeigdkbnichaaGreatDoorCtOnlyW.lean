/- Only, the walk. -/
import Derived.Test.YtljeigdkbnichaaGreatDoorCtOnly
namespace Go.Proofs.YtljeigdkbnichaaGreatDoor
open Go.RowKit Go.Deep Sv

set_option maxRecDepth 100000 in
set_option maxHeartbeats 4000000 in
theorem only_c (B : Nat) (n : Int) (P : List (Int × List Int)) (cv fv : Value) (bs : List Bool) (la : Option Addr) (lc : Nat) (w : World) (hr : RS B w cv fv (P.map Prod.snd) (P.map Prod.fst)) (hb : BoolsIn w la bs) (hP : P.length ≤ 10000) (hc : ∀ x ∈ P, x.2.length ≤ 1000) :
    Calls Tryz.prog 53 #[.agg #[.int .i64 n, cv, fv], .slice la bs.length lc] w fun e w' => ∃ v', e = .returned v' ∧ CO w.heap.size w' v' (ctOnly P bs) ∧ Below w.heap.size w w' := by
  obtain ⟨ca, cc, rfl, -⟩ : ∃ a c, cv = .slice a P.length c ∧ True := by obtain ⟨cs, h1, _⟩ := hr.crow; obtain ⟨a, c, e, _⟩ := (rowAt_own h1).form; exact ⟨a, c, by simpa using e, trivial⟩
  obtain ⟨fa, fc, rfl, -⟩ : ∃ a c, fv = .slice a P.length c ∧ True := by obtain ⟨a, c, e, _⟩ := (rowAt_own hr.frow).form; exact ⟨a, c, by simpa using e, trivial⟩
  obtain ⟨ic, hic, hc0', hc1', hc2'⟩ := info_parts infoCls
  have hb1 := below_new w (.cells #[.int .i64 n, .slice ca P.length cc, .slice fa P.length fc] 97)
  have hb2 := below_new (w.alloc (.cells #[.int .i64 n, .slice ca P.length cc, .slice fa P.length fc] 97)) (.cells #[.slice la bs.length lc] 90)
  have k2 := (Blk.new w 97 #[.int .i64 n, .slice ca P.length cc, .slice fa P.length fc]).alloc (.cells #[.slice la bs.length lc] 90)
  have k3 := Blk.new (w.alloc (.cells #[.int .i64 n, .slice ca P.length cc, .slice fa P.length fc] 97)) 90 #[.slice la bs.length lc]
  rw [World.size_alloc] at k3
  have hbb := hb1.trans (hb2.mono hb1.size)
  have HR := Lib.hid ((hr.new hb1).new hb2)
  have HBO := Lib.hid (hb.below hbb (Nat.le_refl _))
  have HBB := Lib.hid hbb
  have HC := Lib.hid hc
  have HEND : Hid (onlyP P bs P.length = ctOnly P bs) := by show _ = _; unfold onlyP; rw [List.take_length]
  generalize ctOnly P bs = RES at *
  clear hb1 hb2 hr hb hbb hc
  go_enter Tryz.func53, Tryz.ntmps53
  go_upto_region 1 with fail
  generalize (w.alloc (.cells #[.int .i64 n, .slice ca P.length cc, .slice fa P.length fc] 97)).alloc (.cells #[.slice la bs.length lc] 90) = W0 at *
  have c1 : W0.cell? ⟨w.heap.size, 1, none⟩ = some (.slice ca P.length cc) := k2.cell 1
  go_wp2_with fail
  go_loopw [6, 13] (fun oV iV wr => ∃ (i : Nat), i ≤ P.length ∧ iV = .int .i64 (i : Int) ∧ CO W0.heap.size wr oV (onlyP P bs i) ∧ Below W0.heap.size W0 wr) (fun _ iV _ => P.length - (intOf iV).toNat)
  case atStart => exact ⟨0, Nat.zero_le _, rfl, ⟨[], World.ownsRow_nil _ _ _ _, ClsK.nil⟩, Below.refl _ _⟩
  case round =>
    obtain ⟨i, hil, rfl, hco, hbw⟩ := hrel
    obtain ⟨ca0, cc0, rfl, -⟩ : ∃ a c, _ = Value.slice a (onlyP P bs i).length c ∧ True := by obtain ⟨cs, h1, _⟩ := hco; obtain ⟨a, c, e, _⟩ := (rowAt_own h1).form; exact ⟨a, c, e, trivial⟩
    by_cases hlt : i < P.length
    · obtain ⟨cg, cc', fg, fc', a, cap, e1, e2, q1, q2, q3, q4⟩ := (HR.out.new hbw).at i hlt
      simp at e1 e2
      obtain ⟨rfl, rfl⟩ := e1
      obtain ⟨rfl, rfl⟩ := e2
      have HSU := Lib.hid (onlyP_succ P bs i hlt)
      have hxl := HC.out (P.getD i default) (by rw [List.getD_eq_getElem?_getD, List.getElem?_eq_getElem hlt]; exact List.getElem_mem hlt)
      have hol := onlyP_len P bs i
      have k2' := k2.below hbw k2.lt
      have k3' := k3.below hbw k3.lt
      have d2 : wr.cell? ⟨w.heap.size, 2, none⟩ = some (.slice (some ⟨fg, 0, none⟩) P.length fc) := k2'.cell 2
      have d3 : wr.cell? ⟨w.heap.size + 1, 0, none⟩ = some (.slice la bs.length lc) := k3'.cell 0
      obtain ⟨f, hfe⟩ : ∃ f, (P.getD i default).1 = f := ⟨_, rfl⟩
      obtain ⟨c, hce⟩ : ∃ c, (P.getD i default).2 = c := ⟨_, rfl⟩
      rw [hfe] at q2
      rw [hce] at q1 q3 hxl
      rw [hfe, hce] at HSU
      have HTO := Lib.hid (told_c (w.heap.size + 1) la bs lc f wr d3 (HBO.out.below hbw (Nat.le_refl _)))
      have HCL := Lib.hid (clone_cl c a cap wr q4 q3 (by omega) (fun e => by cases c with | nil => rfl | cons y c => obtain ⟨ad, h, _⟩ := q3 0 (by simp); rw [e] at h; cases h))
      have HCO := Lib.hid hco
      have HBW := Lib.hid hbw
      have hws := hbw.size
      have hii0 : (0 : Int) ≤ (i : Int) := by omega
      have hii1 : (i : Int) < (P.length : Int) := by omega
      clear hfe hce q3 q4 k2' k3' hco hbw d3
      cases htd : ctTold bs f with
      | true =>
        rw [htd] at HTO HSU
        go_wp2_with fail
        refine HTO.out.mono ?_
        rintro e w' ⟨rfl, hw'⟩
        rw [hw']
        clear hw'
        clear w'
        clear HTO q1 q2 d2
        go_wp2_with fail
        refine HCL.out.mono ?_
        rintro e w4 ⟨a', cap', rfl, t1, t2, t3, hb4⟩
        obtain ⟨cs, hrow, hck⟩ := HCO.out.new hb4
        have HROW := Lib.hid hrow
        have HCK := Lib.hid hck
        have HT3 := Lib.hid t3
        have HB4 := Lib.hid hb4
        have hs4 := hb4.size
        clear HCL HCO hrow hck t3 hb4
        go_wp2_with (at_builtin; refine wpList_append_own_at _ rfl _ _ 93 rfl W0.heap.size 175 ic (.slice none 0 0) 1 24 Tryz.underlying93 hic hc0' hc1' hc2' rfl (by decide) _ _ _ rfl (HROW.out.alloc _) ⟨w4.heap.size, 0, none⟩ 1 1 [.slice a' c.length cap'] rfl rfl ?c1 ?c2 ?c3 ?c4 ?c5 ?_)
        case c1 => exact clit _ _ _
        case c2 => intro u hu; rw [List.mem_singleton] at hu; subst hu; rfl
        case c3 => unfold maxLen; omega
        case c4 => omega
        case c5 => simp; omega
        intro v7 w7 hown7 hgrow7 _ hloc7
        obtain ⟨hco7, hb7⟩ := CO.app (by omega) HROW.out HCK.out t1 t2 HT3.out hown7 hgrow7
        have HC7 : Hid (CO W0.heap.size w7 v7 (onlyP P bs (i + 1))) := by show CO _ _ _ _; rw [HSU.out, if_pos (by simp)]; exact hco7
        have HB7 : Hid (Below W0.heap.size W0 w7) := (HBW.out.trans (HB4.out.mono hws)).trans hb7
        clear hown7 hgrow7 hloc7 hco7 hb7 HROW HCK HT3 HB4 HSU
        go_wp2
        go_roundw
        case rel => exact ⟨i + 1, hlt, by go_num, HC7.out, HB7.out⟩
        case measure => simp [intOf]; omega
      | false =>
        rw [htd] at HTO HSU
        go_wp2_with fail
        refine HTO.out.mono ?_
        rintro e w' ⟨rfl, hw'⟩
        rw [hw']
        clear hw'
        clear w'
        have HC7 : Hid (CO W0.heap.size wr (.slice ca0 (onlyP P bs i).length cc0) (onlyP P bs (i + 1))) := by show CO _ _ _ _; rw [HSU.out, if_neg (by simp), List.append_nil]; exact HCO.out
        clear HTO q1 q2 d2 HCL HCO HSU
        go_wp2
        go_roundw
        case rel => exact ⟨i + 1, hlt, by go_num, HC7.out, HBW.out⟩
        case measure => simp [intOf]; omega
    · obtain rfl : i = P.length := by omega
      have HCO := Lib.hid hco
      have HBW := Lib.hid hbw
      clear hco hbw
      go_wp2
      go_ret
      obtain ⟨cs, g1, g2⟩ := HCO.out
      rw [← HEND.out]
      exact ⟨_, rfl, ⟨cs, ownsRow_base g1 HBB.out.size, g2⟩, HBB.out.trans (HBW.out.mono HBB.out.size)⟩
end Go.Proofs.YtljeigdkbnichaaGreatDoor
