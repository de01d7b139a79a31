/- Reach. -/
import Derived.Test.YtcjjekhecjmaeaaGreatDoorQuads
import Derived.Test.YtcjjekhecjmaeaaGreatDoorImBitP
import Derived.Test.YtcjjekhecjmaeaaGreatDoorArPairs
set_option maxHeartbeats 4000000
set_option maxRecDepth 100000
namespace Go.Proofs.YtcjjekhecjmaeaaGreatDoor
section
open Go.RowKit Go.Maps
section
variable {ns : List Nd}
theorem marks_top (hr : Ranked ns) (h : Int) : MarkedOr ns (marksOf ns [h]) h :=
 (markF_closed hr 24 h (List.replicate ns.length false) (by simp) (by have := (topOf_le hr h).1; omega)).1
theorem post_marked (hr : Ranked ns) {M : List Bool} (hc : ∀ i, i < ns.length -> mk M i = true -> MarkedOr ns M (nd ns i).l /\ MarkedOr ns M (nd ns i).h) : ∀ (d : Nat) (h : Int) (D : List Int), MarkedOr ns M h -> (∀ x ∈ D, mk M (pl x) = true) -> ∀ x ∈ postF ns d h D, mk M (pl x) = true
 | 0, _, _, _, hD => hD
 | d + 1, h, D, hm, hD => by
  intro x hx
  unfold postF at hx
  split at hx
  ·exact hD x hx
  ·rename_i c
   have ht : topOf ns h ≠ 24 := fun e => c (.inl e)
   have hmk : mk M (pl h) = true := hm.resolve_left ht
   obtain ⟨n1, n2, -⟩ := node_at ht
   have hk := hc _ n2 hmk
   rcases List.mem_append.1 hx with hx | hx
   ·exact post_marked hr hc d _ _ hk.2 (post_marked hr hc d _ _ hk.1 hD) x hx
   ·rw [List.mem_singleton] at hx; subst hx; exact hmk
theorem all_reached (hF : FullN ns) {h : Int} (hh : hasB ns h = true) (hn : (postF ns 25 h []).length = ns.length) : taken (swept ns (marksOf ns [h])) = taken ns := by
 have hr := hF.ranked
 obtain ⟨hD, -, -⟩ := post_ok hr 25 h [] ⟨fun x hx => (by cases hx), List.nodup_nil, fun x hx => (by cases hx)⟩ hh (by have := (topOf_le hr h).1; omega)
 have hm := post_marked hr (marksOf_closed hr [h]) 25 h [] (marks_top hr h) (fun x hx => by cases hx)
 have hall : ∀ i, i < ns.length -> mk (marksOf ns [h]) i = true := fun i hi => by
  by_cases hc : (2 + (i : Int)) ∈ postF ns 25 h []
  ·have := hm _ hc
   have e : pl (2 + (i : Int)) = i := by unfold pl; omega
   rwa [e] at this
  ·exfalso
   have hnd : ((2 + (i : Int)) :: postF ns 25 h []).Nodup := List.nodup_cons.2 ⟨hc, hD.nodup⟩
   have := hnd.length_le_of_subset (l₂ := (List.range ns.length).map (fun i : Nat => 2 + (i : Int))) (fun x hx => by
    rcases List.mem_cons.1 hx with rfl | hx
    ·exact List.mem_map.2 ⟨i, List.mem_range.2 hi, rfl⟩
    ·obtain ⟨h1, h2, -, h4⟩ := node_at (hD.node x hx)
     exact List.mem_map.2 ⟨pl x, List.mem_range.2 h2, h4.symm⟩)
   simp at this
   omega
 unfold taken
 rw [swept_length]
 refine List.filter_congr fun i hi => ?_
 have hi' := List.mem_range.1 hi
 rw [swept_at ns _ i hi', if_pos (hall i hi')]
end
theorem itoa_nat (n : Nat) : Lib.itoa (n : Int) = Lib.decDigits n := by unfold Lib.itoa; rw [if_neg (by omega)]; simp
theorem dec_no (n : Nat) {b : UInt8} (hb : b.toNat < 48 \/ 57 < b.toNat) : b ∉ Lib.decDigits n := fun h => by
 have := (dec_val n).2 b h
 omega
theorem told3 (a b c : Nat) : toldF [(a : Int), (b : Int), (c : Int)] = Lib.decDigits a ++ 32 :: (Lib.decDigits b ++ 32 :: Lib.decDigits c) := by
 simp [toldF, Lib.join, itoa_nat]
theorem told3_no (a b c : Nat) : (10 : UInt8) ∉ toldF [(a : Int), (b : Int), (c : Int)] := by
 rw [told3]
 have h1 := dec_no a (b := 10) (.inl (by decide))
 have h2 := dec_no b (b := 10) (.inl (by decide))
 have h3 := dec_no c (b := 10) (.inl (by decide))
 simp [h1, h2, h3]
theorem told1_no (a : Nat) : (10 : UInt8) ∉ toldF [(a : Int)] := told_no' a
 where told_no' (a : Nat) : (10 : UInt8) ∉ toldF [(a : Int)] := by rw [told_nat]; exact dec_no a (.inl (by decide))
theorem numD_nat {D : List Int} {x : Int} (hi : InD D x) : ∃ n : Nat, numD D x = (n : Int) := ⟨(numD D x).toNat, by have := (numD_bd hi).1; omega⟩
section
variable {ns : List Nd} {D : List Int} {vars : Nat} {h : Int}
theorem line_no (hr : Ranked ns) (hD : Listed ns D) {x : Int} (hx : x ∈ D) : (10 : UInt8) ∉ toldF [(nd ns (pl x)).v, numD D (nd ns (pl x)).l, numD D (nd ns (pl x)).h] := by
 obtain ⟨a, ha⟩ : ∃ a : Nat, (nd ns (pl x)).v = (a : Int) := ⟨(nd ns (pl x)).v.toNat, by have := (nd_v hr (hD.node x hx)).1; omega⟩
 obtain ⟨b, hb⟩ := numD_nat (hD.kid x hx).1
 obtain ⟨c, hc⟩ := numD_nat (hD.kid x hx).2
 rw [ha, hb, hc]; exact told3_no a b c
theorem img_lines (hr : Ranked ns) (hD : Listed ns D) (hi : InD D h) : (imgF vars ns D h).count 10 = D.length + 2 := by
 have key : ∀ (E : List Int), (∀ x ∈ E, x ∈ D) -> (E.flatMap (lineF ns D)).count 10 = E.length := by
  intro E
  induction E with
  | nil => intro _; rfl
  | cons x E ih =>
   intro hE
   rw [List.flatMap_cons, List.count_append, ih (fun y hy => hE y (List.mem_cons_of_mem _ hy)), List.length_cons]
   unfold lineF
   rw [List.count_append, List.count_eq_zero.2 (line_no hr hD (hE x (List.mem_cons_self ..)))]
   simp; omega
 obtain ⟨t, ht⟩ := numD_nat hi
 have h1 : (toldF [(vars : Int), (D.length : Int), numD D h]).count 10 = 0 := by rw [ht]; exact List.count_eq_zero.2 (told3_no _ _ _)
 have h2 : (toldF [(sumF (bodyF vars ns D h) : Int)]).count 10 = 0 := List.count_eq_zero.2 (told1_no _)
 have h3 : (bodyF vars ns D h).count 10 = D.length + 1 := by
  unfold bodyF headF
  rw [List.count_append, key D (fun _ h => h), List.count_append, List.count_append, h1]
  simp; omega
 unfold imgF
 rw [List.count_append, List.count_append, List.count_append, h2, h3]
 simp
end
theorem cut_len {l : List UInt8} {v t : Nat} {N : List (List UInt8)} (h : cutF l = some (v, t, N)) : N.length + 2 = l.count 10 := by
 unfold cutF at h
 split at h
 ·rename_i h1
  split at h
  ·split at h
   ·split at h
    ·rename_i h4
     obtain ⟨-, -, rfl⟩ : _ /\ _ /\ ((splitL 10 (l.take (l.length - 1))).drop 1).dropLast = N := by simpa using h
     have hl := splitL_len 10 (l.take (l.length - 1))
     have hs : l.count 10 = (l.take (l.length - 1)).count 10 + (l.drop (l.length - 1)).count 10 := by rw [<- List.count_append, List.take_append_drop]
     rw [h1.2] at hs
     simp at hs
     rw [List.length_dropLast, List.length_drop]
     omega
    ·cases h
   ·cases h
  ·cases h
 ·cases h
theorem load_all {l : List UInt8} {room : Int} {v : Nat} {ns : List Nd} {h : Int} (hl : loadF l room = .ok (v, ns, h)) : taken (swept ns (marksOf ns [h])) = taken ns := by
 have hf := load_fine hl
 refine all_reached hf.2.2.2.1 hf.2.2.2.2.1 ?_
 have hr := hf.2.2.2.1.ranked
 obtain ⟨hD, hiD, -⟩ := post_ok hr 25 h [] ⟨fun x hx => (by cases hx), List.nodup_nil, fun x hx => (by cases hx)⟩ hf.2.2.2.2.1 (by have := (topOf_le hr h).1; omega)
 have h1 := img_lines (vars := v) hr hD hiD
 rw [hf.2.2.2.2.2.2] at h1
 have h2 := listed_len hD
 unfold loadF at hl
 split at hl
 ·cases hl
 ·rename_i v' t N hc
  have h3 := cut_len hc
  obtain ⟨k1, -⟩ := cutF_le hc
  split at hl
  ·rename_i hrm
   split at hl
   ·cases hl
   ·rename_i ns' H hH
    split at hl
    ·obtain ⟨rfl, rfl, rfl⟩ : v' = v /\ ns' = ns /\ H.getD t 0 = h := by simpa using hl
     have h4 := (laidF_ok k1 hrm.2 N (LayInv.start v' hrm.1) hH).2.2
     simp at h4
     omega
    ·cases hl
  ·cases hl
end
section
open Go.RowKit Go.Maps
section
variable {B b bm : Nat} {v : Value} {ns : List Nd} {L : List (Nd × Int)} {room next : Int} {w : World}
theorem reach_any (hr : Ranked ns) (hl : ns.length <= 100000) (hA : ArenaAt B w b bm v ns L room next) (bf : Nat) {cp : Nat} (fs : List Int) (hF : IntsAt w bf fs) (hfl : fs.length <= 1000) (hB : B <= w.heap.size) :
  Calls Tryz.prog 36 #[.pointer (some ⟨b, 0, none⟩), .slice (some ⟨bf, 0, none⟩) fs.length cp] w fun e w' => ∃ a c, e = .returned (.slice a (reachTo (marksOf ns fs) ns.length).length c) /\ w'.ownsRow w.heap.size 3 1 (.slice a (reachTo (marksOf ns fs) ns.length).length c) (reachTo (marksOf ns fs) ns.length).length (icells (reachTo (marksOf ns fs) ns.length)) /\ Below w.heap.size w w' := by
 have HC := Lib.hid (reached_any (cp := cp) hr hl hA bf fs hF hfl hB)
 have hML := marksOf_length ns fs
 generalize marksOf ns fs = M at *
 have HML := Lib.hid hML
 obtain ⟨i0, hi, hz0, hz1, hz2⟩ := info_parts infoInt
 clear hA hF hr hML
 go_enter Tryz.func36, Tryz.ntmps36
 go_wp2_with fail
 refine HC.out.mono ?_
 rintro e w1 ⟨rfl, hm1, hb1⟩
 have hs1 : w.heap.size < w1.heap.size := (hm1.lt w.heap.size rfl).2
 clear HC
 go_wp2_with fail
 go_loopw [5, 6, 7, 12] (fun out _ _ i wr => ∃ (k : Nat) (a : Option Addr) (c : Nat), k <= ns.length /\ i = .int .i64 (k : Int) /\ out = .slice a (reachTo M k).length c /\ wr.ownsRow (w.heap.size + 1) 3 1 (.slice a (reachTo M k).length c) (reachTo M k).length (icells (reachTo M k)) /\ wr.ownsRow B 4 1 (.slice (some ⟨w.heap.size, 0, none⟩) ns.length ns.length) ns.length (mcells M) /\ Below w.heap.size w wr /\ w.heap.size < wr.heap.size)
  (fun _ _ _ i _ => ns.length - (intOf i).toNat)
 case atStart => exact ⟨0, none, 0, Nat.zero_le _, rfl, rfl, World.ownsRow_nil _ _ _ _, hm1, hb1, hs1⟩
 case round =>
  obtain ⟨k, a, c, hk, rfl, rfl, hown, hmr, hbelr, hsr⟩ := hrel
  clear hm1 hb1 hs1
  by_cases hlt : k < ns.length
  ·have cm := hmr.cellAt k (by omega)
   rw [mcells_at M k (by rw [HML.out]; exact hlt)] at cm
   have hrl := reachTo_length M k
   have hsu := reachTo_succ M k
   by_cases hm : mk M k = true
   ·rw [if_pos hm] at hsu
    rw [hm] at cm
    have HSU := Lib.hid hsu
    have HB := Lib.hid hbelr
    have HM := Lib.hid hmr
    clear hm hsu hbelr hmr
    have ib : (k : Int) < (ns.length : Int) := by omega
    go_wp2_with (at_builtin; refine wpList_append_own _ rfl _ _ 24 rfl (w.heap.size + 1) 3 i0 (.int .i64 0) 1 8 Tryz.underlying24 hi hz0 hz1 hz2 rfl (by decide) _ _ _ rfl (hown.alloc _) ⟨wr.heap.size, 0, none⟩ 1 1 [.int .i64 (2 + (k : Int))] rfl rfl ?c1 ?c2 ?c3 ?c4 ?c5 ?_)
    case c1 => exact cell_one_new _ _ _
    case c2 => intro u hu; simp at hu; subst hu; rfl
    case c3 => unfold maxLen; omega
    case c4 => omega
    case c5 => simp; omega
    ·intro v' w4 hown' hgrow _
     have hk4 : Kept (fun j => (Value.slice a (reachTo M k).length c).ownBlock = some j) wr w4 := (Kept.alloc _ wr _).andThen (Kept.of_grown hgrow (fun i h => h)) (fun i h _ => h)
     have hb4 := HB.out.trans (hk4.below HB.out.size (fun i hi => by have := (hown.lt i hi).1; omega))
     have hm4 := ownsRow_kept HM.out hk4 (fun j hj h2 => by have := (hown.lt j h2).1; have hj2 : w.heap.size = j := Option.some.inj hj; omega)
     have hs4 := Nat.lt_of_lt_of_le hsr hk4.size
     obtain ⟨a', c', rfl⟩ : ∃ a' c', v' = .slice a' ((reachTo M k).length + 1) c' := by
      rcases hown'.2 with ⟨h1, h2⟩ | ⟨g, cp, cur, h1, -⟩
      ·omega
      ·exact ⟨_, _, h1⟩
     clear hown hgrow hk4 HM HB
     go_wp2
     go_roundw
     case rel =>
      have e5 := HSU.out
      have e6 : (reachTo M (k + 1)).length = (reachTo M k).length + 1 := by rw [e5]; simp
      refine ⟨k + 1, a', c', by omega, by go_num, by rw [e6], ?_, hm4, hb4, hs4⟩
      rw [e6, e5]
      simpa [icells] using hown'
     case measure => simp [intOf]; omega
   ·rw [if_neg hm, List.append_nil] at hsu
    have hm' : mk M k = false := by simpa using hm
    rw [hm'] at cm
    have HSU := Lib.hid hsu
    have HO := Lib.hid hown
    have HB := Lib.hid hbelr
    have HM := Lib.hid hmr
    clear hm hm' hsu hown hbelr hmr
    have ib : (k : Int) < (ns.length : Int) := by omega
    go_wp2
    go_roundw
    case rel => exact ⟨k + 1, a, c, by omega, by go_num, by rw [HSU.out], by rw [HSU.out]; exact HO.out, HM.out, HB.out, hsr⟩
    case measure => simp [intOf]; omega
  ·obtain rfl : k = ns.length := by omega
   go_wp2
   go_ret
   exact ⟨a, c, rfl, ownsRow_base hown (by omega), hbelr⟩
end
end
end Go.Proofs.YtcjjekhecjmaeaaGreatDoor
