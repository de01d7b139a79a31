/- strings.Split, Join and ReplaceAll, as the laws ask for them. -/
import Derived.Test.YtmhophccdfmngaaGreatDoorSvWText
import Derived.Lib.Replace
import Derived.Test.YtmhophccdfmngaaGreatDoorClBaseI
import Derived.Test.YtmhophccdfmngaaGreatDoorSvRPar
set_option maxHeartbeats 1000000
set_option maxRecDepth 100000
namespace Go.Proofs.YtmhophccdfmngaaGreatDoor
section
open Go.RowKit Go.Shelf Sv
theorem dec_digit : ∀ (u : Nat), ∀ x ∈ Lib.decDigits u, 48 <= x /\ x <= 57 := by
 have hd : ∀ d : Fin 10, (48 : UInt8) <= UInt8.ofNat (48 + d.val) /\ UInt8.ofNat (48 + d.val) <= 57 := by decide
 intro u
 induction u using Nat.strongRecOn with
 | _ u ih =>
  intro x hx
  rw [Lib.decDigits] at hx
  split at hx
  ·rename_i h
   simp only [List.mem_singleton] at hx
   subst hx
   exact hd ⟨u, h⟩
  ·rcases List.mem_append.1 hx with hx | hx
   ·exact ih (u / 10) (by omega) x hx
   ·simp only [List.mem_singleton] at hx
    subst hx
    exact hd ⟨u % 10, Nat.mod_lt _ (by omega)⟩
theorem itoa_no (n : Int) : (32 : UInt8) ∉ Lib.itoa n := by
 have h : ∀ u, (32 : UInt8) ∉ Lib.decDigits u := fun u hx => absurd (dec_digit u 32 hx).1 (by decide)
 unfold Lib.itoa
 split
 ·intro hx
  rcases List.mem_cons.1 hx with hx | hx
  ·revert hx; decide
  ·exact h _ hx
 ·exact h _
theorem drop_first (x y : List UInt8) (c : UInt8) : (x ++ c :: y).drop (x.length + 1) = y := by
 rw [show x ++ c :: y = (x ++ [c]) ++ y by simp, show x.length + 1 = (x ++ [c]).length by simp, List.drop_left]
theorem repl_one {x y : List UInt8} (hx : (32 : UInt8) ∉ x) (k : Nat) : Lib.replaceK [32] [46] (k + 1) (x ++ 32 :: y) = x ++ 46 :: Lib.replaceK [32] [46] k y := by
 rw [Lib.replaceK_hit _ _ k _ x.length (index_first hx), List.take_left' rfl]
 show x ++ [46] ++ Lib.replaceK [32] [46] k ((x ++ 32 :: y).drop (x.length + 1)) = _
 rw [drop_first]
 simp
theorem count_one {x y : List UInt8} (hx : (32 : UInt8) ∉ x) : Lib.count (x ++ 32 :: y) [32] = 1 + Lib.count y [32] := by
 rw [Lib.count_hit (by simp) (index_first hx)]
 show 1 + Lib.count ((x ++ 32 :: y).drop (x.length + 1)) [32] = _
 rw [drop_first]
theorem count_none {x : List UInt8} (hx : (32 : UInt8) ∉ x) : Lib.count x [32] = 0 := by
 have h1 := index_none hx
 have h2 := Lib.index_ge x [32]
 exact Lib.count_miss (by omega)
theorem text_repl (a b c : Int) : Lib.replaceAll (Lib.itoa a ++ 32 :: (Lib.itoa b ++ 32 :: Lib.itoa c)) [32] [46] = wtx a b c := by
 unfold Lib.replaceAll Lib.replace Lib.replaceNum
 rw [if_neg (by decide), if_pos (.inl (by decide)), count_one (itoa_no a), count_one (itoa_no b), count_none (itoa_no c)]
 show Lib.replaceK [32] [46] (1 + 1) _ = _
 rw [repl_one (itoa_no a), repl_one (itoa_no b)]
 rfl
end
section
open Go.RowKit Go.Shelf Go.Sort Sv
theorem infoStr : (Tryz.prog.info? 9).map (fun i => (i.zero, i.size, i.bytes)) = some (some (.string ⟨#[]⟩), 1, 16) := by kernel_rfl
theorem row1_form {w : World} {base : Nat} {e : TypeId} {v : Value} {n : Nat} {xs : List Value} (h : w.ownsRow base e 1 v n xs) : ∃ a cap, v = .slice a n cap /\ n <= cap := by
 rcases h.2 with ⟨h1, h2⟩ | ⟨g, cap, cur, h1, _, _, h2, _⟩
 ·exact ⟨none, 0, by rw [h1, h2], by omega⟩
 ·exact ⟨_, cap, h1, h2⟩
theorem row1_below {B n b : Nat} {w w' : World} {v : Value} {t : TypeId} {cs : List Value} (h : w.ownsRow B t 1 v n cs) (hb : Below b w w') (hB : w.heap.size <= b) : w'.ownsRow B t 1 v n cs := by
 refine ⟨h.1, ?_⟩
 rcases h.2 with h1 | ⟨g, cap, cur, h1, h2, h3, h4⟩
 ·exact .inl h1
 ·exact .inr ⟨g, cap, cur, h1, h2, (hb.block g (by have := (h.lt g (by rw [h1]; rfl)).2; omega)).trans h3, h4⟩
def JoinC : Prop := ∀ (bk c : Nat) (x y z : List UInt8) (W : World), x.length <= 100 -> y.length <= 100 -> z.length <= 100 -> bk < W.heap.size -> 3 <= c ->
 W.cell? ⟨bk, 0, none⟩ = some (.string ⟨x.toArray⟩) -> W.cell? ⟨bk, 1, none⟩ = some (.string ⟨y.toArray⟩) -> W.cell? ⟨bk, 2, none⟩ = some (.string ⟨z.toArray⟩) ->
 Calls Tryz.prog 69 #[.slice (some ⟨bk, 0, none⟩) 3 c, .string ⟨#[32]⟩] W fun e w' => e = .returned (.string ⟨(x ++ 32 :: (y ++ 32 :: z)).toArray⟩) /\ Below W.heap.size W w'
def strs (a b c : Int) : List Value := [.string ⟨(Lib.itoa a).toArray⟩, .string ⟨(Lib.itoa b).toArray⟩, .string ⟨(Lib.itoa c).toArray⟩]
theorem strs_take (a b c : Int) {k : Nat} (hk : k < 3) : (strs a b c).take (k + 1) = (strs a b c).take k ++ [.string ⟨(Lib.itoa (tI a b c k)).toArray⟩] := by
 match k, hk with
 | 0, _ => rfl
 | 1, _ => rfl
 | 2, _ => rfl
theorem told3_any (HJ : JoinC) (a b c : Int) (ha : -9223372036854775808 <= a /\ a <= 9223372036854775807) (hb : -9223372036854775808 <= b /\ b <= 9223372036854775807) (hc : -9223372036854775808 <= c /\ c <= 9223372036854775807) (bs cp : Nat) (w : World) (hw : Lb w) (hbs : bs < w.heap.size) (h0 : ∀ j, j < 3 -> w.cell? ⟨bs, j, none⟩ = some (.int .i64 (tI a b c j))) :
  Calls Tryz.prog 128 #[.slice (some ⟨bs, 0, none⟩) 3 cp] w fun e w' => e = .returned (.string ⟨(Lib.itoa a ++ 32 :: (Lib.itoa b ++ 32 :: Lib.itoa c)).toArray⟩) /\ Below w.heap.size w w' := by
 obtain ⟨i0, hi, hz0, hz1, hz2⟩ := info_parts infoStr
 have HI : Hid (∀ k, k < 3 -> ∀ W, Below w.heap.size w W -> Calls Tryz.prog 151 #[.int .i64 (tI a b c k)] W fun e w' => e = .returned (.string ⟨(Lib.itoa (tI a b c k)).toArray⟩) /\ Below W.heap.size W w') := fun k hk W hB => by
  match k, hk with
  | 0, _ => exact itoa_int a ha W (hw.below hB)
  | 1, _ => exact itoa_int b hb W (hw.below hB)
  | 2, _ => exact itoa_int c hc W (hw.below hB)
 have HST : Hid (∀ k, k < 3 -> (strs a b c).take (k + 1) = (strs a b c).take k ++ [.string ⟨(Lib.itoa (tI a b c k)).toArray⟩]) := fun k hk => strs_take a b c hk
 have HJN : Hid (∀ (bk c' : Nat) (W : World), bk < W.heap.size -> 3 <= c' -> (∀ j, j < 3 -> W.cell? ⟨bk, j, none⟩ = (strs a b c)[j]?) -> Calls Tryz.prog 69 #[.slice (some ⟨bk, 0, none⟩) 3 c', .string ⟨#[32]⟩] W fun e w' => e = .returned (.string ⟨(Lib.itoa a ++ 32 :: (Lib.itoa b ++ 32 :: Lib.itoa c)).toArray⟩) /\ Below W.heap.size W w') := fun bk c' W h1 h2 h3 => HJ bk c' _ _ _ W (Nat.le_trans (Lib.itoa_length_le a ha.1 ha.2) (by omega)) (Nat.le_trans (Lib.itoa_length_le b hb.1 hb.2) (by omega)) (Nat.le_trans (Lib.itoa_length_le c hc.1 hc.2) (by omega)) h1 h2 (h3 0 (by omega)) (h3 1 (by omega)) (h3 2 (by omega))
 have HC0 : Hid (∀ W, Below w.heap.size w W -> ∀ j, j < 3 -> W.cell? ⟨bs, j, none⟩ = some (.int .i64 (tI a b c j))) := fun W hB j hj => (hB.cell (p := ⟨bs, j, none⟩) hbs).trans (h0 j hj)
 have HL3 : Hid ((strs a b c).length = 3) := rfl
 clear hw ha hb hc HJ h0
 generalize strs a b c = S at *
 generalize (⟨(Lib.itoa a ++ 32 :: (Lib.itoa b ++ 32 :: Lib.itoa c)).toArray⟩ : ByteArray) = R at *
 generalize tI a b c = X at *
 go_enter Tryz.func128, Tryz.ntmps128
 go_wp2_with fail
 go_loopw [3, 8] (fun v i wr => ∃ k : Nat, k <= 3 /\ i = .int .i64 (k : Int) /\ wr.ownsRow w.heap.size 9 1 v k (S.take k) /\ Below w.heap.size w wr) (fun _ i _ => 3 - (intOf i).toNat)
 case atStart => exact ⟨0, by omega, rfl, World.ownsRow_nil _ _ _ _, Below.refl _ _⟩
 case round =>
  obtain ⟨k, hk, rfl, hrow, hbr⟩ := hrel
  obtain ⟨va, vc, rfl, hvc⟩ := row1_form hrow
  have HROW := Lib.hid hrow
  have HBR := Lib.hid hbr
  clear hrow hbr
  by_cases hlt : k < 3
  ·have c0 := HC0.out _ HBR.out k hlt
   have HIk := Lib.hid (HI.out k hlt)
   have HSk := Lib.hid (HST.out k hlt)
   generalize X k = x at *
   go_wp2_with fail
   refine (HIk.out _ HBR.out).mono ?_
   rintro e w1 ⟨rfl, hb1⟩
   have hsz := hb1.size
   have hsw := HBR.out.size
   have HR1 := Lib.hid (row1_below HROW.out hb1 (Nat.le_refl _))
   have HB1 : Hid (Below w.heap.size w w1) := HBR.out.trans (hb1.mono HBR.out.size)
   clear hb1 c0
   generalize Lib.itoa x = l at *
   go_wp2_with (at_builtin; refine wpList_append_own _ rfl _ _ 111 rfl w.heap.size 9 i0 (.string ⟨#[]⟩) 1 16 Tryz.underlying111 hi hz0 hz1 hz2 rfl (by decide) _ _ _ rfl (HR1.out.alloc _) ⟨w1.heap.size, 0, none⟩ 1 1 [.string ⟨l.toArray⟩] rfl rfl ?c1 ?c2 ?c3 ?c4 ?c5 ?_)
   case c1 => exact cell_one_new _ _ _
   case c2 => intro u hu; simp at hu; subst hu; rfl
   case c3 => unfold maxLen; omega
   case c4 => omega
   case c5 => simp; omega
   intro v' w2 hown hgrow _
   have hb2 : Below w.heap.size w w2 := (HB1.out.alloc (by omega) _).grown hgrow (by simp; omega) (fun j hj => (HR1.out.lt j hj).1)
   rw [<- HSk.out] at hown
   have HO := Lib.hid hown
   have HB2 := Lib.hid hb2
   clear hown hgrow hb2
   go_wp2
   go_roundw
   case rel => exact ⟨k + 1, by omega, by go_num, HO.out, HB2.out⟩
   case measure => simp [intOf]; omega
  ·obtain rfl : k = 3 := by omega
   have hr := HROW.out
   rw [List.take_of_length_le (by rw [HL3.out]; omega)] at hr
   rcases hr.2 with ⟨h1, h2⟩ | ⟨g, cap, cur, h1, _⟩
   ·exact absurd h2 (by omega)
   ·cases h1
    have hcells : ∀ j, j < 3 -> wr.cell? ⟨g, j, none⟩ = S[j]? := fun j hj => by
     have := hr.cellAt j hj
     simpa using this
    have HJ3 := Lib.hid (HJN.out g vc wr (hr.lt g rfl).2 hvc hcells)
    clear hr hcells
    go_wp2_with fail
    refine HJ3.out.mono ?_
    rintro e w2 ⟨rfl, hb2⟩
    have HB2 : Hid (Below w.heap.size w w2) := HBR.out.trans (hb2.mono HBR.out.size)
    clear hb2
    go_wp2
    go_ret
    exact ⟨rfl, HB2.out⟩
end
section
open Go.RowKit Go.Shelf Go.Sort Sv
def ReplC : Prop := ∀ (s : List UInt8) (W : World), Lb W -> s.length <= 1000 ->
 Calls Tryz.prog 127 #[.string ⟨s.toArray⟩, .string ⟨#[32]⟩, .string ⟨#[46]⟩] W fun e w' => e = .returned (.string ⟨(Lib.replaceAll s [32] [46]).toArray⟩) /\ Below W.heap.size W w'
theorem rtext_any (HJ : JoinC) (HRC : ReplC) (a b c : Int) (ha : -9223372036854775808 <= a /\ a <= 9223372036854775807) (hb : -9223372036854775808 <= b /\ b <= 9223372036854775807) (hc : -9223372036854775808 <= c /\ c <= 9223372036854775807) (w : World) (hw : Lb w) :
  Calls Tryz.prog 92 #[.agg #[.int .i64 a, .int .i64 b, .int .i64 c]] w fun e w' => e = .returned (.string ⟨(wtx a b c).toArray⟩) /\ Below w.heap.size w w' := by
 have kv := Blk.new w 48 #[.int .i64 a, .int .i64 b, .int .i64 c]
 have hB0 : Below w.heap.size w (w.alloc (.cells #[.int .i64 a, .int .i64 b, .int .i64 c] 48)) := (Below.refl _ w).alloc (Nat.le_refl _) _
 have hl1 := Lib.itoa_length_le a ha.1 ha.2
 have hl2 := Lib.itoa_length_le b hb.1 hb.2
 have hl3 := Lib.itoa_length_le c hc.1 hc.2
 have H1 : Hid (∀ W, Below (w.alloc (.cells #[.int .i64 a, .int .i64 b, .int .i64 c] 48)).heap.size (w.alloc (.cells #[.int .i64 a, .int .i64 b, .int .i64 c] 48)) W -> Calls Tryz.prog 128 #[.slice (some ⟨w.heap.size, 0, none⟩) 3 3] W fun e w' => e = .returned (.string ⟨(Lib.itoa a ++ 32 :: (Lib.itoa b ++ 32 :: Lib.itoa c)).toArray⟩) /\ Below W.heap.size W w') := fun W hbW => told3_any HJ a b c ha hb hc w.heap.size 3 W (hw.below (hB0.trans (hbW.mono hB0.size))) ((kv.below hbW kv.lt).lt) (fun j hj => by
  rw [(kv.below hbW kv.lt).cell j]
  match j, hj with
  | 0, _ => rfl
  | 1, _ => rfl
  | 2, _ => rfl)
 have H2 : Hid (∀ W, Below w.heap.size w W -> Calls Tryz.prog 127 #[.string ⟨(Lib.itoa a ++ 32 :: (Lib.itoa b ++ 32 :: Lib.itoa c)).toArray⟩, .string ⟨#[32]⟩, .string ⟨#[46]⟩] W fun e w' => e = .returned (.string ⟨(wtx a b c).toArray⟩) /\ Below W.heap.size W w') := fun W hbW => by
  have := HRC (Lib.itoa a ++ 32 :: (Lib.itoa b ++ 32 :: Lib.itoa c)) W (hw.below hbW) (by simp; omega)
  rw [text_repl] at this
  exact this
 have HB0 := Lib.hid hB0
 clear hw kv hB0 ha hb hc HJ HRC hl1 hl2 hl3
 generalize (⟨(Lib.itoa a ++ 32 :: (Lib.itoa b ++ 32 :: Lib.itoa c)).toArray⟩ : ByteArray) = R at *
 generalize (⟨(wtx a b c).toArray⟩ : ByteArray) = T at *
 go_enter Tryz.func92, Tryz.ntmps92
 go_wp2_with fail
 generalize w.alloc (.cells #[.int .i64 a, .int .i64 b, .int .i64 c] 48) = W0 at *
 refine (H1.out _ (Below.refl _ _)).mono ?_
 rintro e w1 ⟨rfl, hb1⟩
 have HB1 : Hid (Below w.heap.size w w1) := HB0.out.trans (hb1.mono HB0.out.size)
 clear hb1 H1
 go_wp2_with fail
 refine (H2.out _ HB1.out).mono ?_
 rintro e w2 ⟨rfl, hb2⟩
 have HB2 : Hid (Below w.heap.size w w2) := HB1.out.trans (hb2.mono HB1.out.size)
 clear hb2 H2
 go_wp2
 go_ret
 exact ⟨rfl, HB2.out⟩
end
section
open Go.RowKit Go.Shelf Sv
theorem splitC : SplitC := fun s W hs hw => by
 obtain ⟨m, hm⟩ := hw.ml
 have h := split_cut s ⟨#[46]⟩ (by decide) s.size 0 (by omega) (Nat.zero_le _)
 have hx : s.extract 0 s.size = s := ba_ext (by rw [Lib.extract_to_end]; simp)
 rw [hx] at h
 have hlen : Lib.countB s ⟨#[46]⟩ + 1 = (cutB s ⟨#[46]⟩ s.size 0).length := by
  have h2 := congrArg List.length h
  rw [List.length_map, Lib.splitB_all _ (by decide) 0 _ s rfl] at h2
  exact h2
 refine (Tryz.strings_Split s ⟨#[46]⟩ m W (by omega) hm (by decide)).mono fun e w' ⟨he, hw'⟩ => ?_
 rw [hlen] at he
 rw [h] at hw'
 exact ⟨he, hw'⟩
theorem joinC : JoinC := fun bk c x y z W hx hy hz hb hc c0 c1 c2 => by
 have := Tryz.strings_Join bk 0 c [⟨x.toArray⟩, ⟨y.toArray⟩, ⟨z.toArray⟩] ⟨#[32]⟩ W (fun j u hu => by
  match j, hu with
  | 0, hu => simp at hu; subst hu; exact c0
  | 1, hu => simp at hu; subst hu; exact c1
  | 2, hu => simp at hu; subst hu; exact c2
  | j + 3, hu => simp at hu) hb (by simp) hc (by simp [Lib.join]; omega)
 refine this.mono fun e w' ⟨he, hb⟩ => ⟨?_, hb⟩
 rw [he]
 simp [Lib.join]
theorem replC : ReplC := fun s W hw hs => by
 obtain ⟨m, hm⟩ := hw.ml
 have := Tryz.strings_ReplaceAll ⟨s.toArray⟩ ⟨#[32]⟩ ⟨#[46]⟩ m W (by show s.toArray.size < _; simp; omega) hm (by decide) (by
  have h1 := Lib.countB_le ⟨#[32]⟩ (by decide) s.length ⟨s.toArray⟩ (by show s.toArray.size <= _; simp)
  show s.toArray.size + Lib.countB _ _ * 1 <= _
  have h2 : s.toArray.size = s.length := by simp
  have h3 : (⟨s.toArray⟩ : ByteArray).size = s.toArray.size := rfl
  omega)
 exact this
end
end Go.Proofs.YtmhophccdfmngaaGreatDoor
