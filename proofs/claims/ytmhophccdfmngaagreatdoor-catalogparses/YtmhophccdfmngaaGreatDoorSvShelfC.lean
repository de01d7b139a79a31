/- strings.Split, Join and ReplaceAll, as the laws ask for them. -/
import Derived.Test.YtmhophccdfmngaaGreatDoorSvTold
import Derived.Test.YtmhophccdfmngaaGreatDoorSvTxtF
set_option maxHeartbeats 1000000
set_option maxRecDepth 100000
namespace Go.Proofs.YtmhophccdfmngaaGreatDoor
open Go.RowKit Go.Shelf Go.Sort Sv
def ReplC : Prop := ∀ (s : List UInt8) (W : World), Lb W -> s.length <= 1000 ->
 Calls Tryz.prog 127 #[.string ⟨s.toArray⟩, .string ⟨#[32]⟩, .string ⟨#[46]⟩] W fun e w' => e = .returned (.string ⟨(Lib.replaceAll s [32] [46]).toArray⟩) /\ Below W.heap.size W w'
theorem rtext_any (HJ : JoinC) (HRC : ReplC) (a b c : Int) (ha : -9223372036854775808 <= a /\ a <= 9223372036854775807) (hb : -9223372036854775808 <= b /\ b <= 9223372036854775807) (hc : -9223372036854775808 <= c /\ c <= 9223372036854775807) (w : World) (hw : Lb w) :
  Calls Tryz.prog 92 #[.agg #[.int .i64 a, .int .i64 b, .int .i64 c]] w fun e w' => e = .returned (.string ⟨(wtx a b c).toArray⟩) /\ Below w.heap.size w w' := by
 have kv := Blk.new w 48 #[.int .i64 a, .int .i64 b, .int .i64 c]
 have hB0 : Below w.heap.size w (w.alloc (.cells #[.int .i64 a, .int .i64 b, .int .i64 c] 48)) := (Below.refl _ w).alloc (Nat.le_refl _) _
 have hl1 := Lib.itoa_length_le a ha.1 ha.2
 have hl2 := Lib.itoa_length_le b hb.1 hb.2
 have hl3 := Lib.itoa_length_le c hc.1 hc.2
 have H1 : Hid (∀ W, Below (w.alloc (.cells #[.int .i64 a, .int .i64 b, .int .i64 c] 48)).heap.size (w.alloc (.cells #[.int .i64 a, .int .i64 b, .int .i64 c] 48)) W -> Calls Tryz.prog 128 #[.slice (some ⟨w.heap.size, 0, none⟩) 3 3] W fun e w' => e = .returned (.string ⟨(Lib.itoa a ++ 32 :: (Lib.itoa b ++ 32 :: Lib.itoa c)).toArray⟩) /\ Below W.heap.size W w') := fun W hbW => told3_any HJ a b c ha hb hc w.heap.size 3 W (hw.below (hB0.trans (hbW.mono hB0.size))) ((kv.below hbW kv.lt).lt) (fun j hj => by
  rw [(kv.below hbW kv.lt).cell j]
  match j, hj with
  | 0, _ => rfl
  | 1, _ => rfl
  | 2, _ => rfl)
 have H2 : Hid (∀ W, Below w.heap.size w W -> Calls Tryz.prog 127 #[.string ⟨(Lib.itoa a ++ 32 :: (Lib.itoa b ++ 32 :: Lib.itoa c)).toArray⟩, .string ⟨#[32]⟩, .string ⟨#[46]⟩] W fun e w' => e = .returned (.string ⟨(wtx a b c).toArray⟩) /\ Below W.heap.size W w') := fun W hbW => by
  have := HRC (Lib.itoa a ++ 32 :: (Lib.itoa b ++ 32 :: Lib.itoa c)) W (hw.below hbW) (by simp; omega)
  rw [text_repl] at this
  exact this
 have HB0 := Lib.hid hB0
 clear hw kv hB0 ha hb hc HJ HRC hl1 hl2 hl3
 generalize (⟨(Lib.itoa a ++ 32 :: (Lib.itoa b ++ 32 :: Lib.itoa c)).toArray⟩ : ByteArray) = R at *
 generalize (⟨(wtx a b c).toArray⟩ : ByteArray) = T at *
 go_enter Tryz.func92, Tryz.ntmps92
 go_wp2_with fail
 generalize w.alloc (.cells #[.int .i64 a, .int .i64 b, .int .i64 c] 48) = W0 at *
 refine (H1.out _ (Below.refl _ _)).mono ?_
 rintro e w1 ⟨rfl, hb1⟩
 have HB1 : Hid (Below w.heap.size w w1) := HB0.out.trans (hb1.mono HB0.out.size)
 clear hb1 H1
 go_wp2_with fail
 refine (H2.out _ HB1.out).mono ?_
 rintro e w2 ⟨rfl, hb2⟩
 have HB2 : Hid (Below w.heap.size w w2) := HB1.out.trans (hb2.mono HB1.out.size)
 clear hb2 H2
 go_wp2
 go_ret
 exact ⟨rfl, HB2.out⟩
end Go.Proofs.YtmhophccdfmngaaGreatDoor
namespace Go.Proofs.YtmhophccdfmngaaGreatDoor
open Go.RowKit Go.Shelf Sv
theorem splitC : SplitC := fun s W hs hw => by
 obtain ⟨m, hm⟩ := hw.ml
 have h := split_cut s ⟨#[46]⟩ (by decide) s.size 0 (by omega) (Nat.zero_le _)
 have hx : s.extract 0 s.size = s := ba_ext (by rw [Lib.extract_to_end]; simp)
 rw [hx] at h
 have hlen : Lib.countB s ⟨#[46]⟩ + 1 = (cutB s ⟨#[46]⟩ s.size 0).length := by
  have h2 := congrArg List.length h
  rw [List.length_map, Lib.splitB_all _ (by decide) 0 _ s rfl] at h2
  exact h2
 refine (Tryz.strings_Split s ⟨#[46]⟩ m W (by omega) hm (by decide)).mono fun e w' ⟨he, hw'⟩ => ?_
 rw [hlen] at he
 rw [h] at hw'
 exact ⟨he, hw'⟩
theorem joinC : JoinC := fun bk c x y z W hx hy hz hb hc c0 c1 c2 => by
 have := Tryz.strings_Join bk 0 c [⟨x.toArray⟩, ⟨y.toArray⟩, ⟨z.toArray⟩] ⟨#[32]⟩ W (fun j u hu => by
  match j, hu with
  | 0, hu => simp at hu; subst hu; exact c0
  | 1, hu => simp at hu; subst hu; exact c1
  | 2, hu => simp at hu; subst hu; exact c2
  | j + 3, hu => simp at hu) hb (by simp) hc (by simp [Lib.join]; omega)
 refine this.mono fun e w' ⟨he, hb⟩ => ⟨?_, hb⟩
 rw [he]
 simp [Lib.join]
theorem replC : ReplC := fun s W hw hs => by
 obtain ⟨m, hm⟩ := hw.ml
 have := Tryz.strings_ReplaceAll ⟨s.toArray⟩ ⟨#[32]⟩ ⟨#[46]⟩ m W (by show s.toArray.size < _; simp; omega) hm (by decide) (by
  have h1 := Lib.countB_le ⟨#[32]⟩ (by decide) s.length ⟨s.toArray⟩ (by show s.toArray.size <= _; simp)
  show s.toArray.size + Lib.countB _ _ * 1 <= _
  have h2 : s.toArray.size = s.length := by simp
  have h3 : (⟨s.toArray⟩ : ByteArray).size = s.toArray.size := rfl
  omega)
 exact this
end Go.Proofs.YtmhophccdfmngaaGreatDoor
