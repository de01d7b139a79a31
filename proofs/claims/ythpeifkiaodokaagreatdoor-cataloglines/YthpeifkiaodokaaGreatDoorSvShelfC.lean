/- strings.Split, Join and ReplaceAll, as the laws ask for them. -/
import Derived.Test.YthpeifkiaodokaaGreatDoorSvShelf2
import Derived.Test.YthpeifkiaodokaaGreatDoorSvRPar
import Derived.Test.YthpeifkiaodokaaGreatDoorSvRText
namespace Go.Proofs.YthpeifkiaodokaaGreatDoor
open Go.RowKit Go.Shelf Sv

theorem splitC : SplitC := fun s W hs hw => by
  obtain ⟨m, hm⟩ := hw.ml
  have h := split_cut s ⟨#[46]⟩ (by decide) s.size 0 (by omega) (Nat.zero_le _)
  have hx : s.extract 0 s.size = s := ba_ext (by rw [Lib.extract_to_end]; simp)
  rw [hx] at h
  have hlen : Lib.countB s ⟨#[46]⟩ + 1 = (cutB s ⟨#[46]⟩ s.size 0).length := by
    have h2 := congrArg List.length h
    rw [List.length_map, Lib.splitB_all _ (by decide) 0 _ s rfl] at h2
    exact h2
  refine (Tryz.strings_Split s ⟨#[46]⟩ m W (by omega) hm (by decide)).mono fun e w' ⟨he, hw'⟩ => ?_
  rw [hlen] at he
  rw [h] at hw'
  exact ⟨he, hw'⟩
theorem joinC : JoinC := fun bk c x y z W hx hy hz hb hc c0 c1 c2 => by
  have := Tryz.strings_Join bk 0 c [⟨x.toArray⟩, ⟨y.toArray⟩, ⟨z.toArray⟩] ⟨#[32]⟩ W (fun j u hu => by
    match j, hu with
    | 0, hu => simp at hu; subst hu; exact c0
    | 1, hu => simp at hu; subst hu; exact c1
    | 2, hu => simp at hu; subst hu; exact c2
    | j + 3, hu => simp at hu) hb (by simp) hc (by simp [Lib.join]; omega)
  refine this.mono fun e w' ⟨he, hb⟩ => ⟨?_, hb⟩
  rw [he]
  simp [Lib.join]
theorem replC : ReplC := fun s W hw hs => by
  obtain ⟨m, hm⟩ := hw.ml
  have := Tryz.strings_ReplaceAll ⟨s.toArray⟩ ⟨#[32]⟩ ⟨#[46]⟩ m W (by show s.toArray.size < _; simp; omega) hm (by decide) (by
    have h1 := Lib.countB_le ⟨#[32]⟩ (by decide) s.length ⟨s.toArray⟩ (by show s.toArray.size ≤ _; simp)
    show s.toArray.size + Lib.countB _ _ * 1 ≤ _
    have h2 : s.toArray.size = s.length := by simp
    have h3 : (⟨s.toArray⟩ : ByteArray).size = s.toArray.size := rfl
    omega)
  exact this
end Go.Proofs.YthpeifkiaodokaaGreatDoor
