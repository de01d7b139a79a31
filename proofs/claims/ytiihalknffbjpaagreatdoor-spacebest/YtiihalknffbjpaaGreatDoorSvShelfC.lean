/- strings.Split, Join and ReplaceAll, as the laws ask for them. -/
import Derived.Test.YtiihalknffbjpaaGreatDoorSvMixP
import Derived.Test.YtiihalknffbjpaaGreatDoorSvRPar
import Derived.Test.YtiihalknffbjpaaGreatDoorErErrs
import Derived.Lib.ItoaLen
import Derived.Lib.Replace
import Derived.Test.YtiihalknffbjpaaGreatDoorErAt
namespace Go.Proofs.YtiihalknffbjpaaGreatDoor
open Go.RowKit Go.Shelf Sv
theorem splitC:SplitC:=fun s W hs hw=>by
 obtain ⟨m,hm⟩:=hw.ml
 have h:=split_cut s ⟨#[46]⟩ (by decide) s.size 0 (by omega) (Nat.zero_le _)
 have hx:s.extract 0 s.size=s:=ba_ext (by rw [Lib.extract_to_end];simp)
 rw [hx] at h
 have hlen:Lib.countB s ⟨#[46]⟩ + 1=(cutB s ⟨#[46]⟩ s.size 0).length:=by
  have h2:=congrArg List.length h
  rw [List.length_map,Lib.splitB_all _ (by decide) 0 _ s rfl] at h2
  exact h2
 refine (Tryz.strings_Split s ⟨#[46]⟩ m W (by omega) hm (by decide)).mono fun e w' ⟨he,hw'⟩=>?_
 rw [hlen] at he
 rw [h] at hw'
 exact ⟨he,hw'⟩
end Go.Proofs.YtiihalknffbjpaaGreatDoor
