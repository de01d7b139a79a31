import Derived.Lib.ItoaLen
import Derived.Test.YtoffdbflfikcoaaGreatDoorau
namespace Go.Proofs.YtoffdbflfikcoaaGreatDoor
section
open Go.RowKit Go.Shelf Sv
theorem zks(n:Int)(hn:-9223372036854775808<=n/\n<=9223372036854775807)(w:World)(hw:Lb w):zR 28 #[n] w (.string ⟨(Lib.itoa n).toArray⟩) :=
 (Tryz.strconv_Itoa n hn.1 hn.2 w hw.tab).mono fun _ _ ⟨he,k,os,hw'⟩=>⟨he,hw'▸zbv _ w k os zN⟩
end
section
open Go.RowKit Go.Shelf Sv
theorem yP:J0:=fun s W hs hw=>by
 obtain⟨m,hm⟩:=hw.ml;have h:=zdt s ⟨#[46]⟩ (by decide) s.size 0 (by omega) (zf6 _);have hx:s.extract 0 s.size=s:=XX (by rw[Lib.extract_to_end];simp);rw[hx] at h;have j:Lib.countB s ⟨#[46]⟩+1=(zq s ⟨#[46]⟩ s.size 0).length:=by
  have h2:=zsj List.length h;rw[zrs,Lib.splitB_all _ (by decide) 0 _ s rfl] at h2;exact h2
 refine(Tryz.strings_Split s ⟨#[46]⟩ m W (by omega) hm (by decide)).mono fun e w' ⟨he,hw'⟩=>?_;rw[j] at he;rw[h] at hw';exact⟨he,hw'⟩
end
