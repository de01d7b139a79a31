/- ReasonWhys: reasons against a version are told just where it is in no installation; and where there are installations the last of them is the wanted line. No condition; the library's variables that are listed are as the program's text lays them (the card ties them). -/
import Derived.Test.YtlmmkbnjhilbdaaGreatDoorRwhysC
set_option maxRecDepth 100000
namespace Go.Proofs.YtlmmkbnjhilbdaaGreatDoor.reasonWhys
open Go.ChangeShapes Go.WideShapes Go.ChangeAt Go.RowKit
open Go.ChangeMaps (open_string shut_string)
theorem card:Rows.ReasonWhysCardSaid :=
 Claim7.holds_tied_plain_at .later [] _ _ _ _ zgZ (fun _ h=>by cases h) (by as_aux_lemma=>kernel_rfl) (fun _ h=>by cases h) reasonWhys_row_tie rfl ⟨rfl,rfl⟩ (by as_aux_lemma=>kernel_rfl) rfl plain (by as_aux_lemma=>kernel_rfl)
end Go.Proofs.YtlmmkbnjhilbdaaGreatDoor.reasonWhys
namespace Go.Proofs.YtlmmkbnjhilbdaaGreatDoor
theorem reasonWhys_holds:Rows.ReasonWhysCardSaid:=reasonWhys.card
end Go.Proofs.YtlmmkbnjhilbdaaGreatDoor
