/- A region that draws its order, in a round: it goes as outside of one, where it defers nothing. -/
import Derived.Test.YtiihalknffbjpaaGreatDoorSvWord
namespace Go.Proofs.YtiihalknffbjpaaGreatDoor
open Go.RowKit Go.Shelf
section
variable {n:Nat} {P:Program} {ops:Array Oper} {Q:Exit->Act->World->Prop} {md:Region.Mode} {l:Nat}
theorem zlc{i:Nat}{K K':Act->World->Prop}{a:Act}{w:World}(hnd:∀(j:Nat) (o:Oper),ops[j]?=some o->∀c,o.op≠.defer c)(hK:∀a w,K a w->K' a w)(h:wpOpIn Fence.wide n P ops Q i K a w):wpOpIn (Fence.wide.inRound l) n P ops Q i K' a w:=by
 have h2:=wpOpIn_mono hK h;clear h hK;unfold wpOpIn at *;cases ho:ops[i]? with
 |none=>simp only[ho] at h2 ⊢;exact h2
 |some o =>
  simp only[ho] at h2 ⊢;split
  ·rename_i hw;rw[if_pos hw] at h2;refine⟨h2.1,?_⟩;have h3:=h2.2;rw[Oper.semAt_eq _ _ _ (hnd i o ho)] at h3 ⊢;cases hr:(execOp a.eval o).run P w with
   |ok x w' =>rw[hr] at h3;cases x<;>exact h3
   |halt x w' =>rw[hr] at h3;exact h3
  ·rename_i hw;rw[if_neg hw] at h2;exact h2
theorem zjc(hnd:∀(j:Nat) (o:Oper),ops[j]?=some o->∀c,o.op≠.defer c) :
  ∀(fuel:Nat) (listed:Array Bool) (a:Act) (w:World),wpAnyIn Fence.wide n P md ops Q fuel listed a w->wpAnyIn (Fence.wide.inRound l) n P md ops Q fuel listed a w:=by
 intro fuel
 induction fuel with
 |zero=>intro listed a w h;exact h
 |succ fuel ih =>intro listed a w h;exact⟨h.1,fun i hi=>zlc hnd (fun a w h=>ih _ a w h) (h.2 i hi)⟩
theorem zh5{id:Nat}{a:Act}{w:World}(hm:P.follows .mixedOrders=true)(hnd:∀(j:Nat) (o:Oper),ops[j]?=some o->∀c,o.op≠.defer c)
  (h:wpAnyIn Fence.wide n P .any ops Q ops.size (Array.replicate ops.size false) a w.drew):(Code.region id ops true).wpIn (Fence.wide.inRound l) n P Q a w :=
 wpIn_region_any hm (zjc hnd _ _ _ _ h)
end
end Go.Proofs.YtiihalknffbjpaaGreatDoor
