import Derived.Test.YthifnefkdjkicaaGreatDoorBdAt
import Derived.Lib.SmallJoins
set_option maxRecDepth 100000
namespace Go.Proofs.YthifnefkdjkicaaGreatDoor
open Go.ChangeShapes Go.WideShapes Go.ChangeAt Go.RowKit Go.Deep
theorem zjf{x:Int}(h:(Lit.int .i64 x).wf=true):I64 x:=by
 simp[Lit.wf,IntKind.min,IntKind.max,IntKind.signed,IntKind.bits] at h;exact⟨by omega,by omega⟩
theorem JJ:laidOutB Tryz.prog=true:=by kernel_rfl
theorem JE:Tryz.prog.cellsOf 3=1:=by kernel_rfl
theorem zpN{H:Type}{enc:TypeId × Value->H}{W:World}{t:TypeId}{fuel:Nat}{cs:List Value}{x:DataW H × List MemPlace}(ht:Tryz.prog.underlying t=some (.slice 3))(h:DataW.trod enc Tryz.prog W 0 (fun _=>true) true fuel t cs=some x) :
  ∃(a:Option Addr) (xs:List Int) (cap:Nat),cs=[.slice a xs.length cap]/\xs.length<=cap/\cap<=9223372036854775807/\qe W a xs/\∀y∈xs,I64 y:=by
 rcases open_ints ht Tryz.underlying3 JE h with ⟨p,-⟩|⟨a,len,cap,zs,p,_,hl,hm,hz,-,j,q⟩
 ·exact⟨none,[],0,p,by simp,by simp,qe.nil _ _,fun y hy=>by cases hy⟩
 ·simp only[if_true] at hz;unfold maxLen at hm;have o:(zs.take len).length=len:=by rw[List.length_take];omega
  refine⟨some a,zs.take len,cap,by rw[o];exact p,by omega,by omega,fun i hi=>?_,fun y hy=>zjf (q y (List.mem_of_mem_take hy))⟩;have hc:=j i (by omega);have e:(zs.take len).getD i 0=zs.getD i 0:=by
   rw[o] at hi;simp[List.getD_eq_getElem?_getD,hi]
  have hb:=World.block_lt_of_cell? _ _ hc;rw[Zt] at hb;exact⟨a,rfl,hb,by rw[e];exact hc⟩
theorem zjj{H:Type}{enc:TypeId × Value->H}{W:World}{a0:Option Addr}{len cap:Nat}{d:DataW H}{p:List MemPlace}(h:DataW.Trod enc Tryz.prog W 0 (fun _=>true) true 23 (.slice a0 len cap) d p) :
  ∃xs:List Int,len=xs.length/\xs.length<=cap/\cap<=9223372036854775807/\qe W a0 xs/\∀y∈xs,I64 y:=by
 obtain⟨q,hf⟩:=h;obtain⟨a,xs,o,j,h1,h2,h3,h4⟩:=zpN Tryz.underlying23 hf;simp[Value.cells] at j;obtain⟨rfl,rfl,rfl⟩:=j;exact⟨xs,rfl,h1,h2,h3,h4⟩
end Go.Proofs.YthifnefkdjkicaaGreatDoor
