/- Clauses and ints as arguments. -/
import Derived.Test.YtiihalknffbjpaaGreatDoorPfForm
import Derived.Lib.SmallJoins
set_option maxRecDepth 100000
namespace Go.Proofs.YtiihalknffbjpaaGreatDoor
open Go.ChangeShapes Go.WideShapes Go.ChangeAt Go.RowKit Go.Deep
theorem zwQ{x:Int}(h:(Lit.int .i64 x).wf=true):I64 x:=by
 simp[Lit.wf,IntKind.min,IntKind.max,IntKind.signed,IntKind.bits] at h;exact⟨by omega,by omega⟩
theorem zhY:laidOutB Tryz.prog=true:=by kernel_rfl
theorem zfV:Tryz.prog.cellsOf 3=1:=by kernel_rfl
theorem zvd{H:Type}{enc:TypeId × Value->H}{W:World}{t:TypeId}{fuel:Nat}{cs:List Value}{x:DataW H × List MemPlace}(ht:Tryz.prog.underlying t=some (.slice 3))(h:DataW.trod enc Tryz.prog W 0 (fun _=>true) true fuel t cs=some x) :
  ∃(a:Option Addr) (xs:List Int) (cap:Nat),cs=[.slice a xs.length cap]/\xs.length<=cap/\cap<=9223372036854775807/\zaN W a xs/\∀y∈xs,I64 y:=by
 rcases open_ints ht Tryz.underlying3 zfV h with ⟨hcs,-⟩|⟨a,len,cap,zs,hcs,_,hl,hm,hz,-,hcell,hwz⟩
 ·exact⟨none,[],0,hcs,by simp,by simp,zaN.nil _ _,fun y hy=>by cases hy⟩
 ·simp only[if_true] at hz;unfold maxLen at hm;have hlen:(zs.take len).length=len:=by rw[List.length_take];omega
  refine⟨some a,zs.take len,cap,by rw[hlen];exact hcs,by omega,by omega,fun i hi=>?_,fun y hy=>zwQ (hwz y (List.mem_of_mem_take hy))⟩;have hc:=hcell i (by omega);have e:(zs.take len).getD i 0=zs.getD i 0:=by
   rw[hlen] at hi;simp[List.getD_eq_getElem?_getD,hi]
  have hb:=World.block_lt_of_cell? _ _ hc;rw[zbN] at hb;exact⟨a,rfl,hb,by rw[e];exact hc⟩
theorem ztT{H:Type}{enc:TypeId × Value->H}{W:World}{a0:Option Addr}{len cap:Nat}{d:DataW H}{p:List MemPlace}(h:DataW.Trod enc Tryz.prog W 0 (fun _=>true) true 47 (.slice a0 len cap) d p) :
  ∃xs:List Int,len=xs.length/\xs.length<=cap/\cap<=9223372036854775807/\zaN W a0 xs/\∀y∈xs,I64 y:=by
 obtain⟨fuel,hf⟩:=h;obtain⟨a,xs,cap',hcs,h1,h2,h3,h4⟩:=zvd Tryz.underlying47 hf;simp[Value.cells] at hcs;obtain⟨rfl,rfl,rfl⟩:=hcs;exact⟨xs,rfl,h1,h2,h3,h4⟩
end Go.Proofs.YtiihalknffbjpaaGreatDoor
