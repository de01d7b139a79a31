/- ReasonAll: all least sets of lines that can't be together, and all without which the others can, are found by trying all. No condition; the library's variables that are listed are as the program's text lays them (the card ties them). -/
import Derived.Test.YtiihalknffbjpaaGreatDoorRallL
import Derived.Test.YtiihalknffbjpaaGreatDoorSvLaidQ
import Derived.Test.YtiihalknffbjpaaGreatDoorRallF
import Derived.Deep.DeepWitnessRowRef
set_option maxRecDepth 100000
namespace Go.Proofs.YtiihalknffbjpaaGreatDoor.reasonAll
open Go.ChangeShapes Go.WideShapes Go.ChangeAt Go.RowKit
open Go.ChangeMaps (open_string shut_string)
theorem zhE(H:Type)(enc:TypeId × Value->H)(W:World)(base:Nat)(args:Array Value)(ds gs:List (DataW H))(before:List MemPlace)
  (hval:∀(j:Nat) t v,Tryz.f9.params[j]?=some t->args[j]?=some v->Value.okWide Tryz.prog W .any base t v)
  (hW:DataW.Whole enc Tryz.prog Tryz.f9.params.toList Rows.reasonAllSpec.vars false W args.toList ds gs before) (hL:laidMetH Tryz.prog Rows.reasonAllRow.laid W) (hS:W.ShapedOpen Tryz.prog) :
  zC 9 args W fun e W'=>∃v,e=.returned v/\Rows.reasonAllSpec.post enc Tryz.prog Tryz.f9 false true false false W args v W':=by
 have hW':=hW;obtain⟨p,q,hA0,hV,rfl,hfz,hnd⟩:=hW;have hA:DataW.TrodAll enc Tryz.prog W 0 (fun _=>true) true Tryz.f9.params.toList args.toList ds p:=hA0;rw[Tryz.params9] at hA hval;obtain⟨v0,vs0,d0,ds0,p0,q0,hargs,rfl,rfl,h0,r0⟩:=trodAll_cons hA;obtain⟨rfl,rfl,rfl⟩:=trodAll_nil r0;obtain rfl:args=#[v0]:=by cases args;simp_all
 obtain⟨rfl,rfl⟩:=trodVars_none hV;obtain⟨s0,rfl,rfl,rfl,hs0⟩:=open_string Tryz.underlying9 (hval 0 9 v0 rfl rfl) h0;clear hA0;obtain⟨ad,cap,hKD⟩:=zhs hL (by kernel_rfl);refine(zeR s0 W ⟨zlh hL hS (by kernel_rfl) (by kernel_rfl) (by kernel_rfl) (by kernel_rfl),zjU hL (by kernel_rfl)⟩ (zkw hL (by kernel_rfl)) ad cap hKD).mono fun e W' ⟨he,hg⟩=>?_;subst he;exact⟨_,rfl,_,_,_,[],_,[],hW',trodAll_mk1 (shut_bool Tryz.underlying4 _),trodAll_cons_mk (shut_string Tryz.underlying9 hs0) trodAll_mk0,rfl,hg.frame _,fun h=>by cases h⟩
theorem zkE(os:Os):laidMetH Tryz.prog Rows.reasonAllRow.laid ((Jc os).forCall (fun _ _=>0) ⟨#[],#[.string ⟨#[]⟩],[]⟩).memory :=
 laidMetH_of_parts (laidMet_of_run' 300 (by kernel_rfl) (by kernel_rfl)) (by kernel_rfl)
theorem reads(os:Os){H:Type}(enc:TypeId × Value->H):∃places,DataW.whole enc Tryz.prog ((Jc os).forCall (fun _ _=>0) ⟨#[],#[.string ⟨#[]⟩],[]⟩).memory Tryz.f9.params.toList Rows.reasonAllSpec.vars false #[Value.string ⟨#[]⟩].toList 8=some ([.lit (.string [])],[],places) :=
 ⟨[],by kernel_rfl⟩
theorem zep(os:Os)(started:os.Started)(H:Type)(enc:TypeId × Value->H)(F:Stop.Interp) :
  ReturnsInHanded {} Tryz.checked os 9 .any ((OpenSpec.ofChange Rows.reasonAllSpec).preRow enc Tryz.prog Tryz.f9 Rows.reasonAllRow.domain false Rows.reasonAllRow.laid) (((OpenSpec.ofChange Rows.reasonAllSpec).at F).post enc Tryz.prog Tryz.f9 false true false false):=by
 obtain⟨places,hx⟩:=reads os enc;refine returnsInHanded_of_row (C:=Tryz.checked) (s:=OpenSpec.ofChange Rows.reasonAllSpec) own started (by kernel_rfl) Tryz.func9
  (witness_row_atRef (enc:=enc) (C:=Tryz.checked) false (Jc os) #[.string ⟨#[]⟩] rfl (by kernel_rfl) (by kernel_rfl) (by kernel_rfl)
   (OpenSpec.preRow_of_cond 8 hx (by kernel_rfl) (fun k hk=>by cases hk) (by kernel_rfl) (zkE os))) ?_
 intro W base args ds gs before hval hW _ _ _ hL hS _;exact zhE H enc W base args ds gs before hval hW hL hS
theorem zhn:Tryz.f9.isWrapper Tryz.pinned.checked.prog Rows.reasonAllRow.wrapper Rows.reasonAllRow.mainSum:=by
 unfold Func.isWrapper;first|(rw[if_pos (by decide +kernel)];kernel_rfl)|(rw[if_neg (by decide +kernel)];exact⟨rfl,rfl⟩)
theorem named:Tryz.pinned.checked.prog.funcNamed Rows.reasonAllRow.func=some 9:=by kernel_rfl
theorem zeM:Rows.ReasonAllSaid :=
 OpenClaim.holds_of_cond 9 Tryz.f9 rfl rfl rfl rfl rfl rfl rfl ⟨rfl,rfl,rfl,rfl,rfl⟩ rfl rfl rfl rfl rfl named Tryz.func9 facts
  (of_decide_eq_true (by kernel_rfl)) zhn
  (fun os started H enc _ F=>by rw[OpenClaim.pre_eq_preRow];exact zep os started H enc F)
theorem plain(f:FuncId)(fn:Func)(hf:Tryz.pinned.checked.prog.funcNamed "solspace/solspacelaw.ReasonAll"=some f)(hfn:Tryz.pinned.checked.prog.funcs[f]?=some fn) :
  true=Tryz.pinned.checked.prog.looks []/\∀(j:Nat) t,fn.params[j]?=some t->Tryz.pinned.checked.prog.wantsStandIn t=false:=by
 obtain rfl:f=9:=Option.some.inj (named.symm.trans hf) |>.symm;obtain rfl:fn=Tryz.f9:=(Option.some.inj (Tryz.func9.symm.trans hfn)).symm;refine⟨by kernel_rfl,fun j t ht=>?_⟩;rw[Tryz.params9] at ht;have ht':t=9:=by simpa using Array.mem_of_getElem? ht
 subst ht';exact(show Tryz.prog.wantsStandIn 9=false by kernel_rfl)
end Go.Proofs.YtiihalknffbjpaaGreatDoor.reasonAll
