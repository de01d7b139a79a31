import Derived.Test.YtoffdbflfikcoaaGreatDoorb5
import Derived.Test.YtoffdbflfikcoaaGreatDoorb6
import Derived.Deep.DeepWitnessRowRef
open Go.Proofs.Tryz
set_option maxRecDepth 100000
namespace Go.Proofs.YtoffdbflfikcoaaGreatDoor.spaceInstalls
open Go.ChangeShapes Go.WideShapes Go.ChangeAt Go.RowKit
open Go.ChangeMaps (open_string shut_string)
theorem ze2(H:Type)(enc:TypeId × Value->H)(W:World)(base:Nat)(args:Array Value)(ds gs:List (DataW H))(before:List MemPlace)
  (hval:∀(j:Nat) t v,Tryz.f3.params[j]?=some t->args[j]?=some v->Value.okWide prog W .any base t v)
  (hW:DataW.Whole enc prog Tryz.f3.params.toList Rows.spaceInstallsSpec.vars false W args.toList ds gs before) (hL:laidMetH prog Rows.spaceInstallsRow.laid W) (hS:W.ShapedOpen prog) :
  zC 3 args W fun e W'=>∃v,e=.returned v/\Rows.spaceInstallsSpec.post enc prog Tryz.f3 false true false false W args v W':=by
 have hW':=hW;obtain⟨p,q,o,hV,rfl,M,R⟩:=hW;have hA:DataW.TrodAll enc prog W 0 (fun _=>true) true Tryz.f3.params.toList args.toList ds p:=o;rw[Tryz.params3] at hA hval;obtain⟨v0,U,d0,K,p0,q0,u,rfl,rfl,h0,r0⟩:=trodAll_cons hA;obtain⟨rfl,rfl,rfl⟩:=trodAll_nil r0;obtain rfl:args=#[v0]:=by cases args;simp_all
 obtain⟨rfl,rfl⟩:=trodVars_none hV;obtain⟨s0,rfl,rfl,rfl,J⟩:=open_string zrf (hval 0 9 v0 rfl rfl) h0;clear o;obtain⟨ad,y,C⟩:=zid hL (by kernel_rfl);refine(Bd.sinst_any s0 W ⟨zmq hL hS (by kernel_rfl) (by kernel_rfl) (by kernel_rfl) (by kernel_rfl),zkA hL (by kernel_rfl)⟩ (zli hL (by kernel_rfl)) ad y C).mono fun e W' ⟨he,hg⟩=>?_;subst he;exact⟨_,rfl,_,_,_,[],_,[],hW',trodAll_mk1 (shut_bool zrV _),trodAll_cons_mk (shut_string zrf J) trodAll_mk0,rfl,hg.frame _,fun h=>by cases h⟩
theorem zio(os:Os):laidMetH prog Rows.spaceInstallsRow.laid ((zaE os).forCall (fun _ _=>0) ⟨#[],#[.string ⟨#[]⟩],[]⟩).memory :=
 laidMetH_of_parts (laidMet_of_run' 300 (by kernel_rfl) (by kernel_rfl)) (by kernel_rfl)
theorem reads(os:Os){H:Type}(enc:TypeId × Value->H):∃j,DataW.whole enc prog ((zaE os).forCall (fun _ _=>0) ⟨#[],#[.string ⟨#[]⟩],[]⟩).memory Tryz.f3.params.toList Rows.spaceInstallsSpec.vars false #[Value.string ⟨#[]⟩].toList 8=some ([.lit (.string [])],[],j) :=
 ⟨[],by kernel_rfl⟩
theorem zil(os:Os)(started:os.Started)(H:Type)(enc:TypeId × Value->H)(F:Stop.Interp) :
  ReturnsInHanded {} Tryz.checked os 3 .any ((OpenSpec.ofChange Rows.spaceInstallsSpec).preRow enc prog Tryz.f3 Rows.spaceInstallsRow.domain false Rows.spaceInstallsRow.laid) (((OpenSpec.ofChange Rows.spaceInstallsSpec).at F).post enc prog Tryz.f3 false true false false):=by
 obtain⟨q,hx⟩:=reads os enc;refine returnsInHanded_of_row (C:=Tryz.checked) (s:=OpenSpec.ofChange Rows.spaceInstallsSpec) own started (by kernel_rfl) func3
  (witness_row_atRef (enc:=enc) (C:=Tryz.checked) false (zaE os) #[.string ⟨#[]⟩] rfl (by kernel_rfl) (by kernel_rfl) (by kernel_rfl)
   (OpenSpec.preRow_of_cond 8 hx (by kernel_rfl) (fun k hk=>by cases hk) (by kernel_rfl) (zio os))) ?_
 intro W base o ds gs j p hW _ _ _ hL hS _;exact ze2 H enc W base o ds gs j p hW hL hS
theorem znS:Tryz.f3.isWrapper Tryz.pinned.checked.prog Rows.spaceInstallsRow.wrapper Rows.spaceInstallsRow.mainSum:=by
 unfold Func.isWrapper;first|(rw[zc3 (by decide +kernel)];kernel_rfl)|(rw[zc2 (by decide +kernel)];exact⟨rfl,rfl⟩)
theorem named:Tryz.pinned.checked.prog.funcNamed Rows.spaceInstallsRow.func=some 3:=by kernel_rfl
theorem zpC:Rows.SpaceInstallsSaid :=
 OpenClaim.holds_of_cond 3 Tryz.f3 rfl rfl rfl rfl rfl rfl rfl ⟨rfl,rfl,rfl,rfl,rfl⟩ rfl rfl rfl rfl rfl named func3 facts
  (zrZ (by kernel_rfl)) znS
  (fun os j H o _ F=>by rw[OpenClaim.pre_eq_preRow];exact zil os j H o F)
theorem plain(f:FuncId)(fn:Func)(hf:Tryz.pinned.checked.prog.funcNamed "solspace/solspacelaw.SpaceInstalls"=some f)(hfn:Tryz.pinned.checked.prog.funcs[f]?=some fn) :
  true=Tryz.pinned.checked.prog.looks []/\∀(j:Nat) t,fn.params[j]?=some t->Tryz.pinned.checked.prog.wantsStandIn t=false:=by
 obtain rfl:f=3:=zru (named.symm.trans hf) |>.symm;obtain rfl:fn=Tryz.f3:=(zru (func3.symm.trans hfn)).symm;refine⟨by kernel_rfl,fun j t ht=>?_⟩;rw[Tryz.params3] at ht;have ht':t=9:=by simpa using zuK ht
 subst ht';exact(show prog.wantsStandIn 9=false by kernel_rfl)
