/- SpaceFixed: what is always there, and never, is so of each installation; and with one more rule that says otherwise there is none. No condition; the library's variables that are listed are as the program's text lays them (the card ties them). -/
import Derived.Test.YtjmfeefogikdfaaGreatDoorSfixedW
import Derived.Test.YtjmfeefogikdfaaGreatDoorCtLaid
import Derived.Test.YtjmfeefogikdfaaGreatDoorSfixedF
import Derived.Deep.DeepWitnessRowRef
set_option maxRecDepth 100000
namespace Go.Proofs.YtjmfeefogikdfaaGreatDoor.spaceFixed
open Go.ChangeShapes Go.WideShapes Go.ChangeAt Go.RowKit
open Go.ChangeMaps (open_string shut_string)
theorem ziF{x:Int}(h:(Lit.int .u64 x).wf=true):∃n:Nat,x=(n:Int)/\n<18446744073709551616:=by
 simp[Lit.wf,IntKind.min,IntKind.max,IntKind.signed,IntKind.bits] at h;exact⟨x.toNat,by omega,by omega⟩
theorem zkI(H:Type)(enc:TypeId × Value->H)(W:World)(base:Nat)(args:Array Value)(ds gs:List (DataW H))(before:List MemPlace)
  (hval:∀(j:Nat) t v,Tryz.f3.params[j]?=some t->args[j]?=some v->Value.okWide Tryz.prog W .any base t v)
  (hW:DataW.Whole enc Tryz.prog Tryz.f3.params.toList Rows.spaceFixedSpec.vars false W args.toList ds gs before) (hL:laidMetH Tryz.prog Rows.spaceFixedRow.laid W) (hS:W.ShapedOpen Tryz.prog) :
  zC 3 args W fun e W'=>∃v,e=.returned v/\Rows.spaceFixedSpec.post enc Tryz.prog Tryz.f3 false true false false W args v W':=by
 have hW':=hW;obtain⟨p,q,hA0,hV,rfl,hfz,hnd⟩:=hW;have hA:DataW.TrodAll enc Tryz.prog W 0 (fun _=>true) true Tryz.f3.params.toList args.toList ds p:=hA0;rw[Tryz.params3] at hA hval;obtain⟨v0,vs0,d0,ds0,p0,q0,hargs,rfl,rfl,h0,r0⟩:=trodAll_cons hA;obtain⟨v1,vs1,d1,ds1,p1,q1,rfl,rfl,rfl,h1,r1⟩:=trodAll_cons r0;obtain⟨v2,vs2,d2,ds2,p2,q2,rfl,rfl,rfl,h2,r2⟩:=trodAll_cons r1;obtain⟨rfl,rfl,rfl⟩:=trodAll_nil r2;obtain rfl:args=#[v0,v1,v2]:=by cases args;simp_all
 obtain⟨rfl,rfl⟩:=trodVars_none hV;obtain⟨s0,rfl,rfl,rfl,hs0⟩:=open_string Tryz.underlying9 (hval 0 9 v0 rfl rfl) h0;obtain⟨n1,rfl,rfl,rfl,wn1⟩:=open_int Tryz.underlying22 (hval 1 22 v1 rfl rfl) h1;obtain⟨n2,rfl,rfl,rfl,wn2⟩:=open_int Tryz.underlying3 (hval 2 3 v2 rfl rfl) h2;clear hA0;obtain⟨m1,rfl,hm1⟩:=ziF wn1;refine(Bd.sfixed_any s0 m1 hm1 n2 W ⟨zjk hL hS (by kernel_rfl) (by kernel_rfl) (by kernel_rfl) (by kernel_rfl),zgl hL (by kernel_rfl)⟩).mono fun e W' ⟨he,hg⟩=>?_;subst he;exact⟨_,rfl,_,_,_,[],_,[],hW',trodAll_mk1 (shut_bool Tryz.underlying4 _),trodAll_cons_mk (shut_string Tryz.underlying9 hs0) (trodAll_cons_mk (shut_int Tryz.underlying22 wn1) (trodAll_cons_mk (shut_int Tryz.underlying3 wn2) trodAll_mk0)),rfl,hg.frame _,fun h=>by cases h⟩
theorem ziS(os:Os):laidMetH Tryz.prog Rows.spaceFixedRow.laid ((JW os).forCall (fun _ _=>0) ⟨#[],#[.string ⟨#[]⟩,.int .u64 0,.int .i64 0],[]⟩).memory :=
 laidMetH_of_parts (laidMet_of_run' 300 (by kernel_rfl) (by kernel_rfl)) (by kernel_rfl)
theorem reads(os:Os){H:Type}(enc:TypeId × Value->H):∃places,DataW.whole enc Tryz.prog ((JW os).forCall (fun _ _=>0) ⟨#[],#[.string ⟨#[]⟩,.int .u64 0,.int .i64 0],[]⟩).memory Tryz.f3.params.toList Rows.spaceFixedSpec.vars false #[Value.string ⟨#[]⟩,.int .u64 0,.int .i64 0].toList 8=some ([.lit (.string []),.lit (.int .u64 0),.lit (.int .i64 0)],[],places) :=
 ⟨[],by kernel_rfl⟩
theorem zix(os:Os)(started:os.Started)(H:Type)(enc:TypeId × Value->H)(F:Stop.Interp) :
  ReturnsInHanded {} Tryz.checked os 3 .any ((OpenSpec.ofChange Rows.spaceFixedSpec).preRow enc Tryz.prog Tryz.f3 Rows.spaceFixedRow.domain false Rows.spaceFixedRow.laid) (((OpenSpec.ofChange Rows.spaceFixedSpec).at F).post enc Tryz.prog Tryz.f3 false true false false):=by
 obtain⟨places,hx⟩:=reads os enc;refine returnsInHanded_of_row (C:=Tryz.checked) (s:=OpenSpec.ofChange Rows.spaceFixedSpec) own started (by kernel_rfl) Tryz.func3
  (witness_row_at (enc:=enc) (C:=Tryz.checked) false (JW os) #[.string ⟨#[]⟩,.int .u64 0,.int .i64 0] rfl (by kernel_rfl) (by kernel_rfl) (by kernel_rfl)
   (OpenSpec.preRow_of_cond 8 hx (by kernel_rfl) (fun k hk=>by cases hk) (by kernel_rfl) (ziS os))) ?_
 intro W base args ds gs before hval hW _ _ _ hL hS _;exact zkI H enc W base args ds gs before hval hW hL hS
theorem zhb:Tryz.f3.isWrapper Tryz.pinned.checked.prog Rows.spaceFixedRow.wrapper Rows.spaceFixedRow.mainSum:=by
 unfold Func.isWrapper;first|(rw[if_pos (by decide +kernel)];kernel_rfl)|(rw[if_neg (by decide +kernel)];exact⟨rfl,rfl⟩)
theorem named:Tryz.pinned.checked.prog.funcNamed Rows.spaceFixedRow.func=some 3:=by kernel_rfl
theorem zgF:Rows.SpaceFixedSaid :=
 OpenClaim.holds_of_cond 3 Tryz.f3 rfl rfl rfl rfl rfl rfl rfl ⟨rfl,rfl,rfl,rfl,rfl⟩ rfl rfl rfl rfl rfl named Tryz.func3 facts
  (of_decide_eq_true (by kernel_rfl)) zhb
  (fun os started H enc _ F=>by rw[OpenClaim.pre_eq_preRow];exact zix os started H enc F)
theorem plain(f:FuncId)(fn:Func)(hf:Tryz.pinned.checked.prog.funcNamed "solspace/solspacekeep.SpaceFixed"=some f)(hfn:Tryz.pinned.checked.prog.funcs[f]?=some fn) :
  true=Tryz.pinned.checked.prog.looks []/\∀(j:Nat) t,fn.params[j]?=some t->Tryz.pinned.checked.prog.wantsStandIn t=false:=by
 obtain rfl:f=3:=Option.some.inj (named.symm.trans hf) |>.symm;obtain rfl:fn=Tryz.f3:=(Option.some.inj (Tryz.func3.symm.trans hfn)).symm;refine⟨by kernel_rfl,fun j t ht=>?_⟩;rw[Tryz.params3] at ht;have ht':t=9\/t=22\/t=3:=by simpa using Array.mem_of_getElem? ht
 rcases ht' with rfl|rfl|rfl
 ·exact(show Tryz.prog.wantsStandIn 9=false by kernel_rfl)
 ·exact(show Tryz.prog.wantsStandIn 22=false by kernel_rfl)
 ·exact(show Tryz.prog.wantsStandIn 3=false by kernel_rfl)
end Go.Proofs.YtjmfeefogikdfaaGreatDoor.spaceFixed
