import Derived.Test.YthifnefkdjkicaaGreatDoorSvLaidQ
import Derived.Test.YthifnefkdjkicaaGreatDoorSbestF
import Derived.Test.YthifnefkdjkicaaGreatDoorClArg
import Derived.Deep.DeepWitnessRowRef
set_option maxRecDepth 100000
namespace Go.Proofs.YthifnefkdjkicaaGreatDoor.spaceBest
open Go.ChangeShapes Go.WideShapes Go.ChangeAt Go.RowKit
open Go.ChangeMaps (open_string shut_string)
theorem znQ{x:Int}(h:(Lit.int .u64 x).wf=true):∃n:Nat,x=(n:Int)/\n<18446744073709551616:=by
 simp[Lit.wf,IntKind.min,IntKind.max,IntKind.signed,IntKind.bits] at h;exact⟨x.toNat,by omega,by omega⟩
theorem zjU(H:Type)(enc:TypeId × Value->H)(W:World)(base:Nat)(args:Array Value)(ds gs:List (DataW H))(before:List MemPlace)
  (hval:∀(j:Nat) t v,Tryz.f3.params[j]?=some t->args[j]?=some v->Value.okWide Tryz.prog W .any base t v)
  (hW:DataW.Whole enc Tryz.prog Tryz.f3.params.toList Rows.spaceBestSpec.vars false W args.toList ds gs before) (hL:laidMetH Tryz.prog Rows.spaceBestRow.laid W) (hS:W.ShapedOpen Tryz.prog) :
  zC 3 args W fun e W'=>∃v,e=.returned v/\Rows.spaceBestSpec.post enc Tryz.prog Tryz.f3 false true false false W args v W':=by
 have hW':=hW;obtain⟨p,q,u,hV,rfl,Z,a0⟩:=hW;have hA:DataW.TrodAll enc Tryz.prog W 0 (fun _=>true) true Tryz.f3.params.toList args.toList ds p:=u;rw[Tryz.params3] at hA hval;obtain⟨v0,a1,d0,V,p0,q0,y,rfl,rfl,h0,r0⟩:=trodAll_cons hA;obtain⟨v1,a3,d1,X,p1,q1,rfl,rfl,rfl,h1,r1⟩:=trodAll_cons r0;obtain⟨v2,a4,d2,Y,p2,q2,rfl,rfl,rfl,h2,r2⟩:=trodAll_cons r1;obtain⟨rfl,rfl,rfl⟩:=trodAll_nil r2;obtain rfl:args=#[v0,v1,v2]:=by cases args;simp_all
 obtain⟨rfl,rfl⟩:=trodVars_none hV;obtain⟨s0,rfl,rfl,rfl,U⟩:=open_string Tryz.underlying9 (hval 0 9 v0 rfl rfl) h0;obtain⟨n1,rfl,rfl,rfl,C⟩:=open_int Tryz.underlying22 (hval 1 22 v1 rfl rfl) h1;obtain⟨a2,l2,c2,rfl⟩:=okWide_slice Tryz.underlying23 (hval 2 23 v2 rfl rfl);clear u;obtain⟨m1,rfl,R⟩:=znQ C;have o:∀x∈p2,x.block<W.heap.size:=fun x hx=>hW'.lt x (by simp[hx]);obtain⟨K,rfl,-,-,g2,_⟩:=zjj h2;obtain⟨ad,J,M⟩:=zpQ hL (by kernel_rfl);refine(Bd.sbest_any s0 m1 R K a2 c2 W ⟨zqb hL hS (by kernel_rfl) (by kernel_rfl) (by kernel_rfl) (by kernel_rfl),zhl hL (by kernel_rfl)⟩ (zp2 hL (by kernel_rfl)) ad J M g2).mono fun e W' ⟨he,hg⟩=>?_;subst he;have t2:=Below.trod JJ (by kernel_rfl) (of_decide_eq_true (by kernel_rfl)) h2 hg o;exact⟨_,rfl,_,_,_,[],_,[],hW',trodAll_mk1 (shut_bool Tryz.underlying4 _),trodAll_cons_mk (shut_string Tryz.underlying9 U) (trodAll_cons_mk (shut_int Tryz.underlying22 C) (trodAll_cons_mk (t2) trodAll_mk0)),rfl,hg.frame _,fun h=>by cases h⟩
theorem zlI(os:Os):laidMetH Tryz.prog Rows.spaceBestRow.laid ((zbR os).forCall (fun _ _=>0) ⟨#[],#[.string ⟨#[]⟩,.int .u64 0,.slice none 0 0],[]⟩).memory :=
 laidMetH_of_parts (laidMet_of_run' 300 (by kernel_rfl) (by kernel_rfl)) (by kernel_rfl)
theorem reads(os:Os){H:Type}(enc:TypeId × Value->H):∃j,DataW.whole enc Tryz.prog ((zbR os).forCall (fun _ _=>0) ⟨#[],#[.string ⟨#[]⟩,.int .u64 0,.slice none 0 0],[]⟩).memory Tryz.f3.params.toList Rows.spaceBestSpec.vars false #[Value.string ⟨#[]⟩,.int .u64 0,.slice none 0 0].toList 8=some ([.lit (.string []),.lit (.int .u64 0),.nil],[],j) :=
 ⟨[],by kernel_rfl⟩
theorem zgn(os:Os)(started:os.Started)(H:Type)(enc:TypeId × Value->H)(F:Stop.Interp) :
  ReturnsInHanded {} Tryz.checked os 3 .any ((OpenSpec.ofChange Rows.spaceBestSpec).preRow enc Tryz.prog Tryz.f3 Rows.spaceBestRow.domain false Rows.spaceBestRow.laid) (((OpenSpec.ofChange Rows.spaceBestSpec).at F).post enc Tryz.prog Tryz.f3 false true false false):=by
 obtain⟨q,hx⟩:=reads os enc;refine returnsInHanded_of_row (C:=Tryz.checked) (s:=OpenSpec.ofChange Rows.spaceBestSpec) own started (by kernel_rfl) Tryz.func3
  (witness_row_atRef (enc:=enc) (C:=Tryz.checked) false (zbR os) #[.string ⟨#[]⟩,.int .u64 0,.slice none 0 0] rfl (by kernel_rfl) (by kernel_rfl) (by kernel_rfl)
   (OpenSpec.preRow_of_cond 8 hx (by kernel_rfl) (fun k hk=>by cases hk) (by kernel_rfl) (zlI os))) ?_
 intro W base o ds gs j p hW _ _ _ hL hS _;exact zjU H enc W base o ds gs j p hW hL hS
theorem zl0:Tryz.f3.isWrapper Tryz.pinned.checked.prog Rows.spaceBestRow.wrapper Rows.spaceBestRow.mainSum:=by
 unfold Func.isWrapper;first|(rw[zA2 (by decide +kernel)];kernel_rfl)|(rw[zA1 (by decide +kernel)];exact⟨rfl,rfl⟩)
theorem named:Tryz.pinned.checked.prog.funcNamed Rows.spaceBestRow.func=some 3:=by kernel_rfl
theorem zjQ:Rows.SpaceBestSaid :=
 OpenClaim.holds_of_cond 3 Tryz.f3 rfl rfl rfl rfl rfl rfl rfl ⟨rfl,rfl,rfl,rfl,rfl⟩ rfl rfl rfl rfl rfl named Tryz.func3 facts
  (of_decide_eq_true (by kernel_rfl)) zl0
  (fun os j H o _ F=>by rw[OpenClaim.pre_eq_preRow];exact zgn os j H o F)
theorem plain(f:FuncId)(fn:Func)(hf:Tryz.pinned.checked.prog.funcNamed "solspace/solspacelaw.SpaceBest"=some f)(hfn:Tryz.pinned.checked.prog.funcs[f]?=some fn) :
  true=Tryz.pinned.checked.prog.looks []/\∀(j:Nat) t,fn.params[j]?=some t->Tryz.pinned.checked.prog.wantsStandIn t=false:=by
 obtain rfl:f=3:=Option.some.inj (named.symm.trans hf) |>.symm;obtain rfl:fn=Tryz.f3:=(Option.some.inj (Tryz.func3.symm.trans hfn)).symm;refine⟨by kernel_rfl,fun j t ht=>?_⟩;rw[Tryz.params3] at ht;have ht':t=9\/t=22\/t=23:=by simpa using Array.mem_of_getElem? ht
 rcases ht' with rfl|rfl|rfl
 ·exact(show Tryz.prog.wantsStandIn 9=false by kernel_rfl)
 ·exact(show Tryz.prog.wantsStandIn 22=false by kernel_rfl)
 ·exact(show Tryz.prog.wantsStandIn 23=false by kernel_rfl)
end Go.Proofs.YthifnefkdjkicaaGreatDoor.spaceBest
