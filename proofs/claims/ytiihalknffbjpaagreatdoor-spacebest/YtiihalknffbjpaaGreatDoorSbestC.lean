/- SpaceBest: the least installation, the nearest, and the cheapest one are found by trying all. No condition; the library's variables that are listed are as the program's text lays them (the card ties them). -/
import Derived.Test.YtiihalknffbjpaaGreatDoorSvLaidQ
import Derived.Test.YtiihalknffbjpaaGreatDoorSbestF
import Derived.Test.YtiihalknffbjpaaGreatDoorClArg
import Derived.Deep.DeepWitnessRowRef
set_option maxRecDepth 100000
namespace Go.Proofs.YtiihalknffbjpaaGreatDoor.spaceBest
open Go.ChangeShapes Go.WideShapes Go.ChangeAt Go.RowKit
open Go.ChangeMaps (open_string shut_string)
theorem zuT{x:Int}(h:(Lit.int .u64 x).wf=true):∃n:Nat,x=(n:Int)/\n<18446744073709551616:=by
 simp[Lit.wf,IntKind.min,IntKind.max,IntKind.signed,IntKind.bits] at h;exact⟨x.toNat,by omega,by omega⟩
theorem zqz(H:Type)(enc:TypeId × Value->H)(W:World)(base:Nat)(args:Array Value)(ds gs:List (DataW H))(before:List MemPlace)
  (hval:∀(j:Nat) t v,Tryz.f4.params[j]?=some t->args[j]?=some v->Value.okWide Tryz.prog W .any base t v)
  (hW:DataW.Whole enc Tryz.prog Tryz.f4.params.toList Rows.spaceBestSpec.vars false W args.toList ds gs before) (hL:laidMetH Tryz.prog Rows.spaceBestRow.laid W) (hS:W.ShapedOpen Tryz.prog) :
  zC 4 args W fun e W'=>∃v,e=.returned v/\Rows.spaceBestSpec.post enc Tryz.prog Tryz.f4 false true false false W args v W':=by
 have hW':=hW;obtain⟨p,q,hA0,hV,rfl,hfz,hnd⟩:=hW;have hA:DataW.TrodAll enc Tryz.prog W 0 (fun _=>true) true Tryz.f4.params.toList args.toList ds p:=hA0;rw[Tryz.params4] at hA hval;obtain⟨v0,vs0,d0,ds0,p0,q0,hargs,rfl,rfl,h0,r0⟩:=trodAll_cons hA;obtain⟨v1,vs1,d1,ds1,p1,q1,rfl,rfl,rfl,h1,r1⟩:=trodAll_cons r0;obtain⟨v2,vs2,d2,ds2,p2,q2,rfl,rfl,rfl,h2,r2⟩:=trodAll_cons r1;obtain⟨rfl,rfl,rfl⟩:=trodAll_nil r2;obtain rfl:args=#[v0,v1,v2]:=by cases args;simp_all
 obtain⟨rfl,rfl⟩:=trodVars_none hV;obtain⟨s0,rfl,rfl,rfl,hs0⟩:=open_string Tryz.underlying9 (hval 0 9 v0 rfl rfl) h0;obtain⟨n1,rfl,rfl,rfl,wn1⟩:=open_int Tryz.underlying48 (hval 1 48 v1 rfl rfl) h1;obtain⟨a2,l2,c2,rfl⟩:=okWide_slice Tryz.underlying47 (hval 2 47 v2 rfl rfl);clear hA0;obtain⟨m1,rfl,hm1⟩:=zuT wn1;have hlt2:∀x∈p2,x.block<W.heap.size:=fun x hx=>hW'.lt x (by simp[hx]);obtain⟨cs2,rfl,-,-,g2,_⟩:=ztT h2;obtain⟨ad,cap,hKD⟩:=zso hL (by kernel_rfl);refine(Bd.sbest_any s0 m1 hm1 cs2 a2 c2 W ⟨zwv hL hS (by kernel_rfl) (by kernel_rfl) (by kernel_rfl) (by kernel_rfl),zsr hL (by kernel_rfl)⟩ (zr7 hL (by kernel_rfl)) ad cap hKD g2).mono fun e W' ⟨he,hg⟩=>?_;subst he;have t2:=Below.trod zhY (by kernel_rfl) (of_decide_eq_true (by kernel_rfl)) h2 hg hlt2;exact⟨_,rfl,_,_,_,[],_,[],hW',trodAll_mk1 (shut_bool Tryz.underlying4 _),trodAll_cons_mk (shut_string Tryz.underlying9 hs0) (trodAll_cons_mk (shut_int Tryz.underlying48 wn1) (trodAll_cons_mk (t2) trodAll_mk0)),rfl,hg.frame _,fun h=>by cases h⟩
theorem zsa(os:Os):laidMetH Tryz.prog Rows.spaceBestRow.laid ((zff os).forCall (fun _ _=>0) ⟨#[],#[.string ⟨#[]⟩,.int .u64 0,.slice none 0 0],[]⟩).memory :=
 laidMetH_of_parts (laidMet_of_run' 300 (by kernel_rfl) (by kernel_rfl)) (by kernel_rfl)
theorem reads(os:Os){H:Type}(enc:TypeId × Value->H):∃places,DataW.whole enc Tryz.prog ((zff os).forCall (fun _ _=>0) ⟨#[],#[.string ⟨#[]⟩,.int .u64 0,.slice none 0 0],[]⟩).memory Tryz.f4.params.toList Rows.spaceBestSpec.vars false #[Value.string ⟨#[]⟩,.int .u64 0,.slice none 0 0].toList 8=some ([.lit (.string []),.lit (.int .u64 0),.nil],[],places) :=
 ⟨[],by kernel_rfl⟩
theorem zvs(os:Os)(started:os.Started)(H:Type)(enc:TypeId × Value->H)(F:Stop.Interp) :
  ReturnsInHanded {} Tryz.checked os 4 .any ((OpenSpec.ofChange Rows.spaceBestSpec).preRow enc Tryz.prog Tryz.f4 Rows.spaceBestRow.domain false Rows.spaceBestRow.laid) (((OpenSpec.ofChange Rows.spaceBestSpec).at F).post enc Tryz.prog Tryz.f4 false true false false):=by
 obtain⟨places,hx⟩:=reads os enc;refine returnsInHanded_of_row (C:=Tryz.checked) (s:=OpenSpec.ofChange Rows.spaceBestSpec) own started (by kernel_rfl) Tryz.func4
  (witness_row_atRef (enc:=enc) (C:=Tryz.checked) false (zff os) #[.string ⟨#[]⟩,.int .u64 0,.slice none 0 0] rfl (by kernel_rfl) (by kernel_rfl) (by kernel_rfl)
   (OpenSpec.preRow_of_cond 8 hx (by kernel_rfl) (fun k hk=>by cases hk) (by kernel_rfl) (zsa os))) ?_
 intro W base args ds gs before hval hW _ _ _ hL hS _;exact zqz H enc W base args ds gs before hval hW hL hS
theorem ztP:Tryz.f4.isWrapper Tryz.pinned.checked.prog Rows.spaceBestRow.wrapper Rows.spaceBestRow.mainSum:=by
 unfold Func.isWrapper;first|(rw[if_pos (by decide +kernel)];kernel_rfl)|(rw[if_neg (by decide +kernel)];exact⟨rfl,rfl⟩)
theorem named:Tryz.pinned.checked.prog.funcNamed Rows.spaceBestRow.func=some 4:=by kernel_rfl
theorem zxs:Rows.SpaceBestSaid :=
 OpenClaim.holds_of_cond 4 Tryz.f4 rfl rfl rfl rfl rfl rfl rfl ⟨rfl,rfl,rfl,rfl,rfl⟩ rfl rfl rfl rfl rfl named Tryz.func4 facts
  (of_decide_eq_true (by kernel_rfl)) ztP
  (fun os started H enc _ F=>by rw[OpenClaim.pre_eq_preRow];exact zvs os started H enc F)
theorem plain(f:FuncId)(fn:Func)(hf:Tryz.pinned.checked.prog.funcNamed "solspace/solspacelaw.SpaceBest"=some f)(hfn:Tryz.pinned.checked.prog.funcs[f]?=some fn) :
  true=Tryz.pinned.checked.prog.looks []/\∀(j:Nat) t,fn.params[j]?=some t->Tryz.pinned.checked.prog.wantsStandIn t=false:=by
 obtain rfl:f=4:=Option.some.inj (named.symm.trans hf) |>.symm;obtain rfl:fn=Tryz.f4:=(Option.some.inj (Tryz.func4.symm.trans hfn)).symm;refine⟨by kernel_rfl,fun j t ht=>?_⟩;rw[Tryz.params4] at ht;have ht':t=9\/t=48\/t=47:=by simpa using Array.mem_of_getElem? ht
 rcases ht' with rfl|rfl|rfl
 ·exact(show Tryz.prog.wantsStandIn 9=false by kernel_rfl)
 ·exact(show Tryz.prog.wantsStandIn 48=false by kernel_rfl)
 ·exact(show Tryz.prog.wantsStandIn 47=false by kernel_rfl)
end Go.Proofs.YtiihalknffbjpaaGreatDoor.spaceBest
