/- What the rows' lists give of the catalog's words; bools as arguments; a world in which the lists hold. -/
import Derived.Test.YtjmfeefogikdfaaGreatDoorCards
import Derived.Test.YtjmfeefogikdfaaGreatDoorTie
import Derived.Deep.DeepHandedRow
import Derived.Stop.LaidErr
import Derived.Test.YtjmfeefogikdfaaGreatDoorClSearch
import Derived.Deep.Grids
import Derived.Lib.SmallJoins
namespace Go.Proofs.YtjmfeefogikdfaaGreatDoor
section
open Go.ChangeShapes Go.WideShapes Go.ChangeAt Go.RowKit
theorem own:ownKnob Tryz.prog.godebug=none:=by kernel_rfl
theorem zmF:Tryz.prog.globalNamed "errors.errorType"=some 1:=by kernel_rfl
theorem zkv:(Tryz.prog.cutTypes.find? (·.1 == "internal/reflectlite.rtype")).map (·.2)=some 247:=by kernel_rfl
theorem zgN:((List.range 370).filter fun t=>Tryz.prog.rowNamed t [101,114,114,111,114])=[33]:=by kernel_rfl
theorem znK:Tryz.prog.types.size=370:=by kernel_rfl
theorem zjA{W:World}{l:List (String × DataW Unit)}(h:laidMetH Tryz.prog l W)(hk:(l.filter fun x=>x.1 == "errors.errorType")=[("errors.errorType",Rows.laid_errors_errorType)]):Zd W:=by
 have h2:=h.filter fun x=>x.1 == "errors.errorType";rw[hk] at h2;have h3:laidMet Tryz.prog [] W/\handlesMet Tryz.prog [("errors.errorType",Rows.laid_errors_errorType)] W:=h2;obtain⟨name,u,ty,e1,e2,e3,e4,e5⟩:=h3.2 _ (List.mem_singleton.2 rfl);have en:name=[101,114,114,111,114]:=(Option.some.inj e1).symm;subst en;obtain rfl:=Option.some.inj (zkv.symm.trans e2);have hm:ty∈(List.range 370).filter fun t=>Tryz.prog.rowNamed t [101,114,114,111,114]:=List.mem_filter.2 ⟨List.mem_range.2 (by rw[<-znK];exact e3),e4⟩;rw[zgN] at hm;obtain rfl:=List.mem_singleton.1 hm;have hh:typeHandle Tryz.prog 33=.pointer (some ⟨10,33,none⟩):=by kernel_rfl
 rw[hh] at e5;have h6:=World.var?_cell zmF e5 0;unfold Zd;simpa using h6
def ZN(cs:Array Value):Obj->Obj
 |.cells _ t frozen=>.cells cs t frozen
 |o=>o
end
section
open Go.ChangeShapes Go.WideShapes Go.ChangeAt Go.RowKit Go.Shelf
theorem zjz:Tryz.prog.globalNamed "internal/strconv.uint64pow10"=some 2:=by kernel_rfl
theorem zmj:(Tryz.prog.globals[2]?).map (·.type)=some 266:=by kernel_rfl
theorem zli:Tryz.prog.cellsOf 266=20:=by kernel_rfl
theorem zhn:Tryz.prog.cellsOf 122=1:=by kernel_rfl
theorem zb1:Tryz.prog.globalNamed "strconv.ErrSyntax"=some 6:=by kernel_rfl
theorem zma:(Tryz.prog.globals[6]?).map (·.type)=some 33:=by kernel_rfl
theorem zb9:Tryz.prog.globalNamed "strconv.ErrRange"=some 7:=by kernel_rfl
theorem zmE:(Tryz.prog.globals[7]?).map (·.type)=some 33:=by kernel_rfl
theorem zbG:Tryz.prog.cellsOf 336=1:=by kernel_rfl
theorem KZ:Tryz.prog.cellsOf 9=1:=by kernel_rfl
theorem zdI : "*" ++ "errors.errorString" = "*errors.errorString":=by decide
theorem zcE(u:TypeId)(h:Tryz.prog.typeName? 3 u=some "*errors.errorString"):u=334 :=
 typeName_ptr_named (nm := "errors.errorString") (by rw[zdI];kernel_rfl) (by kernel_rfl) (by decide) u (by rw[zdI];exact h)
theorem zfz{W:World}{l:List (String × DataW Unit)}(h:laidMetH Tryz.prog l W)(hk:(l.filter fun x=>x.1 == "internal/strconv.uint64pow10")=[("internal/strconv.uint64pow10",Lib.tabData .u64 Lib.pow10Tab)]):Lib.TabIs Tryz.prog W "internal/strconv.uint64pow10" .u64 Lib.pow10Tab:=by
 have h2:=h.filter fun x=>x.1 == "internal/strconv.uint64pow10";rw[hk] at h2;have h3:laidMet Tryz.prog [("internal/strconv.uint64pow10",Lib.tabData .u64 Lib.pow10Tab)] W:=h2;exact Lib.tabIs_of_head (rest:=[]) zjz zmj Tryz.underlying266 Tryz.underlying122 zhn zli h3
theorem zmd{W:World}{l:List (String × DataW Unit)}(h:laidMetH Tryz.prog l W)(hk:(l.filter fun x=>x.1 == "strconv.ErrSyntax")=[("strconv.ErrSyntax",Rows.laid_strconv_ErrSyntax)]):∃ev,W.cell? ⟨6,0,none⟩=some ev/\(ev=.nilIface\/∃te pe,ev=.iface te pe):=by
 have h2:=h.filter fun x=>x.1 == "strconv.ErrSyntax";rw[hk] at h2;have h3:laidMet Tryz.prog [("strconv.ErrSyntax",Rows.laid_strconv_ErrSyntax)] W:=h2;obtain⟨a0,s0,hv0,-,-,-⟩:=laid_sentinel h3 zb1 zma Tryz.underlying33 zcE Tryz.underlying334 Tryz.underlying336 rfl rfl Tryz.underlying9 zbG KZ;exact⟨_,by have h0:=World.var?_cell zb1 hv0 0;simpa using h0,.inr ⟨_,_,rfl⟩⟩
theorem zi9{W:World}{l:List (String × DataW Unit)}(h:laidMetH Tryz.prog l W)(hk:(l.filter fun x=>x.1 == "strconv.ErrRange")=[("strconv.ErrRange",Rows.laid_strconv_ErrRange)]):∃ev,W.cell? ⟨7,0,none⟩=some ev/\(ev=.nilIface\/∃te pe,ev=.iface te pe):=by
 have h2:=h.filter fun x=>x.1 == "strconv.ErrRange";rw[hk] at h2;have h3:laidMet Tryz.prog [("strconv.ErrRange",Rows.laid_strconv_ErrRange)] W:=h2;obtain⟨a0,s0,hv0,-,-,-⟩:=laid_sentinel h3 zb9 zmE Tryz.underlying33 zcE Tryz.underlying334 Tryz.underlying336 rfl rfl Tryz.underlying9 zbG KZ;exact⟨_,by have h0:=World.var?_cell zb9 hv0 0;simpa using h0,.inr ⟨_,_,rfl⟩⟩
theorem ziI{W:World}(h:W.ShapedOpen Tryz.prog):∃n,W.cell? ⟨3,0,none⟩=some (.int .i64 n) :=
 cell_of_shapedOpen_int (zero:=#[.int .i64 0]) (t:=3) h (of_decide_eq_true (by kernel_rfl)) (by kernel_rfl) rfl (by kernel_rfl) (by kernel_rfl) Tryz.underlying3
theorem zgK{W:World}(h:W.ShapedOpen Tryz.prog):10<=W.heap.size:=by
 obtain⟨o,_,ho,_⟩:=h.2 10 (of_decide_eq_true (by kernel_rfl)) (of_decide_eq_true (by kernel_rfl));have:=(Array.getElem?_eq_some_iff.1 ho).1;omega
theorem zjk{W:World}{l:List (String × DataW Unit)}(h:laidMetH Tryz.prog l W)(hs:W.ShapedOpen Tryz.prog)
  (k1:(l.filter fun x=>x.1 == "internal/strconv.uint64pow10")=[("internal/strconv.uint64pow10",Lib.tabData .u64 Lib.pow10Tab)])
  (k2:(l.filter fun x=>x.1 == "strconv.ErrSyntax")=[("strconv.ErrSyntax",Rows.laid_strconv_ErrSyntax)])
  (k3:(l.filter fun x=>x.1 == "strconv.ErrRange")=[("strconv.ErrRange",Rows.laid_strconv_ErrRange)])
  (k4:(l.filter fun x=>x.1 == "errors.errorType")=[("errors.errorType",Rows.laid_errors_errorType)]):Lb W :=
 ⟨ziI hs,zmd h k2,zi9 h k3,zfz h k1,zjA h k4,zgK hs⟩
def zda:DataW Unit->List Value
 |.lit (.int k z)=>[.int k z]
 |_=>[undef]
def zgA:DataW Unit->List Value
 |.agg l=>l.flatMap zda
 |d=>zda d
def YJ:DataW Unit->Array Value
 |.agg l=>(l.flatMap zgA).toArray
 |_=>#[]
end
section
open Go.ChangeShapes Go.WideShapes Go.ChangeAt Go.RowKit Go.Shelf
theorem zeD:Tryz.prog.globalNamed "solspace/catalog.words"=some 0:=by kernel_rfl
theorem zkw:(Tryz.prog.globals[0]?).map (·.type)=some 189:=by kernel_rfl
theorem zm9:Tryz.prog.cellsOf 189=5:=by kernel_rfl
theorem zhB{H:Type}{enc:TypeId × Value->H}{P:Program}{w:World}{base:Nat}{sp:Nat->Bool}{held:Bool}{fuel:Nat}{t e:TypeId}{n:Nat}{cs:List Value}{zs:List ByteArray}{p:List MemPlace}
  (ht:P.underlying t=some (.array n e)) (he:P.underlying e=some .string) (hce:P.cellsOf e=1) (hct:P.cellsOf t=n)
  (h:DataW.trod enc P w base sp held fuel t cs=some (.agg (zs.map fun z=>.lit (.string z.data.toList)),p)):cs=zs.map fun z=>Value.string z:=by
 cases fuel with
 |zero=>simp[DataW.trod] at h
 |succ fuel =>
  simp only[DataW.trod,ht,hce,hct,Nat.mul_one] at h;split at h
  ·rename_i hl;obtain⟨xs,hm,hx⟩:=Option.map_eq_some_iff.1 h;have hxs:xs.map (·.1)=zs.map fun z=>(DataW.lit (.string z.data.toList):DataW H):=by
    have:=congrArg Prod.fst hx;simpa using this
   have hxl:xs.length=n:=by simpa using Lib.mapM_length hm
   have hzl:zs.length=n:=by
    have:=congrArg List.length hxs;simp at this;omega
   apply List.ext_getElem?;intro i
   by_cases hi:i<n
   ·obtain⟨b,hb,hf⟩:=Lib.mapM_at hm i i (by simp[hi]);obtain⟨z,hc,rfl,_⟩:=DataW.trod_string he hf;have h1:cs[i]?=some (.string z):=by
     have:=congrArg (·[0]?) hc;simpa[List.getElem?_take,List.getElem?_drop] using this
    have h2:(xs.map (·.1))[i]?=some (DataW.lit (.string z.data.toList):DataW H):=by simp[hb]
    rw[hxs] at h2;simp only[List.getElem?_map,Option.map_eq_some_iff,DataW.lit.injEq,Lit.string.injEq] at h2;obtain⟨z',hz',e⟩:=h2;obtain rfl:z'=z:=ByteArray.ext (Array.toList_inj.1 e);simp[h1,hz']
   ·rw[List.getElem?_eq_none (by omega),List.getElem?_eq_none (by simp;omega)]
  ·cases h
theorem zgl{W:World}{l:List (String × DataW Unit)}(h:laidMetH Tryz.prog l W)(hk:(l.filter fun x=>x.1 == "solspace/catalog.words")=[("solspace/catalog.words",Rows.laid_solspace_catalog_words)]):ZE W:=by
 have h2:=h.filter fun x=>x.1 == "solspace/catalog.words";rw[hk] at h2;have h3:laidMet Tryz.prog [("solspace/catalog.words",Rows.laid_solspace_catalog_words)] W:=h2;obtain⟨ps,⟨g',t',cs,fuel,p,q,hg',ht',hvar,hd,_,_⟩,_⟩:=h3;obtain rfl:=Option.some.inj (zeD.symm.trans hg');obtain rfl:=Option.some.inj (zkw.symm.trans ht');have hcs:=zhB (zs:=[⟨#[]⟩,⟨#[112,97,99,107,97,103,101]⟩,⟨#[110,101,101,100,115]⟩,⟨#[99,108,97,115,104,101,115]⟩,⟨#[114,111,111,116]⟩]) Tryz.underlying189 Tryz.underlying9 KZ zm9 hd;have H:=fun (i:Nat)=>World.var?_cell zeD hvar i;obtain⟨cs⟩:=cs;simp only at hcs;subst hcs;exact⟨by simpa using H 0,by simpa using H 1,by simpa using H 2,by simpa using H 3,by simpa using H 4⟩
noncomputable def JW(os:Os):World :=
 let w0:=World.holding Tryz.prog os ⟨#[.cells #[.string ⟨#[118,97,108,117,101,32,111,117,116,32,111,102,32,114,97,110,103,101]⟩] 336,.cells #[.string ⟨#[105,110,118,97,108,105,100,32,115,121,110,116,97,120]⟩] 336],#[],[]⟩
 { w0 with heap:=((((((((w0.heap.modify 1 (ZN #[.iface 247 (.agg #[.pointer (some ⟨10,33,none⟩)])])).modify 6 (ZN #[.iface 334 (.pointer (some ⟨16,0,none⟩))])).modify 7 (ZN #[.iface 334 (.pointer (some ⟨15,0,none⟩))])).modify 2 (ZN (YJ Rows.laid_internal_strconv_uint64pow10))).modify 8 (ZN (YJ Rows.laid_unicode_utf8_first))).modify 9 (ZN (YJ Rows.laid_unicode_utf8_acceptRanges))).modify 4 (ZN (YJ Rows.laid_math_bits_deBruijn32tab))).modify 5 (ZN (YJ Rows.laid_math_bits_deBruijn64tab))).modify 0 (ZN #[.string ⟨#[]⟩,.string ⟨#[112,97,99,107,97,103,101]⟩,.string ⟨#[110,101,101,100,115]⟩,.string ⟨#[99,108,97,115,104,101,115]⟩,.string ⟨#[114,111,111,116]⟩]) }
end
end Go.Proofs.YtjmfeefogikdfaaGreatDoor
