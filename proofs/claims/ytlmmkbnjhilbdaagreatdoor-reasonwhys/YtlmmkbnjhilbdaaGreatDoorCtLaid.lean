/- What the rows' lists give of the catalog's words; bools as arguments; a world in which the lists hold. -/
import Derived.Test.YtlmmkbnjhilbdaaGreatDoorCards
import Derived.Test.YtlmmkbnjhilbdaaGreatDoorTie
import Derived.Deep.DeepHandedRow
import Derived.Stop.LaidErr
import Derived.Test.YtlmmkbnjhilbdaaGreatDoorClSearch
import Derived.Deep.Grids
import Derived.Lib.SmallJoins
namespace Go.Proofs.YtlmmkbnjhilbdaaGreatDoor
section
open Go.ChangeShapes Go.WideShapes Go.ChangeAt Go.RowKit
theorem own:ownKnob Tryz.prog.godebug=none:=by kernel_rfl
theorem zpp:Tryz.prog.globalNamed "errors.errorType"=some 0:=by kernel_rfl
theorem zmH:(Tryz.prog.cutTypes.find? (·.1 == "internal/reflectlite.rtype")).map (·.2)=some 202:=by kernel_rfl
theorem znW:((List.range 377).filter fun t=>Tryz.prog.rowNamed t [101,114,114,111,114])=[36]:=by kernel_rfl
theorem zo6:Tryz.prog.types.size=377:=by kernel_rfl
theorem zkl{W:World}{l:List (String × DataW Unit)}(h:laidMetH Tryz.prog l W)(hk:(l.filter fun x=>x.1 == "errors.errorType")=[("errors.errorType",Rows.laid_errors_errorType)]):Zg W:=by
 have h2:=h.filter fun x=>x.1 == "errors.errorType";rw[hk] at h2;have h3:laidMet Tryz.prog [] W/\handlesMet Tryz.prog [("errors.errorType",Rows.laid_errors_errorType)] W:=h2;obtain⟨name,u,ty,e1,e2,e3,e4,e5⟩:=h3.2 _ (List.mem_singleton.2 rfl);have en:name=[101,114,114,111,114]:=(Option.some.inj e1).symm;subst en;obtain rfl:=Option.some.inj (zmH.symm.trans e2);have hm:ty∈(List.range 377).filter fun t=>Tryz.prog.rowNamed t [101,114,114,111,114]:=List.mem_filter.2 ⟨List.mem_range.2 (by rw[<-zo6];exact e3),e4⟩;rw[znW] at hm;obtain rfl:=List.mem_singleton.1 hm;have hh:typeHandle Tryz.prog 36=.pointer (some ⟨10,36,none⟩):=by kernel_rfl
 rw[hh] at e5;have h6:=World.var?_cell zpp e5 0;unfold Zg;simpa using h6
def Z4(cs:Array Value):Obj->Obj
 |.cells _ t frozen=>.cells cs t frozen
 |o=>o
end
section
open Go.ChangeShapes Go.WideShapes Go.ChangeAt Go.RowKit Go.Shelf
theorem zmk:Tryz.prog.globalNamed "internal/strconv.uint64pow10"=some 3:=by kernel_rfl
theorem zlU:(Tryz.prog.globals[3]?).map (·.type)=some 312:=by kernel_rfl
theorem zkz:Tryz.prog.cellsOf 312=20:=by kernel_rfl
theorem zlo:Tryz.prog.cellsOf 200=1:=by kernel_rfl
theorem zgc:Tryz.prog.globalNamed "strconv.ErrSyntax"=some 4:=by kernel_rfl
theorem zmw:(Tryz.prog.globals[4]?).map (·.type)=some 36:=by kernel_rfl
theorem zcq:Tryz.prog.globalNamed "strconv.ErrRange"=some 5:=by kernel_rfl
theorem znR:(Tryz.prog.globals[5]?).map (·.type)=some 36:=by kernel_rfl
theorem zgm:Tryz.prog.cellsOf 349=1:=by kernel_rfl
theorem za4:Tryz.prog.cellsOf 9=1:=by kernel_rfl
theorem zdi : "*" ++ "errors.errorString" = "*errors.errorString":=by decide
theorem zgd(u:TypeId)(h:Tryz.prog.typeName? 3 u=some "*errors.errorString"):u=347 :=
 typeName_ptr_named (nm := "errors.errorString") (by rw[zdi];kernel_rfl) (by kernel_rfl) (by decide) u (by rw[zdi];exact h)
theorem zhV{W:World}{l:List (String × DataW Unit)}(h:laidMetH Tryz.prog l W)(hk:(l.filter fun x=>x.1 == "internal/strconv.uint64pow10")=[("internal/strconv.uint64pow10",Lib.tabData .u64 Lib.pow10Tab)]):Lib.TabIs Tryz.prog W "internal/strconv.uint64pow10" .u64 Lib.pow10Tab:=by
 have h2:=h.filter fun x=>x.1 == "internal/strconv.uint64pow10";rw[hk] at h2;have h3:laidMet Tryz.prog [("internal/strconv.uint64pow10",Lib.tabData .u64 Lib.pow10Tab)] W:=h2;exact Lib.tabIs_of_head (rest:=[]) zmk zlU Tryz.underlying312 Tryz.underlying200 zlo zkz h3
theorem zpl{W:World}{l:List (String × DataW Unit)}(h:laidMetH Tryz.prog l W)(hk:(l.filter fun x=>x.1 == "strconv.ErrSyntax")=[("strconv.ErrSyntax",Rows.laid_strconv_ErrSyntax)]):∃ev,W.cell? ⟨4,0,none⟩=some ev/\(ev=.nilIface\/∃te pe,ev=.iface te pe):=by
 have h2:=h.filter fun x=>x.1 == "strconv.ErrSyntax";rw[hk] at h2;have h3:laidMet Tryz.prog [("strconv.ErrSyntax",Rows.laid_strconv_ErrSyntax)] W:=h2;obtain⟨a0,s0,hv0,-,-,-⟩:=laid_sentinel h3 zgc zmw Tryz.underlying36 zgd Tryz.underlying347 Tryz.underlying349 rfl rfl Tryz.underlying9 zgm za4;exact⟨_,by have h0:=World.var?_cell zgc hv0 0;simpa using h0,.inr ⟨_,_,rfl⟩⟩
theorem zpa{W:World}{l:List (String × DataW Unit)}(h:laidMetH Tryz.prog l W)(hk:(l.filter fun x=>x.1 == "strconv.ErrRange")=[("strconv.ErrRange",Rows.laid_strconv_ErrRange)]):∃ev,W.cell? ⟨5,0,none⟩=some ev/\(ev=.nilIface\/∃te pe,ev=.iface te pe):=by
 have h2:=h.filter fun x=>x.1 == "strconv.ErrRange";rw[hk] at h2;have h3:laidMet Tryz.prog [("strconv.ErrRange",Rows.laid_strconv_ErrRange)] W:=h2;obtain⟨a0,s0,hv0,-,-,-⟩:=laid_sentinel h3 zcq znR Tryz.underlying36 zgd Tryz.underlying347 Tryz.underlying349 rfl rfl Tryz.underlying9 zgm za4;exact⟨_,by have h0:=World.var?_cell zcq hv0 0;simpa using h0,.inr ⟨_,_,rfl⟩⟩
theorem ziG{W:World}(h:W.ShapedOpen Tryz.prog):∃n,W.cell? ⟨2,0,none⟩=some (.int .i64 n) :=
 cell_of_shapedOpen_int (zero:=#[.int .i64 0]) (t:=3) h (of_decide_eq_true (by kernel_rfl)) (by kernel_rfl) rfl (by kernel_rfl) (by kernel_rfl) Tryz.underlying3
theorem zlt{W:World}(h:W.ShapedOpen Tryz.prog):10<=W.heap.size:=by
 obtain⟨o,_,ho,_⟩:=h.2 10 (of_decide_eq_true (by kernel_rfl)) (of_decide_eq_true (by kernel_rfl));have:=(Array.getElem?_eq_some_iff.1 ho).1;omega
theorem znw{W:World}{l:List (String × DataW Unit)}(h:laidMetH Tryz.prog l W)(hs:W.ShapedOpen Tryz.prog)
  (k1:(l.filter fun x=>x.1 == "internal/strconv.uint64pow10")=[("internal/strconv.uint64pow10",Lib.tabData .u64 Lib.pow10Tab)])
  (k2:(l.filter fun x=>x.1 == "strconv.ErrSyntax")=[("strconv.ErrSyntax",Rows.laid_strconv_ErrSyntax)])
  (k3:(l.filter fun x=>x.1 == "strconv.ErrRange")=[("strconv.ErrRange",Rows.laid_strconv_ErrRange)])
  (k4:(l.filter fun x=>x.1 == "errors.errorType")=[("errors.errorType",Rows.laid_errors_errorType)]):Lb W :=
 ⟨ziG hs,zpl h k2,zpa h k3,zhV h k1,zkl h k4,zlt hs⟩
def zer:DataW Unit->List Value
 |.lit (.int k z)=>[.int k z]
 |_=>[undef]
def zjY:DataW Unit->List Value
 |.agg l=>l.flatMap zer
 |d=>zer d
def Xh:DataW Unit->Array Value
 |.agg l=>(l.flatMap zjY).toArray
 |_=>#[]
end
section
open Go.ChangeShapes Go.WideShapes Go.ChangeAt Go.RowKit Go.Shelf
theorem zfh:Tryz.prog.globalNamed "solspace/catalog.words"=some 1:=by kernel_rfl
theorem zkn:(Tryz.prog.globals[1]?).map (·.type)=some 214:=by kernel_rfl
theorem zjZ:Tryz.prog.cellsOf 214=5:=by kernel_rfl
theorem zlr{H:Type}{enc:TypeId × Value->H}{P:Program}{w:World}{base:Nat}{sp:Nat->Bool}{held:Bool}{fuel:Nat}{t e:TypeId}{n:Nat}{cs:List Value}{zs:List ByteArray}{p:List MemPlace}
  (ht:P.underlying t=some (.array n e)) (he:P.underlying e=some .string) (hce:P.cellsOf e=1) (hct:P.cellsOf t=n)
  (h:DataW.trod enc P w base sp held fuel t cs=some (.agg (zs.map fun z=>.lit (.string z.data.toList)),p)):cs=zs.map fun z=>Value.string z:=by
 cases fuel with
 |zero=>simp[DataW.trod] at h
 |succ fuel =>
  simp only[DataW.trod,ht,hce,hct,Nat.mul_one] at h;split at h
  ·rename_i hl;obtain⟨xs,hm,hx⟩:=Option.map_eq_some_iff.1 h;have hxs:xs.map (·.1)=zs.map fun z=>(DataW.lit (.string z.data.toList):DataW H):=by
    have:=congrArg Prod.fst hx;simpa using this
   have hxl:xs.length=n:=by simpa using Lib.mapM_length hm
   have hzl:zs.length=n:=by
    have:=congrArg List.length hxs;simp at this;omega
   apply List.ext_getElem?;intro i
   by_cases hi:i<n
   ·obtain⟨b,hb,hf⟩:=Lib.mapM_at hm i i (by simp[hi]);obtain⟨z,hc,rfl,_⟩:=DataW.trod_string he hf;have h1:cs[i]?=some (.string z):=by
     have:=congrArg (·[0]?) hc;simpa[List.getElem?_take,List.getElem?_drop] using this
    have h2:(xs.map (·.1))[i]?=some (DataW.lit (.string z.data.toList):DataW H):=by simp[hb]
    rw[hxs] at h2;simp only[List.getElem?_map,Option.map_eq_some_iff,DataW.lit.injEq,Lit.string.injEq] at h2;obtain⟨z',hz',e⟩:=h2;obtain rfl:z'=z:=ByteArray.ext (Array.toList_inj.1 e);simp[h1,hz']
   ·rw[List.getElem?_eq_none (by omega),List.getElem?_eq_none (by simp;omega)]
  ·cases h
theorem zie{W:World}{l:List (String × DataW Unit)}(h:laidMetH Tryz.prog l W)(hk:(l.filter fun x=>x.1 == "solspace/catalog.words")=[("solspace/catalog.words",Rows.laid_solspace_catalog_words)]):ZO W:=by
 have h2:=h.filter fun x=>x.1 == "solspace/catalog.words";rw[hk] at h2;have h3:laidMet Tryz.prog [("solspace/catalog.words",Rows.laid_solspace_catalog_words)] W:=h2;obtain⟨ps,⟨g',t',cs,fuel,p,q,hg',ht',hvar,hd,_,_⟩,_⟩:=h3;obtain rfl:=Option.some.inj (zfh.symm.trans hg');obtain rfl:=Option.some.inj (zkn.symm.trans ht');have hcs:=zlr (zs:=[⟨#[]⟩,⟨#[112,97,99,107,97,103,101]⟩,⟨#[110,101,101,100,115]⟩,⟨#[99,108,97,115,104,101,115]⟩,⟨#[114,111,111,116]⟩]) Tryz.underlying214 Tryz.underlying9 za4 zjZ hd;have H:=fun (i:Nat)=>World.var?_cell zfh hvar i;obtain⟨cs⟩:=cs;simp only at hcs;subst hcs;exact⟨by simpa using H 0,by simpa using H 1,by simpa using H 2,by simpa using H 3,by simpa using H 4⟩
noncomputable def zaO(os:Os):World :=
 let w0:=World.holding Tryz.prog os ⟨#[.cells #[.string ⟨#[118,97,108,117,101,32,111,117,116,32,111,102,32,114,97,110,103,101]⟩] 349,.cells #[.string ⟨#[105,110,118,97,108,105,100,32,115,121,110,116,97,120]⟩] 349],#[],[]⟩
 { w0 with heap:=((((((((w0.heap.modify 0 (Z4 #[.iface 202 (.agg #[.pointer (some ⟨10,36,none⟩)])])).modify 4 (Z4 #[.iface 347 (.pointer (some ⟨16,0,none⟩))])).modify 5 (Z4 #[.iface 347 (.pointer (some ⟨15,0,none⟩))])).modify 3 (Z4 (Xh Rows.laid_internal_strconv_uint64pow10))).modify 6 (Z4 (Xh Rows.laid_unicode_utf8_first))).modify 7 (Z4 (Xh Rows.laid_unicode_utf8_acceptRanges))).modify 8 (Z4 (Xh Rows.laid_math_bits_deBruijn32tab))).modify 9 (Z4 (Xh Rows.laid_math_bits_deBruijn64tab))).modify 1 (Z4 #[.string ⟨#[]⟩,.string ⟨#[112,97,99,107,97,103,101]⟩,.string ⟨#[110,101,101,100,115]⟩,.string ⟨#[99,108,97,115,104,101,115]⟩,.string ⟨#[114,111,111,116]⟩]) }
end
end Go.Proofs.YtlmmkbnjhilbdaaGreatDoor
