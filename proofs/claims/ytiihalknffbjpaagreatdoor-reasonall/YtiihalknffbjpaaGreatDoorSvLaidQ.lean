/- What the rows' lists give of the catalog's words and of solspaceref.kinds; a world in which the lists hold. -/
import Derived.Test.YtiihalknffbjpaaGreatDoorCards
import Derived.Test.YtiihalknffbjpaaGreatDoorTie
import Derived.Deep.DeepHandedRow
import Derived.Stop.LaidErr
import Derived.Test.YtiihalknffbjpaaGreatDoorSvRHas
import Derived.Lib.SmallJoins
set_option maxRecDepth 100000
namespace Go.Proofs.YtiihalknffbjpaaGreatDoor
section
open Go.ChangeShapes Go.WideShapes Go.ChangeAt Go.RowKit
theorem own:ownKnob Tryz.prog.godebug=none:=by kernel_rfl
theorem zhT:Tryz.prog.globalNamed "errors.errorType"=some 2:=by kernel_rfl
theorem zdf:(Tryz.prog.cutTypes.find? (·.1 == "internal/reflectlite.rtype")).map (·.2)=some 362:=by kernel_rfl
theorem zku:((List.range 513).filter fun t=>Tryz.prog.rowNamed t [101,114,114,111,114])=[31]:=by kernel_rfl
theorem zjD:Tryz.prog.types.size=513:=by kernel_rfl
theorem zgM{W:World}{l:List (String × DataW Unit)}(h:laidMetH Tryz.prog l W)(hk:(l.filter fun x=>x.1 == "errors.errorType")=[("errors.errorType",Rows.laid_errors_errorType)]):yV W:=by
 have h2:=h.filter fun x=>x.1 == "errors.errorType";rw[hk] at h2;have h3:laidMet Tryz.prog [] W/\handlesMet Tryz.prog [("errors.errorType",Rows.laid_errors_errorType)] W:=h2;obtain⟨name,u,ty,e1,e2,e3,e4,e5⟩:=h3.2 _ (List.mem_singleton.2 rfl);have en:name=[101,114,114,111,114]:=(Option.some.inj e1).symm;subst en;obtain rfl:=Option.some.inj (zdf.symm.trans e2);have hm:ty∈(List.range 513).filter fun t=>Tryz.prog.rowNamed t [101,114,114,111,114]:=List.mem_filter.2 ⟨List.mem_range.2 (by rw[<-zjD];exact e3),e4⟩;rw[zku] at hm;obtain rfl:=List.mem_singleton.1 hm;have hh:typeHandle Tryz.prog 31=.pointer (some ⟨12,31,none⟩):=by kernel_rfl
 rw[hh] at e5;have h6:=World.var?_cell zhT e5 0;unfold yV;simpa using h6
def Zj(cs:Array Value):Obj->Obj
 |.cells _ t frozen=>.cells cs t frozen
 |o=>o
end
section
open Go.ChangeShapes Go.WideShapes Go.ChangeAt Go.RowKit Go.Shelf
theorem zd4:Tryz.prog.globalNamed "internal/strconv.uint64pow10"=some 4:=by kernel_rfl
theorem zkp:(Tryz.prog.globals[4]?).map (·.type)=some 416:=by kernel_rfl
theorem zi3:Tryz.prog.cellsOf 416=20:=by kernel_rfl
theorem zdB:Tryz.prog.cellsOf 165=1:=by kernel_rfl
theorem zcQ:Tryz.prog.globalNamed "strconv.ErrSyntax"=some 10:=by kernel_rfl
theorem ziF:(Tryz.prog.globals[10]?).map (·.type)=some 31:=by kernel_rfl
theorem zbQ:Tryz.prog.globalNamed "strconv.ErrRange"=some 11:=by kernel_rfl
theorem zlx:(Tryz.prog.globals[11]?).map (·.type)=some 31:=by kernel_rfl
theorem zbg:Tryz.prog.cellsOf 486=1:=by kernel_rfl
theorem Xa:Tryz.prog.cellsOf 9=1:=by kernel_rfl
theorem zcx : "*" ++ "errors.errorString" = "*errors.errorString":=by decide
theorem zai(u:TypeId)(h:Tryz.prog.typeName? 3 u=some "*errors.errorString"):u=484 :=
 typeName_ptr_named (nm := "errors.errorString") (by rw[zcx];kernel_rfl) (by kernel_rfl) (by decide) u (by rw[zcx];exact h)
theorem zk6{W:World}{l:List (String × DataW Unit)}(h:laidMetH Tryz.prog l W)(hk:(l.filter fun x=>x.1 == "internal/strconv.uint64pow10")=[("internal/strconv.uint64pow10",Lib.tabData .u64 Lib.pow10Tab)]):Lib.TabIs Tryz.prog W "internal/strconv.uint64pow10" .u64 Lib.pow10Tab:=by
 have h2:=h.filter fun x=>x.1 == "internal/strconv.uint64pow10";rw[hk] at h2;have h3:laidMet Tryz.prog [("internal/strconv.uint64pow10",Lib.tabData .u64 Lib.pow10Tab)] W:=h2;exact Lib.tabIs_of_head (rest:=[]) zd4 zkp Tryz.underlying416 Tryz.underlying165 zdB zi3 h3
theorem zg0{W:World}{l:List (String × DataW Unit)}(h:laidMetH Tryz.prog l W)(hk:(l.filter fun x=>x.1 == "strconv.ErrSyntax")=[("strconv.ErrSyntax",Rows.laid_strconv_ErrSyntax)]):∃ev,W.cell? ⟨10,0,none⟩=some ev/\(ev=.nilIface\/∃te pe,ev=.iface te pe):=by
 have h2:=h.filter fun x=>x.1 == "strconv.ErrSyntax";rw[hk] at h2;have h3:laidMet Tryz.prog [("strconv.ErrSyntax",Rows.laid_strconv_ErrSyntax)] W:=h2;obtain⟨a0,s0,hv0,-,-,-⟩:=laid_sentinel h3 zcQ ziF Tryz.underlying31 zai Tryz.underlying484 Tryz.underlying486 rfl rfl Tryz.underlying9 zbg Xa;exact⟨_,by have h0:=World.var?_cell zcQ hv0 0;simpa using h0,.inr ⟨_,_,rfl⟩⟩
theorem zi4{W:World}{l:List (String × DataW Unit)}(h:laidMetH Tryz.prog l W)(hk:(l.filter fun x=>x.1 == "strconv.ErrRange")=[("strconv.ErrRange",Rows.laid_strconv_ErrRange)]):∃ev,W.cell? ⟨11,0,none⟩=some ev/\(ev=.nilIface\/∃te pe,ev=.iface te pe):=by
 have h2:=h.filter fun x=>x.1 == "strconv.ErrRange";rw[hk] at h2;have h3:laidMet Tryz.prog [("strconv.ErrRange",Rows.laid_strconv_ErrRange)] W:=h2;obtain⟨a0,s0,hv0,-,-,-⟩:=laid_sentinel h3 zbQ zlx Tryz.underlying31 zai Tryz.underlying484 Tryz.underlying486 rfl rfl Tryz.underlying9 zbg Xa;exact⟨_,by have h0:=World.var?_cell zbQ hv0 0;simpa using h0,.inr ⟨_,_,rfl⟩⟩
theorem zkQ{W:World}(h:W.ShapedOpen Tryz.prog):∃n,W.cell? ⟨5,0,none⟩=some (.int .i64 n) :=
 cell_of_shapedOpen_int (zero:=#[.int .i64 0]) (t:=3) h (of_decide_eq_true (by kernel_rfl)) (by kernel_rfl) rfl (by kernel_rfl) (by kernel_rfl) Tryz.underlying3
theorem zcY{W:World}(h:W.ShapedOpen Tryz.prog):12<=W.heap.size:=by
 obtain⟨o,_,ho,_⟩:=h.2 12 (of_decide_eq_true (by kernel_rfl)) (of_decide_eq_true (by kernel_rfl));have:=(Array.getElem?_eq_some_iff.1 ho).1;omega
theorem zlh{W:World}{l:List (String × DataW Unit)}(h:laidMetH Tryz.prog l W)(hs:W.ShapedOpen Tryz.prog)
  (k1:(l.filter fun x=>x.1 == "internal/strconv.uint64pow10")=[("internal/strconv.uint64pow10",Lib.tabData .u64 Lib.pow10Tab)])
  (k2:(l.filter fun x=>x.1 == "strconv.ErrSyntax")=[("strconv.ErrSyntax",Rows.laid_strconv_ErrSyntax)])
  (k3:(l.filter fun x=>x.1 == "strconv.ErrRange")=[("strconv.ErrRange",Rows.laid_strconv_ErrRange)])
  (k4:(l.filter fun x=>x.1 == "errors.errorType")=[("errors.errorType",Rows.laid_errors_errorType)]):Lb W :=
 ⟨zkQ hs,zg0 h k2,zi4 h k3,zk6 h k1,zgM h k4,zcY hs⟩
def zaR:DataW Unit->List Value
 |.lit (.int k z)=>[.int k z]
 |_=>[undef]
def zhO:DataW Unit->List Value
 |.agg l=>l.flatMap zaR
 |d=>zaR d
def Q4:DataW Unit->Array Value
 |.agg l=>(l.flatMap zhO).toArray
 |_=>#[]
end
section
open Go.ChangeShapes Go.WideShapes Go.ChangeAt Go.RowKit Go.Shelf
theorem Jz:Tryz.prog.globalNamed "solspace/solspaceref.Fine"=some 0:=by kernel_rfl
theorem zd2:(Tryz.prog.globals[0]?).map (·.type)=some 96:=by kernel_rfl
theorem zj7:Tryz.prog.cellsOf 3=1:=by kernel_rfl
theorem zkL:Tryz.prog.cellsOf 57=1:=by kernel_rfl
theorem zdn:Tryz.prog.cellsOf 96=2:=by kernel_rfl
theorem zkw{W:World}{l:List (String × DataW Unit)}(h:laidMetH Tryz.prog l W)(hk:(l.filter fun x=>x.1 == "solspace/solspaceref.Fine")=[("solspace/solspaceref.Fine",Rows.laid_solspace_solspaceref_Fine)]):yf W:=by
 have h2:=h.filter fun x=>x.1 == "solspace/solspaceref.Fine";rw[hk] at h2;have h3:laidMet Tryz.prog [("solspace/solspaceref.Fine",Rows.laid_solspace_solspaceref_Fine)] W:=h2;obtain⟨ps,⟨g',t',cs,fuel,p,q,hg',ht',hvar,hd,_,_⟩,_⟩:=h3;obtain rfl:=Option.some.inj (Jz.symm.trans hg');obtain rfl:=Option.some.inj (zd2.symm.trans ht');obtain⟨y0,y1,n,hx,hl,g0,g1⟩:=trod_struct2 Tryz.underlying96 hd;rw[zdn] at hl;obtain⟨cs⟩:=cs;simp only at hl g0 g1
 match cs,hl with
 |[v0,v1],_ =>
  simp[zkL,zj7] at g0 g1;obtain⟨z0,e0,x0,-⟩:=DataW.trod_int Tryz.underlying57 g0;obtain⟨z1,e1,x1,-⟩:=DataW.trod_int Tryz.underlying3 g1;simp at e0 e1;subst e0 e1 x0 x1;simp[Rows.laid_solspace_solspaceref_Fine] at hx;obtain⟨⟨rfl,rfl⟩,-⟩:=hx;have h0:W.cell? ⟨0,0,none⟩=some (.int .i64 0):=by have:=World.var?_cell Jz hvar 0;simpa using this
  exact⟨h0,by have:=World.var?_cell Jz hvar 1;simpa using this,World.block_lt_of_cell? _ _ h0⟩
end
section
open Go.ChangeShapes Go.WideShapes Go.ChangeAt Go.RowKit Go.Shelf
theorem zcz:Tryz.prog.globalNamed "solspace/catalog.words"=some 3:=by kernel_rfl
theorem zkZ:(Tryz.prog.globals[3]?).map (·.type)=some 330:=by kernel_rfl
theorem zgP:Tryz.prog.cellsOf 330=5:=by kernel_rfl
theorem zk7{H:Type}{enc:TypeId × Value->H}{P:Program}{w:World}{base:Nat}{sp:Nat->Bool}{held:Bool}{fuel:Nat}{t e:TypeId}{n:Nat}{cs:List Value}{zs:List ByteArray}{p:List MemPlace}
  (ht:P.underlying t=some (.array n e)) (he:P.underlying e=some .string) (hce:P.cellsOf e=1) (hct:P.cellsOf t=n)
  (h:DataW.trod enc P w base sp held fuel t cs=some (.agg (zs.map fun z=>.lit (.string z.data.toList)),p)):cs=zs.map fun z=>Value.string z:=by
 cases fuel with
 |zero=>simp[DataW.trod] at h
 |succ fuel =>
  simp only[DataW.trod,ht,hce,hct,Nat.mul_one] at h;split at h
  ·rename_i hl;obtain⟨xs,hm,hx⟩:=Option.map_eq_some_iff.1 h;have hxs:xs.map (·.1)=zs.map fun z=>(DataW.lit (.string z.data.toList):DataW H):=by
    have:=congrArg Prod.fst hx;simpa using this
   have hxl:xs.length=n:=by simpa using Lib.mapM_length hm
   have hzl:zs.length=n:=by
    have:=congrArg List.length hxs;simp at this;omega
   apply List.ext_getElem?;intro i
   by_cases hi:i<n
   ·obtain⟨b,hb,hf⟩:=Lib.mapM_at hm i i (by simp[hi]);obtain⟨z,hc,rfl,_⟩:=DataW.trod_string he hf;have h1:cs[i]?=some (.string z):=by
     have:=congrArg (·[0]?) hc;simpa[List.getElem?_take,List.getElem?_drop] using this
    have h2:(xs.map (·.1))[i]?=some (DataW.lit (.string z.data.toList):DataW H):=by simp[hb]
    rw[hxs] at h2;simp only[List.getElem?_map,Option.map_eq_some_iff,DataW.lit.injEq,Lit.string.injEq] at h2;obtain⟨z',hz',e⟩:=h2;obtain rfl:z'=z:=ByteArray.ext (Array.toList_inj.1 e);simp[h1,hz']
   ·rw[List.getElem?_eq_none (by omega),List.getElem?_eq_none (by simp;omega)]
  ·cases h
theorem zjU{W:World}{l:List (String × DataW Unit)}(h:laidMetH Tryz.prog l W)(hk:(l.filter fun x=>x.1 == "solspace/catalog.words")=[("solspace/catalog.words",Rows.laid_solspace_catalog_words)]):Zz W:=by
 have h2:=h.filter fun x=>x.1 == "solspace/catalog.words";rw[hk] at h2;have h3:laidMet Tryz.prog [("solspace/catalog.words",Rows.laid_solspace_catalog_words)] W:=h2;obtain⟨ps,⟨g',t',cs,fuel,p,q,hg',ht',hvar,hd,_,_⟩,_⟩:=h3;obtain rfl:=Option.some.inj (zcz.symm.trans hg');obtain rfl:=Option.some.inj (zkZ.symm.trans ht');have hcs:=zk7 (zs:=[⟨#[]⟩,⟨#[112,97,99,107,97,103,101]⟩,⟨#[110,101,101,100,115]⟩,⟨#[99,108,97,115,104,101,115]⟩,⟨#[114,111,111,116]⟩]) Tryz.underlying330 Tryz.underlying9 Xa zgP hd;have H:=fun (i:Nat)=>World.var?_cell zcz hvar i;obtain⟨cs⟩:=cs;simp only at hcs;subst hcs;exact⟨by simpa using H 0,by simpa using H 1,by simpa using H 2,by simpa using H 3,by simpa using H 4⟩
theorem zcN:Tryz.prog.globalNamed "solspace/solspaceref.kinds"=some 1:=by kernel_rfl
theorem zgk:(Tryz.prog.globals[1]?).map (·.type)=some 167:=by kernel_rfl
theorem zhs{W:World}{l:List (String × DataW Unit)}(h:laidMetH Tryz.prog l W)(hk:(l.filter fun x=>x.1 == "solspace/solspaceref.kinds")=[("solspace/solspaceref.kinds",Rows.laid_solspace_solspaceref_kinds)]):∃ad cap,yK W ad cap:=by
 have h2:=h.filter fun x=>x.1 == "solspace/solspaceref.kinds";rw[hk] at h2;have h3:laidMet Tryz.prog [("solspace/solspaceref.kinds",Rows.laid_solspace_solspaceref_kinds)] W:=h2;obtain⟨ps,⟨g',t',cs,fuel,p,q,hg',ht',hvar,hd,_,_⟩,_⟩:=h3;obtain rfl:=Option.some.inj (zcN.symm.trans hg');obtain rfl:=Option.some.inj (zgk.symm.trans ht');have H:=World.var?_cell zcN hvar 0;rcases Go.Deep.open_slice1 Tryz.underlying167 Xa hd with ⟨_,hx⟩|⟨a,len,cap,m,n,V,D,Pl,hcs,hb,hl,hm,hmm,hx,hc⟩
 ·simp[Rows.laid_solspace_solspaceref_kinds] at hx
 ·have h1:=congrArg Prod.fst hx;simp only[Rows.laid_solspace_solspaceref_kinds,DataW.slice.injEq] at h1;obtain⟨h1,h1b⟩:=h1;have hlen:len=5:=by have:=congrArg List.length h1;simpa using this.symm
  subst hlen;have hm5:5<=m:=by rw[hmm];split<;>omega
  have hD:∀j,j<5->D j=.lit (.string (wl j)):=fun j hj=>by
   have:=congrArg (·[j]?) h1;simp only[List.getElem?_map] at this
   match j,hj with
   |0,_=>simpa[wl] using this.symm
   |1,_=>simpa[wl] using this.symm
   |2,_=>simpa[wl] using this.symm
   |3,_=>simpa[wl] using this.symm
   |4,_=>simpa[wl] using this.symm
  have hcell:∀j,j<5->W.cell? (a.add j)=some (.string ⟨(wl j).toArray⟩):=fun j hj=>by
   obtain⟨z,hz,hzd,_⟩:=DataW.trod_string Tryz.underlying9 (hc j (by omega)).2;rw[(hc j (by omega)).1];have e1:V j=.string z:=by simpa using hz
   rw[e1];have e2:z.data.toList=wl j:=by
    have h7:=hD j hj;have h8:=congrArg Prod.fst hzd;simp only at h8;rw[h8] at h7;simpa using h7
   rw[QK e2]
  refine⟨a,cap,?_,hcell,?_,?_⟩
  ·obtain⟨cs⟩:=cs;simp only at hcs;subst hcs;simpa using H
  ·have h0:W.cell? ⟨1,0,none⟩=some (.slice (some a) 5 cap):=by
    obtain⟨cs⟩:=cs;simp only at hcs;subst hcs;simpa using H
   exact World.block_lt_of_cell? _ _ h0
  ·have:=World.block_lt_of_cell? _ _ (hcell 0 (by omega))
   rwa [yH] at this
noncomputable def Jc(os:Os):World :=
 let w0:=World.holding Tryz.prog os ⟨#[.cells #[.string ⟨#[118,97,108,117,101,32,111,117,116,32,111,102,32,114,97,110,103,101]⟩] 486,.cells #[.string ⟨#[105,110,118,97,108,105,100,32,115,121,110,116,97,120]⟩] 486,.cells #[.string ⟨#[]⟩,.string ⟨#[112,97,99,107,97,103,101]⟩,.string ⟨#[110,101,101,100,115]⟩,.string ⟨#[99,108,97,115,104,101,115]⟩,.string ⟨#[114,111,111,116]⟩] 9],#[],[]⟩
 { w0 with heap:=((((((((((w0.heap.modify 2 (Zj #[.iface 362 (.agg #[.pointer (some ⟨12,31,none⟩)])])).modify 10 (Zj #[.iface 484 (.pointer (some ⟨18,0,none⟩))])).modify 11 (Zj #[.iface 484 (.pointer (some ⟨17,0,none⟩))])).modify 4 (Zj (Q4 Rows.laid_internal_strconv_uint64pow10))).modify 6 (Zj (Q4 Rows.laid_unicode_utf8_first))).modify 7 (Zj (Q4 Rows.laid_unicode_utf8_acceptRanges))).modify 8 (Zj (Q4 Rows.laid_math_bits_deBruijn32tab))).modify 9 (Zj (Q4 Rows.laid_math_bits_deBruijn64tab))).modify 3 (Zj #[.string ⟨#[]⟩,.string ⟨#[112,97,99,107,97,103,101]⟩,.string ⟨#[110,101,101,100,115]⟩,.string ⟨#[99,108,97,115,104,101,115]⟩,.string ⟨#[114,111,111,116]⟩])).modify 0 (Zj #[.int .i64 0,.int .i64 (-1)])).modify 1 (Zj #[.slice (some ⟨19,0,none⟩) 5 5]) }
end
end Go.Proofs.YtiihalknffbjpaaGreatDoor
