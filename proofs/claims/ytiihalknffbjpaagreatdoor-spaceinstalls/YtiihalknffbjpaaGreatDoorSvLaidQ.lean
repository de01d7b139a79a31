/- What the rows' lists give of the catalog's words and of solspaceref.kinds; a world in which the lists hold. -/
import Derived.Test.YtiihalknffbjpaaGreatDoorSvLaidR
set_option maxRecDepth 100000
namespace Go.Proofs.YtiihalknffbjpaaGreatDoor
open Go.ChangeShapes Go.WideShapes Go.ChangeAt Go.RowKit Go.Shelf
theorem zt1:Tryz.prog.globalNamed "solspace/catalog.words"=some 3:=by kernel_rfl
theorem zn0:(Tryz.prog.globals[3]?).map (·.type)=some 330:=by kernel_rfl
theorem znQ:Tryz.prog.cellsOf 330=5:=by kernel_rfl
theorem zim{H:Type}{enc:TypeId × Value->H}{P:Program}{w:World}{base:Nat}{sp:Nat->Bool}{held:Bool}{fuel:Nat}{t e:TypeId}{n:Nat}{cs:List Value}{zs:List ByteArray}{p:List MemPlace}
  (ht:P.underlying t=some (.array n e)) (he:P.underlying e=some .string) (hce:P.cellsOf e=1) (hct:P.cellsOf t=n)
  (h:DataW.trod enc P w base sp held fuel t cs=some (.agg (zs.map fun z=>.lit (.string z.data.toList)),p)):cs=zs.map fun z=>Value.string z:=by
 cases fuel with
 |zero=>simp[DataW.trod] at h
 |succ fuel =>
  simp only[DataW.trod,ht,hce,hct,Nat.mul_one] at h;split at h
  ·rename_i hl;obtain⟨xs,hm,hx⟩:=Option.map_eq_some_iff.1 h;have hxs:xs.map (·.1)=zs.map fun z=>(DataW.lit (.string z.data.toList):DataW H):=by
    have:=congrArg Prod.fst hx;simpa using this
   have hxl:xs.length=n:=by simpa using Lib.mapM_length hm
   have hzl:zs.length=n:=by
    have:=congrArg List.length hxs;simp at this;omega
   apply List.ext_getElem?;intro i
   by_cases hi:i<n
   ·obtain⟨b,hb,hf⟩:=Lib.mapM_at hm i i (by simp[hi]);obtain⟨z,hc,rfl,_⟩:=DataW.trod_string he hf;have h1:cs[i]?=some (.string z):=by
     have:=congrArg (·[0]?) hc;simpa[List.getElem?_take,List.getElem?_drop] using this
    have h2:(xs.map (·.1))[i]?=some (DataW.lit (.string z.data.toList):DataW H):=by simp[hb]
    rw[hxs] at h2;simp only[List.getElem?_map,Option.map_eq_some_iff,DataW.lit.injEq,Lit.string.injEq] at h2;obtain⟨z',hz',e⟩:=h2;obtain rfl:z'=z:=ByteArray.ext (Array.toList_inj.1 e);simp[h1,hz']
   ·rw[List.getElem?_eq_none (by omega),List.getElem?_eq_none (by simp;omega)]
  ·cases h
theorem zrS{W:World}{l:List (String × DataW Unit)}(h:laidMetH Tryz.prog l W)(hk:(l.filter fun x=>x.1 == "solspace/catalog.words")=[("solspace/catalog.words",Rows.laid_solspace_catalog_words)]):zdp W:=by
 have h2:=h.filter fun x=>x.1 == "solspace/catalog.words";rw[hk] at h2;have h3:laidMet Tryz.prog [("solspace/catalog.words",Rows.laid_solspace_catalog_words)] W:=h2;obtain⟨ps,⟨g',t',cs,fuel,p,q,hg',ht',hvar,hd,_,_⟩,_⟩:=h3;obtain rfl:=Option.some.inj (zt1.symm.trans hg');obtain rfl:=Option.some.inj (zn0.symm.trans ht');have hcs:=zim (zs:=[⟨#[]⟩,⟨#[112,97,99,107,97,103,101]⟩,⟨#[110,101,101,100,115]⟩,⟨#[99,108,97,115,104,101,115]⟩,⟨#[114,111,111,116]⟩]) Tryz.underlying330 Tryz.underlying9 zgc znQ hd;have H:=fun (i:Nat)=>World.var?_cell zt1 hvar i;obtain⟨cs⟩:=cs;simp only at hcs;subst hcs;exact⟨by simpa using H 0,by simpa using H 1,by simpa using H 2,by simpa using H 3,by simpa using H 4⟩
theorem zt7:Tryz.prog.globalNamed "solspace/solspaceref.kinds"=some 1:=by kernel_rfl
theorem zof:(Tryz.prog.globals[1]?).map (·.type)=some 167:=by kernel_rfl
theorem zsD{W:World}{l:List (String × DataW Unit)}(h:laidMetH Tryz.prog l W)(hk:(l.filter fun x=>x.1 == "solspace/solspaceref.kinds")=[("solspace/solspaceref.kinds",Rows.laid_solspace_solspaceref_kinds)]):∃ad cap,zbN W ad cap:=by
 have h2:=h.filter fun x=>x.1 == "solspace/solspaceref.kinds";rw[hk] at h2;have h3:laidMet Tryz.prog [("solspace/solspaceref.kinds",Rows.laid_solspace_solspaceref_kinds)] W:=h2;obtain⟨ps,⟨g',t',cs,fuel,p,q,hg',ht',hvar,hd,_,_⟩,_⟩:=h3;obtain rfl:=Option.some.inj (zt7.symm.trans hg');obtain rfl:=Option.some.inj (zof.symm.trans ht');have H:=World.var?_cell zt7 hvar 0;rcases Go.Deep.open_slice1 Tryz.underlying167 zgc hd with ⟨_,hx⟩|⟨a,len,cap,m,n,V,D,Pl,hcs,hb,hl,hm,hmm,hx,hc⟩
 ·simp[Rows.laid_solspace_solspaceref_kinds] at hx
 ·have h1:=congrArg Prod.fst hx;simp only[Rows.laid_solspace_solspaceref_kinds,DataW.slice.injEq] at h1;obtain⟨h1,h1b⟩:=h1;have hlen:len=5:=by have:=congrArg List.length h1;simpa using this.symm
  subst hlen;have hm5:5<=m:=by rw[hmm];split<;>omega
  have hD:∀j,j<5->D j=.lit (.string (wl j)):=fun j hj=>by
   have:=congrArg (·[j]?) h1;simp only[List.getElem?_map] at this
   match j,hj with
   |0,_=>simpa[wl] using this.symm
   |1,_=>simpa[wl] using this.symm
   |2,_=>simpa[wl] using this.symm
   |3,_=>simpa[wl] using this.symm
   |4,_=>simpa[wl] using this.symm
  have hcell:∀j,j<5->W.cell? (a.add j)=some (.string ⟨(wl j).toArray⟩):=fun j hj=>by
   obtain⟨z,hz,hzd,_⟩:=DataW.trod_string Tryz.underlying9 (hc j (by omega)).2;rw[(hc j (by omega)).1];have e1:V j=.string z:=by simpa using hz
   rw[e1];have e2:z.data.toList=wl j:=by
    have h7:=hD j hj;have h8:=congrArg Prod.fst hzd;simp only at h8;rw[h8] at h7;simpa using h7
   rw[zd3 e2]
  refine⟨a,cap,?_,hcell,?_,?_⟩
  ·obtain⟨cs⟩:=cs;simp only at hcs;subst hcs;simpa using H
  ·have h0:W.cell? ⟨1,0,none⟩=some (.slice (some a) 5 cap):=by
    obtain⟨cs⟩:=cs;simp only at hcs;subst hcs;simpa using H
   exact World.block_lt_of_cell? _ _ h0
  ·have:=World.block_lt_of_cell? _ _ (hcell 0 (by omega))
   rwa [zb8] at this
noncomputable def zfg(os:Os):World :=
 let w0:=World.holding Tryz.prog os ⟨#[.cells #[.string ⟨#[118,97,108,117,101,32,111,117,116,32,111,102,32,114,97,110,103,101]⟩] 486,.cells #[.string ⟨#[105,110,118,97,108,105,100,32,115,121,110,116,97,120]⟩] 486,.cells #[.string ⟨#[]⟩,.string ⟨#[112,97,99,107,97,103,101]⟩,.string ⟨#[110,101,101,100,115]⟩,.string ⟨#[99,108,97,115,104,101,115]⟩,.string ⟨#[114,111,111,116]⟩] 9],#[],[]⟩
 { w0 with heap:=((((((((((w0.heap.modify 2 (zdR #[.iface 362 (.agg #[.pointer (some ⟨12,31,none⟩)])])).modify 10 (zdR #[.iface 484 (.pointer (some ⟨18,0,none⟩))])).modify 11 (zdR #[.iface 484 (.pointer (some ⟨17,0,none⟩))])).modify 4 (zdR (zgY Rows.laid_internal_strconv_uint64pow10))).modify 6 (zdR (zgY Rows.laid_unicode_utf8_first))).modify 7 (zdR (zgY Rows.laid_unicode_utf8_acceptRanges))).modify 8 (zdR (zgY Rows.laid_math_bits_deBruijn32tab))).modify 9 (zdR (zgY Rows.laid_math_bits_deBruijn64tab))).modify 3 (zdR #[.string ⟨#[]⟩,.string ⟨#[112,97,99,107,97,103,101]⟩,.string ⟨#[110,101,101,100,115]⟩,.string ⟨#[99,108,97,115,104,101,115]⟩,.string ⟨#[114,111,111,116]⟩])).modify 0 (zdR #[.int .i64 0,.int .i64 (-1)])).modify 1 (zdR #[.slice (some ⟨19,0,none⟩) 5 5]) }
end Go.Proofs.YtiihalknffbjpaaGreatDoor
