import Derived.Test.YthifnefkdjkicaaGreatDoorCtParse
namespace Go.Proofs.YthifnefkdjkicaaGreatDoor
set_option maxHeartbeats 4000000
set_option maxRecDepth 100000
section
open Go.RowKit Go.Deep Sv
theorem set3{W:World}{b:Nat}{t:TypeId}{x y z:Value}(h:Blk W b t #[x,y,z])(p q r:Value):Blk (((W.setCell b p).setCell ⟨b,1,none⟩ q).setCell ⟨b,2,none⟩ r) b t #[p,q,r]:=((h.set (i:=0)).set (i:=1)).set (i:=2)
end
namespace Bd
open Go.RowKit Go.Maps Go.Deep
def Wy.val(x:Wy):Value:=.agg #[.int .u64 x.items,x.cost,x.can]
def ZA(W0:World)(F:FuncId)(cb:Array Value)(C:zJ)(vars:Nat):Prop:=∀W (i:Nat) (b:Bool),zB W0 W->i<vars->zR F (#[.int .i64 i,.bool b]++cb) W (.int .i64 (C i b))
structure BS(w:World)(p dk:Nat)(F:FuncId)(cb:Array Value)(a1 b1 c1 a2 b2 c2:Value)(X:World):Prop where
 w0:Blk X w.heap.size 191 #[.pointer (some p),.func (.func F) #[] cb,.map (some dk)]
 w1:Blk X (w.heap.size+1) 139 #[a1,b1,c1]
 w2:Blk X (w.heap.size+1+1) 139 #[a2,b2,c2]
 w3:Blk X (w.heap.size+1+1+1) 139 #[.int .u64 0,(0:Int),false]
 bel:zB w X
section
variable {w X X':World} {p dk:Nat} {F:FuncId} {cb:Array Value} {a1 b1 c1 a2 b2 c2:Value}
theorem BS.below(h:BS w p dk F cb a1 b1 c1 a2 b2 c2 X)(hb:zB X X'):BS w p dk F cb a1 b1 c1 a2 b2 c2 X' :=
 ⟨h.w0.below hb h.w0.lt,h.w1.below hb h.w1.lt,h.w2.below hb h.w2.lt,h.w3.below hb h.w3.lt,zT h.bel hb⟩
theorem BS.drew(h:BS w p dk F cb a1 b1 c1 a2 b2 c2 X):BS w p dk F cb a1 b1 c1 a2 b2 c2 X.drew:=h.below zF.drew
theorem BS.setw1(h:BS w p dk F cb a1 b1 c1 a2 b2 c2 X)(v:Value):BS w p dk F cb a1 v c1 a2 b2 c2 (X.setCell ⟨w.heap.size+1,1,none⟩ v) :=
 ⟨h.w0.other (by omega),h.w1.set (i:=1),h.w2.other (by omega),h.w3.other (by omega),h.bel.setCell (p:=⟨w.heap.size+1,1,none⟩) (by show w.heap.size<=w.heap.size+1;omega) _⟩
theorem BS.setw2(h:BS w p dk F cb a1 b1 c1 a2 b2 c2 X)(v:Value):BS w p dk F cb a1 b1 c1 a2 v c2 (X.setCell ⟨w.heap.size+1+1,1,none⟩ v) :=
 ⟨h.w0.other (by omega),h.w1.other (by omega),h.w2.set (i:=1),h.w3.other (by omega),h.bel.setCell (p:=⟨w.heap.size+1+1,1,none⟩) (by show w.heap.size<=w.heap.size+1+1;omega) _⟩
theorem BS.setw0(h:BS w p dk F cb a1 b1 c1 a2 b2 c2 X)(v:Value):BS w p dk F cb a1 b1 c1 v b2 c2 (X.setCell ⟨w.heap.size+1+1,0,none⟩ v) :=
 ⟨h.w0.other (by omega),h.w1.other (by omega),h.w2.set (i:=0),h.w3.other (by omega),h.bel.setCell (p:=⟨w.heap.size+1+1,0,none⟩) (by show w.heap.size<=w.heap.size+1+1;omega) _⟩
end
theorem KX{w W:World}{b:Nat}(h:zB w W)(hb:w.heap.size<=b)(p q r:Value):zB w (((W.setCell b p).setCell ⟨b,1,none⟩ q).setCell ⟨b,2,none⟩ r) :=
 ((h.setCell (p:=b) hb _).setCell (p:=⟨b,1,none⟩) hb _).setCell (p:=⟨b,2,none⟩) hb _
theorem zeR(m i:Nat)(hm:m<2^24)(hi:i<24):bits BinOp.or IntKind.u64 (m:Int) (IntKind.u64.wrap (2^i))=((m|||2^i:Nat):Int):=by
 have h1:(2:Nat)^i<2^64:=Nat.pow_lt_pow_right (by decide) (by omega);have h2:(2:Nat)^24<18446744073709551616:=by decide
 have e:IntKind.u64.wrap (2^i)=((2^i:Nat):Int):=by
  rw[IntKind.wrap_u64,show ((2:Int)^i)=((2^i:Nat):Int) by simp];exact Int.emod_eq_of_lt (Int.natCast_nonneg _) (by omega)
 rw[e,bits_or_u64_nat m (2^i) (by omega) (by omega)]
theorem zdC{W0 w:World}(F:FuncId)(cb:Array Value)(C:zJ)(vars:Nat)(hv:vars<=24)(hent:∀a3 w,(callFunc F a3).run Tryz.prog w=.ok (.enter F a3) w)(hC:Zj C)(hCA:ZA W0 F cb C vars)(hW:zB W0 w)(p:Nat)(dk:Nat)(i:Nat)(hi:i<vars)(wo wi:Wy)(h1:0<=wo.cost/\wo.cost<=24000000)(h2:0<=wi.cost/\wi.cost<=24000000)(h3:wi.items<2^24) :
  zC 142 #[.agg #[.pointer (some p),.func (.func F) #[] cb,.map (some dk)],i,wo.val,wi.val] w fun e w'=>e=.returned (xG C i wo wi).val/\zB w w':=by
 have k0:=(((Blk.new w 191 #[.pointer (some p),.func (.func F) #[] cb,.map (some dk)]).alloc (.cells #[.int .u64 wo.items,wo.cost,wo.can] 139)).alloc (.cells #[.int .u64 wi.items,wi.cost,wi.can] 139)).alloc (.cells #[.int .u64 0,(0:Int),false] 139);have k1:=((Blk.new (w.alloc (.cells #[.pointer (some p),.func (.func F) #[] cb,.map (some dk)] 191)) 139 #[.int .u64 wo.items,wo.cost,wo.can]).alloc (.cells #[.int .u64 wi.items,wi.cost,wi.can] 139)).alloc (.cells #[.int .u64 0,(0:Int),false] 139);have k2:=(Blk.new ((w.alloc (.cells #[.pointer (some p),.func (.func F) #[] cb,.map (some dk)] 191)).alloc (.cells #[.int .u64 wo.items,wo.cost,wo.can] 139)) 139 #[.int .u64 wi.items,wi.cost,wi.can]).alloc (.cells #[.int .u64 0,(0:Int),false] 139);have k3:=Blk.new (((w.alloc (.cells #[.pointer (some p),.func (.func F) #[] cb,.map (some dk)] 191)).alloc (.cells #[.int .u64 wo.items,wo.cost,wo.can] 139)).alloc (.cells #[.int .u64 wi.items,wi.cost,wi.can] 139)) 139 #[.int .u64 0,(0:Int),false];simp only[zA0] at k1 k2 k3;have a6:zB w ((((w.alloc (.cells #[.pointer (some p),.func (.func F) #[] cb,.map (some dk)] 191)).alloc (.cells #[.int .u64 wo.items,wo.cost,wo.can] 139)).alloc (.cells #[.int .u64 wi.items,wi.cost,wi.can] 139)).alloc (.cells #[.int .u64 0,(0:Int),false] 139)):=((((Below.refl _ w).alloc zN _).alloc (by simp only[zA0];omega) _).alloc (by simp only[zA0];omega) _).alloc (by simp only[zA0];omega) _;have a4:Hid (∀W,zB w W->zR F (#[.int .i64 i,.bool false]++cb) W (.int .i64 (C i false))):=fun W hb=>hCA W i false (zT hW hb) hi;have a5:Hid (∀W,zB w W->zR F (#[.int .i64 i,.bool true]++cb) W (.int .i64 (C i true))):=fun W hb=>hCA W i true (zT hW hb) hi;have b1:=hC i false;have b2:=hC i true;have ae:=zeR wi.items i h3 (by omega);have Z:Hid (xG C i wo wi=if wi.can=true/\(wo.can=false\/wi.cost+C i true<=wo.cost+C i false) then ⟨wi.items|||2^i,wi.cost+C i true,wi.can⟩ else ⟨wo.items,wo.cost+C i false,wo.can⟩):=rfl;generalize xG C i wo wi=R at *;unfold Wy.val;obtain⟨oi,oc,ob⟩:=wo;obtain⟨ii,ic,ib⟩:=wi;simp only at *;obtain⟨g1,a8⟩:∃g,C i false=g:=⟨_,rfl⟩;obtain⟨g2,a9⟩:∃g,C i true=g:=⟨_,rfl⟩;rw[a8] at a4 b1 Z;rw[a9] at a5 b2 Z;clear hCA hC a8 a9 hW;have ad:(i:Int)<64:=by omega
 have aa:wrap64 (oc+g1)=oc+g1:=by unfold wrap64;omega
 have ab:wrap64 (ic+g2)=ic+g2:=by unfold wrap64;omega
 have ag:IntKind.i64.wrap (oc+g1)=oc+g1:=by rw[IntKind.wrap_i64];unfold wrap64 at aa;exact aa
 have ah:IntKind.i64.wrap (ic+g2)=ic+g2:=by rw[IntKind.wrap_i64];unfold wrap64 at ab;exact ab
 have af:(0:Int)<=(i:Int):=by omega
 go_enter Tryz.func142,Tryz.ntmps142;go_upto_region 1 with fail;generalize ac:((((w.alloc (.cells #[.pointer (some p),.func (.func F) #[] cb,.map (some dk)] 191)).alloc (.cells #[.int .u64 oi,oc,ob] 139)).alloc (.cells #[.int .u64 ii,ic,ib] 139)).alloc (.cells #[.int .u64 0,(0:Int),false] 139))=WA at *;have a7:BS w p dk F cb (.int .u64 oi) (.int .i64 oc) (.bool ob) (.int .u64 ii) (.int .i64 ic) (.bool ib) WA:=⟨k0,k1,k2,k3,a6⟩;clear ac k0 k1 k2 k3;have U:=zH a7.drew;have c0:_=some (Value.func (.func F) #[] cb):=U.out.w0.cell 1;have c1:_=some (Value.int .i64 oc):=U.out.w1.cell 1;have D0:zB w WA.drew:=a6.drew;clear a7 a6;go_cut [10] (fun _ wx=>BS w p dk F cb (.int .u64 oi) (.int .i64 (oc+g1)) (.bool ob) (.int .u64 ii) (.int .i64 ic) (.bool ib) wx)
 case first =>
   refine wp_region_noPanic ?_;refine wp_region_held_drew (S:=(fun X=>X.cell? ⟨w.heap.size,1,none⟩=some (.func (.func F) #[] cb))) (by kernel_rfl) c0 (fun q=>?_);refine wpAnyH_take (i:=0) (oi:=⟨_,_,_,_,_,_⟩) (v:=?_) rfl (by as_aux_lemma=>kernel_rfl) (by as_aux_lemma=>kernel_rfl) (by as_aux_lemma=>kernel_rfl) (fun _ _ _ h=>h) (Or.inl ⟨by rfl,?_⟩) (by assumption) ?_;rotate_left
   ·(intro w u;(try dsimp only at u);first|(go_simp;done)|(go_simp;with_reducible rfl))
   try simp only[Act.put,List.setIfInBounds_toArray,List.set_cons_zero,List.set_cons_succ]
   refine wpAnyH_take (i:=2) (oi:=⟨_,_,_,_,_,_⟩) (v:=?_) rfl (by as_aux_lemma=>kernel_rfl) (by as_aux_lemma=>kernel_rfl) (by as_aux_lemma=>kernel_rfl) (fun _ _ _ h=>h) (Or.inl ⟨by rfl,?_⟩) (by assumption) ?_;rotate_left
   ·(intro w u;(try dsimp only at u);first|(go_simp;done)|(go_simp;with_reducible rfl))
   try simp only[Act.put,List.setIfInBounds_toArray,List.set_cons_zero,List.set_cons_succ]
   refine wpAnyH_take (i:=3) (oi:=⟨_,_,_,_,_,_⟩) (v:=?_) rfl (by as_aux_lemma=>kernel_rfl) (by as_aux_lemma=>kernel_rfl) (by as_aux_lemma=>kernel_rfl) (fun _ _ _ h=>h) (Or.inl ⟨by rfl,?_⟩) (by assumption) ?_;rotate_left
   ·(intro w u;(try dsimp only at u);first|(go_simp;done)|(go_simp;with_reducible rfl))
   try simp only[Act.put,List.setIfInBounds_toArray,List.set_cons_zero,List.set_cons_succ]
   refine wpAnyH_take (i:=4) (oi:=⟨_,_,_,_,_,_⟩) (v:=?_) rfl (by as_aux_lemma=>kernel_rfl) (by as_aux_lemma=>kernel_rfl) (by as_aux_lemma=>kernel_rfl) (fun _ _ _ h=>h) (Or.inl ⟨by rfl,?_⟩) (by assumption) ?_;rotate_left
   ·(intro w u;(try dsimp only at u);first|(go_simp;done)|(go_simp;with_reducible rfl))
   try simp only[Act.put,List.setIfInBounds_toArray,List.set_cons_zero,List.set_cons_succ]
   refine wpAnyH_ready (rs:=[1,5]) (by as_aux_lemma=>kernel_rfl) (by simp) ?_;refine AllReadyH.cons (o:=⟨_,_,_,_,_,_⟩) rfl (fun K hK=>?_) (AllReadyH.cons (o:=⟨_,_,_,_,_,_⟩) rfl (fun K hK=>?_) AllReadyH.nil)
   ·go_simp;refine hK.out _ _ ?_ (fun j=>?_)
    ·exact q
    clear hK K;replace q:=j;clear j
    try simp only[Act.put,List.setIfInBounds_toArray,List.set_cons_zero,List.set_cons_succ]
    refine wpAnyH_ready (rs:=[5]) (by as_aux_lemma=>kernel_rfl) (by simp) ?_;refine AllReadyH.cons (o:=⟨_,_,_,_,_,_⟩) rfl (fun K hK=>?_) AllReadyH.nil;go_simp;refine(a4.out _ D0).mono ?_;rintro e x1 ⟨rfl,M⟩;have D1:zB w x1:=zT D0 M;have BX:=U.out.below M;have f1:=BX.w1.cell 1;have f2:=BX.w1.frozen 1;have f0:=BX.w0.cell 1
    try simp only
    refine hK.out _ _ ?_ (fun j=>?_)
    ·exact f0
    clear hK K;replace q:=j;clear j
    try simp only[Act.put,List.setIfInBounds_toArray,List.set_cons_zero,List.set_cons_succ]
    refine wpAnyH_take (i:=6) (oi:=⟨_,_,_,_,_,_⟩) (v:=?_) rfl (by as_aux_lemma=>kernel_rfl) (by as_aux_lemma=>kernel_rfl) (by as_aux_lemma=>kernel_rfl) (fun _ _ _ h=>h) (Or.inl ⟨by rfl,?_⟩) (by assumption) ?_;rotate_left
    ·(intro w u;(try dsimp only at u);first|(go_simp;done)|(go_simp;with_reducible rfl))
    try simp only[Act.put,List.setIfInBounds_toArray,List.set_cons_zero,List.set_cons_succ]
    refine wpAnyH_take (i:=7) (oi:=⟨_,_,_,_,_,_⟩) (v:=?_) rfl (by as_aux_lemma=>kernel_rfl) (by as_aux_lemma=>kernel_rfl) (by as_aux_lemma=>kernel_rfl) (fun _ _ _ h=>h) (Or.inl ⟨by rfl,?_⟩) (by assumption) ?_;rotate_left
    ·(intro w u;(try dsimp only at u);first|(go_simp;done)|(go_simp;with_reducible rfl))
    try simp only[Act.put,List.setIfInBounds_toArray,List.set_cons_zero,List.set_cons_succ]
    refine wpAnyH_ready (rs:=[8]) (by as_aux_lemma=>kernel_rfl) (by simp) ?_;refine AllReadyH.cons (o:=⟨_,_,_,_,_,_⟩) rfl (fun K hK=>?_) AllReadyH.nil;go_simp;refine hK.out _ _ ?_ (fun j=>?_)
    ·exact(BX.setw1 (.int .i64 (oc+g1))).w0.cell 1
    clear hK K;replace q:=j;clear j
    try simp only[Act.put,List.setIfInBounds_toArray,List.set_cons_zero,List.set_cons_succ]
    refine wpAnyH_done (by kernel_rfl) (NoPanic.normal ?_) _;have V:=zH (BX.setw1 (.int .i64 (oc+g1)));clear q f0 f1 f2 BX D1 M;go_wp2_with fail;go_meet
    case rel=>exact V.out
   ·go_simp;refine(a4.out _ D0).mono ?_;rintro e x1 ⟨rfl,M⟩;have D1:zB w x1:=zT D0 M;have BX:=U.out.below M;have f1:=BX.w1.cell 1;have f2:=BX.w1.frozen 1;have f0:=BX.w0.cell 1
    try simp only
    refine hK.out _ _ ?_ (fun j=>?_)
    ·exact f0
    clear hK K;replace q:=j;clear j
    try simp only[Act.put,List.setIfInBounds_toArray,List.set_cons_zero,List.set_cons_succ]
    refine wpAnyH_ready (rs:=[1]) (by as_aux_lemma=>kernel_rfl) (by simp) ?_;refine AllReadyH.cons (o:=⟨_,_,_,_,_,_⟩) rfl (fun K hK=>?_) AllReadyH.nil;go_simp;refine hK.out _ _ ?_ (fun j=>?_)
    ·exact q
    clear hK K;replace q:=j;clear j
    try simp only[Act.put,List.setIfInBounds_toArray,List.set_cons_zero,List.set_cons_succ]
    refine wpAnyH_take (i:=6) (oi:=⟨_,_,_,_,_,_⟩) (v:=?_) rfl (by as_aux_lemma=>kernel_rfl) (by as_aux_lemma=>kernel_rfl) (by as_aux_lemma=>kernel_rfl) (fun _ _ _ h=>h) (Or.inl ⟨by rfl,?_⟩) (by assumption) ?_;rotate_left
    ·(intro w u;(try dsimp only at u);first|(go_simp;done)|(go_simp;with_reducible rfl))
    try simp only[Act.put,List.setIfInBounds_toArray,List.set_cons_zero,List.set_cons_succ]
    refine wpAnyH_take (i:=7) (oi:=⟨_,_,_,_,_,_⟩) (v:=?_) rfl (by as_aux_lemma=>kernel_rfl) (by as_aux_lemma=>kernel_rfl) (by as_aux_lemma=>kernel_rfl) (fun _ _ _ h=>h) (Or.inl ⟨by rfl,?_⟩) (by assumption) ?_;rotate_left
    ·(intro w u;(try dsimp only at u);first|(go_simp;done)|(go_simp;with_reducible rfl))
    try simp only[Act.put,List.setIfInBounds_toArray,List.set_cons_zero,List.set_cons_succ]
    refine wpAnyH_ready (rs:=[8]) (by as_aux_lemma=>kernel_rfl) (by simp) ?_;refine AllReadyH.cons (o:=⟨_,_,_,_,_,_⟩) rfl (fun K hK=>?_) AllReadyH.nil;go_simp;refine hK.out _ _ ?_ (fun j=>?_)
    ·exact(BX.setw1 (.int .i64 (oc+g1))).w0.cell 1
    clear hK K;replace q:=j;clear j
    try simp only[Act.put,List.setIfInBounds_toArray,List.set_cons_zero,List.set_cons_succ]
    refine wpAnyH_done (by kernel_rfl) (NoPanic.normal ?_) _;have V:=zH (BX.setw1 (.int .i64 (oc+g1)));clear q f0 f1 f2 BX D1 M;go_wp2_with fail;go_meet
    case rel=>exact V.out
 case rest =>
  clear U c0 c1 D0 a4;have Y:=hcut;clear hcut;have U:=zH Y.drew;have c0:_=some (Value.func (.func F) #[] cb):=U.out.w0.cell 1;have c1:_=some (Value.int .i64 ic):=U.out.w2.cell 1;have D0:zB w wc.drew:=Y.bel.drew;clear Y;go_upto_region 2 with fail;go_cut [18] (fun _ wx=>BS w p dk F cb (.int .u64 oi) (.int .i64 (oc+g1)) (.bool ob) (.int .u64 ii) (.int .i64 (ic+g2)) (.bool ib) wx)
  case first =>
   refine wp_region_noPanic ?_;refine wp_region_held_drew (S:=(fun X=>X.cell? ⟨w.heap.size,1,none⟩=some (.func (.func F) #[] cb))) (by kernel_rfl) c0 (fun q=>?_);refine wpAnyH_take (i:=0) (oi:=⟨_,_,_,_,_,_⟩) (v:=?_) rfl (by as_aux_lemma=>kernel_rfl) (by as_aux_lemma=>kernel_rfl) (by as_aux_lemma=>kernel_rfl) (fun _ _ _ h=>h) (Or.inl ⟨by rfl,?_⟩) (by assumption) ?_;rotate_left
   ·(intro w u;(try dsimp only at u);first|(go_simp;done)|(go_simp;with_reducible rfl))
   try simp only[Act.put,List.setIfInBounds_toArray,List.set_cons_zero,List.set_cons_succ]
   refine wpAnyH_take (i:=2) (oi:=⟨_,_,_,_,_,_⟩) (v:=?_) rfl (by as_aux_lemma=>kernel_rfl) (by as_aux_lemma=>kernel_rfl) (by as_aux_lemma=>kernel_rfl) (fun _ _ _ h=>h) (Or.inl ⟨by rfl,?_⟩) (by assumption) ?_;rotate_left
   ·(intro w u;(try dsimp only at u);first|(go_simp;done)|(go_simp;with_reducible rfl))
   try simp only[Act.put,List.setIfInBounds_toArray,List.set_cons_zero,List.set_cons_succ]
   refine wpAnyH_take (i:=3) (oi:=⟨_,_,_,_,_,_⟩) (v:=?_) rfl (by as_aux_lemma=>kernel_rfl) (by as_aux_lemma=>kernel_rfl) (by as_aux_lemma=>kernel_rfl) (fun _ _ _ h=>h) (Or.inl ⟨by rfl,?_⟩) (by assumption) ?_;rotate_left
   ·(intro w u;(try dsimp only at u);first|(go_simp;done)|(go_simp;with_reducible rfl))
   try simp only[Act.put,List.setIfInBounds_toArray,List.set_cons_zero,List.set_cons_succ]
   refine wpAnyH_take (i:=4) (oi:=⟨_,_,_,_,_,_⟩) (v:=?_) rfl (by as_aux_lemma=>kernel_rfl) (by as_aux_lemma=>kernel_rfl) (by as_aux_lemma=>kernel_rfl) (fun _ _ _ h=>h) (Or.inl ⟨by rfl,?_⟩) (by assumption) ?_;rotate_left
   ·(intro w u;(try dsimp only at u);first|(go_simp;done)|(go_simp;with_reducible rfl))
   try simp only[Act.put,List.setIfInBounds_toArray,List.set_cons_zero,List.set_cons_succ]
   refine wpAnyH_ready (rs:=[1,5]) (by as_aux_lemma=>kernel_rfl) (by simp) ?_;refine AllReadyH.cons (o:=⟨_,_,_,_,_,_⟩) rfl (fun K hK=>?_) (AllReadyH.cons (o:=⟨_,_,_,_,_,_⟩) rfl (fun K hK=>?_) AllReadyH.nil)
   ·go_simp;refine hK.out _ _ ?_ (fun j=>?_)
    ·exact q
    clear hK K;replace q:=j;clear j
    try simp only[Act.put,List.setIfInBounds_toArray,List.set_cons_zero,List.set_cons_succ]
    refine wpAnyH_ready (rs:=[5]) (by as_aux_lemma=>kernel_rfl) (by simp) ?_;refine AllReadyH.cons (o:=⟨_,_,_,_,_,_⟩) rfl (fun K hK=>?_) AllReadyH.nil;go_simp;refine(a5.out _ D0).mono ?_;rintro e x2 ⟨rfl,M⟩;have D1:zB w x2:=zT D0 M;have BX:=U.out.below M;have f1:=BX.w2.cell 1;have f2:=BX.w2.frozen 1;have f0:=BX.w0.cell 1
    try simp only
    refine hK.out _ _ ?_ (fun j=>?_)
    ·exact f0
    clear hK K;replace q:=j;clear j
    try simp only[Act.put,List.setIfInBounds_toArray,List.set_cons_zero,List.set_cons_succ]
    refine wpAnyH_take (i:=6) (oi:=⟨_,_,_,_,_,_⟩) (v:=?_) rfl (by as_aux_lemma=>kernel_rfl) (by as_aux_lemma=>kernel_rfl) (by as_aux_lemma=>kernel_rfl) (fun _ _ _ h=>h) (Or.inl ⟨by rfl,?_⟩) (by assumption) ?_;rotate_left
    ·(intro w u;(try dsimp only at u);first|(go_simp;done)|(go_simp;with_reducible rfl))
    try simp only[Act.put,List.setIfInBounds_toArray,List.set_cons_zero,List.set_cons_succ]
    refine wpAnyH_take (i:=7) (oi:=⟨_,_,_,_,_,_⟩) (v:=?_) rfl (by as_aux_lemma=>kernel_rfl) (by as_aux_lemma=>kernel_rfl) (by as_aux_lemma=>kernel_rfl) (fun _ _ _ h=>h) (Or.inl ⟨by rfl,?_⟩) (by assumption) ?_;rotate_left
    ·(intro w u;(try dsimp only at u);first|(go_simp;done)|(go_simp;with_reducible rfl))
    try simp only[Act.put,List.setIfInBounds_toArray,List.set_cons_zero,List.set_cons_succ]
    refine wpAnyH_ready (rs:=[8]) (by as_aux_lemma=>kernel_rfl) (by simp) ?_;refine AllReadyH.cons (o:=⟨_,_,_,_,_,_⟩) rfl (fun K hK=>?_) AllReadyH.nil;go_simp;refine hK.out _ _ ?_ (fun j=>?_)
    ·exact(BX.setw2 (.int .i64 (ic+g2))).w0.cell 1
    clear hK K;replace q:=j;clear j
    try simp only[Act.put,List.setIfInBounds_toArray,List.set_cons_zero,List.set_cons_succ]
    refine wpAnyH_done (by kernel_rfl) (NoPanic.normal ?_) _;have V:=zH (BX.setw2 (.int .i64 (ic+g2)));clear q f0 f1 f2 BX D1 M;go_wp2_with fail;go_meet
    case rel=>exact V.out
   ·go_simp;refine(a5.out _ D0).mono ?_;rintro e x2 ⟨rfl,M⟩;have D1:zB w x2:=zT D0 M;have BX:=U.out.below M;have f1:=BX.w2.cell 1;have f2:=BX.w2.frozen 1;have f0:=BX.w0.cell 1
    try simp only
    refine hK.out _ _ ?_ (fun j=>?_)
    ·exact f0
    clear hK K;replace q:=j;clear j
    try simp only[Act.put,List.setIfInBounds_toArray,List.set_cons_zero,List.set_cons_succ]
    refine wpAnyH_ready (rs:=[1]) (by as_aux_lemma=>kernel_rfl) (by simp) ?_;refine AllReadyH.cons (o:=⟨_,_,_,_,_,_⟩) rfl (fun K hK=>?_) AllReadyH.nil;go_simp;refine hK.out _ _ ?_ (fun j=>?_)
    ·exact q
    clear hK K;replace q:=j;clear j
    try simp only[Act.put,List.setIfInBounds_toArray,List.set_cons_zero,List.set_cons_succ]
    refine wpAnyH_take (i:=6) (oi:=⟨_,_,_,_,_,_⟩) (v:=?_) rfl (by as_aux_lemma=>kernel_rfl) (by as_aux_lemma=>kernel_rfl) (by as_aux_lemma=>kernel_rfl) (fun _ _ _ h=>h) (Or.inl ⟨by rfl,?_⟩) (by assumption) ?_;rotate_left
    ·(intro w u;(try dsimp only at u);first|(go_simp;done)|(go_simp;with_reducible rfl))
    try simp only[Act.put,List.setIfInBounds_toArray,List.set_cons_zero,List.set_cons_succ]
    refine wpAnyH_take (i:=7) (oi:=⟨_,_,_,_,_,_⟩) (v:=?_) rfl (by as_aux_lemma=>kernel_rfl) (by as_aux_lemma=>kernel_rfl) (by as_aux_lemma=>kernel_rfl) (fun _ _ _ h=>h) (Or.inl ⟨by rfl,?_⟩) (by assumption) ?_;rotate_left
    ·(intro w u;(try dsimp only at u);first|(go_simp;done)|(go_simp;with_reducible rfl))
    try simp only[Act.put,List.setIfInBounds_toArray,List.set_cons_zero,List.set_cons_succ]
    refine wpAnyH_ready (rs:=[8]) (by as_aux_lemma=>kernel_rfl) (by simp) ?_;refine AllReadyH.cons (o:=⟨_,_,_,_,_,_⟩) rfl (fun K hK=>?_) AllReadyH.nil;go_simp;refine hK.out _ _ ?_ (fun j=>?_)
    ·exact(BX.setw2 (.int .i64 (ic+g2))).w0.cell 1
    clear hK K;replace q:=j;clear j
    try simp only[Act.put,List.setIfInBounds_toArray,List.set_cons_zero,List.set_cons_succ]
    refine wpAnyH_done (by kernel_rfl) (NoPanic.normal ?_) _;have V:=zH (BX.setw2 (.int .i64 (ic+g2)));clear q f0 f1 f2 BX D1 M;go_wp2_with fail;go_meet
    case rel=>exact V.out
  case rest =>
   clear U c0 c1 D0 a5;have Y:=zH hcut.drew;clear hcut;have c0:_=some (Value.int .u64 ii):=Y.out.w2.cell 0;have c1:=Y.out.w2.frozen 0;go_upto_region 3 with fail;go_cut [26] (fun _ wx=>BS w p dk F cb (.int .u64 oi) (.int .i64 (oc+g1)) (.bool ob) (.int .u64 ((ii|||2^i:Nat):Int)) (.int .i64 (ic+g2)) (.bool ib) wx)
   case first =>
    refine wp_region_noPanic ?_;refine wp_region_held_drew (S:=fun _=>True) (by kernel_rfl) trivial (fun q=>?_);refine wpAnyH_take (i:=0) (oi:=⟨_,_,_,_,_,_⟩) (v:=?_) rfl (by as_aux_lemma=>kernel_rfl) (by as_aux_lemma=>kernel_rfl) (by as_aux_lemma=>kernel_rfl) (fun _ _ _ h=>h) (Or.inl ⟨by rfl,?_⟩) (by assumption) ?_;rotate_left
    ·(intro w u;(try dsimp only at u);first|(go_simp;done)|(go_simp;with_reducible rfl))
    try simp only[Act.put,List.setIfInBounds_toArray,List.set_cons_zero,List.set_cons_succ]
    refine wpAnyH_take (i:=2) (oi:=⟨_,_,_,_,_,_⟩) (v:=?_) rfl (by as_aux_lemma=>kernel_rfl) (by as_aux_lemma=>kernel_rfl) (by as_aux_lemma=>kernel_rfl) (fun _ _ _ h=>h) (Or.inl ⟨by rfl,?_⟩) (by assumption) ?_;rotate_left
    ·(intro w u;(try dsimp only at u);first|(go_simp;done)|(go_simp;with_reducible rfl))
    try simp only[Act.put,List.setIfInBounds_toArray,List.set_cons_zero,List.set_cons_succ]
    refine wpAnyH_take (i:=3) (oi:=⟨_,_,_,_,_,_⟩) (v:=?_) rfl (by as_aux_lemma=>kernel_rfl) (by as_aux_lemma=>kernel_rfl) (by as_aux_lemma=>kernel_rfl) (fun _ _ _ h=>h) (Or.inl ⟨by rfl,?_⟩) (by assumption) ?_;rotate_left
    ·(intro w u;(try dsimp only at u);first|(go_simp;done)|(go_simp;with_reducible rfl))
    try simp only[Act.put,List.setIfInBounds_toArray,List.set_cons_zero,List.set_cons_succ]
    refine wpAnyH_ready (rs:=[1]) (by as_aux_lemma=>kernel_rfl) (by simp) ?_;refine AllReadyH.cons (o:=⟨_,_,_,_,_,_⟩) rfl (fun K hK=>?_) AllReadyH.nil;go_simp;refine hK.out _ _ trivial (fun j=>?_);clear hK K j
    try simp only[Act.put,List.setIfInBounds_toArray,List.set_cons_zero,List.set_cons_succ]
    refine wpAnyH_take (i:=4) (oi:=⟨_,_,_,_,_,_⟩) (v:=?_) rfl (by as_aux_lemma=>kernel_rfl) (by as_aux_lemma=>kernel_rfl) (by as_aux_lemma=>kernel_rfl) (fun _ _ _ h=>h) (Or.inl ⟨by rfl,?_⟩) (by assumption) ?_;rotate_left
    ·(intro w u;(try dsimp only at u);first|(go_simp;done)|(go_simp;with_reducible rfl))
    try simp only[Act.put,List.setIfInBounds_toArray,List.set_cons_zero,List.set_cons_succ]
    refine wpAnyH_take (i:=5) (oi:=⟨_,_,_,_,_,_⟩) (v:=?_) rfl (by as_aux_lemma=>kernel_rfl) (by as_aux_lemma=>kernel_rfl) (by as_aux_lemma=>kernel_rfl) (fun _ _ _ h=>h) (Or.inl ⟨by rfl,?_⟩) (by assumption) ?_;rotate_left
    ·(intro w u;(try dsimp only at u);first|(go_simp;done)|(go_simp;with_reducible rfl))
    try simp only[Act.put,List.setIfInBounds_toArray,List.set_cons_zero,List.set_cons_succ]
    refine wpAnyH_ready (rs:=[6]) (by as_aux_lemma=>kernel_rfl) (by simp) ?_;refine AllReadyH.cons (o:=⟨_,_,_,_,_,_⟩) rfl (fun K hK=>?_) AllReadyH.nil;go_simp;refine hK.out _ _ trivial (fun j=>?_);clear hK K j
    try simp only[Act.put,List.setIfInBounds_toArray,List.set_cons_zero,List.set_cons_succ]
    refine wpAnyH_done (by kernel_rfl) (NoPanic.normal ?_) _;clear q;have V:=zH (Y.out.setw0 (.int .u64 ((ii|||2^i:Nat):Int)));go_wp2_with fail;go_meet
    case rel=>exact V.out
   case rest =>
    clear Y c0 c1 ae;have J:=zH hcut;clear hcut;have a0:=J.out.w1.cell 0;have a1:=J.out.w1.cell 1;have a2:=J.out.w1.cell 2;have e0:=J.out.w2.cell 0;have e1:=J.out.w2.cell 1;have e2:=J.out.w2.cell 2;have z0:=J.out.w3.cell 0;have z1:=J.out.w3.cell 1;have z2:=J.out.w3.cell 2;have y0:=J.out.w3.frozen 0;have y1:=J.out.w3.frozen 1;have y2:=J.out.w3.frozen 2;cases ib with
    |false =>
     have hR:R=⟨oi,oc+g1,ob⟩:=by rw[Z.out];exact zA1 (fun h=>by cases h.1)
     have y:=set3 J.out.w3 (.int .u64 oi) (.int .i64 (oc+g1)) (.bool ob);have r0:=y.cell 0;have r1:=y.cell 1;have r2:=y.cell 2;have HB:=zH (KX J.out.bel (show w.heap.size<=w.heap.size+1+1+1 by omega) (.int .u64 oi) (.int .i64 (oc+g1)) (.bool ob));clear y;go_wp2;refine bodyPost_ret (v:=.agg #[.int .u64 oi,.int .i64 (oc+g1),ob]) (by simp[results,Tryz.f142,go_sem,r0,r1,r2]) rfl ?_;exact⟨by first|rfl|rw[hR],HB.out⟩
    |true =>
     cases ob with
     |false =>
      have hR:R=⟨ii|||2^i,ic+g2,true⟩:=by rw[Z.out];exact zA2 ⟨rfl,.inl rfl⟩
      have y:=set3 J.out.w3 (.int .u64 ((ii|||2^i:Nat):Int)) (.int .i64 (ic+g2)) (.bool true);have r0:=y.cell 0;have r1:=y.cell 1;have r2:=y.cell 2;have HB:=zH (KX J.out.bel (show w.heap.size<=w.heap.size+1+1+1 by omega) (.int .u64 ((ii|||2^i:Nat):Int)) (.int .i64 (ic+g2)) (.bool true));clear y;go_wp2;refine bodyPost_ret (v:=.agg #[.int .u64 ((ii|||2^i:Nat):Int),.int .i64 (ic+g2),true]) (by simp[results,Tryz.f142,go_sem,r0,r1,r2]) rfl ?_;exact⟨by first|rfl|rw[hR],HB.out⟩
     |true =>
      by_cases hle:ic+g2<=oc+g1
      ·have hR:R=⟨ii|||2^i,ic+g2,true⟩:=by rw[Z.out];exact zA2 ⟨rfl,.inr hle⟩
       have y:=set3 J.out.w3 (.int .u64 ((ii|||2^i:Nat):Int)) (.int .i64 (ic+g2)) (.bool true);have r0:=y.cell 0;have r1:=y.cell 1;have r2:=y.cell 2;have HB:=zH (KX J.out.bel (show w.heap.size<=w.heap.size+1+1+1 by omega) (.int .u64 ((ii|||2^i:Nat):Int)) (.int .i64 (ic+g2)) (.bool true));clear y;go_wp2;refine bodyPost_ret (v:=.agg #[.int .u64 ((ii|||2^i:Nat):Int),.int .i64 (ic+g2),true]) (by simp[results,Tryz.f142,go_sem,r0,r1,r2]) rfl ?_;exact⟨by first|rfl|rw[hR],HB.out⟩
      ·have hR:R=⟨oi,oc+g1,true⟩:=by rw[Z.out];exact zA1 (fun h=>by rcases h.2 with h|h;cases h;exact hle h)
       have y:=set3 J.out.w3 (.int .u64 oi) (.int .i64 (oc+g1)) (.bool true);have r0:=y.cell 0;have r1:=y.cell 1;have r2:=y.cell 2;have HB:=zH (KX J.out.bel (show w.heap.size<=w.heap.size+1+1+1 by omega) (.int .u64 oi) (.int .i64 (oc+g1)) (.bool true));clear y;go_wp2;refine bodyPost_ret (v:=.agg #[.int .u64 oi,.int .i64 (oc+g1),true]) (by simp[results,Tryz.f142,go_sem,r0,r1,r2]) rfl ?_;exact⟨by first|rfl|rw[hR],HB.out⟩
end Bd
namespace Bd.Num
def S(B:Nat)(g:Nat->Nat):Nat->Nat
 |0=>0
 |k+1=>S B g k+g k*B^k
theorem zov(B:Nat)(g:Nat->Nat)(k:Nat):S B g (k+1)=S B g k+g k*B^k:=rfl
def dig(ds:List Nat)(i:Nat):Nat:=ds.getD i 0
def val(B:Nat)(ds:List Nat):Nat:=S B (dig ds) ds.length
structure Kv(B:Nat)(ds:List Nat):Prop where
 small:∀i,dig ds i<B
 last:ds.length≠0->dig ds (ds.length-1)≠0
theorem zoQ(B:Nat):val B []=0:=rfl
theorem zkd{B:Nat}{ds:List Nat}(h:Kv B ds)(hl:ds.length≠0):B^(ds.length-1)<=val B ds:=by
 obtain⟨k,hk⟩:∃k,ds.length=k+1:=⟨ds.length-1,by omega⟩;have h1:=h.last hl;unfold val;rw[hk] at h1 ⊢;rw[zov];simp only[Nat.add_sub_cancel] at h1 ⊢;have:1*B^k<=dig ds k*B^k:=Nat.mul_le_mul_right _ (by omega);omega
theorem zgm{B:Nat}{ds:List Nat}(hB:2<=B)(h:Kv B ds){k:Nat}(hv:val B ds<B^k):ds.length<=k:=by
 by_cases hl:ds.length=0
 ·omega
 ·have h1:=zkd h hl;have h2:B^(ds.length-1)<B^k:=by omega
  have h3:=(Nat.pow_lt_pow_iff_right (a:=B) (by omega)).1 h2;omega
theorem zir(ds:List Nat)(k i:Nat):dig (ds.take k) i=if i<k then dig ds i else 0:=by
 unfold dig;simp only[List.getD_eq_getElem?_getD,List.getElem?_take];split
 ·rfl
 ·rfl
open Go.Lib
end Bd.Num
namespace Bd
open Go.RowKit Num
def Dig(k:IntKind)(w:World)(v:Value)(ds:List Nat):Prop :=
 ∃a j,v=.slice a ds.length j/\ds.length<=j/\∀i,i<ds.length->∃b o,a=some ⟨b,o,none⟩/\b<w.heap.size/\w.cell? ⟨b,o+i,none⟩=some (.int k ((dig ds i:Nat):Int))
theorem Dig.below{k:IntKind}{w w':World}{v:Value}{ds:List Nat}(h:Dig k w v ds)(hb:zB w w'):Dig k w' v ds:=by
 obtain⟨a,u,hv,hc,hi⟩:=h;refine⟨a,u,hv,hc,fun i hl=>?_⟩;obtain⟨b,q,ha,o,j⟩:=hi i hl;exact⟨b,q,ha,Nat.lt_of_lt_of_le o hb.size,(hb.cell (p:=⟨b,q+i,none⟩) o).trans j⟩
theorem Dig.set{k:IntKind}{w:World}{v:Value}{ds:List Nat}(h:Dig k w v ds){p:Addr}{u0:Value}(hp:w.cell? p=some u0)(hu:∀n,u0≠.int k n)(u:Value):Dig k (w.setCell p u) v ds:=by
 obtain⟨a,o,hv,hc,hi⟩:=h;refine⟨a,o,hv,hc,fun i hl=>?_⟩;obtain⟨b,q,ha,hb,j⟩:=hi i hl;refine⟨b,q,ha,by simpa[World.setCell] using hb,?_⟩;rw[World.cell?_setCell_other _ _ _ _ (fun e=>by subst e;rw[hp] at j;exact hu _ (Option.some.inj j))];exact j
theorem Dig.nil(k:IntKind)(w:World):Dig k w (.slice none 0 0) []:=⟨none,0,rfl,Nat.le_refl _,fun i h=>by simp at h⟩
theorem X7(w:World)(A:Value)(t:TypeId):(w.alloc (.cells #[A] t)).cell? w.heap.size=some A:=by simp
theorem za6(w:World)(A:Value)(t:TypeId):(w.alloc (.cells #[A] t)).frozen? w.heap.size=false:=by simp
theorem xO:Tryz.prog.follows .mixedOrders=true:=by kernel_rfl
end Bd
namespace Bd
open Go.RowKit Go.Maps
structure NV where
 a:Option Addr
 n:Nat
 c:Nat
def NV.val(x:NV):Value:=.agg #[.slice x.a x.n x.c]
def NV.dat(x:NV):DataW Unit :=
 match x.a with
 |none=>.agg [.lit (.int .i64 x.n),.lit (.int .i64 x.c)]
 |some ⟨b,o,none⟩=>.agg [.lit (.int .i64 x.n),.lit (.int .i64 x.c),.lit (.int .i64 b),.lit (.int .i64 o)]
 |some ⟨b,o,some s⟩=>.agg [.lit (.int .i64 x.n),.lit (.int .i64 x.c),.lit (.int .i64 b),.lit (.int .i64 o),.lit (.int .i64 s)]
theorem NV.dat_inj{x y:NV}(h:x.dat=y.dat):x=y:=by
 obtain⟨a,n,c⟩:=x;obtain⟨b,m,d⟩:=y;rcases a with _|⟨ab,ao,_|sa⟩<;>rcases b with _|⟨bb,bo,_|sb⟩<;>simp[NV.dat] at h ⊢<;>omega
def znr(v:Value):Option (DataW Unit × List MemPlace) :=
 match v with
 |.agg cs =>
  match cs.toList with
  |[.slice a n c]=>some (NV.dat ⟨a,n,c⟩,[])
  |_=>none
 |_=>none
def zjm(D:DataW Unit)(L:List (Int × NV)):Prop:=Rep I64 (fun x=>Lit.int .i64 x) NV.dat D L
section
variable {w:World} {bm n:Nat} {D:DataW Unit} {L:List (Int × NV)}
end
end Bd
namespace Bd
open Go.RowKit Num Go.Sort
theorem Dig.take{k:IntKind}{w:World}{a:Option Addr}{cap n:Nat}{ds:List Nat}(h:Dig k w (.slice a ds.length cap) ds)(hn:n<=ds.length):Dig k w (.slice a n cap) (ds.take n):=by
 obtain⟨a',q,hv,hc,hi⟩:=h;cases hv;have hl:(ds.take n).length=n:=by rw[List.length_take,Nat.min_eq_left hn]
 refine⟨a,cap,by rw[hl],by omega,fun i o=>?_⟩;rw[hl] at o;obtain⟨b,u,ha,hb,j⟩:=hi i (by omega);exact⟨b,u,ha,hb,by rw[zir,zA2 o];exact j⟩
theorem Dig.setCell{k:IntKind}{w:World}{v:Value}{ds:List Nat}{B:Nat}(h:Dig k w v ds)(hb:w.heap.size<=B){W:World}(hW:zB w W)(u:Value):Dig k (W.setCell B u) v ds :=
 h.below (hW.setCell hb u)
end Bd
namespace Bd
open Go.RowKit Go.Maps Num
def Zc(w:World)(v:Value)(m:Nat):Prop:=∃x:NV,v=x.val/\∃ds,Dig .u64 w (.slice x.a x.n x.c) ds/\Kv 1000000000 ds/\val 1000000000 ds=m
theorem Zc.new{w w':World}{v:Value}{m:Nat}(h:Zc w v m)(hb:zB w w'):Zc w' v m:=by
 obtain⟨x,e,ds,h1,h2,h3⟩:=h;exact⟨x,e,ds,h1.below hb,h2,h3⟩
theorem Zc.kept{S:Nat->Prop}{w w':World}{v:Value}{m:Nat}(h:Zc w v m)(hk:zc S w w')(hn:∀b o n,S b->w.cell? ⟨b,o,none⟩≠some (.int .u64 n)):Zc w' v m:=by
 obtain⟨x,e,ds,⟨a,u,hv,hc,hi⟩,h2,h3⟩:=h;refine⟨x,e,ds,⟨a,u,hv,hc,fun i hl=>?_⟩,h2,h3⟩;obtain⟨b,q,ha,hb,j⟩:=hi i hl;exact⟨b,q,ha,Nat.lt_of_lt_of_le hb hk.size,(hk.cell (a:=⟨b,q+i,none⟩) hb (fun hs=>hn b _ _ hs j)).trans j⟩
theorem Zc.open{w:World}{v:Value}{m:Nat}(h:Zc w v m)(hm:m<=100000000):∃s ds,v=.agg #[s]/\Dig .u64 w s ds/\Kv 1000000000 ds/\val 1000000000 ds=m/\ds.length<=1:=by
 obtain⟨x,e,ds,h1,h2,h3⟩:=h;exact⟨_,ds,e,h1,h2,h3,zgm (by omega) h2 (by rw[h3];omega)⟩
structure yX(w:World)(dk vars:Nat)(ns:List Nd)(L:List (Int × NV)):Prop where
 hmap:∃D,w.ownsMap Tryz.prog 3 znr dk L.length D/\zjm D L
 keys:∀p∈L,za ns p.1≠24
 nums:∀p∈L,Zc w p.2.val (zny vars ns p.1)
section
variable {w w':World} {dk vars:Nat} {ns:List Nd} {L:List (Int × NV)}
theorem yX.lt(h:yX w dk vars ns L):dk<w.heap.size:=by obtain⟨D,hD,-⟩:=h.hmap;exact hD.lt
theorem yX.none(h:yX w dk vars ns L)(o:Nat):w.cell? ⟨dk,o,none⟩=none:=by
 obtain⟨D,⟨es,j,hb,-⟩,-⟩:=h.hmap;unfold World.cell?;simp only[hb]
theorem yX.kept{S:Nat->Prop}(h:yX w dk vars ns L)(hk:zc S w w')(hn:¬S dk)(hc:∀b o n,S b->w.cell? ⟨b,o,Option.none⟩≠some (.int .u64 n)):yX w' dk vars ns L:=by
 obtain⟨D,hD,hR⟩:=h.hmap;exact⟨⟨D,Z6 hD hk hn,hR⟩,h.keys,fun p hp=>(h.nums p hp).kept hk hc⟩
theorem yX.new(h:yX w dk vars ns L)(hb:zB w w'):yX w' dk vars ns L:=h.kept (zc.of_below hb (fun _=>False)) (fun h=>h) (fun _ _ _ h=>h.elim)
theorem yX.no(h:yX w dk vars ns L)(b o:Nat)(n:Int)(e:b=dk):w.cell? ⟨b,o,Option.none⟩≠some (.int .u64 n):=by rw[e,h.none];exact fun h=>by cases h
theorem Zc.box{v:Value}{m bx:Nat}(h:Zc w v m)(hb:∀o n,w.cell? ⟨bx,o,Option.none⟩≠some (.int .u64 n))(u:Value):Zc (w.setCell ⟨bx,0,Option.none⟩ u) v m :=
 h.kept (S:=fun j=>j=bx) (zc.setCell _ _ _ rfl) (fun b o n e=>by rw[e];exact hb o n)
theorem yX.box{bx:Nat}(h:yX w dk vars ns L)(hb:∀o n,w.cell? ⟨bx,o,Option.none⟩≠some (.int .u64 n))(hne:bx≠dk)(u:Value):yX (w.setCell ⟨bx,0,Option.none⟩ u) dk vars ns L :=
 h.kept (S:=fun j=>j=bx) (zc.setCell _ _ _ rfl) (fun e=>hne e.symm) (fun b o n e=>by rw[e];exact hb o n)
theorem XO:∀(n:Nat) (l:List Nat),l.Nodup->(∀x∈l,x<n)->l.length<=n
 |0,l,_,h=>by
  cases l with
  |nil=>simp
  |cons a l=>have:=h a (List.mem_cons_self ..);omega
 |n+1,l,hd,h=>by
  have ih:=XO n (l.erase n) (hd.erase n) (fun x hx=>by
   have h1:=(hd.mem_erase_iff).1 hx;have h2:=h x h1.2;have h3:=h1.1;omega)
  by_cases hm:n∈l
  ·rw[List.length_erase_of_mem hm] at ih;omega
  ·rw[List.erase_of_not_mem hm] at ih;omega
theorem yX.len(h:yX w dk vars ns L):L.length<=ns.length:=by
 obtain⟨D,-,hR⟩:=h.hmap;have hk:∀p∈L,p.1=2+(pl p.1:Int)/\pl p.1<ns.length:=fun p hp=>⟨(xj (h.keys p hp)).2.2.2,(xj (h.keys p hp)).2.1⟩;have hd:=Rep.nodup hR;have:=XO ns.length (L.map fun p=>pl p.1) (by
  have e:(L.map fun p=>pl p.1)=(L.map Prod.fst).map pl:=by simp
  rw[e];refine(List.nodup_iff_pairwise_ne.1 hd |> fun hp=>?_);refine List.nodup_iff_pairwise_ne.2 (List.pairwise_map.2 (hp.imp_of_mem fun {a b} ha hb hab e=>hab ?_));obtain⟨p,j,rfl⟩:=List.mem_map.1 ha;obtain⟨q,o,rfl⟩:=List.mem_map.1 hb;rw[(hk p j).1,(hk q o).1,e]) (fun x hx=>by
  obtain⟨p,j,rfl⟩:=List.mem_map.1 hx;exact (hk p j).2)
 simpa using this
end
section
variable {B s b dk:Nat} {O:Nat->Prop} {vars:Nat} {room:Int} {ns:List Nd}
end
end Bd
namespace Bd
open Go.RowKit Go.Maps
def Wy.dat(x:Wy):DataW Unit:=.agg [.lit (.int .i64 x.items),.lit (.int .i64 x.cost),.lit (.bool x.can)]
theorem Wy.dat_inj{x y:Wy}(h:x.dat=y.dat):x=y:=by
 obtain⟨a,b,c⟩:=x;obtain⟨d,e,f⟩:=y;simp[Wy.dat] at h ⊢;obtain⟨h1,h2,h3⟩:=h;exact⟨by omega,h2,h3⟩
def Qb(v:Value):Option (DataW Unit × List MemPlace) :=
 match v with
 |.agg cs =>
  match cs.toList with
  |[.int .u64 a,.int .i64 b,.bool c]=>if 0<=a then some (Wy.dat ⟨a.toNat,b,c⟩,[]) else none
  |_=>none
 |_=>none
theorem K9(x:Wy):Qb x.val=some (x.dat,[]):=by
 unfold Qb Wy.val;simp
theorem zcM{v:Value}{x:Wy}{ps:List MemPlace}(h:Qb v=some (x.dat,ps)):v=x.val:=by
 unfold Qb at h;split at h
 ·rename_i cs;split at h
  ·rename_i a b c e;split at h
   ·rename_i h0;simp only[Option.some.injEq,Prod.mk.injEq] at h;rw[<-Wy.dat_inj h.1];have:cs=#[.int .u64 a,.int .i64 b,.bool c]:=by cases cs;simp at e;rw[e]
    rw[this];unfold Wy.val;simp only[Int.toNat_of_nonneg h0]
   ·cases h
  ·cases h
 ·cases h
theorem zcZ(w:World):(zeroValue 139).run Tryz.prog w=.ok (Wy.val ⟨0,0,false⟩) w:=by kernel_rfl
def QQ(D:DataW Unit)(L:List (Int × Wy)):Prop:=Rep I64 (fun x=>Lit.int .i64 x) Wy.dat D L
section
variable {w:World} {bm n:Nat} {D:DataW Unit} {L:List (Int × Wy)}
theorem ziX(hD:w.ownsMap Tryz.prog 3 Qb bm n D)(hR:QQ D L){p:Int × Wy}(hp:p∈L) :
  (Instr.lookup 189 (.map (some bm)) (.int .i64 p.1) true).run Tryz.prog w=.ok (.tuple #[p.2.val,true]) w:=by
 obtain⟨v,ps,j,hv⟩:=hD.look_ok Kj Tryz.underlying189 (zcZ w) (K9 ⟨0,0,false⟩) (Km (Rep.oks hR p hp));rw[Rep.at' hR p hp] at hv;rw[(Rep.has hR p.1 (Rep.oks hR p hp)).2 (List.mem_map_of_mem hp),zcM hv] at j;exact j
theorem znJ(hD:w.ownsMap Tryz.prog 3 Qb bm n D)(hR:QQ D L){a:Int}(ha:I64 a)(hn:a∉L.map Prod.fst) :
  (Instr.lookup 189 (.map (some bm)) (.int .i64 a) true).run Tryz.prog w=.ok (.tuple #[Wy.val ⟨0,0,false⟩,false]) w:=by
 obtain⟨v,ps,j,hv⟩:=hD.look_ok Kj Tryz.underlying189 (zcZ w) (K9 ⟨0,0,false⟩) (Km ha);have hh:=Rep.not hR ha hn;rw[atKey_of_not_has hh] at hv;rw[hh,zcM hv] at j;exact j
theorem zmk(hD:w.ownsMap Tryz.prog 3 Qb bm L.length D)(hR:QQ D L)(hl:L.length<1000000){a:Int}(ha:I64 a)(hn:a∉L.map Prod.fst)(x:Wy) :
  ∃w' D',(Instr.mapUpdate 189 (.map (some bm)) (.int .i64 a) x.val).run Tryz.prog w=.ok () w'/\w'.ownsMap Tryz.prog 3 Qb bm (L++[(a,x)]).length D'/\QQ D' (L++[(a,x)])/\zc (fun k=>k=bm) w w':=by
 obtain⟨w',j,h1,h2⟩:=hD.update Kj Tryz.underlying189 (by unfold maxLen;omega) (Km ha) (K9 x);have hR':QQ (D.put (.int .i64 a) x.dat) (L++[(a,x)]):=Rep.put hR (fun a b _ _ e=>by injection e) (fun _=>trivial) ha hn x;exact⟨w',_,j,hR'.size▸Qh h1,hR',zc.of_grown h2 (fun i h=>by cases h;rfl)⟩
end
structure qm(C:zJ)(w:World)(dk vars:Nat)(ns:List Nd)(L:List (Int × Wy)):Prop where
 hmap:∃D,w.ownsMap Tryz.prog 3 Qb dk L.length D/\QQ D L
 keys:∀p∈L,za ns p.1≠24
 vals:∀p∈L,p.2=yk C vars ns p.1
 nodup:(L.map Prod.fst).Nodup
section
variable {C:zJ} {w w':World} {dk vars:Nat} {ns:List Nd} {L:List (Int × Wy)}
theorem qm.lt(h:qm C w dk vars ns L):dk<w.heap.size:=by obtain⟨D,hD,-⟩:=h.hmap;exact hD.lt
theorem qm.kept{S:Nat->Prop}(h:qm C w dk vars ns L)(hk:zc S w w')(hn:¬S dk):qm C w' dk vars ns L:=by
 obtain⟨D,hD,hR⟩:=h.hmap;exact⟨⟨D,Z6 hD hk hn,hR⟩,h.keys,h.vals,h.nodup⟩
theorem qm.new(h:qm C w dk vars ns L)(hb:zB w w'):qm C w' dk vars ns L:=h.kept (zc.of_below hb (fun _=>False)) (fun h=>h)
theorem qm.len(h:qm C w dk vars ns L):L.length<=ns.length:=by
 have h1:(L.map fun p=>pl p.1).length<=ns.length:=by
  refine XO _ _ ?_ ?_
  ·have:=h.nodup;rw[List.nodup_iff_pairwise_ne,List.pairwise_map] at this ⊢;refine List.Pairwise.imp_of_mem ?_ this;intro a b ha hb j e;have h1:=xj (h.keys a ha);have h2:=xj (h.keys b hb);apply j;rw[h1.2.2.2,h2.2.2.2,e]
  ·intro x hx;obtain⟨p,hp,rfl⟩:=List.mem_map.1 hx;exact(xj (h.keys p hp)).2.1
 simpa using h1
end
end Bd
end Go.Proofs.YthifnefkdjkicaaGreatDoor
