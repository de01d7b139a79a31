/- Maps from handles to ways. -/
import Derived.Test.YtiihalknffbjpaaGreatDoorCtReadP
import Derived.Test.YtiihalknffbjpaaGreatDoorCtParse
namespace Go.Proofs.YtiihalknffbjpaaGreatDoor
set_option maxHeartbeats 4000000
set_option maxRecDepth 100000
section
open Go.RowKit Go.Deep Sv
theorem zof{W:World}{b:Nat}{t:TypeId}{x y z:Value}(h:Blk W b t #[x,y,z])(p q r:Value):Blk (((W.setCell ⟨b,0,none⟩ p).setCell ⟨b,1,none⟩ q).setCell ⟨b,2,none⟩ r) b t #[p,q,r]:=((h.set (i:=0)).set (i:=1)).set (i:=2)
end
namespace Bd
open Go.RowKit Go.Maps Go.Deep
def Wy.val(x:Wy):Value:=.agg #[.int .u64 x.items,.int .i64 x.cost,.bool x.can]
def zdy(W0:World)(F:FuncId)(cb:Array Value)(C:zcq)(vars:Nat):Prop:=∀W (i:Nat) (b:Bool),zB W0 W->i<vars->zR F (#[.int .i64 i,.bool b]++cb) W (.int .i64 (C i b))
structure BS(w:World)(p dk:Nat)(F:FuncId)(cb:Array Value)(a1 b1 c1 a2 b2 c2:Value)(X:World):Prop where
 w0:Blk X w.heap.size 357 #[.pointer (some ⟨p,0,none⟩),.func (.func F) #[] cb,.map (some dk)]
 w1:Blk X (w.heap.size+1) 279 #[a1,b1,c1]
 w2:Blk X (w.heap.size+1+1) 279 #[a2,b2,c2]
 w3:Blk X (w.heap.size+1+1+1) 279 #[.int .u64 0,.int .i64 0,.bool false]
 bel:zB w X
section
variable {w X X':World} {p dk:Nat} {F:FuncId} {cb:Array Value} {a1 b1 c1 a2 b2 c2:Value}
theorem BS.below(h:BS w p dk F cb a1 b1 c1 a2 b2 c2 X)(hb:zB X X'):BS w p dk F cb a1 b1 c1 a2 b2 c2 X' :=
 ⟨h.w0.below hb h.w0.lt,h.w1.below hb h.w1.lt,h.w2.below hb h.w2.lt,h.w3.below hb h.w3.lt,zT h.bel hb⟩
theorem BS.drew(h:BS w p dk F cb a1 b1 c1 a2 b2 c2 X):BS w p dk F cb a1 b1 c1 a2 b2 c2 X.drew:=h.below zF.drew
theorem BS.setw1(h:BS w p dk F cb a1 b1 c1 a2 b2 c2 X)(v:Value):BS w p dk F cb a1 v c1 a2 b2 c2 (X.setCell ⟨w.heap.size+1,1,none⟩ v) :=
 ⟨h.w0.other (by omega),h.w1.set (i:=1),h.w2.other (by omega),h.w3.other (by omega),h.bel.setCell (p:=⟨w.heap.size+1,1,none⟩) (by show w.heap.size<=w.heap.size+1;omega) _⟩
theorem BS.setw2(h:BS w p dk F cb a1 b1 c1 a2 b2 c2 X)(v:Value):BS w p dk F cb a1 b1 c1 a2 v c2 (X.setCell ⟨w.heap.size+1+1,1,none⟩ v) :=
 ⟨h.w0.other (by omega),h.w1.other (by omega),h.w2.set (i:=1),h.w3.other (by omega),h.bel.setCell (p:=⟨w.heap.size+1+1,1,none⟩) (by show w.heap.size<=w.heap.size+1+1;omega) _⟩
theorem BS.setw0(h:BS w p dk F cb a1 b1 c1 a2 b2 c2 X)(v:Value):BS w p dk F cb a1 b1 c1 v b2 c2 (X.setCell ⟨w.heap.size+1+1,0,none⟩ v) :=
 ⟨h.w0.other (by omega),h.w1.other (by omega),h.w2.set (i:=0),h.w3.other (by omega),h.bel.setCell (p:=⟨w.heap.size+1+1,0,none⟩) (by show w.heap.size<=w.heap.size+1+1;omega) _⟩
end
theorem zhK{w W:World}{b:Nat}(h:zB w W)(hb:w.heap.size<=b)(p q r:Value):zB w (((W.setCell ⟨b,0,none⟩ p).setCell ⟨b,1,none⟩ q).setCell ⟨b,2,none⟩ r) :=
 ((h.setCell (p:=⟨b,0,none⟩) hb _).setCell (p:=⟨b,1,none⟩) hb _).setCell (p:=⟨b,2,none⟩) hb _
theorem zle(m i:Nat)(hm:m<2^24)(hi:i<24):bits BinOp.or IntKind.u64 (m:Int) (IntKind.u64.wrap (2^i))=((m|||2^i:Nat):Int):=by
 have h1:(2:Nat)^i<2^64:=Nat.pow_lt_pow_right (by decide) (by omega);have h2:(2:Nat)^24<18446744073709551616:=by decide
 have e:IntKind.u64.wrap (2^i)=((2^i:Nat):Int):=by
  rw[IntKind.wrap_u64,show ((2:Int)^i)=((2^i:Nat):Int) by simp];exact Int.emod_eq_of_lt (Int.natCast_nonneg _) (by omega)
 rw[e,bits_or_u64_nat m (2^i) (by omega) (by omega)]
theorem zl5{W0 w:World}(F:FuncId)(cb:Array Value)(C:zcq)(vars:Nat)(hv:vars<=24)(hent:∀args w,(callFunc F args).run Tryz.prog w=.ok (.enter F args) w)(hC:zc9 C)(hCA:zdy W0 F cb C vars)(hW:zB W0 w)(p:Nat)(dk:Nat)(i:Nat)(hi:i<vars)(wo wi:Wy)(h1:0<=wo.cost/\wo.cost<=24000000)(h2:0<=wi.cost/\wi.cost<=24000000)(h3:wi.items<2^24) :
  zC 299 #[.agg #[.pointer (some ⟨p,0,none⟩),.func (.func F) #[] cb,.map (some dk)],.int .i64 i,wo.val,wi.val] w fun e w'=>e=.returned (zka C i wo wi).val/\zB w w':=by
 have k0:=(((Blk.new w 357 #[.pointer (some ⟨p,0,none⟩),.func (.func F) #[] cb,.map (some dk)]).alloc (.cells #[.int .u64 wo.items,.int .i64 wo.cost,.bool wo.can] 279)).alloc (.cells #[.int .u64 wi.items,.int .i64 wi.cost,.bool wi.can] 279)).alloc (.cells #[.int .u64 0,.int .i64 0,.bool false] 279);have k1:=((Blk.new (w.alloc (.cells #[.pointer (some ⟨p,0,none⟩),.func (.func F) #[] cb,.map (some dk)] 357)) 279 #[.int .u64 wo.items,.int .i64 wo.cost,.bool wo.can]).alloc (.cells #[.int .u64 wi.items,.int .i64 wi.cost,.bool wi.can] 279)).alloc (.cells #[.int .u64 0,.int .i64 0,.bool false] 279);have k2:=(Blk.new ((w.alloc (.cells #[.pointer (some ⟨p,0,none⟩),.func (.func F) #[] cb,.map (some dk)] 357)).alloc (.cells #[.int .u64 wo.items,.int .i64 wo.cost,.bool wo.can] 279)) 279 #[.int .u64 wi.items,.int .i64 wi.cost,.bool wi.can]).alloc (.cells #[.int .u64 0,.int .i64 0,.bool false] 279);have k3:=Blk.new (((w.alloc (.cells #[.pointer (some ⟨p,0,none⟩),.func (.func F) #[] cb,.map (some dk)] 357)).alloc (.cells #[.int .u64 wo.items,.int .i64 wo.cost,.bool wo.can] 279)).alloc (.cells #[.int .u64 wi.items,.int .i64 wi.cost,.bool wi.can] 279)) 279 #[.int .u64 0,.int .i64 0,.bool false];simp only[World.size_alloc] at k1 k2 k3;have hbA:zB w ((((w.alloc (.cells #[.pointer (some ⟨p,0,none⟩),.func (.func F) #[] cb,.map (some dk)] 357)).alloc (.cells #[.int .u64 wo.items,.int .i64 wo.cost,.bool wo.can] 279)).alloc (.cells #[.int .u64 wi.items,.int .i64 wi.cost,.bool wi.can] 279)).alloc (.cells #[.int .u64 0,.int .i64 0,.bool false] 279)):=((((Below.refl _ w).alloc zN _).alloc (by simp only[World.size_alloc];omega) _).alloc (by simp only[World.size_alloc];omega) _).alloc (by simp only[World.size_alloc];omega) _;have HC1:Hid (∀W,zB w W->zR F (#[.int .i64 i,.bool false]++cb) W (.int .i64 (C i false))):=fun W hb=>hCA W i false (zT hW hb) hi;have HC2:Hid (∀W,zB w W->zR F (#[.int .i64 i,.bool true]++cb) W (.int .i64 (C i true))):=fun W hb=>hCA W i true (zT hW hb) hi;have b1:=hC i false;have b2:=hC i true;have hor:=zle wi.items i h3 (by omega);have HBF:Hid (zka C i wo wi=if wi.can=true/\(wo.can=false\/wi.cost+C i true<=wo.cost+C i false) then ⟨wi.items|||2^i,wi.cost+C i true,wi.can⟩ else ⟨wo.items,wo.cost+C i false,wo.can⟩):=rfl;generalize zka C i wo wi=R at *;unfold Wy.val;obtain⟨oi,oc,ob⟩:=wo;obtain⟨ii,ic,ib⟩:=wi;simp only at *;obtain⟨g1,hg1⟩:∃g,C i false=g:=⟨_,rfl⟩;obtain⟨g2,hg2⟩:∃g,C i true=g:=⟨_,rfl⟩;rw[hg1] at HC1 b1 HBF;rw[hg2] at HC2 b2 HBF;clear hCA hC hg1 hg2 hW;have hi64:(i:Int)<64:=by omega
 have wr1:wrap64 (oc+g1)=oc+g1:=by unfold wrap64;omega
 have wr2:wrap64 (ic+g2)=ic+g2:=by unfold wrap64;omega
 have wk1:IntKind.i64.wrap (oc+g1)=oc+g1:=by rw[IntKind.wrap_i64];unfold wrap64 at wr1;exact wr1
 have wk2:IntKind.i64.wrap (ic+g2)=ic+g2:=by rw[IntKind.wrap_i64];unfold wrap64 at wr2;exact wr2
 have hi0:(0:Int)<=(i:Int):=by omega
 go_enter Tryz.func299,Tryz.ntmps299;go_upto_region 1 with fail;generalize hWA:((((w.alloc (.cells #[.pointer (some ⟨p,0,none⟩),.func (.func F) #[] cb,.map (some dk)] 357)).alloc (.cells #[.int .u64 oi,.int .i64 oc,.bool ob] 279)).alloc (.cells #[.int .u64 ii,.int .i64 ic,.bool ib] 279)).alloc (.cells #[.int .u64 0,.int .i64 0,.bool false] 279))=WA at *;have BSA:BS w p dk F cb (.int .u64 oi) (.int .i64 oc) (.bool ob) (.int .u64 ii) (.int .i64 ic) (.bool ib) WA:=⟨k0,k1,k2,k3,hbA⟩;clear hWA k0 k1 k2 k3;have BSX:=zH BSA.drew;have c0:_=some (Value.func (.func F) #[] cb):=BSX.out.w0.cell 1;have c1:_=some (Value.int .i64 oc):=BSX.out.w1.cell 1;have D0:zB w WA.drew:=hbA.drew;clear BSA hbA;go_cut [10] (fun _ wx=>BS w p dk F cb (.int .u64 oi) (.int .i64 (oc+g1)) (.bool ob) (.int .u64 ii) (.int .i64 ic) (.bool ib) wx)
 case first =>
   refine wp_region_noPanic ?_;refine wp_region_held_drew (S:=(fun X=>X.cell? ⟨w.heap.size,1,none⟩=some (.func (.func F) #[] cb))) (by kernel_rfl) c0 (fun hHeld=>?_);refine wpAnyH_take (i:=0) (oi:=⟨_,_,_,_,_,_⟩) (v:=?_) rfl (by as_aux_lemma=>kernel_rfl) (by as_aux_lemma=>kernel_rfl) (by as_aux_lemma=>kernel_rfl) (fun _ _ _ h=>h) (Or.inl ⟨by rfl,?_⟩) (by assumption) ?_;rotate_left
   ·(intro w hSw;(try dsimp only at hSw);first|(go_simp;done)|(go_simp;with_reducible rfl))
   try simp only[Act.put,List.setIfInBounds_toArray,List.set_cons_zero,List.set_cons_succ]
   refine wpAnyH_take (i:=2) (oi:=⟨_,_,_,_,_,_⟩) (v:=?_) rfl (by as_aux_lemma=>kernel_rfl) (by as_aux_lemma=>kernel_rfl) (by as_aux_lemma=>kernel_rfl) (fun _ _ _ h=>h) (Or.inl ⟨by rfl,?_⟩) (by assumption) ?_;rotate_left
   ·(intro w hSw;(try dsimp only at hSw);first|(go_simp;done)|(go_simp;with_reducible rfl))
   try simp only[Act.put,List.setIfInBounds_toArray,List.set_cons_zero,List.set_cons_succ]
   refine wpAnyH_take (i:=3) (oi:=⟨_,_,_,_,_,_⟩) (v:=?_) rfl (by as_aux_lemma=>kernel_rfl) (by as_aux_lemma=>kernel_rfl) (by as_aux_lemma=>kernel_rfl) (fun _ _ _ h=>h) (Or.inl ⟨by rfl,?_⟩) (by assumption) ?_;rotate_left
   ·(intro w hSw;(try dsimp only at hSw);first|(go_simp;done)|(go_simp;with_reducible rfl))
   try simp only[Act.put,List.setIfInBounds_toArray,List.set_cons_zero,List.set_cons_succ]
   refine wpAnyH_take (i:=4) (oi:=⟨_,_,_,_,_,_⟩) (v:=?_) rfl (by as_aux_lemma=>kernel_rfl) (by as_aux_lemma=>kernel_rfl) (by as_aux_lemma=>kernel_rfl) (fun _ _ _ h=>h) (Or.inl ⟨by rfl,?_⟩) (by assumption) ?_;rotate_left
   ·(intro w hSw;(try dsimp only at hSw);first|(go_simp;done)|(go_simp;with_reducible rfl))
   try simp only[Act.put,List.setIfInBounds_toArray,List.set_cons_zero,List.set_cons_succ]
   refine wpAnyH_ready (rs:=[1,5]) (by as_aux_lemma=>kernel_rfl) (by simp) ?_;refine AllReadyH.cons (o:=⟨_,_,_,_,_,_⟩) rfl (fun K hK=>?_) (AllReadyH.cons (o:=⟨_,_,_,_,_,_⟩) rfl (fun K hK=>?_) AllReadyH.nil)
   ·go_simp;refine hK.out _ _ ?_ (fun hNew=>?_)
    ·exact hHeld
    clear hK K;replace hHeld:=hNew;clear hNew
    try simp only[Act.put,List.setIfInBounds_toArray,List.set_cons_zero,List.set_cons_succ]
    refine wpAnyH_ready (rs:=[5]) (by as_aux_lemma=>kernel_rfl) (by simp) ?_;refine AllReadyH.cons (o:=⟨_,_,_,_,_,_⟩) rfl (fun K hK=>?_) AllReadyH.nil;go_simp;refine(HC1.out _ D0).mono ?_;rintro e x1 ⟨rfl,hb1⟩;have D1:zB w x1:=zT D0 hb1;have BX:=BSX.out.below hb1;have f1:=BX.w1.cell 1;have f2:=BX.w1.frozen 1;have f0:=BX.w0.cell 1
    try simp only
    refine hK.out _ _ ?_ (fun hNew=>?_)
    ·exact f0
    clear hK K;replace hHeld:=hNew;clear hNew
    try simp only[Act.put,List.setIfInBounds_toArray,List.set_cons_zero,List.set_cons_succ]
    refine wpAnyH_take (i:=6) (oi:=⟨_,_,_,_,_,_⟩) (v:=?_) rfl (by as_aux_lemma=>kernel_rfl) (by as_aux_lemma=>kernel_rfl) (by as_aux_lemma=>kernel_rfl) (fun _ _ _ h=>h) (Or.inl ⟨by rfl,?_⟩) (by assumption) ?_;rotate_left
    ·(intro w hSw;(try dsimp only at hSw);first|(go_simp;done)|(go_simp;with_reducible rfl))
    try simp only[Act.put,List.setIfInBounds_toArray,List.set_cons_zero,List.set_cons_succ]
    refine wpAnyH_take (i:=7) (oi:=⟨_,_,_,_,_,_⟩) (v:=?_) rfl (by as_aux_lemma=>kernel_rfl) (by as_aux_lemma=>kernel_rfl) (by as_aux_lemma=>kernel_rfl) (fun _ _ _ h=>h) (Or.inl ⟨by rfl,?_⟩) (by assumption) ?_;rotate_left
    ·(intro w hSw;(try dsimp only at hSw);first|(go_simp;done)|(go_simp;with_reducible rfl))
    try simp only[Act.put,List.setIfInBounds_toArray,List.set_cons_zero,List.set_cons_succ]
    refine wpAnyH_ready (rs:=[8]) (by as_aux_lemma=>kernel_rfl) (by simp) ?_;refine AllReadyH.cons (o:=⟨_,_,_,_,_,_⟩) rfl (fun K hK=>?_) AllReadyH.nil;go_simp;refine hK.out _ _ ?_ (fun hNew=>?_)
    ·exact(BX.setw1 (.int .i64 (oc+g1))).w0.cell 1
    clear hK K;replace hHeld:=hNew;clear hNew
    try simp only[Act.put,List.setIfInBounds_toArray,List.set_cons_zero,List.set_cons_succ]
    refine wpAnyH_done (by kernel_rfl) (NoPanic.normal ?_) _;have HFI:=zH (BX.setw1 (.int .i64 (oc+g1)));clear hHeld f0 f1 f2 BX D1 hb1;go_wp2_with fail;go_meet
    case rel=>exact HFI.out
   ·go_simp;refine(HC1.out _ D0).mono ?_;rintro e x1 ⟨rfl,hb1⟩;have D1:zB w x1:=zT D0 hb1;have BX:=BSX.out.below hb1;have f1:=BX.w1.cell 1;have f2:=BX.w1.frozen 1;have f0:=BX.w0.cell 1
    try simp only
    refine hK.out _ _ ?_ (fun hNew=>?_)
    ·exact f0
    clear hK K;replace hHeld:=hNew;clear hNew
    try simp only[Act.put,List.setIfInBounds_toArray,List.set_cons_zero,List.set_cons_succ]
    refine wpAnyH_ready (rs:=[1]) (by as_aux_lemma=>kernel_rfl) (by simp) ?_;refine AllReadyH.cons (o:=⟨_,_,_,_,_,_⟩) rfl (fun K hK=>?_) AllReadyH.nil;go_simp;refine hK.out _ _ ?_ (fun hNew=>?_)
    ·exact hHeld
    clear hK K;replace hHeld:=hNew;clear hNew
    try simp only[Act.put,List.setIfInBounds_toArray,List.set_cons_zero,List.set_cons_succ]
    refine wpAnyH_take (i:=6) (oi:=⟨_,_,_,_,_,_⟩) (v:=?_) rfl (by as_aux_lemma=>kernel_rfl) (by as_aux_lemma=>kernel_rfl) (by as_aux_lemma=>kernel_rfl) (fun _ _ _ h=>h) (Or.inl ⟨by rfl,?_⟩) (by assumption) ?_;rotate_left
    ·(intro w hSw;(try dsimp only at hSw);first|(go_simp;done)|(go_simp;with_reducible rfl))
    try simp only[Act.put,List.setIfInBounds_toArray,List.set_cons_zero,List.set_cons_succ]
    refine wpAnyH_take (i:=7) (oi:=⟨_,_,_,_,_,_⟩) (v:=?_) rfl (by as_aux_lemma=>kernel_rfl) (by as_aux_lemma=>kernel_rfl) (by as_aux_lemma=>kernel_rfl) (fun _ _ _ h=>h) (Or.inl ⟨by rfl,?_⟩) (by assumption) ?_;rotate_left
    ·(intro w hSw;(try dsimp only at hSw);first|(go_simp;done)|(go_simp;with_reducible rfl))
    try simp only[Act.put,List.setIfInBounds_toArray,List.set_cons_zero,List.set_cons_succ]
    refine wpAnyH_ready (rs:=[8]) (by as_aux_lemma=>kernel_rfl) (by simp) ?_;refine AllReadyH.cons (o:=⟨_,_,_,_,_,_⟩) rfl (fun K hK=>?_) AllReadyH.nil;go_simp;refine hK.out _ _ ?_ (fun hNew=>?_)
    ·exact(BX.setw1 (.int .i64 (oc+g1))).w0.cell 1
    clear hK K;replace hHeld:=hNew;clear hNew
    try simp only[Act.put,List.setIfInBounds_toArray,List.set_cons_zero,List.set_cons_succ]
    refine wpAnyH_done (by kernel_rfl) (NoPanic.normal ?_) _;have HFI:=zH (BX.setw1 (.int .i64 (oc+g1)));clear hHeld f0 f1 f2 BX D1 hb1;go_wp2_with fail;go_meet
    case rel=>exact HFI.out
 case rest =>
  clear BSX c0 c1 D0 HC1;have BSB:=hcut;clear hcut;have BSX:=zH BSB.drew;have c0:_=some (Value.func (.func F) #[] cb):=BSX.out.w0.cell 1;have c1:_=some (Value.int .i64 ic):=BSX.out.w2.cell 1;have D0:zB w wc.drew:=BSB.bel.drew;clear BSB;go_upto_region 2 with fail;go_cut [18] (fun _ wx=>BS w p dk F cb (.int .u64 oi) (.int .i64 (oc+g1)) (.bool ob) (.int .u64 ii) (.int .i64 (ic+g2)) (.bool ib) wx)
  case first =>
   refine wp_region_noPanic ?_;refine wp_region_held_drew (S:=(fun X=>X.cell? ⟨w.heap.size,1,none⟩=some (.func (.func F) #[] cb))) (by kernel_rfl) c0 (fun hHeld=>?_);refine wpAnyH_take (i:=0) (oi:=⟨_,_,_,_,_,_⟩) (v:=?_) rfl (by as_aux_lemma=>kernel_rfl) (by as_aux_lemma=>kernel_rfl) (by as_aux_lemma=>kernel_rfl) (fun _ _ _ h=>h) (Or.inl ⟨by rfl,?_⟩) (by assumption) ?_;rotate_left
   ·(intro w hSw;(try dsimp only at hSw);first|(go_simp;done)|(go_simp;with_reducible rfl))
   try simp only[Act.put,List.setIfInBounds_toArray,List.set_cons_zero,List.set_cons_succ]
   refine wpAnyH_take (i:=2) (oi:=⟨_,_,_,_,_,_⟩) (v:=?_) rfl (by as_aux_lemma=>kernel_rfl) (by as_aux_lemma=>kernel_rfl) (by as_aux_lemma=>kernel_rfl) (fun _ _ _ h=>h) (Or.inl ⟨by rfl,?_⟩) (by assumption) ?_;rotate_left
   ·(intro w hSw;(try dsimp only at hSw);first|(go_simp;done)|(go_simp;with_reducible rfl))
   try simp only[Act.put,List.setIfInBounds_toArray,List.set_cons_zero,List.set_cons_succ]
   refine wpAnyH_take (i:=3) (oi:=⟨_,_,_,_,_,_⟩) (v:=?_) rfl (by as_aux_lemma=>kernel_rfl) (by as_aux_lemma=>kernel_rfl) (by as_aux_lemma=>kernel_rfl) (fun _ _ _ h=>h) (Or.inl ⟨by rfl,?_⟩) (by assumption) ?_;rotate_left
   ·(intro w hSw;(try dsimp only at hSw);first|(go_simp;done)|(go_simp;with_reducible rfl))
   try simp only[Act.put,List.setIfInBounds_toArray,List.set_cons_zero,List.set_cons_succ]
   refine wpAnyH_take (i:=4) (oi:=⟨_,_,_,_,_,_⟩) (v:=?_) rfl (by as_aux_lemma=>kernel_rfl) (by as_aux_lemma=>kernel_rfl) (by as_aux_lemma=>kernel_rfl) (fun _ _ _ h=>h) (Or.inl ⟨by rfl,?_⟩) (by assumption) ?_;rotate_left
   ·(intro w hSw;(try dsimp only at hSw);first|(go_simp;done)|(go_simp;with_reducible rfl))
   try simp only[Act.put,List.setIfInBounds_toArray,List.set_cons_zero,List.set_cons_succ]
   refine wpAnyH_ready (rs:=[1,5]) (by as_aux_lemma=>kernel_rfl) (by simp) ?_;refine AllReadyH.cons (o:=⟨_,_,_,_,_,_⟩) rfl (fun K hK=>?_) (AllReadyH.cons (o:=⟨_,_,_,_,_,_⟩) rfl (fun K hK=>?_) AllReadyH.nil)
   ·go_simp;refine hK.out _ _ ?_ (fun hNew=>?_)
    ·exact hHeld
    clear hK K;replace hHeld:=hNew;clear hNew
    try simp only[Act.put,List.setIfInBounds_toArray,List.set_cons_zero,List.set_cons_succ]
    refine wpAnyH_ready (rs:=[5]) (by as_aux_lemma=>kernel_rfl) (by simp) ?_;refine AllReadyH.cons (o:=⟨_,_,_,_,_,_⟩) rfl (fun K hK=>?_) AllReadyH.nil;go_simp;refine(HC2.out _ D0).mono ?_;rintro e x2 ⟨rfl,hb1⟩;have D1:zB w x2:=zT D0 hb1;have BX:=BSX.out.below hb1;have f1:=BX.w2.cell 1;have f2:=BX.w2.frozen 1;have f0:=BX.w0.cell 1
    try simp only
    refine hK.out _ _ ?_ (fun hNew=>?_)
    ·exact f0
    clear hK K;replace hHeld:=hNew;clear hNew
    try simp only[Act.put,List.setIfInBounds_toArray,List.set_cons_zero,List.set_cons_succ]
    refine wpAnyH_take (i:=6) (oi:=⟨_,_,_,_,_,_⟩) (v:=?_) rfl (by as_aux_lemma=>kernel_rfl) (by as_aux_lemma=>kernel_rfl) (by as_aux_lemma=>kernel_rfl) (fun _ _ _ h=>h) (Or.inl ⟨by rfl,?_⟩) (by assumption) ?_;rotate_left
    ·(intro w hSw;(try dsimp only at hSw);first|(go_simp;done)|(go_simp;with_reducible rfl))
    try simp only[Act.put,List.setIfInBounds_toArray,List.set_cons_zero,List.set_cons_succ]
    refine wpAnyH_take (i:=7) (oi:=⟨_,_,_,_,_,_⟩) (v:=?_) rfl (by as_aux_lemma=>kernel_rfl) (by as_aux_lemma=>kernel_rfl) (by as_aux_lemma=>kernel_rfl) (fun _ _ _ h=>h) (Or.inl ⟨by rfl,?_⟩) (by assumption) ?_;rotate_left
    ·(intro w hSw;(try dsimp only at hSw);first|(go_simp;done)|(go_simp;with_reducible rfl))
    try simp only[Act.put,List.setIfInBounds_toArray,List.set_cons_zero,List.set_cons_succ]
    refine wpAnyH_ready (rs:=[8]) (by as_aux_lemma=>kernel_rfl) (by simp) ?_;refine AllReadyH.cons (o:=⟨_,_,_,_,_,_⟩) rfl (fun K hK=>?_) AllReadyH.nil;go_simp;refine hK.out _ _ ?_ (fun hNew=>?_)
    ·exact(BX.setw2 (.int .i64 (ic+g2))).w0.cell 1
    clear hK K;replace hHeld:=hNew;clear hNew
    try simp only[Act.put,List.setIfInBounds_toArray,List.set_cons_zero,List.set_cons_succ]
    refine wpAnyH_done (by kernel_rfl) (NoPanic.normal ?_) _;have HFI:=zH (BX.setw2 (.int .i64 (ic+g2)));clear hHeld f0 f1 f2 BX D1 hb1;go_wp2_with fail;go_meet
    case rel=>exact HFI.out
   ·go_simp;refine(HC2.out _ D0).mono ?_;rintro e x2 ⟨rfl,hb1⟩;have D1:zB w x2:=zT D0 hb1;have BX:=BSX.out.below hb1;have f1:=BX.w2.cell 1;have f2:=BX.w2.frozen 1;have f0:=BX.w0.cell 1
    try simp only
    refine hK.out _ _ ?_ (fun hNew=>?_)
    ·exact f0
    clear hK K;replace hHeld:=hNew;clear hNew
    try simp only[Act.put,List.setIfInBounds_toArray,List.set_cons_zero,List.set_cons_succ]
    refine wpAnyH_ready (rs:=[1]) (by as_aux_lemma=>kernel_rfl) (by simp) ?_;refine AllReadyH.cons (o:=⟨_,_,_,_,_,_⟩) rfl (fun K hK=>?_) AllReadyH.nil;go_simp;refine hK.out _ _ ?_ (fun hNew=>?_)
    ·exact hHeld
    clear hK K;replace hHeld:=hNew;clear hNew
    try simp only[Act.put,List.setIfInBounds_toArray,List.set_cons_zero,List.set_cons_succ]
    refine wpAnyH_take (i:=6) (oi:=⟨_,_,_,_,_,_⟩) (v:=?_) rfl (by as_aux_lemma=>kernel_rfl) (by as_aux_lemma=>kernel_rfl) (by as_aux_lemma=>kernel_rfl) (fun _ _ _ h=>h) (Or.inl ⟨by rfl,?_⟩) (by assumption) ?_;rotate_left
    ·(intro w hSw;(try dsimp only at hSw);first|(go_simp;done)|(go_simp;with_reducible rfl))
    try simp only[Act.put,List.setIfInBounds_toArray,List.set_cons_zero,List.set_cons_succ]
    refine wpAnyH_take (i:=7) (oi:=⟨_,_,_,_,_,_⟩) (v:=?_) rfl (by as_aux_lemma=>kernel_rfl) (by as_aux_lemma=>kernel_rfl) (by as_aux_lemma=>kernel_rfl) (fun _ _ _ h=>h) (Or.inl ⟨by rfl,?_⟩) (by assumption) ?_;rotate_left
    ·(intro w hSw;(try dsimp only at hSw);first|(go_simp;done)|(go_simp;with_reducible rfl))
    try simp only[Act.put,List.setIfInBounds_toArray,List.set_cons_zero,List.set_cons_succ]
    refine wpAnyH_ready (rs:=[8]) (by as_aux_lemma=>kernel_rfl) (by simp) ?_;refine AllReadyH.cons (o:=⟨_,_,_,_,_,_⟩) rfl (fun K hK=>?_) AllReadyH.nil;go_simp;refine hK.out _ _ ?_ (fun hNew=>?_)
    ·exact(BX.setw2 (.int .i64 (ic+g2))).w0.cell 1
    clear hK K;replace hHeld:=hNew;clear hNew
    try simp only[Act.put,List.setIfInBounds_toArray,List.set_cons_zero,List.set_cons_succ]
    refine wpAnyH_done (by kernel_rfl) (NoPanic.normal ?_) _;have HFI:=zH (BX.setw2 (.int .i64 (ic+g2)));clear hHeld f0 f1 f2 BX D1 hb1;go_wp2_with fail;go_meet
    case rel=>exact HFI.out
  case rest =>
   clear BSX c0 c1 D0 HC2;have BSB:=zH hcut.drew;clear hcut;have c0:_=some (Value.int .u64 ii):=BSB.out.w2.cell 0;have c1:=BSB.out.w2.frozen 0;go_upto_region 3 with fail;go_cut [26] (fun _ wx=>BS w p dk F cb (.int .u64 oi) (.int .i64 (oc+g1)) (.bool ob) (.int .u64 ((ii|||2^i:Nat):Int)) (.int .i64 (ic+g2)) (.bool ib) wx)
   case first =>
    refine wp_region_noPanic ?_;refine wp_region_held_drew (S:=fun _=>True) (by kernel_rfl) trivial (fun hHeld=>?_);refine wpAnyH_take (i:=0) (oi:=⟨_,_,_,_,_,_⟩) (v:=?_) rfl (by as_aux_lemma=>kernel_rfl) (by as_aux_lemma=>kernel_rfl) (by as_aux_lemma=>kernel_rfl) (fun _ _ _ h=>h) (Or.inl ⟨by rfl,?_⟩) (by assumption) ?_;rotate_left
    ·(intro w hSw;(try dsimp only at hSw);first|(go_simp;done)|(go_simp;with_reducible rfl))
    try simp only[Act.put,List.setIfInBounds_toArray,List.set_cons_zero,List.set_cons_succ]
    refine wpAnyH_take (i:=2) (oi:=⟨_,_,_,_,_,_⟩) (v:=?_) rfl (by as_aux_lemma=>kernel_rfl) (by as_aux_lemma=>kernel_rfl) (by as_aux_lemma=>kernel_rfl) (fun _ _ _ h=>h) (Or.inl ⟨by rfl,?_⟩) (by assumption) ?_;rotate_left
    ·(intro w hSw;(try dsimp only at hSw);first|(go_simp;done)|(go_simp;with_reducible rfl))
    try simp only[Act.put,List.setIfInBounds_toArray,List.set_cons_zero,List.set_cons_succ]
    refine wpAnyH_take (i:=3) (oi:=⟨_,_,_,_,_,_⟩) (v:=?_) rfl (by as_aux_lemma=>kernel_rfl) (by as_aux_lemma=>kernel_rfl) (by as_aux_lemma=>kernel_rfl) (fun _ _ _ h=>h) (Or.inl ⟨by rfl,?_⟩) (by assumption) ?_;rotate_left
    ·(intro w hSw;(try dsimp only at hSw);first|(go_simp;done)|(go_simp;with_reducible rfl))
    try simp only[Act.put,List.setIfInBounds_toArray,List.set_cons_zero,List.set_cons_succ]
    refine wpAnyH_ready (rs:=[1]) (by as_aux_lemma=>kernel_rfl) (by simp) ?_;refine AllReadyH.cons (o:=⟨_,_,_,_,_,_⟩) rfl (fun K hK=>?_) AllReadyH.nil;go_simp;refine hK.out _ _ trivial (fun hNew=>?_);clear hK K hNew
    try simp only[Act.put,List.setIfInBounds_toArray,List.set_cons_zero,List.set_cons_succ]
    refine wpAnyH_take (i:=4) (oi:=⟨_,_,_,_,_,_⟩) (v:=?_) rfl (by as_aux_lemma=>kernel_rfl) (by as_aux_lemma=>kernel_rfl) (by as_aux_lemma=>kernel_rfl) (fun _ _ _ h=>h) (Or.inl ⟨by rfl,?_⟩) (by assumption) ?_;rotate_left
    ·(intro w hSw;(try dsimp only at hSw);first|(go_simp;done)|(go_simp;with_reducible rfl))
    try simp only[Act.put,List.setIfInBounds_toArray,List.set_cons_zero,List.set_cons_succ]
    refine wpAnyH_take (i:=5) (oi:=⟨_,_,_,_,_,_⟩) (v:=?_) rfl (by as_aux_lemma=>kernel_rfl) (by as_aux_lemma=>kernel_rfl) (by as_aux_lemma=>kernel_rfl) (fun _ _ _ h=>h) (Or.inl ⟨by rfl,?_⟩) (by assumption) ?_;rotate_left
    ·(intro w hSw;(try dsimp only at hSw);first|(go_simp;done)|(go_simp;with_reducible rfl))
    try simp only[Act.put,List.setIfInBounds_toArray,List.set_cons_zero,List.set_cons_succ]
    refine wpAnyH_ready (rs:=[6]) (by as_aux_lemma=>kernel_rfl) (by simp) ?_;refine AllReadyH.cons (o:=⟨_,_,_,_,_,_⟩) rfl (fun K hK=>?_) AllReadyH.nil;go_simp;refine hK.out _ _ trivial (fun hNew=>?_);clear hK K hNew
    try simp only[Act.put,List.setIfInBounds_toArray,List.set_cons_zero,List.set_cons_succ]
    refine wpAnyH_done (by kernel_rfl) (NoPanic.normal ?_) _;clear hHeld;have HFI:=zH (BSB.out.setw0 (.int .u64 ((ii|||2^i:Nat):Int)));go_wp2_with fail;go_meet
    case rel=>exact HFI.out
   case rest =>
    clear BSB c0 c1 hor;have BSF:=zH hcut;clear hcut;have a0:=BSF.out.w1.cell 0;have a1:=BSF.out.w1.cell 1;have a2:=BSF.out.w1.cell 2;have e0:=BSF.out.w2.cell 0;have e1:=BSF.out.w2.cell 1;have e2:=BSF.out.w2.cell 2;have z0:=BSF.out.w3.cell 0;have z1:=BSF.out.w3.cell 1;have z2:=BSF.out.w3.cell 2;have y0:=BSF.out.w3.frozen 0;have y1:=BSF.out.w3.frozen 1;have y2:=BSF.out.w3.frozen 2;cases ib with
    |false =>
     have hR:R=⟨oi,oc+g1,ob⟩:=by rw[HBF.out];exact if_neg (fun h=>by cases h.1)
     have hres:=zof BSF.out.w3 (.int .u64 oi) (.int .i64 (oc+g1)) (.bool ob);have r0:=hres.cell 0;have r1:=hres.cell 1;have r2:=hres.cell 2;have HB:=zH (zhK BSF.out.bel (show w.heap.size<=w.heap.size+1+1+1 by omega) (.int .u64 oi) (.int .i64 (oc+g1)) (.bool ob));clear hres;go_wp2;refine bodyPost_ret (v:=.agg #[.int .u64 oi,.int .i64 (oc+g1),.bool ob]) (by simp[results,Tryz.f299,go_sem,r0,r1,r2]) rfl ?_;exact⟨by first|rfl|rw[hR],HB.out⟩
    |true =>
     cases ob with
     |false =>
      have hR:R=⟨ii|||2^i,ic+g2,true⟩:=by rw[HBF.out];exact if_pos ⟨rfl,.inl rfl⟩
      have hres:=zof BSF.out.w3 (.int .u64 ((ii|||2^i:Nat):Int)) (.int .i64 (ic+g2)) (.bool true);have r0:=hres.cell 0;have r1:=hres.cell 1;have r2:=hres.cell 2;have HB:=zH (zhK BSF.out.bel (show w.heap.size<=w.heap.size+1+1+1 by omega) (.int .u64 ((ii|||2^i:Nat):Int)) (.int .i64 (ic+g2)) (.bool true));clear hres;go_wp2;refine bodyPost_ret (v:=.agg #[.int .u64 ((ii|||2^i:Nat):Int),.int .i64 (ic+g2),.bool true]) (by simp[results,Tryz.f299,go_sem,r0,r1,r2]) rfl ?_;exact⟨by first|rfl|rw[hR],HB.out⟩
     |true =>
      by_cases hle:ic+g2<=oc+g1
      ·have hR:R=⟨ii|||2^i,ic+g2,true⟩:=by rw[HBF.out];exact if_pos ⟨rfl,.inr hle⟩
       have hres:=zof BSF.out.w3 (.int .u64 ((ii|||2^i:Nat):Int)) (.int .i64 (ic+g2)) (.bool true);have r0:=hres.cell 0;have r1:=hres.cell 1;have r2:=hres.cell 2;have HB:=zH (zhK BSF.out.bel (show w.heap.size<=w.heap.size+1+1+1 by omega) (.int .u64 ((ii|||2^i:Nat):Int)) (.int .i64 (ic+g2)) (.bool true));clear hres;go_wp2;refine bodyPost_ret (v:=.agg #[.int .u64 ((ii|||2^i:Nat):Int),.int .i64 (ic+g2),.bool true]) (by simp[results,Tryz.f299,go_sem,r0,r1,r2]) rfl ?_;exact⟨by first|rfl|rw[hR],HB.out⟩
      ·have hR:R=⟨oi,oc+g1,true⟩:=by rw[HBF.out];exact if_neg (fun h=>by rcases h.2 with h|h;cases h;exact hle h)
       have hres:=zof BSF.out.w3 (.int .u64 oi) (.int .i64 (oc+g1)) (.bool true);have r0:=hres.cell 0;have r1:=hres.cell 1;have r2:=hres.cell 2;have HB:=zH (zhK BSF.out.bel (show w.heap.size<=w.heap.size+1+1+1 by omega) (.int .u64 oi) (.int .i64 (oc+g1)) (.bool true));clear hres;go_wp2;refine bodyPost_ret (v:=.agg #[.int .u64 oi,.int .i64 (oc+g1),.bool true]) (by simp[results,Tryz.f299,go_sem,r0,r1,r2]) rfl ?_;exact⟨by first|rfl|rw[hR],HB.out⟩
end Bd
namespace Bd
open Go.RowKit Go.Maps Num
section
variable {w w':World} {dk vars:Nat} {ns:List Nd} {L:List (Int × NV)}
theorem zlZ:∀(n:Nat) (l:List Nat),l.Nodup->(∀x∈l,x<n)->l.length<=n
 |0,l,_,h=>by
  cases l with
  |nil=>simp
  |cons a l=>have:=h a (List.mem_cons_self ..);omega
 |n+1,l,hd,h=>by
  have ih:=zlZ n (l.erase n) (hd.erase n) (fun x hx=>by
   have h1:=(hd.mem_erase_iff).1 hx;have h2:=h x h1.2;have h3:=h1.1;omega)
  by_cases hm:n∈l
  ·rw[List.length_erase_of_mem hm] at ih;omega
  ·rw[List.erase_of_not_mem hm] at ih;omega
end
section
variable {B s b dk:Nat} {O:Nat->Prop} {vars:Nat} {room:Int} {ns:List Nd}
end
end Bd
namespace Bd
open Go.RowKit Go.Maps
def Wy.dat(x:Wy):DataW Unit:=.agg [.lit (.int .i64 x.items),.lit (.int .i64 x.cost),.lit (.bool x.can)]
theorem Wy.dat_inj{x y:Wy}(h:x.dat=y.dat):x=y:=by
 obtain⟨a,b,c⟩:=x;obtain⟨d,e,f⟩:=y;simp[Wy.dat] at h ⊢;obtain⟨h1,h2,h3⟩:=h;exact⟨by omega,h2,h3⟩
def zqy(v:Value):Option (DataW Unit × List MemPlace) :=
 match v with
 |.agg cs =>
  match cs.toList with
  |[.int .u64 a,.int .i64 b,.bool c]=>if 0<=a then some (Wy.dat ⟨a.toNat,b,c⟩,[]) else none
  |_=>none
 |_=>none
theorem zfX(x:Wy):zqy x.val=some (x.dat,[]):=by
 unfold zqy Wy.val;simp
theorem zlV{v:Value}{x:Wy}{ps:List MemPlace}(h:zqy v=some (x.dat,ps)):v=x.val:=by
 unfold zqy at h;split at h
 ·rename_i cs;split at h
  ·rename_i a b c e;split at h
   ·rename_i h0;simp only[Option.some.injEq,Prod.mk.injEq] at h;rw[<-Wy.dat_inj h.1];have:cs=#[.int .u64 a,.int .i64 b,.bool c]:=by cases cs;simp at e;rw[e]
    rw[this];unfold Wy.val;simp only[Int.toNat_of_nonneg h0]
   ·cases h
  ·cases h
 ·cases h
theorem zoN(w:World):(zeroValue 279).run Tryz.prog w=.ok (Wy.val ⟨0,0,false⟩) w:=by kernel_rfl
def zt1(D:DataW Unit)(L:List (Int × Wy)):Prop:=Rep I64 (fun x=>Lit.int .i64 x) Wy.dat D L
section
variable {w:World} {bm n:Nat} {D:DataW Unit} {L:List (Int × Wy)}
theorem zkp(hD:w.ownsMap Tryz.prog 3 zqy bm n D)(hR:zt1 D L){p:Int × Wy}(hp:p∈L) :
  (Instr.lookup 355 (.map (some bm)) (.int .i64 p.1) true).run Tryz.prog w=.ok (.tuple #[p.2.val,.bool true]) w:=by
 obtain⟨v,ps,hrun,hv⟩:=hD.look_ok zwq Tryz.underlying355 (zoN w) (zfX ⟨0,0,false⟩) (zwo (Rep.oks hR p hp));rw[Rep.at' hR p hp] at hv;rw[(Rep.has hR p.1 (Rep.oks hR p hp)).2 (List.mem_map_of_mem hp),zlV hv] at hrun;exact hrun
theorem znd(hD:w.ownsMap Tryz.prog 3 zqy bm n D)(hR:zt1 D L){a:Int}(ha:I64 a)(hn:a∉L.map Prod.fst) :
  (Instr.lookup 355 (.map (some bm)) (.int .i64 a) true).run Tryz.prog w=.ok (.tuple #[Wy.val ⟨0,0,false⟩,.bool false]) w:=by
 obtain⟨v,ps,hrun,hv⟩:=hD.look_ok zwq Tryz.underlying355 (zoN w) (zfX ⟨0,0,false⟩) (zwo ha);have hh:=Rep.not hR ha hn;rw[atKey_of_not_has hh] at hv;rw[hh,zlV hv] at hrun;exact hrun
theorem zvy(hD:w.ownsMap Tryz.prog 3 zqy bm L.length D)(hR:zt1 D L)(hl:L.length<1000000){a:Int}(ha:I64 a)(hn:a∉L.map Prod.fst)(x:Wy) :
  ∃w' D',(Instr.mapUpdate 355 (.map (some bm)) (.int .i64 a) x.val).run Tryz.prog w=.ok () w'/\w'.ownsMap Tryz.prog 3 zqy bm (L++[(a,x)]).length D'/\zt1 D' (L++[(a,x)])/\zan (fun k=>k=bm) w w':=by
 obtain⟨w',hrun,h1,h2⟩:=hD.update zwq Tryz.underlying355 (by unfold maxLen;omega) (zwo ha) (zfX x);have hR':zt1 (D.put (.int .i64 a) x.dat) (L++[(a,x)]):=Rep.put hR (fun a b _ _ e=>by injection e) (fun _=>trivial) ha hn x;exact⟨w',_,hrun,hR'.size▸za5 h1,hR',zan.of_grown h2 (fun i h=>by cases h;rfl)⟩
end
structure zdR(C:zcq)(w:World)(dk vars:Nat)(ns:List Nd)(L:List (Int × Wy)):Prop where
 hmap:∃D,w.ownsMap Tryz.prog 3 zqy dk L.length D/\zt1 D L
 keys:∀p∈L,zaa ns p.1≠24
 vals:∀p∈L,p.2=zbA C vars ns p.1
 nodup:(L.map Prod.fst).Nodup
section
variable {C:zcq} {w w':World} {dk vars:Nat} {ns:List Nd} {L:List (Int × Wy)}
theorem zdR.lt(h:zdR C w dk vars ns L):dk<w.heap.size:=by obtain⟨D,hD,-⟩:=h.hmap;exact hD.lt
theorem zdR.kept{S:Nat->Prop}(h:zdR C w dk vars ns L)(hk:zan S w w')(hn:¬S dk):zdR C w' dk vars ns L:=by
 obtain⟨D,hD,hR⟩:=h.hmap;exact⟨⟨D,za4 hD hk hn,hR⟩,h.keys,h.vals,h.nodup⟩
theorem zdR.new(h:zdR C w dk vars ns L)(hb:zB w w'):zdR C w' dk vars ns L:=h.kept (zan.of_below hb (fun _=>False)) (fun h=>h)
theorem zdR.len(h:zdR C w dk vars ns L):L.length<=ns.length:=by
 have h1:(L.map fun p=>pl p.1).length<=ns.length:=by
  refine zlZ _ _ ?_ ?_
  ·have:=h.nodup;rw[List.nodup_iff_pairwise_ne,List.pairwise_map] at this ⊢;refine List.Pairwise.imp_of_mem ?_ this;intro a b ha hb hne e;have h1:=zbL (h.keys a ha);have h2:=zbL (h.keys b hb);apply hne;rw[h1.2.2.2,h2.2.2.2,e]
  ·intro x hx;obtain⟨p,hp,rfl⟩:=List.mem_map.1 hx;exact(zbL (h.keys p hp)).2.1
 simpa using h1
end
end Bd
end Go.Proofs.YtiihalknffbjpaaGreatDoor
