/- What a slice of digits holds ('Dig'), and the contract of one digit's reading. -/
import Derived.Test.YtiihalknffbjpaaGreatDoorCtParse
namespace Go.Proofs.YtiihalknffbjpaaGreatDoor
set_option maxHeartbeats 4000000
set_option maxRecDepth 100000
section
open Go.RowKit Go.Deep Sv
theorem zqj{W:World}{b:Nat}{t:TypeId}{x y z:Value}(h:Blk W b t #[x,y,z])(p q r:Value):Blk (((W.setCell ⟨b,0,none⟩ p).setCell ⟨b,1,none⟩ q).setCell ⟨b,2,none⟩ r) b t #[p,q,r]:=((h.set (i:=0)).set (i:=1)).set (i:=2)
end
namespace Bd
open Go.RowKit Go.Maps Go.Deep
def Wy.val(x:Wy):Value:=.agg #[.int .u64 x.items,.int .i64 x.cost,.bool x.can]
def zmS(W0:World)(F:FuncId)(cb:Array Value)(C:zej)(vars:Nat):Prop:=∀W (i:Nat) (b:Bool),zB W0 W->i<vars->zR F (#[.int .i64 i,.bool b]++cb) W (.int .i64 (C i b))
structure BS(w:World)(p dk:Nat)(F:FuncId)(cb:Array Value)(a1 b1 c1 a2 b2 c2:Value)(X:World):Prop where
 w0:Blk X w.heap.size 357 #[.pointer (some ⟨p,0,none⟩),.func (.func F) #[] cb,.map (some dk)]
 w1:Blk X (w.heap.size+1) 279 #[a1,b1,c1]
 w2:Blk X (w.heap.size+1+1) 279 #[a2,b2,c2]
 w3:Blk X (w.heap.size+1+1+1) 279 #[.int .u64 0,.int .i64 0,.bool false]
 bel:zB w X
section
variable {w X X':World} {p dk:Nat} {F:FuncId} {cb:Array Value} {a1 b1 c1 a2 b2 c2:Value}
theorem BS.below(h:BS w p dk F cb a1 b1 c1 a2 b2 c2 X)(hb:zB X X'):BS w p dk F cb a1 b1 c1 a2 b2 c2 X' :=
 ⟨h.w0.below hb h.w0.lt,h.w1.below hb h.w1.lt,h.w2.below hb h.w2.lt,h.w3.below hb h.w3.lt,zT h.bel hb⟩
theorem BS.drew(h:BS w p dk F cb a1 b1 c1 a2 b2 c2 X):BS w p dk F cb a1 b1 c1 a2 b2 c2 X.drew:=h.below zF.drew
theorem BS.setw1(h:BS w p dk F cb a1 b1 c1 a2 b2 c2 X)(v:Value):BS w p dk F cb a1 v c1 a2 b2 c2 (X.setCell ⟨w.heap.size+1,1,none⟩ v) :=
 ⟨h.w0.other (by omega),h.w1.set (i:=1),h.w2.other (by omega),h.w3.other (by omega),h.bel.setCell (p:=⟨w.heap.size+1,1,none⟩) (by show w.heap.size<=w.heap.size+1;omega) _⟩
theorem BS.setw2(h:BS w p dk F cb a1 b1 c1 a2 b2 c2 X)(v:Value):BS w p dk F cb a1 b1 c1 a2 v c2 (X.setCell ⟨w.heap.size+1+1,1,none⟩ v) :=
 ⟨h.w0.other (by omega),h.w1.other (by omega),h.w2.set (i:=1),h.w3.other (by omega),h.bel.setCell (p:=⟨w.heap.size+1+1,1,none⟩) (by show w.heap.size<=w.heap.size+1+1;omega) _⟩
theorem BS.setw0(h:BS w p dk F cb a1 b1 c1 a2 b2 c2 X)(v:Value):BS w p dk F cb a1 b1 c1 v b2 c2 (X.setCell ⟨w.heap.size+1+1,0,none⟩ v) :=
 ⟨h.w0.other (by omega),h.w1.other (by omega),h.w2.set (i:=0),h.w3.other (by omega),h.bel.setCell (p:=⟨w.heap.size+1+1,0,none⟩) (by show w.heap.size<=w.heap.size+1+1;omega) _⟩
end
theorem ziS{w W:World}{b:Nat}(h:zB w W)(hb:w.heap.size<=b)(p q r:Value):zB w (((W.setCell ⟨b,0,none⟩ p).setCell ⟨b,1,none⟩ q).setCell ⟨b,2,none⟩ r) :=
 ((h.setCell (p:=⟨b,0,none⟩) hb _).setCell (p:=⟨b,1,none⟩) hb _).setCell (p:=⟨b,2,none⟩) hb _
theorem zmU(m i:Nat)(hm:m<2^24)(hi:i<24):bits BinOp.or IntKind.u64 (m:Int) (IntKind.u64.wrap (2^i))=((m|||2^i:Nat):Int):=by
 have h1:(2:Nat)^i<2^64:=Nat.pow_lt_pow_right (by decide) (by omega);have h2:(2:Nat)^24<18446744073709551616:=by decide
 have e:IntKind.u64.wrap (2^i)=((2^i:Nat):Int):=by
  rw[IntKind.wrap_u64,show ((2:Int)^i)=((2^i:Nat):Int) by simp];exact Int.emod_eq_of_lt (Int.natCast_nonneg _) (by omega)
 rw[e,bits_or_u64_nat m (2^i) (by omega) (by omega)]
theorem zlO{W0 w:World}(F:FuncId)(cb:Array Value)(C:zej)(vars:Nat)(hv:vars<=24)(hent:∀args w,(callFunc F args).run Tryz.prog w=.ok (.enter F args) w)(hC:zgr C)(hCA:zmS W0 F cb C vars)(hW:zB W0 w)(p:Nat)(dk:Nat)(i:Nat)(hi:i<vars)(wo wi:Wy)(h1:0<=wo.cost/\wo.cost<=24000000)(h2:0<=wi.cost/\wi.cost<=24000000)(h3:wi.items<2^24) :
  zC 299 #[.agg #[.pointer (some ⟨p,0,none⟩),.func (.func F) #[] cb,.map (some dk)],.int .i64 i,wo.val,wi.val] w fun e w'=>e=.returned (zle C i wo wi).val/\zB w w':=by
 have k0:=(((Blk.new w 357 #[.pointer (some ⟨p,0,none⟩),.func (.func F) #[] cb,.map (some dk)]).alloc (.cells #[.int .u64 wo.items,.int .i64 wo.cost,.bool wo.can] 279)).alloc (.cells #[.int .u64 wi.items,.int .i64 wi.cost,.bool wi.can] 279)).alloc (.cells #[.int .u64 0,.int .i64 0,.bool false] 279);have k1:=((Blk.new (w.alloc (.cells #[.pointer (some ⟨p,0,none⟩),.func (.func F) #[] cb,.map (some dk)] 357)) 279 #[.int .u64 wo.items,.int .i64 wo.cost,.bool wo.can]).alloc (.cells #[.int .u64 wi.items,.int .i64 wi.cost,.bool wi.can] 279)).alloc (.cells #[.int .u64 0,.int .i64 0,.bool false] 279);have k2:=(Blk.new ((w.alloc (.cells #[.pointer (some ⟨p,0,none⟩),.func (.func F) #[] cb,.map (some dk)] 357)).alloc (.cells #[.int .u64 wo.items,.int .i64 wo.cost,.bool wo.can] 279)) 279 #[.int .u64 wi.items,.int .i64 wi.cost,.bool wi.can]).alloc (.cells #[.int .u64 0,.int .i64 0,.bool false] 279);have k3:=Blk.new (((w.alloc (.cells #[.pointer (some ⟨p,0,none⟩),.func (.func F) #[] cb,.map (some dk)] 357)).alloc (.cells #[.int .u64 wo.items,.int .i64 wo.cost,.bool wo.can] 279)).alloc (.cells #[.int .u64 wi.items,.int .i64 wi.cost,.bool wi.can] 279)) 279 #[.int .u64 0,.int .i64 0,.bool false];simp only[World.size_alloc] at k1 k2 k3;have hbA:zB w ((((w.alloc (.cells #[.pointer (some ⟨p,0,none⟩),.func (.func F) #[] cb,.map (some dk)] 357)).alloc (.cells #[.int .u64 wo.items,.int .i64 wo.cost,.bool wo.can] 279)).alloc (.cells #[.int .u64 wi.items,.int .i64 wi.cost,.bool wi.can] 279)).alloc (.cells #[.int .u64 0,.int .i64 0,.bool false] 279)):=((((Below.refl _ w).alloc zN _).alloc (by simp only[World.size_alloc];omega) _).alloc (by simp only[World.size_alloc];omega) _).alloc (by simp only[World.size_alloc];omega) _;have HC1:Hid (∀W,zB w W->zR F (#[.int .i64 i,.bool false]++cb) W (.int .i64 (C i false))):=fun W hb=>hCA W i false (zT hW hb) hi;have HC2:Hid (∀W,zB w W->zR F (#[.int .i64 i,.bool true]++cb) W (.int .i64 (C i true))):=fun W hb=>hCA W i true (zT hW hb) hi;have b1:=hC i false;have b2:=hC i true;have hor:=zmU wi.items i h3 (by omega);have HBF:Hid (zle C i wo wi=if wi.can=true/\(wo.can=false\/wi.cost+C i true<=wo.cost+C i false) then ⟨wi.items|||2^i,wi.cost+C i true,wi.can⟩ else ⟨wo.items,wo.cost+C i false,wo.can⟩):=rfl;generalize zle C i wo wi=R at *;unfold Wy.val;obtain⟨oi,oc,ob⟩:=wo;obtain⟨ii,ic,ib⟩:=wi;simp only at *;obtain⟨g1,hg1⟩:∃g,C i false=g:=⟨_,rfl⟩;obtain⟨g2,hg2⟩:∃g,C i true=g:=⟨_,rfl⟩;rw[hg1] at HC1 b1 HBF;rw[hg2] at HC2 b2 HBF;clear hCA hC hg1 hg2 hW;have hi64:(i:Int)<64:=by omega
 have wr1:wrap64 (oc+g1)=oc+g1:=by unfold wrap64;omega
 have wr2:wrap64 (ic+g2)=ic+g2:=by unfold wrap64;omega
 have wk1:IntKind.i64.wrap (oc+g1)=oc+g1:=by rw[IntKind.wrap_i64];unfold wrap64 at wr1;exact wr1
 have wk2:IntKind.i64.wrap (ic+g2)=ic+g2:=by rw[IntKind.wrap_i64];unfold wrap64 at wr2;exact wr2
 have hi0:(0:Int)<=(i:Int):=by omega
 go_enter Tryz.func299,Tryz.ntmps299;go_upto_region 1 with fail;generalize hWA:((((w.alloc (.cells #[.pointer (some ⟨p,0,none⟩),.func (.func F) #[] cb,.map (some dk)] 357)).alloc (.cells #[.int .u64 oi,.int .i64 oc,.bool ob] 279)).alloc (.cells #[.int .u64 ii,.int .i64 ic,.bool ib] 279)).alloc (.cells #[.int .u64 0,.int .i64 0,.bool false] 279))=WA at *;have BSA:BS w p dk F cb (.int .u64 oi) (.int .i64 oc) (.bool ob) (.int .u64 ii) (.int .i64 ic) (.bool ib) WA:=⟨k0,k1,k2,k3,hbA⟩;clear hWA k0 k1 k2 k3;have BSX:=zH BSA.drew;have c0:_=some (Value.func (.func F) #[] cb):=BSX.out.w0.cell 1;have c1:_=some (Value.int .i64 oc):=BSX.out.w1.cell 1;have D0:zB w WA.drew:=hbA.drew;clear BSA hbA;go_cut [10] (fun _ wx=>BS w p dk F cb (.int .u64 oi) (.int .i64 (oc+g1)) (.bool ob) (.int .u64 ii) (.int .i64 ic) (.bool ib) wx)
 case first =>
   refine wp_region_noPanic ?_;refine wp_region_held_drew (S:=(fun X=>X.cell? ⟨w.heap.size,1,none⟩=some (.func (.func F) #[] cb))) (by kernel_rfl) c0 (fun hHeld=>?_);refine wpAnyH_take (i:=0) (oi:=⟨_,_,_,_,_,_⟩) (v:=?_) rfl (by as_aux_lemma=>kernel_rfl) (by as_aux_lemma=>kernel_rfl) (by as_aux_lemma=>kernel_rfl) (fun _ _ _ h=>h) (Or.inl ⟨by rfl,?_⟩) (by assumption) ?_;rotate_left
   ·(intro w hSw;(try dsimp only at hSw);first|(go_simp;done)|(go_simp;with_reducible rfl))
   try simp only[Act.put,List.setIfInBounds_toArray,List.set_cons_zero,List.set_cons_succ]
   refine wpAnyH_take (i:=2) (oi:=⟨_,_,_,_,_,_⟩) (v:=?_) rfl (by as_aux_lemma=>kernel_rfl) (by as_aux_lemma=>kernel_rfl) (by as_aux_lemma=>kernel_rfl) (fun _ _ _ h=>h) (Or.inl ⟨by rfl,?_⟩) (by assumption) ?_;rotate_left
   ·(intro w hSw;(try dsimp only at hSw);first|(go_simp;done)|(go_simp;with_reducible rfl))
   try simp only[Act.put,List.setIfInBounds_toArray,List.set_cons_zero,List.set_cons_succ]
   refine wpAnyH_take (i:=3) (oi:=⟨_,_,_,_,_,_⟩) (v:=?_) rfl (by as_aux_lemma=>kernel_rfl) (by as_aux_lemma=>kernel_rfl) (by as_aux_lemma=>kernel_rfl) (fun _ _ _ h=>h) (Or.inl ⟨by rfl,?_⟩) (by assumption) ?_;rotate_left
   ·(intro w hSw;(try dsimp only at hSw);first|(go_simp;done)|(go_simp;with_reducible rfl))
   try simp only[Act.put,List.setIfInBounds_toArray,List.set_cons_zero,List.set_cons_succ]
   refine wpAnyH_take (i:=4) (oi:=⟨_,_,_,_,_,_⟩) (v:=?_) rfl (by as_aux_lemma=>kernel_rfl) (by as_aux_lemma=>kernel_rfl) (by as_aux_lemma=>kernel_rfl) (fun _ _ _ h=>h) (Or.inl ⟨by rfl,?_⟩) (by assumption) ?_;rotate_left
   ·(intro w hSw;(try dsimp only at hSw);first|(go_simp;done)|(go_simp;with_reducible rfl))
   try simp only[Act.put,List.setIfInBounds_toArray,List.set_cons_zero,List.set_cons_succ]
   refine wpAnyH_ready (rs:=[1,5]) (by as_aux_lemma=>kernel_rfl) (by simp) ?_;refine AllReadyH.cons (o:=⟨_,_,_,_,_,_⟩) rfl (fun K hK=>?_) (AllReadyH.cons (o:=⟨_,_,_,_,_,_⟩) rfl (fun K hK=>?_) AllReadyH.nil)
   ·go_simp;refine hK.out _ _ ?_ (fun hNew=>?_)
    ·exact hHeld
    clear hK K;replace hHeld:=hNew;clear hNew
    try simp only[Act.put,List.setIfInBounds_toArray,List.set_cons_zero,List.set_cons_succ]
    refine wpAnyH_ready (rs:=[5]) (by as_aux_lemma=>kernel_rfl) (by simp) ?_;refine AllReadyH.cons (o:=⟨_,_,_,_,_,_⟩) rfl (fun K hK=>?_) AllReadyH.nil;go_simp;refine(HC1.out _ D0).mono ?_;rintro e x1 ⟨rfl,hb1⟩;have D1:zB w x1:=zT D0 hb1;have BX:=BSX.out.below hb1;have f1:=BX.w1.cell 1;have f2:=BX.w1.frozen 1;have f0:=BX.w0.cell 1
    try simp only
    refine hK.out _ _ ?_ (fun hNew=>?_)
    ·exact f0
    clear hK K;replace hHeld:=hNew;clear hNew
    try simp only[Act.put,List.setIfInBounds_toArray,List.set_cons_zero,List.set_cons_succ]
    refine wpAnyH_take (i:=6) (oi:=⟨_,_,_,_,_,_⟩) (v:=?_) rfl (by as_aux_lemma=>kernel_rfl) (by as_aux_lemma=>kernel_rfl) (by as_aux_lemma=>kernel_rfl) (fun _ _ _ h=>h) (Or.inl ⟨by rfl,?_⟩) (by assumption) ?_;rotate_left
    ·(intro w hSw;(try dsimp only at hSw);first|(go_simp;done)|(go_simp;with_reducible rfl))
    try simp only[Act.put,List.setIfInBounds_toArray,List.set_cons_zero,List.set_cons_succ]
    refine wpAnyH_take (i:=7) (oi:=⟨_,_,_,_,_,_⟩) (v:=?_) rfl (by as_aux_lemma=>kernel_rfl) (by as_aux_lemma=>kernel_rfl) (by as_aux_lemma=>kernel_rfl) (fun _ _ _ h=>h) (Or.inl ⟨by rfl,?_⟩) (by assumption) ?_;rotate_left
    ·(intro w hSw;(try dsimp only at hSw);first|(go_simp;done)|(go_simp;with_reducible rfl))
    try simp only[Act.put,List.setIfInBounds_toArray,List.set_cons_zero,List.set_cons_succ]
    refine wpAnyH_ready (rs:=[8]) (by as_aux_lemma=>kernel_rfl) (by simp) ?_;refine AllReadyH.cons (o:=⟨_,_,_,_,_,_⟩) rfl (fun K hK=>?_) AllReadyH.nil;go_simp;refine hK.out _ _ ?_ (fun hNew=>?_)
    ·exact(BX.setw1 (.int .i64 (oc+g1))).w0.cell 1
    clear hK K;replace hHeld:=hNew;clear hNew
    try simp only[Act.put,List.setIfInBounds_toArray,List.set_cons_zero,List.set_cons_succ]
    refine wpAnyH_done (by kernel_rfl) (NoPanic.normal ?_) _;have HFI:=zH (BX.setw1 (.int .i64 (oc+g1)));clear hHeld f0 f1 f2 BX D1 hb1;go_wp2_with fail;go_meet
    case rel=>exact HFI.out
   ·go_simp;refine(HC1.out _ D0).mono ?_;rintro e x1 ⟨rfl,hb1⟩;have D1:zB w x1:=zT D0 hb1;have BX:=BSX.out.below hb1;have f1:=BX.w1.cell 1;have f2:=BX.w1.frozen 1;have f0:=BX.w0.cell 1
    try simp only
    refine hK.out _ _ ?_ (fun hNew=>?_)
    ·exact f0
    clear hK K;replace hHeld:=hNew;clear hNew
    try simp only[Act.put,List.setIfInBounds_toArray,List.set_cons_zero,List.set_cons_succ]
    refine wpAnyH_ready (rs:=[1]) (by as_aux_lemma=>kernel_rfl) (by simp) ?_;refine AllReadyH.cons (o:=⟨_,_,_,_,_,_⟩) rfl (fun K hK=>?_) AllReadyH.nil;go_simp;refine hK.out _ _ ?_ (fun hNew=>?_)
    ·exact hHeld
    clear hK K;replace hHeld:=hNew;clear hNew
    try simp only[Act.put,List.setIfInBounds_toArray,List.set_cons_zero,List.set_cons_succ]
    refine wpAnyH_take (i:=6) (oi:=⟨_,_,_,_,_,_⟩) (v:=?_) rfl (by as_aux_lemma=>kernel_rfl) (by as_aux_lemma=>kernel_rfl) (by as_aux_lemma=>kernel_rfl) (fun _ _ _ h=>h) (Or.inl ⟨by rfl,?_⟩) (by assumption) ?_;rotate_left
    ·(intro w hSw;(try dsimp only at hSw);first|(go_simp;done)|(go_simp;with_reducible rfl))
    try simp only[Act.put,List.setIfInBounds_toArray,List.set_cons_zero,List.set_cons_succ]
    refine wpAnyH_take (i:=7) (oi:=⟨_,_,_,_,_,_⟩) (v:=?_) rfl (by as_aux_lemma=>kernel_rfl) (by as_aux_lemma=>kernel_rfl) (by as_aux_lemma=>kernel_rfl) (fun _ _ _ h=>h) (Or.inl ⟨by rfl,?_⟩) (by assumption) ?_;rotate_left
    ·(intro w hSw;(try dsimp only at hSw);first|(go_simp;done)|(go_simp;with_reducible rfl))
    try simp only[Act.put,List.setIfInBounds_toArray,List.set_cons_zero,List.set_cons_succ]
    refine wpAnyH_ready (rs:=[8]) (by as_aux_lemma=>kernel_rfl) (by simp) ?_;refine AllReadyH.cons (o:=⟨_,_,_,_,_,_⟩) rfl (fun K hK=>?_) AllReadyH.nil;go_simp;refine hK.out _ _ ?_ (fun hNew=>?_)
    ·exact(BX.setw1 (.int .i64 (oc+g1))).w0.cell 1
    clear hK K;replace hHeld:=hNew;clear hNew
    try simp only[Act.put,List.setIfInBounds_toArray,List.set_cons_zero,List.set_cons_succ]
    refine wpAnyH_done (by kernel_rfl) (NoPanic.normal ?_) _;have HFI:=zH (BX.setw1 (.int .i64 (oc+g1)));clear hHeld f0 f1 f2 BX D1 hb1;go_wp2_with fail;go_meet
    case rel=>exact HFI.out
 case rest =>
  clear BSX c0 c1 D0 HC1;have BSB:=hcut;clear hcut;have BSX:=zH BSB.drew;have c0:_=some (Value.func (.func F) #[] cb):=BSX.out.w0.cell 1;have c1:_=some (Value.int .i64 ic):=BSX.out.w2.cell 1;have D0:zB w wc.drew:=BSB.bel.drew;clear BSB;go_upto_region 2 with fail;go_cut [18] (fun _ wx=>BS w p dk F cb (.int .u64 oi) (.int .i64 (oc+g1)) (.bool ob) (.int .u64 ii) (.int .i64 (ic+g2)) (.bool ib) wx)
  case first =>
   refine wp_region_noPanic ?_;refine wp_region_held_drew (S:=(fun X=>X.cell? ⟨w.heap.size,1,none⟩=some (.func (.func F) #[] cb))) (by kernel_rfl) c0 (fun hHeld=>?_);refine wpAnyH_take (i:=0) (oi:=⟨_,_,_,_,_,_⟩) (v:=?_) rfl (by as_aux_lemma=>kernel_rfl) (by as_aux_lemma=>kernel_rfl) (by as_aux_lemma=>kernel_rfl) (fun _ _ _ h=>h) (Or.inl ⟨by rfl,?_⟩) (by assumption) ?_;rotate_left
   ·(intro w hSw;(try dsimp only at hSw);first|(go_simp;done)|(go_simp;with_reducible rfl))
   try simp only[Act.put,List.setIfInBounds_toArray,List.set_cons_zero,List.set_cons_succ]
   refine wpAnyH_take (i:=2) (oi:=⟨_,_,_,_,_,_⟩) (v:=?_) rfl (by as_aux_lemma=>kernel_rfl) (by as_aux_lemma=>kernel_rfl) (by as_aux_lemma=>kernel_rfl) (fun _ _ _ h=>h) (Or.inl ⟨by rfl,?_⟩) (by assumption) ?_;rotate_left
   ·(intro w hSw;(try dsimp only at hSw);first|(go_simp;done)|(go_simp;with_reducible rfl))
   try simp only[Act.put,List.setIfInBounds_toArray,List.set_cons_zero,List.set_cons_succ]
   refine wpAnyH_take (i:=3) (oi:=⟨_,_,_,_,_,_⟩) (v:=?_) rfl (by as_aux_lemma=>kernel_rfl) (by as_aux_lemma=>kernel_rfl) (by as_aux_lemma=>kernel_rfl) (fun _ _ _ h=>h) (Or.inl ⟨by rfl,?_⟩) (by assumption) ?_;rotate_left
   ·(intro w hSw;(try dsimp only at hSw);first|(go_simp;done)|(go_simp;with_reducible rfl))
   try simp only[Act.put,List.setIfInBounds_toArray,List.set_cons_zero,List.set_cons_succ]
   refine wpAnyH_take (i:=4) (oi:=⟨_,_,_,_,_,_⟩) (v:=?_) rfl (by as_aux_lemma=>kernel_rfl) (by as_aux_lemma=>kernel_rfl) (by as_aux_lemma=>kernel_rfl) (fun _ _ _ h=>h) (Or.inl ⟨by rfl,?_⟩) (by assumption) ?_;rotate_left
   ·(intro w hSw;(try dsimp only at hSw);first|(go_simp;done)|(go_simp;with_reducible rfl))
   try simp only[Act.put,List.setIfInBounds_toArray,List.set_cons_zero,List.set_cons_succ]
   refine wpAnyH_ready (rs:=[1,5]) (by as_aux_lemma=>kernel_rfl) (by simp) ?_;refine AllReadyH.cons (o:=⟨_,_,_,_,_,_⟩) rfl (fun K hK=>?_) (AllReadyH.cons (o:=⟨_,_,_,_,_,_⟩) rfl (fun K hK=>?_) AllReadyH.nil)
   ·go_simp;refine hK.out _ _ ?_ (fun hNew=>?_)
    ·exact hHeld
    clear hK K;replace hHeld:=hNew;clear hNew
    try simp only[Act.put,List.setIfInBounds_toArray,List.set_cons_zero,List.set_cons_succ]
    refine wpAnyH_ready (rs:=[5]) (by as_aux_lemma=>kernel_rfl) (by simp) ?_;refine AllReadyH.cons (o:=⟨_,_,_,_,_,_⟩) rfl (fun K hK=>?_) AllReadyH.nil;go_simp;refine(HC2.out _ D0).mono ?_;rintro e x2 ⟨rfl,hb1⟩;have D1:zB w x2:=zT D0 hb1;have BX:=BSX.out.below hb1;have f1:=BX.w2.cell 1;have f2:=BX.w2.frozen 1;have f0:=BX.w0.cell 1
    try simp only
    refine hK.out _ _ ?_ (fun hNew=>?_)
    ·exact f0
    clear hK K;replace hHeld:=hNew;clear hNew
    try simp only[Act.put,List.setIfInBounds_toArray,List.set_cons_zero,List.set_cons_succ]
    refine wpAnyH_take (i:=6) (oi:=⟨_,_,_,_,_,_⟩) (v:=?_) rfl (by as_aux_lemma=>kernel_rfl) (by as_aux_lemma=>kernel_rfl) (by as_aux_lemma=>kernel_rfl) (fun _ _ _ h=>h) (Or.inl ⟨by rfl,?_⟩) (by assumption) ?_;rotate_left
    ·(intro w hSw;(try dsimp only at hSw);first|(go_simp;done)|(go_simp;with_reducible rfl))
    try simp only[Act.put,List.setIfInBounds_toArray,List.set_cons_zero,List.set_cons_succ]
    refine wpAnyH_take (i:=7) (oi:=⟨_,_,_,_,_,_⟩) (v:=?_) rfl (by as_aux_lemma=>kernel_rfl) (by as_aux_lemma=>kernel_rfl) (by as_aux_lemma=>kernel_rfl) (fun _ _ _ h=>h) (Or.inl ⟨by rfl,?_⟩) (by assumption) ?_;rotate_left
    ·(intro w hSw;(try dsimp only at hSw);first|(go_simp;done)|(go_simp;with_reducible rfl))
    try simp only[Act.put,List.setIfInBounds_toArray,List.set_cons_zero,List.set_cons_succ]
    refine wpAnyH_ready (rs:=[8]) (by as_aux_lemma=>kernel_rfl) (by simp) ?_;refine AllReadyH.cons (o:=⟨_,_,_,_,_,_⟩) rfl (fun K hK=>?_) AllReadyH.nil;go_simp;refine hK.out _ _ ?_ (fun hNew=>?_)
    ·exact(BX.setw2 (.int .i64 (ic+g2))).w0.cell 1
    clear hK K;replace hHeld:=hNew;clear hNew
    try simp only[Act.put,List.setIfInBounds_toArray,List.set_cons_zero,List.set_cons_succ]
    refine wpAnyH_done (by kernel_rfl) (NoPanic.normal ?_) _;have HFI:=zH (BX.setw2 (.int .i64 (ic+g2)));clear hHeld f0 f1 f2 BX D1 hb1;go_wp2_with fail;go_meet
    case rel=>exact HFI.out
   ·go_simp;refine(HC2.out _ D0).mono ?_;rintro e x2 ⟨rfl,hb1⟩;have D1:zB w x2:=zT D0 hb1;have BX:=BSX.out.below hb1;have f1:=BX.w2.cell 1;have f2:=BX.w2.frozen 1;have f0:=BX.w0.cell 1
    try simp only
    refine hK.out _ _ ?_ (fun hNew=>?_)
    ·exact f0
    clear hK K;replace hHeld:=hNew;clear hNew
    try simp only[Act.put,List.setIfInBounds_toArray,List.set_cons_zero,List.set_cons_succ]
    refine wpAnyH_ready (rs:=[1]) (by as_aux_lemma=>kernel_rfl) (by simp) ?_;refine AllReadyH.cons (o:=⟨_,_,_,_,_,_⟩) rfl (fun K hK=>?_) AllReadyH.nil;go_simp;refine hK.out _ _ ?_ (fun hNew=>?_)
    ·exact hHeld
    clear hK K;replace hHeld:=hNew;clear hNew
    try simp only[Act.put,List.setIfInBounds_toArray,List.set_cons_zero,List.set_cons_succ]
    refine wpAnyH_take (i:=6) (oi:=⟨_,_,_,_,_,_⟩) (v:=?_) rfl (by as_aux_lemma=>kernel_rfl) (by as_aux_lemma=>kernel_rfl) (by as_aux_lemma=>kernel_rfl) (fun _ _ _ h=>h) (Or.inl ⟨by rfl,?_⟩) (by assumption) ?_;rotate_left
    ·(intro w hSw;(try dsimp only at hSw);first|(go_simp;done)|(go_simp;with_reducible rfl))
    try simp only[Act.put,List.setIfInBounds_toArray,List.set_cons_zero,List.set_cons_succ]
    refine wpAnyH_take (i:=7) (oi:=⟨_,_,_,_,_,_⟩) (v:=?_) rfl (by as_aux_lemma=>kernel_rfl) (by as_aux_lemma=>kernel_rfl) (by as_aux_lemma=>kernel_rfl) (fun _ _ _ h=>h) (Or.inl ⟨by rfl,?_⟩) (by assumption) ?_;rotate_left
    ·(intro w hSw;(try dsimp only at hSw);first|(go_simp;done)|(go_simp;with_reducible rfl))
    try simp only[Act.put,List.setIfInBounds_toArray,List.set_cons_zero,List.set_cons_succ]
    refine wpAnyH_ready (rs:=[8]) (by as_aux_lemma=>kernel_rfl) (by simp) ?_;refine AllReadyH.cons (o:=⟨_,_,_,_,_,_⟩) rfl (fun K hK=>?_) AllReadyH.nil;go_simp;refine hK.out _ _ ?_ (fun hNew=>?_)
    ·exact(BX.setw2 (.int .i64 (ic+g2))).w0.cell 1
    clear hK K;replace hHeld:=hNew;clear hNew
    try simp only[Act.put,List.setIfInBounds_toArray,List.set_cons_zero,List.set_cons_succ]
    refine wpAnyH_done (by kernel_rfl) (NoPanic.normal ?_) _;have HFI:=zH (BX.setw2 (.int .i64 (ic+g2)));clear hHeld f0 f1 f2 BX D1 hb1;go_wp2_with fail;go_meet
    case rel=>exact HFI.out
  case rest =>
   clear BSX c0 c1 D0 HC2;have BSB:=zH hcut.drew;clear hcut;have c0:_=some (Value.int .u64 ii):=BSB.out.w2.cell 0;have c1:=BSB.out.w2.frozen 0;go_upto_region 3 with fail;go_cut [26] (fun _ wx=>BS w p dk F cb (.int .u64 oi) (.int .i64 (oc+g1)) (.bool ob) (.int .u64 ((ii|||2^i:Nat):Int)) (.int .i64 (ic+g2)) (.bool ib) wx)
   case first =>
    refine wp_region_noPanic ?_;refine wp_region_held_drew (S:=fun _=>True) (by kernel_rfl) trivial (fun hHeld=>?_);refine wpAnyH_take (i:=0) (oi:=⟨_,_,_,_,_,_⟩) (v:=?_) rfl (by as_aux_lemma=>kernel_rfl) (by as_aux_lemma=>kernel_rfl) (by as_aux_lemma=>kernel_rfl) (fun _ _ _ h=>h) (Or.inl ⟨by rfl,?_⟩) (by assumption) ?_;rotate_left
    ·(intro w hSw;(try dsimp only at hSw);first|(go_simp;done)|(go_simp;with_reducible rfl))
    try simp only[Act.put,List.setIfInBounds_toArray,List.set_cons_zero,List.set_cons_succ]
    refine wpAnyH_take (i:=2) (oi:=⟨_,_,_,_,_,_⟩) (v:=?_) rfl (by as_aux_lemma=>kernel_rfl) (by as_aux_lemma=>kernel_rfl) (by as_aux_lemma=>kernel_rfl) (fun _ _ _ h=>h) (Or.inl ⟨by rfl,?_⟩) (by assumption) ?_;rotate_left
    ·(intro w hSw;(try dsimp only at hSw);first|(go_simp;done)|(go_simp;with_reducible rfl))
    try simp only[Act.put,List.setIfInBounds_toArray,List.set_cons_zero,List.set_cons_succ]
    refine wpAnyH_take (i:=3) (oi:=⟨_,_,_,_,_,_⟩) (v:=?_) rfl (by as_aux_lemma=>kernel_rfl) (by as_aux_lemma=>kernel_rfl) (by as_aux_lemma=>kernel_rfl) (fun _ _ _ h=>h) (Or.inl ⟨by rfl,?_⟩) (by assumption) ?_;rotate_left
    ·(intro w hSw;(try dsimp only at hSw);first|(go_simp;done)|(go_simp;with_reducible rfl))
    try simp only[Act.put,List.setIfInBounds_toArray,List.set_cons_zero,List.set_cons_succ]
    refine wpAnyH_ready (rs:=[1]) (by as_aux_lemma=>kernel_rfl) (by simp) ?_;refine AllReadyH.cons (o:=⟨_,_,_,_,_,_⟩) rfl (fun K hK=>?_) AllReadyH.nil;go_simp;refine hK.out _ _ trivial (fun hNew=>?_);clear hK K hNew
    try simp only[Act.put,List.setIfInBounds_toArray,List.set_cons_zero,List.set_cons_succ]
    refine wpAnyH_take (i:=4) (oi:=⟨_,_,_,_,_,_⟩) (v:=?_) rfl (by as_aux_lemma=>kernel_rfl) (by as_aux_lemma=>kernel_rfl) (by as_aux_lemma=>kernel_rfl) (fun _ _ _ h=>h) (Or.inl ⟨by rfl,?_⟩) (by assumption) ?_;rotate_left
    ·(intro w hSw;(try dsimp only at hSw);first|(go_simp;done)|(go_simp;with_reducible rfl))
    try simp only[Act.put,List.setIfInBounds_toArray,List.set_cons_zero,List.set_cons_succ]
    refine wpAnyH_take (i:=5) (oi:=⟨_,_,_,_,_,_⟩) (v:=?_) rfl (by as_aux_lemma=>kernel_rfl) (by as_aux_lemma=>kernel_rfl) (by as_aux_lemma=>kernel_rfl) (fun _ _ _ h=>h) (Or.inl ⟨by rfl,?_⟩) (by assumption) ?_;rotate_left
    ·(intro w hSw;(try dsimp only at hSw);first|(go_simp;done)|(go_simp;with_reducible rfl))
    try simp only[Act.put,List.setIfInBounds_toArray,List.set_cons_zero,List.set_cons_succ]
    refine wpAnyH_ready (rs:=[6]) (by as_aux_lemma=>kernel_rfl) (by simp) ?_;refine AllReadyH.cons (o:=⟨_,_,_,_,_,_⟩) rfl (fun K hK=>?_) AllReadyH.nil;go_simp;refine hK.out _ _ trivial (fun hNew=>?_);clear hK K hNew
    try simp only[Act.put,List.setIfInBounds_toArray,List.set_cons_zero,List.set_cons_succ]
    refine wpAnyH_done (by kernel_rfl) (NoPanic.normal ?_) _;clear hHeld;have HFI:=zH (BSB.out.setw0 (.int .u64 ((ii|||2^i:Nat):Int)));go_wp2_with fail;go_meet
    case rel=>exact HFI.out
   case rest =>
    clear BSB c0 c1 hor;have BSF:=zH hcut;clear hcut;have a0:=BSF.out.w1.cell 0;have a1:=BSF.out.w1.cell 1;have a2:=BSF.out.w1.cell 2;have e0:=BSF.out.w2.cell 0;have e1:=BSF.out.w2.cell 1;have e2:=BSF.out.w2.cell 2;have z0:=BSF.out.w3.cell 0;have z1:=BSF.out.w3.cell 1;have z2:=BSF.out.w3.cell 2;have y0:=BSF.out.w3.frozen 0;have y1:=BSF.out.w3.frozen 1;have y2:=BSF.out.w3.frozen 2;cases ib with
    |false =>
     have hR:R=⟨oi,oc+g1,ob⟩:=by rw[HBF.out];exact if_neg (fun h=>by cases h.1)
     have hres:=zqj BSF.out.w3 (.int .u64 oi) (.int .i64 (oc+g1)) (.bool ob);have r0:=hres.cell 0;have r1:=hres.cell 1;have r2:=hres.cell 2;have HB:=zH (ziS BSF.out.bel (show w.heap.size<=w.heap.size+1+1+1 by omega) (.int .u64 oi) (.int .i64 (oc+g1)) (.bool ob));clear hres;go_wp2;refine bodyPost_ret (v:=.agg #[.int .u64 oi,.int .i64 (oc+g1),.bool ob]) (by simp[results,Tryz.f299,go_sem,r0,r1,r2]) rfl ?_;exact⟨by first|rfl|rw[hR],HB.out⟩
    |true =>
     cases ob with
     |false =>
      have hR:R=⟨ii|||2^i,ic+g2,true⟩:=by rw[HBF.out];exact if_pos ⟨rfl,.inl rfl⟩
      have hres:=zqj BSF.out.w3 (.int .u64 ((ii|||2^i:Nat):Int)) (.int .i64 (ic+g2)) (.bool true);have r0:=hres.cell 0;have r1:=hres.cell 1;have r2:=hres.cell 2;have HB:=zH (ziS BSF.out.bel (show w.heap.size<=w.heap.size+1+1+1 by omega) (.int .u64 ((ii|||2^i:Nat):Int)) (.int .i64 (ic+g2)) (.bool true));clear hres;go_wp2;refine bodyPost_ret (v:=.agg #[.int .u64 ((ii|||2^i:Nat):Int),.int .i64 (ic+g2),.bool true]) (by simp[results,Tryz.f299,go_sem,r0,r1,r2]) rfl ?_;exact⟨by first|rfl|rw[hR],HB.out⟩
     |true =>
      by_cases hle:ic+g2<=oc+g1
      ·have hR:R=⟨ii|||2^i,ic+g2,true⟩:=by rw[HBF.out];exact if_pos ⟨rfl,.inr hle⟩
       have hres:=zqj BSF.out.w3 (.int .u64 ((ii|||2^i:Nat):Int)) (.int .i64 (ic+g2)) (.bool true);have r0:=hres.cell 0;have r1:=hres.cell 1;have r2:=hres.cell 2;have HB:=zH (ziS BSF.out.bel (show w.heap.size<=w.heap.size+1+1+1 by omega) (.int .u64 ((ii|||2^i:Nat):Int)) (.int .i64 (ic+g2)) (.bool true));clear hres;go_wp2;refine bodyPost_ret (v:=.agg #[.int .u64 ((ii|||2^i:Nat):Int),.int .i64 (ic+g2),.bool true]) (by simp[results,Tryz.f299,go_sem,r0,r1,r2]) rfl ?_;exact⟨by first|rfl|rw[hR],HB.out⟩
      ·have hR:R=⟨oi,oc+g1,true⟩:=by rw[HBF.out];exact if_neg (fun h=>by rcases h.2 with h|h;cases h;exact hle h)
       have hres:=zqj BSF.out.w3 (.int .u64 oi) (.int .i64 (oc+g1)) (.bool true);have r0:=hres.cell 0;have r1:=hres.cell 1;have r2:=hres.cell 2;have HB:=zH (ziS BSF.out.bel (show w.heap.size<=w.heap.size+1+1+1 by omega) (.int .u64 oi) (.int .i64 (oc+g1)) (.bool true));clear hres;go_wp2;refine bodyPost_ret (v:=.agg #[.int .u64 oi,.int .i64 (oc+g1),.bool true]) (by simp[results,Tryz.f299,go_sem,r0,r1,r2]) rfl ?_;exact⟨by first|rfl|rw[hR],HB.out⟩
end Bd
namespace Bd.Num
def S(B:Nat)(g:Nat->Nat):Nat->Nat
 |0=>0
 |k+1=>S B g k+g k*B^k
theorem zdN(B:Nat)(g:Nat->Nat)(k:Nat):S B g (k+1)=S B g k+g k*B^k:=rfl
def dig(ds:List Nat)(i:Nat):Nat:=ds.getD i 0
def val(B:Nat)(ds:List Nat):Nat:=S B (dig ds) ds.length
structure zlX(B:Nat)(ds:List Nat):Prop where
 small:∀i,dig ds i<B
 last:ds.length≠0->dig ds (ds.length-1)≠0
theorem zfo(ds:List Nat)(i:Nat)(h:ds.length<=i):dig ds i=0:=by
 unfold dig;simp[List.getD_eq_getElem?_getD,List.getElem?_eq_none h]
theorem zdZ(a:List Nat)(x:Nat)(i:Nat):dig (a++[x]) i=if i<a.length then dig a i else if i=a.length then x else 0:=by
 unfold dig;simp only[List.getD_eq_getElem?_getD]
 by_cases h:i<a.length
 ·rw[List.getElem?_append_left h,if_pos h]
 ·rw[if_neg h,List.getElem?_append_right (by omega)]
  by_cases e:i=a.length
  ·subst e;simp
  ·rw[if_neg e,List.getElem?_eq_none (by simp;omega)];rfl
theorem zgw(B:Nat)(g h:Nat->Nat):∀k,(∀i,i<k->g i=h i)->S B g k=S B h k
 |0,_=>rfl
 |k+1,e=>by rw[zdN,zdN,zgw B g h k (fun i hi=>e i (by omega)),e k (by omega)]
theorem zkT(B:Nat)(g:Nat->Nat)(k:Nat):∀m,(∀i,k<=i->g i=0)->S B g (k+m)=S B g k
 |0,_=>rfl
 |m+1,e=>by rw[<-Nat.add_assoc,zdN,zkT B g k m e,e (k+m) (by omega)];simp
theorem zk2(B:Nat)(ds:List Nat)(n:Nat)(h:ds.length<=n):S B (dig ds) n=val B ds:=by
 obtain⟨m,rfl⟩:=Nat.exists_eq_add_of_le h;exact zkT B _ _ m (fun i hi=>zfo ds i hi)
theorem zxw(B:Nat)(g:Nat->Nat):∀k,(∀i,g i<B)->S B g k<B^k
 |0,_=>by simp[S]
 |k+1,e=>by
  have h1:=zxw B g k e;have h2:(g k+1)*B^k<=B*B^k:=Nat.mul_le_mul_right _ (e k);rw[zdN,Nat.pow_succ,Nat.mul_comm (B^k) B];rw[Nat.add_mul] at h2;omega
theorem zwP{B:Nat}{ds:List Nat}(h:∀i,dig ds i<B):val B ds<B^ds.length:=zxw B _ _ h
theorem zrt(B:Nat):val B []=0:=rfl
theorem zvB(i:Nat):dig [] i=0:=by unfold dig;simp
theorem zwb{B:Nat}{ds:List Nat}(h:zlX B ds)(hl:ds.length≠0):B^(ds.length-1)<=val B ds:=by
 obtain⟨k,hk⟩:∃k,ds.length=k+1:=⟨ds.length-1,by omega⟩;have h1:=h.last hl;unfold val;rw[hk] at h1 ⊢;rw[zdN];simp only[Nat.add_sub_cancel] at h1 ⊢;have:1*B^k<=dig ds k*B^k:=Nat.mul_le_mul_right _ (by omega);omega
theorem zsA(B:Nat)(a:List Nat)(x:Nat):val B (a++[x])=val B a+x*B^a.length:=by
 unfold val;rw[List.length_append,List.length_singleton,zdN];rw[zgw B (dig (a++[x])) (dig a) a.length (fun i hi=>by rw[zdZ,if_pos hi])];rw[zdZ,if_neg (by omega),if_pos rfl]
theorem zsS{B:Nat}{ds:List Nat}(hB:2<=B)(h:zlX B ds){k:Nat}(hv:val B ds<B^k):ds.length<=k:=by
 by_cases hl:ds.length=0
 ·omega
 ·have h1:=zwb h hl;have h2:B^(ds.length-1)<B^k:=by omega
  have h3:=(Nat.pow_lt_pow_iff_right (a:=B) (by omega)).1 h2;omega
theorem zos{B x:Nat}{a:List Nat}(ha:∀i,dig a i<B)(hx:x<B)(i:Nat):dig (a++[x]) i<B:=by
 rw[zdZ];have:=ha i;split
 ·exact this
 ·split
  ·exact hx
  ·omega
theorem zrj(a:List Nat)(x:Nat):dig (a++[x]) ((a++[x]).length-1)=x:=by
 rw[zdZ];simp
theorem zva{B n m:Nat}{ds:List Nat}(h:val B ds+m*B^ds.length=n):val B (ds++[m%B])+m/B*B^(ds++[m%B]).length=n:=by
 rw[zsA,List.length_append,List.length_singleton,Nat.pow_succ,<-h];have h1:=Nat.div_add_mod m B;generalize B^ds.length=p at *;generalize m/B=q at *;generalize m%B=r at *;generalize val B ds=v at *;subst h1
 grind
theorem zxk{n m:Nat}{ds:List Nat}(hm:1<=m)(hn:n<=9223372036854775807)(h:val 1000000000 ds+m*1000000000^ds.length=n):ds.length<=2:=by
 apply Nat.le_of_not_lt;intro h3;have h4:1000000000^3<=1000000000^ds.length:=Nat.pow_le_pow_right (by omega) h3;have h5:1*1000000000^ds.length<=m*1000000000^ds.length:=Nat.mul_le_mul_right _ hm;omega
theorem zfY(ds:List Nat)(k i:Nat):dig (ds.take k) i=if i<k then dig ds i else 0:=by
 unfold dig;simp only[List.getD_eq_getElem?_getD,List.getElem?_take];split
 ·rfl
 ·rfl
theorem zhd(ds:List Nat)(k x i:Nat)(h:k<ds.length):dig (ds.set k x) i=if i=k then x else dig ds i:=by
 unfold dig;simp only[List.getD_eq_getElem?_getD,List.getElem?_set]
 by_cases e:k=i
 ·subst e;simp[h]
 ·rw[if_neg e,if_neg (fun h=>e h.symm)]
theorem zlP{B k:Nat}{ds:List Nat}(hk:k<=ds.length)(hz:∀i,k<=i->dig ds i=0):val B (ds.take k)=val B ds:=by
 unfold val;rw[List.length_take,Nat.min_eq_left hk];obtain⟨m,hm⟩:=Nat.exists_eq_add_of_le hk;rw[hm,zkT B (dig ds) k m hz];exact zgw B _ _ k (fun i hi=>by rw[zfY,if_pos hi])
theorem zjQ{B k:Nat}{ds:List Nat}(hB:0<B)(sm:∀i,dig ds i<B)(hk:k<=ds.length)(hl:k≠0->dig ds (k-1)≠0):zlX B (ds.take k):=by
 refine⟨fun i=>?_,fun h=>?_⟩
 ·rw[zfY];have:=sm i;split<;>omega
 ·rw[List.length_take,Nat.min_eq_left hk] at h ⊢;rw[zfY,if_pos (by omega)];exact hl h
theorem zeW(n i:Nat):dig (List.replicate n 0) i=0:=by
 unfold dig;simp only[List.getD_eq_getElem?_getD,List.getElem?_replicate];split<;>rfl
theorem zrD{B k c x y:Nat}{out:List Nat}{T U:Nat->Nat}(hk:k<out.length)(h:S B (dig out) k+c*B^k=S B T k+S B U k)(hx:T k=x)(hy:U k=y) :
  S B (dig (out.set k ((x+y+c)%B))) (k+1)+(x+y+c)/B*B^(k+1)=S B T (k+1)+S B U (k+1):=by
 rw[zdN,zdN,zdN,hx,hy];rw[zgw B (dig (out.set k ((x+y+c)%B))) (dig out) k (fun i hi=>by rw[zhd _ _ _ _ hk,if_neg (by omega)])];rw[zhd _ _ _ _ hk,if_pos rfl,Nat.pow_succ];have h1:=Nat.div_add_mod (x+y+c) B;generalize (x+y+c)%B=r at *;generalize (x+y+c)/B=q at *;generalize B^k=p at *;generalize S B (dig out) k=s1 at *;generalize S B T k=s2 at *;generalize S B U k=s3 at *
 grind
theorem zmo{B n c s t:Nat}(h:s+c*B^n=t)(ht:t<B^n):c=0:=by
 rcases Nat.eq_zero_or_pos c with e|e
 ·exact e
 ·have:1*B^n<=c*B^n:=Nat.mul_le_mul_right _ e;omega
theorem zj5{B k x:Nat}{out:List Nat}(hk:k<out.length)(sm:∀i,dig out i<B)(hx:x<B)(i:Nat):dig (out.set k x) i<B:=by
 rw[zhd _ _ _ _ hk];have:=sm i;split<;>omega
theorem znB{B k c x P:Nat}{out:List Nat}{T:Nat->Nat}(hk:k<out.length)(h:S B (dig out) k+c*B^k=S B T k*P)(hx:T k=x) :
  S B (dig (out.set k ((x*P+c)%B))) (k+1)+(x*P+c)/B*B^(k+1)=S B T (k+1)*P:=by
 rw[zdN,zdN,hx];rw[zgw B (dig (out.set k ((x*P+c)%B))) (dig out) k (fun i hi=>by rw[zhd _ _ _ _ hk,if_neg (by omega)])];rw[zhd _ _ _ _ hk,if_pos rfl,Nat.pow_succ];have h1:=Nat.div_add_mod (x*P+c) B;generalize (x*P+c)%B=r at *;generalize (x*P+c)/B=q at *;generalize B^k=p at *;generalize S B (dig out) k=s1 at *;generalize S B T k=s2 at *
 grind
open Go.Lib
end Bd.Num
namespace Bd
open Go.RowKit Num
def Dig(k:IntKind)(w:World)(v:Value)(ds:List Nat):Prop :=
 ∃a cap,v=.slice a ds.length cap/\ds.length<=cap/\∀i,i<ds.length->∃b off,a=some ⟨b,off,none⟩/\b<w.heap.size/\w.cell? ⟨b,off+i,none⟩=some (.int k ((dig ds i:Nat):Int))
theorem Dig.below{k:IntKind}{w w':World}{v:Value}{ds:List Nat}(h:Dig k w v ds)(hb:zB w w'):Dig k w' v ds:=by
 obtain⟨a,cap,hv,hc,hi⟩:=h;refine⟨a,cap,hv,hc,fun i hl=>?_⟩;obtain⟨b,off,ha,hlt,hcell⟩:=hi i hl;exact⟨b,off,ha,Nat.lt_of_lt_of_le hlt hb.size,(hb.cell (p:=⟨b,off+i,none⟩) hlt).trans hcell⟩
theorem Dig.set{k:IntKind}{w:World}{v:Value}{ds:List Nat}(h:Dig k w v ds){p:Addr}{u0:Value}(hp:w.cell? p=some u0)(hu:∀n,u0≠.int k n)(u:Value):Dig k (w.setCell p u) v ds:=by
 obtain⟨a,cap,hv,hc,hi⟩:=h;refine⟨a,cap,hv,hc,fun i hl=>?_⟩;obtain⟨b,off,ha,hb,hcell⟩:=hi i hl;refine⟨b,off,ha,by simpa[World.setCell] using hb,?_⟩;rw[World.cell?_setCell_other _ _ _ _ (fun e=>by subst e;rw[hp] at hcell;exact hu _ (Option.some.inj hcell))];exact hcell
theorem Dig.nil(k:IntKind)(w:World):Dig k w (.slice none 0 0) []:=⟨none,0,rfl,Nat.le_refl _,fun i h=>by simp at h⟩
def zbP(k:IntKind)(ds:List Nat):List Value:=ds.map fun d:Nat=>Value.int k (d:Int)
theorem zeZ(k:IntKind)(ds:List Nat):(zbP k ds).length=ds.length:=by simp[zbP]
theorem zlg(k:IntKind)(ds:List Nat)(x:Nat):zbP k (ds++[x])=zbP k ds++[Value.int k (x:Int)]:=by simp[zbP]
theorem zeP(k:IntKind)(ds:List Nat)(i:Nat)(h:i<ds.length):(zbP k ds)[i]?=some (.int k ((dig ds i:Nat):Int)):=by
 unfold zbP dig;simp[List.getD_eq_getElem?_getD,List.getElem?_eq_getElem h]
theorem znj(k:IntKind)(ds:List Nat)(j x:Nat):(zbP k ds).set j (.int k (x:Int))=zbP k (ds.set j x):=by simp[zbP,List.map_set]
theorem zgy(k:IntKind)(n:Nat):(madeCells #[Value.int k 0] n).toList=zbP k (List.replicate n 0):=by rw[toList_madeCells_one];simp[zbP]
theorem zp1{w:World}{base:Nat}{e:TypeId}{v:Value}{n:Nat}{xs:List Value}(h:w.ownsRow base e 1 v n xs):∃a cap,v=.slice a n cap/\n<=cap:=by
 rcases h.2 with ⟨h1,h2⟩|⟨g,cap,cur,h1,_,_,h2,_⟩
 ·exact⟨none,0,by rw[h1,h2],by omega⟩
 ·exact⟨_,cap,h1,h2⟩
theorem zmm{k:IntKind}{w:World}{base g n cap:Nat}{e:TypeId}{ds:List Nat}(h:w.ownsRow base e 1 (.slice (some ⟨g,0,none⟩) n cap) n (zbP k ds))(j x:Nat):(w.setCell ⟨g,j,none⟩ (.int k (x:Int))).ownsRow base e 1 (.slice (some ⟨g,0,none⟩) n cap) n (zbP k (ds.set j x)):=by
 rw[<-znj];exact(h.stored j _).1
theorem zhR{w w':World}{base:Nat}{e:TypeId}{size:Nat}{v:Value}{n:Nat}{xs:List Value}(h:w.ownsRow base e size v n xs)(hb:zB w w'):w'.ownsRow base e size v n xs:=by
 obtain⟨h1,h2⟩:=h;refine⟨h1,?_⟩;rcases h2 with h2|⟨g,cap,cur,hv,hg,hh,r⟩
 ·exact Or.inl h2
 ·have hlt:g<w.heap.size:=by
   by_cases hlt:g<w.heap.size
   ·exact hlt
   ·rw[Array.getElem?_eq_none (by omega)] at hh;simp at hh
  exact Or.inr ⟨g,cap,cur,hv,hg,by rw[hb.block g hlt];exact hh,r⟩
theorem Dig.of_owns{k:IntKind}{w:World}{base:Nat}{e:TypeId}{v:Value}{ds:List Nat}(h:w.ownsRow base e 1 v ds.length (zbP k ds)):Dig k w v ds:=by
 rcases h.2 with ⟨h1,h2⟩|⟨g,cap,cur,h1,hb,hg,h2,_⟩
 ·obtain rfl:ds=[]:=List.length_eq_zero_iff.1 h2;rw[h1];exact Dig.nil k w
 ·subst h1;refine⟨_,cap,rfl,h2,fun i hi=>⟨g,0,rfl,?_,?_⟩⟩
  ·by_cases hlt:g<w.heap.size
   ·exact hlt
   ·rw[Array.getElem?_eq_none (by omega)] at hg;simp at hg
  ·rw[Nat.zero_add,h.cellAt i (by omega),zeP k ds i hi]
theorem zif{w:World}{b off:Nat}(o:Obj)(h:b<w.heap.size):(w.alloc o).cell? ⟨b,off,none⟩=w.cell? ⟨b,off,none⟩ :=
 ((Below.refl w.heap.size w).alloc zN o).cell (p:=⟨b,off,none⟩) h
theorem zdD(w:World)(A:Value)(t:TypeId):(w.alloc (.cells #[A] t)).cell? ⟨w.heap.size,0,none⟩=some A:=by simp
theorem zdM(w:World)(A:Value)(t:TypeId):(w.alloc (.cells #[A] t)).frozen? ⟨w.heap.size,0,none⟩=false:=by simp
theorem zrb(w:World)(A:Value)(t:TypeId)(o:Obj):((w.alloc (.cells #[A] t)).alloc o).cell? ⟨w.heap.size,0,none⟩=some A:=by
 rw[zif o (by simp),zdD]
theorem zhZ(w:World)(A:Value)(t:TypeId)(o:Obj):((w.alloc o).alloc (.cells #[A] t)).cell? ⟨w.heap.size+1,0,none⟩=some A:=by
 have:=zdD (w.alloc o) A t;rwa [World.size_alloc] at this
theorem zgq(w:World)(A:Value)(t:TypeId)(o:Obj):((w.alloc o).alloc (.cells #[A] t)).frozen? ⟨w.heap.size+1,0,none⟩=false:=by
 have:=zdM (w.alloc o) A t;rwa [World.size_alloc] at this
theorem zuz(w:World)(A:Value)(t:TypeId)(o p:Obj):(((w.alloc (.cells #[A] t)).alloc o).alloc p).cell? ⟨w.heap.size,0,none⟩=some A:=by
 rw[zif p (by simp;omega),zrb]
theorem zwh(w:World)(A:Value)(t:TypeId)(o p:Obj):(((w.alloc o).alloc (.cells #[A] t)).alloc p).cell? ⟨w.heap.size+1,0,none⟩=some A:=by
 rw[zif p (by simp),zhZ]
theorem zvS(w:World)(A:Value)(t:TypeId)(o p:Obj):(((w.alloc o).alloc p).alloc (.cells #[A] t)).cell? ⟨w.heap.size+1+1,0,none⟩=some A:=by
 have:=zhZ (w.alloc o) A t p;rwa [World.size_alloc] at this
theorem zpG(w:World)(A:Value)(t:TypeId)(o p:Obj):(((w.alloc o).alloc p).alloc (.cells #[A] t)).frozen? ⟨w.heap.size+1+1,0,none⟩=false:=by
 have:=zgq (w.alloc o) A t p;rwa [World.size_alloc] at this
theorem zdx:Tryz.prog.follows .mixedOrders=true:=by kernel_rfl
theorem zxP{x:Int}(h0:0<=x)(h1:x<=18446744073709551615):IntKind.u64.wrap x=x:=IntWalk.u64_in x ⟨h0,h1⟩
theorem zgH(v:Value)(ds:List Nat)(i:Nat)(w:World)(hd:Dig .u64 w v ds)(_hi:i<=1000000)(_hl:ds.length<=1000000) :
  zR 148 #[.agg #[v],.int .i64 i] w (.int .u64 ((dig ds i:Nat):Int)):=by
 obtain⟨a,cap,rfl,hc,hcell⟩:=hd
 by_cases hlt:i<ds.length
 ·obtain⟨b,off,rfl,hb,hcl⟩:=hcell i hlt;have hne:¬b=w.heap.size:=by omega
  clear hcell;generalize dig ds i=d at *;go_enter Tryz.func148,Tryz.ntmps148;go_wp2;go_ret;exact⟨rfl,zF.alloc zN _⟩
 ·have hz:=zfo ds i (by omega);rw[hz];clear hcell hz;go_enter Tryz.func148,Tryz.ntmps148;go_wp2;go_ret;exact⟨rfl,zF.alloc zN _⟩
end Bd
end Go.Proofs.YtiihalknffbjpaaGreatDoor
