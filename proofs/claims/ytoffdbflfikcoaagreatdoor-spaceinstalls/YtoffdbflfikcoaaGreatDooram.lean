import Derived.Test.YtoffdbflfikcoaaGreatDooral
open Go.Proofs.Tryz
namespace Go.Proofs.YtoffdbflfikcoaaGreatDoor
set_option maxHeartbeats 4000000
set_option maxRecDepth 100000
namespace Bd
open Go.RowKit Go.Maps Go.Deep
def Wy.val(x:Wy):Value:=.agg #[.int .u64 x.items,x.cost,x.can]
def Ys(W0:World)(F:FuncId)(cb:Array Value)(C:qx)(vars:Nat):Prop:=∀W (i:Nat) (b:Bool),zB W0 W->i<vars->zR F (#[.int .i64 i,.bool b]++cb) W (.int .i64 (C i b))
structure BS(w:World)(p dk:Nat)(F:FuncId)(cb:Array Value)(a1 b1 c1 a2 b2 c2:Value)(X:World):Prop where
 w0:Blk X w.heap.size 215 #[.pointer (some p),.func (.func F) #[] cb,.map (some dk)]
 w1:Blk X (w.heap.size+1) 152 #[a1,b1,c1]
 w2:Blk X (w.heap.size+1+1) 152 #[a2,b2,c2]
 w3:Blk X (w.heap.size+1+1+1) 152 #[.int .u64 0,(0:Int),false]
 bel:zB w X
section
variable {w X X':World} {p dk:Nat} {F:FuncId} {cb:Array Value} {a1 b1 c1 a2 b2 c2:Value}
theorem BS.below(h:BS w p dk F cb a1 b1 c1 a2 b2 c2 X)(hb:zB X X'):BS w p dk F cb a1 b1 c1 a2 b2 c2 X' :=
 ⟨h.w0.below hb h.w0.lt,h.w1.below hb h.w1.lt,h.w2.below hb h.w2.lt,h.w3.below hb h.w3.lt,zT h.bel hb⟩
theorem BS.drew(h:BS w p dk F cb a1 b1 c1 a2 b2 c2 X):BS w p dk F cb a1 b1 c1 a2 b2 c2 X.drew:=h.below zF.drew
theorem BS.setw1(h:BS w p dk F cb a1 b1 c1 a2 b2 c2 X)(v:Value):BS w p dk F cb a1 v c1 a2 b2 c2 (X.setCell ⟨w.heap.size+1,1,none⟩ v) :=
 ⟨h.w0.other (by omega),h.w1.set (i:=1),h.w2.other (by omega),h.w3.other (by omega),h.bel.setCell (p:=⟨w.heap.size+1,1,none⟩) (by show w.heap.size<=w.heap.size+1;omega) _⟩
theorem BS.setw2(h:BS w p dk F cb a1 b1 c1 a2 b2 c2 X)(v:Value):BS w p dk F cb a1 b1 c1 a2 v c2 (X.setCell ⟨w.heap.size+1+1,1,none⟩ v) :=
 ⟨h.w0.other (by omega),h.w1.other (by omega),h.w2.set (i:=1),h.w3.other (by omega),h.bel.setCell (p:=⟨w.heap.size+1+1,1,none⟩) (by show w.heap.size<=w.heap.size+1+1;omega) _⟩
theorem BS.setw0(h:BS w p dk F cb a1 b1 c1 a2 b2 c2 X)(v:Value):BS w p dk F cb a1 b1 c1 v b2 c2 (X.setCell ⟨w.heap.size+1+1,0,none⟩ v) :=
 ⟨h.w0.other (by omega),h.w1.other (by omega),h.w2.set (i:=0),h.w3.other (by omega),h.bel.setCell (p:=⟨w.heap.size+1+1,0,none⟩) (by show w.heap.size<=w.heap.size+1+1;omega) _⟩
end
theorem Kx{w W:World}{b:Nat}(h:zB w W)(hb:w.heap.size<=b)(p q r:Value):zB w (((W.setCell b p).setCell ⟨b,1,none⟩ q).setCell ⟨b,2,none⟩ r) :=
 ((h.setCell (p:=b) hb _).setCell (p:=⟨b,1,none⟩) hb _).setCell (p:=⟨b,2,none⟩) hb _
theorem zgw(m i:Nat)(hm:m<2^24)(hi:i<24):bits BinOp.or IntKind.u64 (m:Int) (IntKind.u64.wrap (2^i))=((m|||2^i:Nat):Int):=by
 have h1:(2:Nat)^i<2^64:=zuT (by decide) (by omega);have h2:(2:Nat)^24<18446744073709551616:=by decide
 have e:IntKind.u64.wrap (2^i)=((2^i:Nat):Int):=by
  rw[IntKind.wrap_u64,show ((2:Int)^i)=((2^i:Nat):Int) by simp];exact Int.emod_eq_of_lt (Int.natCast_nonneg _) (by omega)
 rw[e,bits_or_u64_nat m (2^i) (by omega) (by omega)]
theorem zfc{W0 w:World}(F:FuncId)(cb:Array Value)(C:qx)(vars:Nat)(hv:vars<=24)(hent:∀a3 w,(callFunc F a3).run prog w=.ok (.enter F a3) w)(hC:QZ C)(hCA:Ys W0 F cb C vars)(hW:zB W0 w)(p:Nat)(dk:Nat)(i:Nat)(hi:i<vars)(wo wi:Wy)(h1:0<=wo.cost/\wo.cost<=24000000)(h2:0<=wi.cost/\wi.cost<=24000000)(h3:wi.items<2^24) :
  zC 168 #[.agg #[.pointer (some p),.func (.func F) #[] cb,.map (some dk)],i,wo.val,wi.val] w fun e w'=>e=.returned (xR C i wo wi).val/\zB w w':=by
 have k0:=(((Blk.new w 215 #[.pointer (some p),.func (.func F) #[] cb,.map (some dk)]).alloc (.cells #[.int .u64 wo.items,wo.cost,wo.can] 152)).alloc (.cells #[.int .u64 wi.items,wi.cost,wi.can] 152)).alloc (.cells #[.int .u64 0,(0:Int),false] 152);have k1:=((Blk.new (w.alloc (.cells #[.pointer (some p),.func (.func F) #[] cb,.map (some dk)] 215)) 152 #[.int .u64 wo.items,wo.cost,wo.can]).alloc (.cells #[.int .u64 wi.items,wi.cost,wi.can] 152)).alloc (.cells #[.int .u64 0,(0:Int),false] 152);have k2:=(Blk.new ((w.alloc (.cells #[.pointer (some p),.func (.func F) #[] cb,.map (some dk)] 215)).alloc (.cells #[.int .u64 wo.items,wo.cost,wo.can] 152)) 152 #[.int .u64 wi.items,wi.cost,wi.can]).alloc (.cells #[.int .u64 0,(0:Int),false] 152);have k3:=Blk.new (((w.alloc (.cells #[.pointer (some p),.func (.func F) #[] cb,.map (some dk)] 215)).alloc (.cells #[.int .u64 wo.items,wo.cost,wo.can] 152)).alloc (.cells #[.int .u64 wi.items,wi.cost,wi.can] 152)) 152 #[.int .u64 0,(0:Int),false];simp only[zc1] at k1 k2 k3;have a6:zB w ((((w.alloc (.cells #[.pointer (some p),.func (.func F) #[] cb,.map (some dk)] 215)).alloc (.cells #[.int .u64 wo.items,wo.cost,wo.can] 152)).alloc (.cells #[.int .u64 wi.items,wi.cost,wi.can] 152)).alloc (.cells #[.int .u64 0,(0:Int),false] 152)):=((((zf0 _ w).alloc zN _).alloc (by simp only[zc1];omega) _).alloc (by simp only[zc1];omega) _).alloc (by simp only[zc1];omega) _;have a4:Hid (∀W,zB w W->zR F (#[.int .i64 i,.bool false]++cb) W (.int .i64 (C i false))):=fun W hb=>hCA W i false (zT hW hb) hi;have a5:Hid (∀W,zB w W->zR F (#[.int .i64 i,.bool true]++cb) W (.int .i64 (C i true))):=fun W hb=>hCA W i true (zT hW hb) hi;have b1:=hC i false;have b2:=hC i true;have ae:=zgw wi.items i h3 (by omega);have Z:Hid (xR C i wo wi=if wi.can=true/\(wo.can=false\/wi.cost+C i true<=wo.cost+C i false) then ⟨wi.items|||2^i,wi.cost+C i true,wi.can⟩ else ⟨wo.items,wo.cost+C i false,wo.can⟩):=rfl;generalize xR C i wo wi=R at *;unfold Wy.val;obtain⟨oi,oc,ob⟩:=wo;obtain⟨ii,ic,ib⟩:=wi;simp only at *;obtain⟨g1,a8⟩:∃g,C i false=g:=⟨_,rfl⟩;obtain⟨g2,a9⟩:∃g,C i true=g:=⟨_,rfl⟩;rw[a8] at a4 b1 Z;rw[a9] at a5 b2 Z;clear hCA hC a8 a9 hW;have ad:(i:Int)<64:=by omega
 have aa:wrap64 (oc+g1)=oc+g1:=by unfold wrap64;omega
 have ab:wrap64 (ic+g2)=ic+g2:=by unfold wrap64;omega
 have ag:IntKind.i64.wrap (oc+g1)=oc+g1:=by rw[zrl];unfold wrap64 at aa;exact aa
 have ah:IntKind.i64.wrap (ic+g2)=ic+g2:=by rw[zrl];unfold wrap64 at ab;exact ab
 have af:(0:Int)<=(i:Int):=by omega
 go_enter func168,ntmps168;go_upto_region 1 with fail;generalize ac:((((w.alloc (.cells #[.pointer (some p),.func (.func F) #[] cb,.map (some dk)] 215)).alloc (.cells #[.int .u64 oi,oc,ob] 152)).alloc (.cells #[.int .u64 ii,ic,ib] 152)).alloc (.cells #[.int .u64 0,(0:Int),false] 152))=WA at *;have a7:BS w p dk F cb (.int .u64 oi) (.int .i64 oc) (.bool ob) (.int .u64 ii) (.int .i64 ic) (.bool ib) WA:=⟨k0,k1,k2,k3,a6⟩;clear ac k0 k1 k2 k3;have U:=zH a7.drew;have c0:_=some (Value.func (.func F) #[] cb):=U.out.w0.cell 1;have c1:_=some (Value.int .i64 oc):=U.out.w1.cell 1;have D0:zB w WA.drew:=a6.drew;clear a7 a6;go_cut [10] (fun _ wx=>BS w p dk F cb (.int .u64 oi) (.int .i64 (oc+g1)) (.bool ob) (.int .u64 ii) (.int .i64 ic) (.bool ib) wx)
 case first =>
   refine wp_region_noPanic ?_;refine wp_region_held_drew (S:=(fun X=>X.cell? ⟨w.heap.size,1,none⟩=some (.func (.func F) #[] cb))) (by kernel_rfl) c0 (fun q=>?_);refine wpAnyH_take (i:=0) (oi:=⟨_,_,_,_,_,_⟩) (v:=?_) rfl (by as_aux_lemma=>kernel_rfl) (by as_aux_lemma=>kernel_rfl) (by as_aux_lemma=>kernel_rfl) (fun _ _ _ h=>h) (Or.inl ⟨by rfl,?_⟩) (by assumption) ?_;rotate_left
   ·(intro w u;(try dsimp only at u);first|(go_simp;done)|(go_simp;with_reducible rfl))
   try simp only[Act.put,zf3,zrd,zre]
   refine wpAnyH_take (i:=2) (oi:=⟨_,_,_,_,_,_⟩) (v:=?_) rfl (by as_aux_lemma=>kernel_rfl) (by as_aux_lemma=>kernel_rfl) (by as_aux_lemma=>kernel_rfl) (fun _ _ _ h=>h) (Or.inl ⟨by rfl,?_⟩) (by assumption) ?_;rotate_left
   ·(intro w u;(try dsimp only at u);first|(go_simp;done)|(go_simp;with_reducible rfl))
   try simp only[Act.put,zf3,zrd,zre]
   refine wpAnyH_take (i:=3) (oi:=⟨_,_,_,_,_,_⟩) (v:=?_) rfl (by as_aux_lemma=>kernel_rfl) (by as_aux_lemma=>kernel_rfl) (by as_aux_lemma=>kernel_rfl) (fun _ _ _ h=>h) (Or.inl ⟨by rfl,?_⟩) (by assumption) ?_;rotate_left
   ·(intro w u;(try dsimp only at u);first|(go_simp;done)|(go_simp;with_reducible rfl))
   try simp only[Act.put,zf3,zrd,zre]
   refine wpAnyH_take (i:=4) (oi:=⟨_,_,_,_,_,_⟩) (v:=?_) rfl (by as_aux_lemma=>kernel_rfl) (by as_aux_lemma=>kernel_rfl) (by as_aux_lemma=>kernel_rfl) (fun _ _ _ h=>h) (Or.inl ⟨by rfl,?_⟩) (by assumption) ?_;rotate_left
   ·(intro w u;(try dsimp only at u);first|(go_simp;done)|(go_simp;with_reducible rfl))
   try simp only[Act.put,zf3,zrd,zre]
   refine wpAnyH_ready (rs:=[1,5]) (by as_aux_lemma=>kernel_rfl) (by simp) ?_;refine AllReadyH.cons (o:=⟨_,_,_,_,_,_⟩) rfl (fun K hK=>?_) (AllReadyH.cons (o:=⟨_,_,_,_,_,_⟩) rfl (fun K hK=>?_) AllReadyH.nil)
   ·go_simp;refine hK.out _ _ ?_ (fun j=>?_)
    ·exact q
    clear hK K;replace q:=j;clear j
    try simp only[Act.put,zf3,zrd,zre]
    refine wpAnyH_ready (rs:=[5]) (by as_aux_lemma=>kernel_rfl) (by simp) ?_;refine AllReadyH.cons (o:=⟨_,_,_,_,_,_⟩) rfl (fun K hK=>?_) AllReadyH.nil;go_simp;refine(a4.out _ D0).mono ?_;rintro e x1 ⟨rfl,M⟩;have D1:zB w x1:=zT D0 M;have BX:=U.out.below M;have f1:=BX.w1.cell 1;have f2:=BX.w1.frozen 1;have f0:=BX.w0.cell 1
    try simp only
    refine hK.out _ _ ?_ (fun j=>?_)
    ·exact f0
    clear hK K;replace q:=j;clear j
    try simp only[Act.put,zf3,zrd,zre]
    refine wpAnyH_take (i:=6) (oi:=⟨_,_,_,_,_,_⟩) (v:=?_) rfl (by as_aux_lemma=>kernel_rfl) (by as_aux_lemma=>kernel_rfl) (by as_aux_lemma=>kernel_rfl) (fun _ _ _ h=>h) (Or.inl ⟨by rfl,?_⟩) (by assumption) ?_;rotate_left
    ·(intro w u;(try dsimp only at u);first|(go_simp;done)|(go_simp;with_reducible rfl))
    try simp only[Act.put,zf3,zrd,zre]
    refine wpAnyH_take (i:=7) (oi:=⟨_,_,_,_,_,_⟩) (v:=?_) rfl (by as_aux_lemma=>kernel_rfl) (by as_aux_lemma=>kernel_rfl) (by as_aux_lemma=>kernel_rfl) (fun _ _ _ h=>h) (Or.inl ⟨by rfl,?_⟩) (by assumption) ?_;rotate_left
    ·(intro w u;(try dsimp only at u);first|(go_simp;done)|(go_simp;with_reducible rfl))
    try simp only[Act.put,zf3,zrd,zre]
    refine wpAnyH_ready (rs:=[8]) (by as_aux_lemma=>kernel_rfl) (by simp) ?_;refine AllReadyH.cons (o:=⟨_,_,_,_,_,_⟩) rfl (fun K hK=>?_) AllReadyH.nil;go_simp;refine hK.out _ _ ?_ (fun j=>?_)
    ·exact(BX.setw1 (.int .i64 (oc+g1))).w0.cell 1
    clear hK K;replace q:=j;clear j
    try simp only[Act.put,zf3,zrd,zre]
    refine wpAnyH_done (by kernel_rfl) (NoPanic.normal ?_) _;have V:=zH (BX.setw1 (.int .i64 (oc+g1)));clear q f0 f1 f2 BX D1 M;go_wp2_with fail;go_meet
    case rel=>exact V.out
   ·go_simp;refine(a4.out _ D0).mono ?_;rintro e x1 ⟨rfl,M⟩;have D1:zB w x1:=zT D0 M;have BX:=U.out.below M;have f1:=BX.w1.cell 1;have f2:=BX.w1.frozen 1;have f0:=BX.w0.cell 1
    try simp only
    refine hK.out _ _ ?_ (fun j=>?_)
    ·exact f0
    clear hK K;replace q:=j;clear j
    try simp only[Act.put,zf3,zrd,zre]
    refine wpAnyH_ready (rs:=[1]) (by as_aux_lemma=>kernel_rfl) (by simp) ?_;refine AllReadyH.cons (o:=⟨_,_,_,_,_,_⟩) rfl (fun K hK=>?_) AllReadyH.nil;go_simp;refine hK.out _ _ ?_ (fun j=>?_)
    ·exact q
    clear hK K;replace q:=j;clear j
    try simp only[Act.put,zf3,zrd,zre]
    refine wpAnyH_take (i:=6) (oi:=⟨_,_,_,_,_,_⟩) (v:=?_) rfl (by as_aux_lemma=>kernel_rfl) (by as_aux_lemma=>kernel_rfl) (by as_aux_lemma=>kernel_rfl) (fun _ _ _ h=>h) (Or.inl ⟨by rfl,?_⟩) (by assumption) ?_;rotate_left
    ·(intro w u;(try dsimp only at u);first|(go_simp;done)|(go_simp;with_reducible rfl))
    try simp only[Act.put,zf3,zrd,zre]
    refine wpAnyH_take (i:=7) (oi:=⟨_,_,_,_,_,_⟩) (v:=?_) rfl (by as_aux_lemma=>kernel_rfl) (by as_aux_lemma=>kernel_rfl) (by as_aux_lemma=>kernel_rfl) (fun _ _ _ h=>h) (Or.inl ⟨by rfl,?_⟩) (by assumption) ?_;rotate_left
    ·(intro w u;(try dsimp only at u);first|(go_simp;done)|(go_simp;with_reducible rfl))
    try simp only[Act.put,zf3,zrd,zre]
    refine wpAnyH_ready (rs:=[8]) (by as_aux_lemma=>kernel_rfl) (by simp) ?_;refine AllReadyH.cons (o:=⟨_,_,_,_,_,_⟩) rfl (fun K hK=>?_) AllReadyH.nil;go_simp;refine hK.out _ _ ?_ (fun j=>?_)
    ·exact(BX.setw1 (.int .i64 (oc+g1))).w0.cell 1
    clear hK K;replace q:=j;clear j
    try simp only[Act.put,zf3,zrd,zre]
    refine wpAnyH_done (by kernel_rfl) (NoPanic.normal ?_) _;have V:=zH (BX.setw1 (.int .i64 (oc+g1)));clear q f0 f1 f2 BX D1 M;go_wp2_with fail;go_meet
    case rel=>exact V.out
 case rest =>
  clear U c0 c1 D0 a4;have Y:=hcut;clear hcut;have U:=zH Y.drew;have c0:_=some (Value.func (.func F) #[] cb):=U.out.w0.cell 1;have c1:_=some (Value.int .i64 ic):=U.out.w2.cell 1;have D0:zB w wc.drew:=Y.bel.drew;clear Y;go_upto_region 2 with fail;go_cut [18] (fun _ wx=>BS w p dk F cb (.int .u64 oi) (.int .i64 (oc+g1)) (.bool ob) (.int .u64 ii) (.int .i64 (ic+g2)) (.bool ib) wx)
  case first =>
   refine wp_region_noPanic ?_;refine wp_region_held_drew (S:=(fun X=>X.cell? ⟨w.heap.size,1,none⟩=some (.func (.func F) #[] cb))) (by kernel_rfl) c0 (fun q=>?_);refine wpAnyH_take (i:=0) (oi:=⟨_,_,_,_,_,_⟩) (v:=?_) rfl (by as_aux_lemma=>kernel_rfl) (by as_aux_lemma=>kernel_rfl) (by as_aux_lemma=>kernel_rfl) (fun _ _ _ h=>h) (Or.inl ⟨by rfl,?_⟩) (by assumption) ?_;rotate_left
   ·(intro w u;(try dsimp only at u);first|(go_simp;done)|(go_simp;with_reducible rfl))
   try simp only[Act.put,zf3,zrd,zre]
   refine wpAnyH_take (i:=2) (oi:=⟨_,_,_,_,_,_⟩) (v:=?_) rfl (by as_aux_lemma=>kernel_rfl) (by as_aux_lemma=>kernel_rfl) (by as_aux_lemma=>kernel_rfl) (fun _ _ _ h=>h) (Or.inl ⟨by rfl,?_⟩) (by assumption) ?_;rotate_left
   ·(intro w u;(try dsimp only at u);first|(go_simp;done)|(go_simp;with_reducible rfl))
   try simp only[Act.put,zf3,zrd,zre]
   refine wpAnyH_take (i:=3) (oi:=⟨_,_,_,_,_,_⟩) (v:=?_) rfl (by as_aux_lemma=>kernel_rfl) (by as_aux_lemma=>kernel_rfl) (by as_aux_lemma=>kernel_rfl) (fun _ _ _ h=>h) (Or.inl ⟨by rfl,?_⟩) (by assumption) ?_;rotate_left
   ·(intro w u;(try dsimp only at u);first|(go_simp;done)|(go_simp;with_reducible rfl))
   try simp only[Act.put,zf3,zrd,zre]
   refine wpAnyH_take (i:=4) (oi:=⟨_,_,_,_,_,_⟩) (v:=?_) rfl (by as_aux_lemma=>kernel_rfl) (by as_aux_lemma=>kernel_rfl) (by as_aux_lemma=>kernel_rfl) (fun _ _ _ h=>h) (Or.inl ⟨by rfl,?_⟩) (by assumption) ?_;rotate_left
   ·(intro w u;(try dsimp only at u);first|(go_simp;done)|(go_simp;with_reducible rfl))
   try simp only[Act.put,zf3,zrd,zre]
   refine wpAnyH_ready (rs:=[1,5]) (by as_aux_lemma=>kernel_rfl) (by simp) ?_;refine AllReadyH.cons (o:=⟨_,_,_,_,_,_⟩) rfl (fun K hK=>?_) (AllReadyH.cons (o:=⟨_,_,_,_,_,_⟩) rfl (fun K hK=>?_) AllReadyH.nil)
   ·go_simp;refine hK.out _ _ ?_ (fun j=>?_)
    ·exact q
    clear hK K;replace q:=j;clear j
    try simp only[Act.put,zf3,zrd,zre]
    refine wpAnyH_ready (rs:=[5]) (by as_aux_lemma=>kernel_rfl) (by simp) ?_;refine AllReadyH.cons (o:=⟨_,_,_,_,_,_⟩) rfl (fun K hK=>?_) AllReadyH.nil;go_simp;refine(a5.out _ D0).mono ?_;rintro e x2 ⟨rfl,M⟩;have D1:zB w x2:=zT D0 M;have BX:=U.out.below M;have f1:=BX.w2.cell 1;have f2:=BX.w2.frozen 1;have f0:=BX.w0.cell 1
    try simp only
    refine hK.out _ _ ?_ (fun j=>?_)
    ·exact f0
    clear hK K;replace q:=j;clear j
    try simp only[Act.put,zf3,zrd,zre]
    refine wpAnyH_take (i:=6) (oi:=⟨_,_,_,_,_,_⟩) (v:=?_) rfl (by as_aux_lemma=>kernel_rfl) (by as_aux_lemma=>kernel_rfl) (by as_aux_lemma=>kernel_rfl) (fun _ _ _ h=>h) (Or.inl ⟨by rfl,?_⟩) (by assumption) ?_;rotate_left
    ·(intro w u;(try dsimp only at u);first|(go_simp;done)|(go_simp;with_reducible rfl))
    try simp only[Act.put,zf3,zrd,zre]
    refine wpAnyH_take (i:=7) (oi:=⟨_,_,_,_,_,_⟩) (v:=?_) rfl (by as_aux_lemma=>kernel_rfl) (by as_aux_lemma=>kernel_rfl) (by as_aux_lemma=>kernel_rfl) (fun _ _ _ h=>h) (Or.inl ⟨by rfl,?_⟩) (by assumption) ?_;rotate_left
    ·(intro w u;(try dsimp only at u);first|(go_simp;done)|(go_simp;with_reducible rfl))
    try simp only[Act.put,zf3,zrd,zre]
    refine wpAnyH_ready (rs:=[8]) (by as_aux_lemma=>kernel_rfl) (by simp) ?_;refine AllReadyH.cons (o:=⟨_,_,_,_,_,_⟩) rfl (fun K hK=>?_) AllReadyH.nil;go_simp;refine hK.out _ _ ?_ (fun j=>?_)
    ·exact(BX.setw2 (.int .i64 (ic+g2))).w0.cell 1
    clear hK K;replace q:=j;clear j
    try simp only[Act.put,zf3,zrd,zre]
    refine wpAnyH_done (by kernel_rfl) (NoPanic.normal ?_) _;have V:=zH (BX.setw2 (.int .i64 (ic+g2)));clear q f0 f1 f2 BX D1 M;go_wp2_with fail;go_meet
    case rel=>exact V.out
   ·go_simp;refine(a5.out _ D0).mono ?_;rintro e x2 ⟨rfl,M⟩;have D1:zB w x2:=zT D0 M;have BX:=U.out.below M;have f1:=BX.w2.cell 1;have f2:=BX.w2.frozen 1;have f0:=BX.w0.cell 1
    try simp only
    refine hK.out _ _ ?_ (fun j=>?_)
    ·exact f0
    clear hK K;replace q:=j;clear j
    try simp only[Act.put,zf3,zrd,zre]
    refine wpAnyH_ready (rs:=[1]) (by as_aux_lemma=>kernel_rfl) (by simp) ?_;refine AllReadyH.cons (o:=⟨_,_,_,_,_,_⟩) rfl (fun K hK=>?_) AllReadyH.nil;go_simp;refine hK.out _ _ ?_ (fun j=>?_)
    ·exact q
    clear hK K;replace q:=j;clear j
    try simp only[Act.put,zf3,zrd,zre]
    refine wpAnyH_take (i:=6) (oi:=⟨_,_,_,_,_,_⟩) (v:=?_) rfl (by as_aux_lemma=>kernel_rfl) (by as_aux_lemma=>kernel_rfl) (by as_aux_lemma=>kernel_rfl) (fun _ _ _ h=>h) (Or.inl ⟨by rfl,?_⟩) (by assumption) ?_;rotate_left
    ·(intro w u;(try dsimp only at u);first|(go_simp;done)|(go_simp;with_reducible rfl))
    try simp only[Act.put,zf3,zrd,zre]
    refine wpAnyH_take (i:=7) (oi:=⟨_,_,_,_,_,_⟩) (v:=?_) rfl (by as_aux_lemma=>kernel_rfl) (by as_aux_lemma=>kernel_rfl) (by as_aux_lemma=>kernel_rfl) (fun _ _ _ h=>h) (Or.inl ⟨by rfl,?_⟩) (by assumption) ?_;rotate_left
    ·(intro w u;(try dsimp only at u);first|(go_simp;done)|(go_simp;with_reducible rfl))
    try simp only[Act.put,zf3,zrd,zre]
    refine wpAnyH_ready (rs:=[8]) (by as_aux_lemma=>kernel_rfl) (by simp) ?_;refine AllReadyH.cons (o:=⟨_,_,_,_,_,_⟩) rfl (fun K hK=>?_) AllReadyH.nil;go_simp;refine hK.out _ _ ?_ (fun j=>?_)
    ·exact(BX.setw2 (.int .i64 (ic+g2))).w0.cell 1
    clear hK K;replace q:=j;clear j
    try simp only[Act.put,zf3,zrd,zre]
    refine wpAnyH_done (by kernel_rfl) (NoPanic.normal ?_) _;have V:=zH (BX.setw2 (.int .i64 (ic+g2)));clear q f0 f1 f2 BX D1 M;go_wp2_with fail;go_meet
    case rel=>exact V.out
  case rest =>
   clear U c0 c1 D0 a5;have Y:=zH hcut.drew;clear hcut;have c0:_=some (Value.int .u64 ii):=Y.out.w2.cell 0;have c1:=Y.out.w2.frozen 0;go_upto_region 3 with fail;go_cut [26] (fun _ wx=>BS w p dk F cb (.int .u64 oi) (.int .i64 (oc+g1)) (.bool ob) (.int .u64 ((ii|||2^i:Nat):Int)) (.int .i64 (ic+g2)) (.bool ib) wx)
   case first =>
    refine wp_region_noPanic ?_;refine wp_region_held_drew (S:=fun _=>True) (by kernel_rfl) trivial (fun q=>?_);refine wpAnyH_take (i:=0) (oi:=⟨_,_,_,_,_,_⟩) (v:=?_) rfl (by as_aux_lemma=>kernel_rfl) (by as_aux_lemma=>kernel_rfl) (by as_aux_lemma=>kernel_rfl) (fun _ _ _ h=>h) (Or.inl ⟨by rfl,?_⟩) (by assumption) ?_;rotate_left
    ·(intro w u;(try dsimp only at u);first|(go_simp;done)|(go_simp;with_reducible rfl))
    try simp only[Act.put,zf3,zrd,zre]
    refine wpAnyH_take (i:=2) (oi:=⟨_,_,_,_,_,_⟩) (v:=?_) rfl (by as_aux_lemma=>kernel_rfl) (by as_aux_lemma=>kernel_rfl) (by as_aux_lemma=>kernel_rfl) (fun _ _ _ h=>h) (Or.inl ⟨by rfl,?_⟩) (by assumption) ?_;rotate_left
    ·(intro w u;(try dsimp only at u);first|(go_simp;done)|(go_simp;with_reducible rfl))
    try simp only[Act.put,zf3,zrd,zre]
    refine wpAnyH_take (i:=3) (oi:=⟨_,_,_,_,_,_⟩) (v:=?_) rfl (by as_aux_lemma=>kernel_rfl) (by as_aux_lemma=>kernel_rfl) (by as_aux_lemma=>kernel_rfl) (fun _ _ _ h=>h) (Or.inl ⟨by rfl,?_⟩) (by assumption) ?_;rotate_left
    ·(intro w u;(try dsimp only at u);first|(go_simp;done)|(go_simp;with_reducible rfl))
    try simp only[Act.put,zf3,zrd,zre]
    refine wpAnyH_ready (rs:=[1]) (by as_aux_lemma=>kernel_rfl) (by simp) ?_;refine AllReadyH.cons (o:=⟨_,_,_,_,_,_⟩) rfl (fun K hK=>?_) AllReadyH.nil;go_simp;refine hK.out _ _ trivial (fun j=>?_);clear hK K j
    try simp only[Act.put,zf3,zrd,zre]
    refine wpAnyH_take (i:=4) (oi:=⟨_,_,_,_,_,_⟩) (v:=?_) rfl (by as_aux_lemma=>kernel_rfl) (by as_aux_lemma=>kernel_rfl) (by as_aux_lemma=>kernel_rfl) (fun _ _ _ h=>h) (Or.inl ⟨by rfl,?_⟩) (by assumption) ?_;rotate_left
    ·(intro w u;(try dsimp only at u);first|(go_simp;done)|(go_simp;with_reducible rfl))
    try simp only[Act.put,zf3,zrd,zre]
    refine wpAnyH_take (i:=5) (oi:=⟨_,_,_,_,_,_⟩) (v:=?_) rfl (by as_aux_lemma=>kernel_rfl) (by as_aux_lemma=>kernel_rfl) (by as_aux_lemma=>kernel_rfl) (fun _ _ _ h=>h) (Or.inl ⟨by rfl,?_⟩) (by assumption) ?_;rotate_left
    ·(intro w u;(try dsimp only at u);first|(go_simp;done)|(go_simp;with_reducible rfl))
    try simp only[Act.put,zf3,zrd,zre]
    refine wpAnyH_ready (rs:=[6]) (by as_aux_lemma=>kernel_rfl) (by simp) ?_;refine AllReadyH.cons (o:=⟨_,_,_,_,_,_⟩) rfl (fun K hK=>?_) AllReadyH.nil;go_simp;refine hK.out _ _ trivial (fun j=>?_);clear hK K j
    try simp only[Act.put,zf3,zrd,zre]
    refine wpAnyH_done (by kernel_rfl) (NoPanic.normal ?_) _;clear q;have V:=zH (Y.out.setw0 (.int .u64 ((ii|||2^i:Nat):Int)));go_wp2_with fail;go_meet
    case rel=>exact V.out
   case rest =>
    clear Y c0 c1 ae;have J:=zH hcut;clear hcut;have a0:=J.out.w1.cell 0;have a1:=J.out.w1.cell 1;have a2:=J.out.w1.cell 2;have e0:=J.out.w2.cell 0;have e1:=J.out.w2.cell 1;have e2:=J.out.w2.cell 2;have z0:=J.out.w3.cell 0;have z1:=J.out.w3.cell 1;have z2:=J.out.w3.cell 2;have y0:=J.out.w3.frozen 0;have y1:=J.out.w3.frozen 1;have y2:=J.out.w3.frozen 2;cases ib with
    |false =>
     have hR:R=⟨oi,oc+g1,ob⟩:=by rw[Z.out];exact zc2 (fun h=>by cases h.1)
     have y:=set3 J.out.w3 (.int .u64 oi) (.int .i64 (oc+g1)) (.bool ob);have r0:=y.cell 0;have r1:=y.cell 1;have r2:=y.cell 2;have HB:=zH (Kx J.out.bel (show w.heap.size<=w.heap.size+1+1+1 by omega) (.int .u64 oi) (.int .i64 (oc+g1)) (.bool ob));clear y;go_wp2;refine zc4 (v:=.agg #[.int .u64 oi,.int .i64 (oc+g1),ob]) (by simp[results,Tryz.f168,go_sem,r0,r1,r2]) rfl ?_;exact⟨by first|rfl|rw[hR],HB.out⟩
    |true =>
     cases ob with
     |false =>
      have hR:R=⟨ii|||2^i,ic+g2,true⟩:=by rw[Z.out];exact zc3 ⟨rfl,.inl rfl⟩
      have y:=set3 J.out.w3 (.int .u64 ((ii|||2^i:Nat):Int)) (.int .i64 (ic+g2)) (.bool true);have r0:=y.cell 0;have r1:=y.cell 1;have r2:=y.cell 2;have HB:=zH (Kx J.out.bel (show w.heap.size<=w.heap.size+1+1+1 by omega) (.int .u64 ((ii|||2^i:Nat):Int)) (.int .i64 (ic+g2)) (.bool true));clear y;go_wp2;refine zc4 (v:=.agg #[.int .u64 ((ii|||2^i:Nat):Int),.int .i64 (ic+g2),true]) (by simp[results,Tryz.f168,go_sem,r0,r1,r2]) rfl ?_;exact⟨by first|rfl|rw[hR],HB.out⟩
     |true =>
      by_cases hle:ic+g2<=oc+g1
      ·have hR:R=⟨ii|||2^i,ic+g2,true⟩:=by rw[Z.out];exact zc3 ⟨rfl,.inr hle⟩
       have y:=set3 J.out.w3 (.int .u64 ((ii|||2^i:Nat):Int)) (.int .i64 (ic+g2)) (.bool true);have r0:=y.cell 0;have r1:=y.cell 1;have r2:=y.cell 2;have HB:=zH (Kx J.out.bel (show w.heap.size<=w.heap.size+1+1+1 by omega) (.int .u64 ((ii|||2^i:Nat):Int)) (.int .i64 (ic+g2)) (.bool true));clear y;go_wp2;refine zc4 (v:=.agg #[.int .u64 ((ii|||2^i:Nat):Int),.int .i64 (ic+g2),true]) (by simp[results,Tryz.f168,go_sem,r0,r1,r2]) rfl ?_;exact⟨by first|rfl|rw[hR],HB.out⟩
      ·have hR:R=⟨oi,oc+g1,true⟩:=by rw[Z.out];exact zc2 (fun h=>by rcases h.2 with h|h;cases h;exact hle h)
       have y:=set3 J.out.w3 (.int .u64 oi) (.int .i64 (oc+g1)) (.bool true);have r0:=y.cell 0;have r1:=y.cell 1;have r2:=y.cell 2;have HB:=zH (Kx J.out.bel (show w.heap.size<=w.heap.size+1+1+1 by omega) (.int .u64 oi) (.int .i64 (oc+g1)) (.bool true));clear y;go_wp2;refine zc4 (v:=.agg #[.int .u64 oi,.int .i64 (oc+g1),true]) (by simp[results,Tryz.f168,go_sem,r0,r1,r2]) rfl ?_;exact⟨by first|rfl|rw[hR],HB.out⟩
end Bd
namespace Bd.Num
def S(B:Nat)(g:Nat->Nat):Nat->Nat
 |0=>0
 |k+1=>S B g k+g k*B^k
theorem Z2(B:Nat)(g:Nat->Nat)(k:Nat):S B g (k+1)=S B g k+g k*B^k:=rfl
def dig(ds:List Nat)(i:Nat):Nat:=ds.getD i 0
def val(B:Nat)(ds:List Nat):Nat:=S B (dig ds) ds.length
structure Zg(B:Nat)(ds:List Nat):Prop where
 small:∀i,dig ds i<B
 last:ds.length≠0->dig ds (ds.length-1)≠0
theorem za2(ds:List Nat)(i:Nat)(h:ds.length<=i):dig ds i=0:=by
 unfold dig;simp[List.getD_eq_getElem?_getD,List.getElem?_eq_none h]
theorem JI(a:List Nat)(x:Nat)(i:Nat):dig (a++[x]) i=if i<a.length then dig a i else if i=a.length then x else 0:=by
 unfold dig;simp only[zc0]
 by_cases h:i<a.length
 ·rw[zrk h,zc3 h]
 ·rw[zc2 h,zrG (by omega)]
  by_cases e:i=a.length
  ·subst e;simp
  ·rw[zc2 e,zsM (by simp;omega)];rfl
theorem Ku(B:Nat)(g h:Nat->Nat):∀k,(∀i,i<k->g i=h i)->S B g k=S B h k
 |0,_=>rfl
 |k+1,e=>by rw[Z2,Z2,Ku B g h k (fun i hi=>e i (by omega)),e k (by omega)]
theorem zbu(B:Nat)(g:Nat->Nat)(k:Nat):∀m,(∀i,k<=i->g i=0)->S B g (k+m)=S B g k
 |0,_=>rfl
 |m+1,e=>by rw[<-Nat.add_assoc,Z2,zbu B g k m e,e (k+m) (by omega)];simp
theorem Q8(B:Nat)(ds:List Nat)(n:Nat)(h:ds.length<=n):S B (dig ds) n=val B ds:=by
 obtain⟨m,rfl⟩:=Nat.exists_eq_add_of_le h;exact zbu B _ _ m (fun i hi=>za2 ds i hi)
theorem Jb(B:Nat)(g:Nat->Nat):∀k,(∀i,g i<B)->S B g k<B^k
 |0,_=>by simp[S]
 |k+1,e=>by
  have h1:=Jb B g k e;have h2:(g k+1)*B^k<=B*B^k:=zto _ (e k);rw[Z2,zsU,Nat.mul_comm (B^k) B];rw[Nat.add_mul] at h2;omega
theorem zim{B:Nat}{ds:List Nat}(h:∀i,dig ds i<B):val B ds<B^ds.length:=Jb B _ _ h
theorem zgU(B:Nat):val B []=0:=rfl
theorem zqK(i:Nat):dig [] i=0:=by unfold dig;simp
theorem zqv{B:Nat}{ds:List Nat}(h:Zg B ds)(hl:ds.length≠0):B^(ds.length-1)<=val B ds:=by
 obtain⟨k,hk⟩:∃k,ds.length=k+1:=⟨ds.length-1,by omega⟩;have h1:=h.last hl;unfold val;rw[hk] at h1 ⊢;rw[Z2];simp only[zsR] at h1 ⊢;have:1*B^k<=dig ds k*B^k:=zto _ (by omega);omega
theorem zkJ(B:Nat)(a:List Nat)(x:Nat):val B (a++[x])=val B a+x*B^a.length:=by
 unfold val;rw[zf4,zr9,Z2];rw[Ku B (dig (a++[x])) (dig a) a.length (fun i hi=>by rw[JI,zc3 hi])];rw[JI,zc2 (by omega),zc3 rfl]
theorem zlc{B:Nat}{ds:List Nat}(hB:2<=B)(h:Zg B ds){k:Nat}(hv:val B ds<B^k):ds.length<=k:=by
 by_cases hl:ds.length=0
 ·omega
 ·have h1:=zqv h hl;have h2:B^(ds.length-1)<B^k:=by omega
  have h3:=(Nat.pow_lt_pow_iff_right (a:=B) (by omega)).1 h2;omega
theorem ziQ{B x:Nat}{a:List Nat}(ha:∀i,dig a i<B)(hx:x<B)(i:Nat):dig (a++[x]) i<B:=by
 rw[JI];have:=ha i;split
 ·exact this
 ·split
  ·exact hx
  ·omega
theorem znU(a:List Nat)(x:Nat):dig (a++[x]) ((a++[x]).length-1)=x:=by
 rw[JI];simp
theorem zo9{B n m:Nat}{ds:List Nat}(h:val B ds+m*B^ds.length=n):val B (ds++[m%B])+m/B*B^(ds++[m%B]).length=n:=by
 rw[zkJ,zf4,zr9,zsU,<-h];have h1:=Nat.div_add_mod m B;generalize B^ds.length=p at *;generalize m/B=q at *;generalize m%B=r at *;generalize val B ds=v at *;subst h1
 grind
theorem zh4{n m:Nat}{ds:List Nat}(hm:1<=m)(hn:n<=9223372036854775807)(h:val 1000000000 ds+m*1000000000^ds.length=n):ds.length<=2:=by
 apply Nat.le_of_not_lt;intro h3;have h4:1000000000^3<=1000000000^ds.length:=zrt (by omega) h3;have h5:1*1000000000^ds.length<=m*1000000000^ds.length:=zto _ hm;omega
theorem KX(ds:List Nat)(k i:Nat):dig (ds.take k) i=if i<k then dig ds i else 0:=by
 unfold dig;simp only[zc0,zrP];split
 ·rfl
 ·rfl
theorem Kh(ds:List Nat)(k x i:Nat)(h:k<ds.length):dig (ds.set k x) i=if i=k then x else dig ds i:=by
 unfold dig;simp only[zc0,ztI]
 by_cases e:k=i
 ·subst e;simp[h]
 ·rw[zc2 e,zc2 (fun h=>e h.symm)]
theorem zeh{B k:Nat}{ds:List Nat}(hk:k<=ds.length)(hz:∀i,k<=i->dig ds i=0):val B (ds.take k)=val B ds:=by
 unfold val;rw[zrj,zu2 hk];obtain⟨m,hm⟩:=Nat.exists_eq_add_of_le hk;rw[hm,zbu B (dig ds) k m hz];exact Ku B _ _ k (fun i hi=>by rw[KX,zc3 hi])
theorem zdX{B k:Nat}{ds:List Nat}(hB:0<B)(sm:∀i,dig ds i<B)(hk:k<=ds.length)(hl:k≠0->dig ds (k-1)≠0):Zg B (ds.take k):=by
 refine⟨fun i=>?_,fun h=>?_⟩
 ·rw[KX];have:=sm i;split<;>omega
 ·rw[zrj,zu2 hk] at h ⊢;rw[KX,zc3 (by omega)];exact hl h
theorem zdT(n i:Nat):dig (List.replicate n 0) i=0:=by
 unfold dig;simp only[zc0,List.getElem?_replicate];split<;>rfl
theorem zpr{B k c x y:Nat}{out:List Nat}{T U:Nat->Nat}(hk:k<out.length)(h:S B (dig out) k+c*B^k=S B T k+S B U k)(hx:T k=x)(hy:U k=y) :
  S B (dig (out.set k ((x+y+c)%B))) (k+1)+(x+y+c)/B*B^(k+1)=S B T (k+1)+S B U (k+1):=by
 rw[Z2,Z2,Z2,hx,hy];rw[Ku B (dig (out.set k ((x+y+c)%B))) (dig out) k (fun i hi=>by rw[Kh _ _ _ _ hk,zc2 (by omega)])];rw[Kh _ _ _ _ hk,zc3 rfl,zsU];have h1:=Nat.div_add_mod (x+y+c) B;generalize (x+y+c)%B=r at *;generalize (x+y+c)/B=q at *;generalize B^k=p at *;generalize S B (dig out) k=s1 at *;generalize S B T k=s2 at *;generalize S B U k=s3 at *
 grind
theorem zgs{B n c s t:Nat}(h:s+c*B^n=t)(ht:t<B^n):c=0:=by
 rcases Nat.eq_zero_or_pos c with e|e
 ·exact e
 ·have:1*B^n<=c*B^n:=zto _ e;omega
theorem zeV{B k x:Nat}{out:List Nat}(hk:k<out.length)(sm:∀i,dig out i<B)(hx:x<B)(i:Nat):dig (out.set k x) i<B:=by
 rw[Kh _ _ _ _ hk];have:=sm i;split<;>omega
theorem zlS{B k c x P:Nat}{out:List Nat}{T:Nat->Nat}(hk:k<out.length)(h:S B (dig out) k+c*B^k=S B T k*P)(hx:T k=x) :
  S B (dig (out.set k ((x*P+c)%B))) (k+1)+(x*P+c)/B*B^(k+1)=S B T (k+1)*P:=by
 rw[Z2,Z2,hx];rw[Ku B (dig (out.set k ((x*P+c)%B))) (dig out) k (fun i hi=>by rw[Kh _ _ _ _ hk,zc2 (by omega)])];rw[Kh _ _ _ _ hk,zc3 rfl,zsU];have h1:=Nat.div_add_mod (x*P+c) B;generalize (x*P+c)%B=r at *;generalize (x*P+c)/B=q at *;generalize B^k=p at *;generalize S B (dig out) k=s1 at *;generalize S B T k=s2 at *
 grind
open Go.Lib
end Bd.Num
namespace Bd
open Go.RowKit Num
def Dig(k:IntKind)(w:World)(v:Value)(ds:List Nat):Prop :=
 ∃a j,v=.slice a ds.length j/\ds.length<=j/\∀i,i<ds.length->∃b o,a=some ⟨b,o,none⟩/\b<w.heap.size/\w.cell? ⟨b,o+i,none⟩=some (.int k ((dig ds i:Nat):Int))
theorem Dig.below{k:IntKind}{w w':World}{v:Value}{ds:List Nat}(h:Dig k w v ds)(hb:zB w w'):Dig k w' v ds:=by
 obtain⟨a,u,hv,hc,hi⟩:=h;refine⟨a,u,hv,hc,fun i hl=>?_⟩;obtain⟨b,q,ha,o,j⟩:=hi i hl;exact⟨b,q,ha,zc6 o hb.size,(hb.cell (p:=⟨b,q+i,none⟩) o).trans j⟩
theorem Dig.set{k:IntKind}{w:World}{v:Value}{ds:List Nat}(h:Dig k w v ds){p:Addr}{u0:Value}(hp:w.cell? p=some u0)(hu:∀n,u0≠.int k n)(u:Value):Dig k (w.setCell p u) v ds:=by
 obtain⟨a,o,hv,hc,hi⟩:=h;refine⟨a,o,hv,hc,fun i hl=>?_⟩;obtain⟨b,q,ha,hb,j⟩:=hi i hl;refine⟨b,q,ha,by simpa[World.setCell] using hb,?_⟩;rw[zrc _ _ _ _ (fun e=>by subst e;rw[hp] at j;exact hu _ (zru j))];exact j
theorem Dig.nil(k:IntKind)(w:World):Dig k w (.slice none 0 0) []:=⟨none,0,rfl,zri _,fun i h=>by simp at h⟩
def qZ(k:IntKind)(ds:List Nat):List Value:=ds.map fun d:Nat=>Value.int k (d:Int)
theorem zdE(k:IntKind)(ds:List Nat):(qZ k ds).length=ds.length:=by simp[qZ]
theorem zeU(k:IntKind)(ds:List Nat)(x:Nat):qZ k (ds++[x])=qZ k ds++[Value.int k (x:Int)]:=by simp[qZ]
theorem XH(k:IntKind)(ds:List Nat)(i:Nat)(h:i<ds.length):(qZ k ds)[i]?=some (.int k ((dig ds i:Nat):Int)):=by
 unfold qZ dig;simp[List.getD_eq_getElem?_getD,List.getElem?_eq_getElem h]
theorem zmA(k:IntKind)(ds:List Nat)(j x:Nat):(qZ k ds).set j (.int k (x:Int))=qZ k (ds.set j x):=by simp[qZ,List.map_set]
theorem zem(k:IntKind)(n:Nat):(madeCells #[Value.int k 0] n).toList=qZ k (List.replicate n 0):=by rw[toList_madeCells_one];simp[qZ]
theorem zmz{w:World}{base:Nat}{e:TypeId}{v:Value}{n:Nat}{xs:List Value}(h:w.ownsRow base e 1 v n xs):∃a j,v=.slice a n j/\n<=j:=by
 rcases h.2 with ⟨h1,h2⟩|⟨g,j,o,h1,_,_,h2,_⟩
 ·exact⟨none,0,by rw[h1,h2],by omega⟩
 ·exact⟨_,j,h1,h2⟩
theorem zfG{k:IntKind}{w:World}{base g n cap:Nat}{e:TypeId}{ds:List Nat}(h:w.ownsRow base e 1 (.slice (some g) n cap) n (qZ k ds))(j x:Nat):(w.setCell ⟨g,j,none⟩ (.int k (x:Int))).ownsRow base e 1 (.slice (some g) n cap) n (qZ k (ds.set j x)):=by
 rw[<-zmA];exact(h.stored j _).1
theorem zdZ{w w':World}{base:Nat}{e:TypeId}{size:Nat}{v:Value}{n:Nat}{xs:List Value}(h:w.ownsRow base e size v n xs)(hb:zB w w'):w'.ownsRow base e size v n xs:=by
 obtain⟨h1,h2⟩:=h;refine⟨h1,?_⟩;rcases h2 with h2|⟨g,o,q,hv,hg,hh,r⟩
 ·exact Or.inl h2
 ·have j:g<w.heap.size:=by
   by_cases j:g<w.heap.size
   ·exact j
   ·rw[zrO (by omega)] at hh;simp at hh
  exact Or.inr ⟨g,o,q,hv,hg,by rw[hb.block g j];exact hh,r⟩
theorem Dig.of_owns{k:IntKind}{w:World}{base:Nat}{e:TypeId}{v:Value}{ds:List Nat}(h:w.ownsRow base e 1 v ds.length (qZ k ds)):Dig k w v ds:=by
 rcases h.2 with ⟨h1,h2⟩|⟨g,j,o,h1,hb,hg,h2,_⟩
 ·obtain rfl:ds=[]:=zsT.1 h2;rw[h1];exact Dig.nil k w
 ·subst h1;refine⟨_,j,rfl,h2,fun i hi=>⟨g,0,rfl,?_,?_⟩⟩
  ·by_cases hlt:g<w.heap.size
   ·exact hlt
   ·rw[zrO (by omega)] at hg;simp at hg
  ·rw[zrI,h.cellAt i (by omega),XH k ds i hi]
theorem Jd{w:World}{b off:Nat}(o:Obj)(h:b<w.heap.size):(w.alloc o).cell? ⟨b,off,none⟩=w.cell? ⟨b,off,none⟩ :=
 ((zf0 w.heap.size w).alloc zN o).cell (p:=⟨b,off,none⟩) h
theorem QS(w:World)(A:Value)(t:TypeId):(w.alloc (.cells #[A] t)).cell? w.heap.size=some A:=by simp
theorem Xu(w:World)(A:Value)(t:TypeId):(w.alloc (.cells #[A] t)).frozen? w.heap.size=false:=by simp
theorem zds(w:World)(A:Value)(t:TypeId)(o:Obj):((w.alloc (.cells #[A] t)).alloc o).cell? w.heap.size=some A:=by
 rw[Jd o (by simp),QS]
theorem JJ(w:World)(A:Value)(t:TypeId)(o:Obj):((w.alloc o).alloc (.cells #[A] t)).cell? ⟨w.heap.size+1,0,none⟩=some A:=by
 have:=QS (w.alloc o) A t;rwa [zc1] at this
theorem za9(w:World)(A:Value)(t:TypeId)(o:Obj):((w.alloc o).alloc (.cells #[A] t)).frozen? ⟨w.heap.size+1,0,none⟩=false:=by
 have:=Xu (w.alloc o) A t;rwa [zc1] at this
theorem zpH(w:World)(A:Value)(t:TypeId)(o p:Obj):(((w.alloc (.cells #[A] t)).alloc o).alloc p).cell? w.heap.size=some A:=by
 rw[Jd p (by simp;omega),zds]
theorem zox(w:World)(A:Value)(t:TypeId)(o p:Obj):(((w.alloc o).alloc (.cells #[A] t)).alloc p).cell? ⟨w.heap.size+1,0,none⟩=some A:=by
 rw[Jd p (by simp),JJ]
theorem zou(w:World)(A:Value)(t:TypeId)(o p:Obj):(((w.alloc o).alloc p).alloc (.cells #[A] t)).cell? ⟨w.heap.size+1+1,0,none⟩=some A:=by
 have:=JJ (w.alloc o) A t p;rwa [zc1] at this
theorem zjY(w:World)(A:Value)(t:TypeId)(o p:Obj):(((w.alloc o).alloc p).alloc (.cells #[A] t)).frozen? ⟨w.heap.size+1+1,0,none⟩=false:=by
 have:=za9 (w.alloc o) A t p;rwa [zc1] at this
theorem mixed:prog.follows .mixedOrders=true:=by kernel_rfl
theorem zbq{x:Int}(h0:0<=x)(h1:x<=18446744073709551615):IntKind.u64.wrap x=x:=IntWalk.u64_in x ⟨h0,h1⟩
theorem zb9(v:Value)(ds:List Nat)(i:Nat)(w:World)(hd:Dig .u64 w v ds)(_hi:i<=1000000)(_hl:ds.length<=1000000) :
  zR 158 #[.agg #[v],i] w (.int .u64 ((dig ds i:Nat):Int)):=by
 obtain⟨a,o,rfl,hc,j⟩:=hd
 by_cases hlt:i<ds.length
 ·obtain⟨b,y,rfl,hb,q⟩:=j i hlt;have u:¬b=w.heap.size:=by omega
  clear j;generalize dig ds i=d at *;go_enter func158,ntmps158;go_wp2;go_ret;exact⟨rfl,zF.alloc zN _⟩
 ·have hz:=za2 ds i (by omega);rw[hz];clear j hz;go_enter func158,ntmps158;go_wp2;go_ret;exact⟨rfl,zF.alloc zN _⟩
end Bd
