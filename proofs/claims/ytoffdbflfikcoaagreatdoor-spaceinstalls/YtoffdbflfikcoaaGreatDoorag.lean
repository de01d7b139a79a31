import Derived.Test.YtoffdbflfikcoaaGreatDoorae
import Derived.Test.YtoffdbflfikcoaaGreatDooraf
import Derived.Shelf.SlSortCmp.NoneTotal
import Derived.Shelf.SlicesQ.Contains
import Derived.Shelf.SlicesE.Clone
import Derived.Shelf.Spec.SlicesInsertGrow
open Go.Proofs.Tryz
open Go.Proofs.YtoffdbflfikcoaaGreatDoor
set_option maxHeartbeats 4000000
set_option maxRecDepth 100000
namespace Go.Proofs.YtoffdbflfikcoaaGreatDoor
open Go.RowKit
section
open Sv
theorem zit(s:ByteArray)(w:World)(hs:s.size<=100000)(hw:Lw w):zC 36 #[s] w (Kk w (Z5 s)):=by
 have h4:=zdW (zb s 32).1;have h:zI (zb s 32).1=0\/zI (zb s 32).1=1\/zI (zb s 32).1=2\/zI (zb s 32).1=3\/zI (zb s 32).1=4:=by omega
 unfold Z5;rcases h with h|h|h|h|h
 ·rw[zc3 h];exact zpe s w hs hw h
 ·rw[h,zc2 (by omega),zc2 (by omega)];exact zlM s w hs hw h _ rfl
 ·rw[h,zc2 (by omega),zc2 (by omega)];exact zeF 2 (Or.inl rfl) s w hs hw h _ rfl
 ·rw[h,zc2 (by omega),zc2 (by omega)];exact zeF 3 (Or.inr rfl) s w hs hw h _ rfl
 ·rw[h,zc2 (by omega),zc3 rfl];exact zov s w hs hw h
end
section
open Go.Maps
theorem KS{x:Int}(h:I64 x):(Lit.int .i64 x).wf=true:=by
 obtain⟨h0,h1⟩:=h;simp[Lit.wf,IntKind.min,IntKind.max,IntKind.signed,IntKind.bits];omega
structure Rep{α β:Type}(ok:α->Prop)(kl:α->Lit)(el:β->DataW Unit)(D:DataW Unit)(L:List (α × β)):Prop where
 tidy:Tidy D
 size:Maps.size D=L.length
 oks:∀p∈L,ok p.1
 has:∀a,ok a->(Maps.has D (kl a)=true↔a∈L.map Prod.fst)
 all:∀x,Maps.has D x=true->∃p∈L,x=kl p.1
 at':∀p∈L,∀z,D.atKey (kl p.1) z=el p.2
 nodup:(L.map Prod.fst).Nodup
section
variable {α β:Type} {ok:α->Prop} {kl:α->Lit} {el:β->DataW Unit} {D:DataW Unit} {L:List (α × β)}
theorem Rep.empty:Rep ok kl el (.map []) ([]:List (α × β)) :=
 ⟨tidy_empty,rfl,fun p h=>(by cases h),fun a _=>(by simp[Maps.has]),fun x h=>(by simp[Maps.has] at h),fun p h=>(by cases h),List.nodup_nil⟩
theorem Rep.not(h:Rep ok kl el D L){a:α}(ha:ok a)(hn:a∉L.map Prod.fst):Maps.has D (kl a)=false:=by
 cases e:Maps.has D (kl a) with
 |false=>rfl
 |true=>exact absurd ((h.has a ha).1 e) hn
theorem Rep.put(h:Rep ok kl el D L)(inj:∀a b,ok a->ok b->kl a=kl b->a=b)(key:∀a,WideAt.IsKeyLit (kl a)){a:α}(ha:ok a)(hn:a∉L.map Prod.fst)(b:β) :
  Rep ok kl el (D.put (kl a) (el b)) (L++[(a,b)]):=by
 have j:∀c,ok c->c≠a->kl c≠kl a:=fun c hc o e=>o (inj c a hc ha e);refine⟨h.tidy.put (key a) _,?_,?_,?_,?_,?_,?_⟩
 ·rw[size_put h.tidy,h.not ha hn];simp[h.size]
 ·intro p hp;rcases zro.1 hp with hp|hp
  ·exact h.oks p hp
  ·rw[zra] at hp;subst hp;exact ha
 ·intro c hc;rw[zrv,zro]
  by_cases e:c=a
  ·subst e;simp[has_put_same h.tidy.isMap (key c)]
  ·rw[has_put_other (j c hc e)];simp[h.has c hc,e]
 ·intro x hx
  by_cases e:x=kl a
  ·exact⟨(a,b),by simp,e⟩
  ·rw[has_put_other e] at hx;obtain⟨p,hp,hx⟩:=h.all x hx;exact⟨p,by simp[hp],hx⟩
 ·intro p hp z;rcases zro.1 hp with hp|hp
  ·rw[atKey_put_other (j p.1 (h.oks p hp) (fun e=>hn (e▸zsy hp)))];exact h.at' p hp z
  ·rw[zra] at hp;subst hp;exact atKey_put_same h.tidy.isMap (key a) _ _
 ·rw[zrv,zts];refine⟨h.nodup,by simp,fun x hx y hy=>?_⟩;simp at hy;subst hy;exact fun e=>hn (e▸hx)
end
theorem Z1{P:Program}{k:TypeId}{R:Value->Option (DataW Unit × List MemPlace)}{w:World}{b n:Nat}{D:DataW Unit}(h:w.ownsMap P k R b n D):w.ownsMap P k R b (Maps.size D) D:=by
 obtain⟨es,j,h1,h2,h3,rfl⟩:=h;exact⟨es,j,h1,h2,by simp[Maps.size,length_sorted],rfl⟩
theorem KO{P:Program}{k:TypeId}{R:Value->Option (DataW Unit × List MemPlace)}{w w':World}{bm n:Nat}{D:DataW Unit}(h:w.ownsMap P k R bm n D)(hb:zB w w'):w'.ownsMap P k R bm n D:=by
 have o:=h.lt;obtain⟨es,j,h1,h2⟩:=h;exact⟨es,j,(hb.block bm o).trans h1,h2⟩
end
section
open Go.Maps
theorem Kr:Keyed prog 9:=string_keyed zrf
theorem XY{s:ByteArray}(h:s.size<=100000):keyOf prog 9 (.string s)=some (.string s.data.toList):=WideMaps.keyOf_string_mk zrf (by unfold maxLen;omega)
def Yj(s:ByteArray):Lit:=.string s.data.toList
theorem zcb(s:ByteArray):WideAt.IsKeyLit (Yj s):=trivial
theorem zgz{a b:ByteArray}(h:Yj a=Yj b):a=b:=by
 unfold Yj at h;injection h with h;exact zuY (Array.toList_inj.1 h)
structure ZY{β:Type}(el:β->DataW Unit)(D:DataW Unit)(f:ByteArray->Option β)(n:Nat):Prop where
 tidy:Tidy D
 size:Maps.size D=n
 has:∀a,Maps.has D (Yj a)=(f a).isSome
 at':∀a b,f a=some b->∀z,D.atKey (Yj a) z=el b
section
variable {β:Type} {el:β->DataW Unit} {D:DataW Unit} {f:ByteArray->Option β} {n:Nat}
theorem ZY.empty:ZY el (.map []) (fun _=>(none:Option β)) 0:=⟨tidy_empty,rfl,fun a=>by simp[Maps.has],fun a b h=>by cases h⟩
theorem ZY.put(h:ZY el D f n)(a:ByteArray)(b:β):ZY el (D.put (Yj a) (el b)) (fun c=>if c=a then some b else f c) (if (f a).isSome then n else n+1):=by
 refine⟨h.tidy.put (zcb a) _,?_,fun c=>?_,fun c d hd z=>?_⟩
 ·rw[size_put h.tidy,h.has,h.size]
 ·by_cases e:c=a
  ·subst e;rw[has_put_same h.tidy.isMap (zcb c)];simp
  ·rw[has_put_other (fun e'=>e (zgz e')),h.has,zc2 e]
 ·by_cases e:c=a
  ·subst e;rw[zc3 rfl] at hd;cases hd;exact atKey_put_same h.tidy.isMap (zcb c) _ _
  ·rw[zc2 e] at hd;rw[atKey_put_other (fun e'=>e (zgz e'))];exact h.at' c d hd z
end
def Yl(r:Nat × Nat):DataW Unit:=.agg [.lit (.int .i64 r.1),.lit (.int .i64 r.2)]
def YG(r:Nat × Nat):Value:=.agg #[r.1,r.2]
def zgJ:List Value->Option (DataW Unit × List MemPlace)
 |[.int .i64 a,.int .i64 b]=>some (.agg [.lit (.int .i64 a),.lit (.int .i64 b)],[])
 |_=>none
def XK:Value->Option (DataW Unit × List MemPlace)
 |.agg cs=>zgJ cs.toList
 |_=>none
theorem zbp(r:Nat × Nat):XK (YG r)=some (Yl r,[]):=rfl
theorem zgh{v:Value}{r:Nat × Nat}{ps:List MemPlace}(h:XK v=some (Yl r,ps)):v=YG r:=by
 unfold XK at h;split at h
 ·rename_i cs;unfold zgJ at h;split at h
  ·rename_i a b e;simp only[zsd,Prod.mk.injEq,Yl,DataW.agg.injEq,List.cons.injEq,DataW.lit.injEq,Lit.int.injEq,true_and,and_true] at h;obtain⟨⟨h1,h2⟩,-⟩:=h;rw[show cs=#[.int .i64 a,.int .i64 b] from Array.toList_inj.1 e,h1,h2];rfl
  ·cases h
 ·cases h
theorem zdu(w:World):(zeroValue 187).run prog w=.ok (.agg #[(0:Int),(0:Int)]) w:=by kernel_rfl
def qR(w:World)(bm:Nat)(f:ByteArray->Option (Nat × Nat))(N:Nat):Prop:=∃D n,w.ownsMap prog 9 XK bm n D/\ZY Yl D f n/\n<=N
theorem qR.below{B:Nat}{w w':World}{bm N:Nat}{f:ByteArray->Option (Nat × Nat)}(h:qR w bm f N)(hb:Below B w w')(hB:w.heap.size<=B):qR w' bm f N:=by
 obtain⟨D,n,h1,h2,h3⟩:=h;exact⟨D,n,KO h1 (hb.mono hB),h2,h3⟩
theorem qR.lt{w:World}{bm N:Nat}{f:ByteArray->Option (Nat × Nat)}(h:qR w bm f N):bm<w.heap.size:=by obtain⟨D,n,h1,_⟩:=h;exact h1.lt
theorem qR.block{w w':World}{bm N:Nat}{f:ByteArray->Option (Nat × Nat)}(h:qR w bm f N)(hb:w'.heap[bm]?=w.heap[bm]?):qR w' bm f N:=by
 obtain⟨D,n,⟨es,j,h1,h2⟩,hR⟩:=h;exact⟨D,n,⟨es,j,hb.trans h1,h2⟩,hR⟩
theorem qR.made(w:World):qR (w.alloc (.map #[] 0)) w.heap.size (fun _=>none) 0:=⟨.map [],0,World.ownsMap_made w _ _ _,ZY.empty,zri _⟩
theorem qR.ne{w:World}{bm N b:Nat}{f:ByteArray->Option (Nat × Nat)}{t:TypeId}{cs:Array Value}(h:qR w bm f N)(hb:Blk w b t cs):bm≠b:=by
 rintro rfl;obtain⟨D,n,⟨es,j,h1,_⟩,_⟩:=h;have:=h1.symm.trans hb;cases this
theorem qR.look{w:World}{bm N:Nat}{f:ByteArray->Option (Nat × Nat)}(h:qR w bm f N){s:ByteArray}(hs:s.size<=100000) :
  (Instr.lookup 180 (.map (some bm)) (.string s) true).run prog w=.ok (.tuple #[YG ((f s).getD (0,0)),.bool (f s).isSome]) w/\(Instr.lookup 180 (.map (some bm)) (.string s) false).run prog w=.ok (YG ((f s).getD (0,0))) w:=by
 obtain⟨D,n,hD,hR,-⟩:=h;have o:∀v ps,XK v=some (D.atKey (.string s.data.toList) (Yl (0,0)),ps)->v=YG ((f s).getD (0,0)):=fun v ps hv=>by
  cases hf:f s with
  |none =>have hh:=hR.has s;rw[hf] at hh;rw[atKey_of_not_has (show Maps.has D (.string s.data.toList)=false from hh)] at hv;exact zgh hv
  |some r =>rw[show D.atKey (.string s.data.toList) (Yl (0,0))=Yl r from hR.at' s r hf _] at hv;exact zgh hv
 constructor
 ·obtain⟨v,ps,j,hv⟩:=hD.look_ok Kr underlying180 (zdu w) (zbp (0,0)) (XY hs);rw[o v ps hv,show Maps.has D (.string s.data.toList)=(f s).isSome from hR.has s] at j;exact j
 ·obtain⟨v,ps,j,hv⟩:=hD.lookup Kr underlying180 (zdu w) (zbp (0,0)) (XY hs);rw[o v ps hv] at j;exact j
theorem qR.put{w:World}{bm N:Nat}{f:ByteArray->Option (Nat × Nat)}(h:qR w bm f N){s:ByteArray}(hs:s.size<=100000)(r:Nat × Nat)(hN:N<1000000) :
  ∃w',(Instr.mapUpdate 180 (.map (some bm)) (.string s) (YG r)).run prog w=.ok () w'/\qR w' bm (fun c=>if c=s then some r else f c) (N+1)/\w.grownBy w' (some bm):=by
 obtain⟨D,n,hD,hR,hn⟩:=h;obtain⟨w',j,g1,k1⟩:=hD.update Kr underlying180 (by unfold maxLen;omega) (XY hs) (zbp r);have o:=hR.put s r;exact⟨w',j,⟨_,_,o.size▸Z1 g1,o,by split<;>omega⟩,k1⟩
theorem zcA(l:List It)(x:It):yi (l++[x])=if x.name∈l.map It.name then yi l else yi l+1:=by
 unfold yi;rw[zrv,List.eraseDups_append,zf4,ztf,zuI]
 by_cases h:x.name∈l.map It.name
 ·rw[zc3 h,show [x.name].removeAll (l.map It.name)=[] by simp only[List.removeAll,zsp,zs0,List.elem_eq_mem,h,decide_true,Bool.not_true,zsu,zvs]];rfl
 ·rw[zc2 h,show [x.name].removeAll (l.map It.name)=[x.name] by simp only[List.removeAll,zsp,zs0,List.elem_eq_mem,h,decide_false,Bool.not_false,ztL]];rfl
theorem zeB(l:List It):yi l<=l.length:=by
 unfold yi;have:∀m:List ByteArray,m.eraseDups.length<=m.length:=by
  intro m
  induction h:m.length using Nat.strongRecOn generalizing m with
  |_ n ih =>
   cases m with
   |nil=>simp
   |cons a m =>rw[List.eraseDups_cons];have h1:=zsi (fun b=>!(b==a)) m;have:=ih (m.filter fun b=>!(b==a)).length (by rw[<-h];simp only[zrb];omega) _ rfl;simp only[zrb] at h ⊢;omega
 simpa using this (l.map It.name)
def ZB(l:List It)(c:ByteArray):Option Unit:=if c∈l.map It.name then some () else none
def xg(w:World)(bm:Nat)(l:List It):Prop:=∃D,w.ownsMap prog 9 unitElem bm (yi l) D/\ZY (fun _:Unit=>.agg []) D (ZB l) (yi l)
theorem xg.made(w:World):xg (w.alloc (.map #[] 0)) w.heap.size []:=⟨.map [],World.ownsMap_made w _ _ _,ZY.empty⟩
theorem xg.below{B:Nat}{w w':World}{bm:Nat}{l:List It}(h:xg w bm l)(hb:Below B w w')(hB:w.heap.size<=B):xg w' bm l:=by
 obtain⟨D,h1,h2⟩:=h;exact⟨D,KO h1 (hb.mono hB),h2⟩
theorem xg.lt{w:World}{bm:Nat}{l:List It}(h:xg w bm l):bm<w.heap.size:=by obtain⟨D,h1,_⟩:=h;exact h1.lt
theorem xg.block{w w':World}{bm:Nat}{l:List It}(h:xg w bm l)(hb:w'.heap[bm]?=w.heap[bm]?):xg w' bm l:=by
 obtain⟨D,⟨es,j,h1,h2⟩,hR⟩:=h;exact⟨D,⟨es,j,hb.trans h1,h2⟩,hR⟩
theorem xg.put{w:World}{bm:Nat}{l:List It}(h:xg w bm l)(hl:l.length<1000000){x:It}(hs:x.name.size<=100000) :
  ∃w',(Instr.mapUpdate 243 (.map (some bm)) (.string x.name) (.agg #[])).run prog w=.ok () w'/\xg w' bm (l++[x])/\w.grownBy w' (some bm):=by
 obtain⟨D,hD,hR⟩:=h;have p:=zeB l;obtain⟨w',o,g1,k1⟩:=hD.update Kr underlying243 (by unfold maxLen;omega) (XY hs) unitElem_mk;have j:=hR.put x.name ();have e1:(fun c=>if c=x.name then some () else ZB l c)=ZB (l++[x]):=by
  funext c;unfold ZB
  by_cases h:c=x.name
  ·simp[h]
  ·simp[h]
 have e2:(if (ZB l x.name).isSome then yi l else yi l+1)=yi (l++[x]):=by
  rw[zcA];unfold ZB
  by_cases h:x.name∈l.map It.name
  ·rw[zc3 h,zc3 h];rfl
  ·rw[zc2 h,zc2 h];rfl
 rw[e1,e2] at j;exact⟨w',o,⟨_,j.size▸Z1 g1,j⟩,k1⟩
theorem xg.len{w:World}{bm:Nat}{l:List It}(h:xg w bm l)(ty:TypeId):(Builtin.len_ #[243] ty #[.map (some bm)]).run prog w=.ok (.int .i64 (yi l)) w:=by
 obtain⟨D,hD,hR⟩:=h;rw[hD.len underlying243 ty,hR.size]
end
section
open Go.Deep Go.Maps Sv
theorem zoz{l:List It}{k:Nat}(h:k<l.length):l.take (k+1)=l.take k++[l.getD k default]:=by
 rw[zry h,zc0,zc5 h];rfl
theorem zjp(its:List It)(v:Value)(w:World)(h:yc w v its)(hl:its.length<=100000)(hn:∀x∈its,x.name.size<=100000) :
  zC 88 #[v] w fun e w'=>e=.returned (.map (some w))/\qR w' w.heap.size (yk its) its.length/\zB w w':=by
 have HI:=zH h;have ai:=zH hn;obtain⟨va,vc,rfl,-⟩:=h.form;clear h hn;have af:=qR.made w;have ac:Hid (qR (w.alloc (.map #[] 0)) w.heap.size (yk (its.take 0)) 0):=af;have aa:Hid (zB w (w.alloc (.map #[] 0))):=(zf0 _ w).alloc zN _;clear af;have am:=@run_makeMap prog;go_enter func88,ntmps88;go_wp2_with fail;clear am;go_loopw [11] (fun iV wr=>∃k:Nat,k<=its.length/\iV=.int .i64 k/\qR wr w.heap.size (yk (its.take k)) k/\zB w wr) (fun iV _=>its.length-(intOf iV).toNat)
 case atStart=>exact⟨0,zf6 _,rfl,ac.out,aa.out⟩
 case round =>
  obtain⟨k,hk,rfl,o,u⟩:=hrel;clear ac aa
  by_cases hlt:k<its.length
  ·obtain⟨g,ak,e,hg,c0,c1,c2,c3⟩:=(show yc wr _ its from HI.out.below u zN).at k hlt;simp at e;obtain⟨rfl,rfl⟩:=e;have ah:yk (its.take (k+1))=fun c=>if c=(its.getD k default).name then some ((((yk (its.take k) (its.getD k default).name).map Prod.fst).getD k,k+1)) else yk (its.take k) c:=by
    funext c;rw[zoz hlt,zaz,zrj,zu2 hk]
    by_cases hc:(its.getD k default).name=c
    ·subst hc;simp
    ·rw[zc2 hc,zc2 (fun e=>hc e.symm)]
   have a9:(its.getD k default).name.size<=100000:=ai.out _ (Zk hlt);have ad:=zH ah;clear ah;generalize its.getD k default=x at *;generalize yk (its.take k)=f at *;have kx:=Blk.new wr 125 #[x.name,x.a,x.b,x.c];have a5:zB wr (wr.alloc (.cells #[x.name,x.a,x.b,x.c] 125)):=zF.alloc zN _;have ag:=o.below a5 zN;have ae:zB w (wr.alloc (.cells #[x.name,x.a,x.b,x.c] 125)):=zT u a5;have a0:=zH ag;have Y:=zH ae;clear o u a5 ag ae;go_upto_region 5 with fail;clear c0 c1 c2 c3;generalize wr.alloc (.cells #[x.name,x.a,x.b,x.c] 125)=W1 at *;generalize wr.heap.size=bx at *;obtain⟨⟨P,Q⟩,a7⟩:∃pq:Nat × Nat,(f x.name).getD (0,0)=pq:=⟨_,rfl⟩;obtain⟨b,hb⟩:∃b,(f x.name).isSome=b:=⟨_,rfl⟩;have K:(Instr.lookup 180 (.map (some w)) (.string x.name) true).run prog W1=.ok (.tuple #[.agg #[P,Q],.bool b]) W1:=by have h:=(a0.out.look a9).1;rw[a7,hb] at h;exact h
   have d0:_=some (Value.string x.name):=kx.cell 0;have kr:=Blk.new W1 187 #[P,Q];have u:zB W1 (W1.alloc (.cells #[P,Q] 187)):=zF.alloc zN _;have X:=kx.below u kx.lt;have C:=zH (a0.out.below u zN);have V:Hid (zB w (W1.alloc (.cells #[P,Q] 187))):=zT Y.out u;have aj:=zH a7;have ab:=zH hb;have a8:bx≠W1.heap.size:=Nat.ne_of_lt kx.lt;have a4:w.heap.size<=W1.heap.size:=Y.out.size;clear a7 hb u a0 Y kx;go_upto_region 6 with fail;clear K d0;generalize W1.alloc (.cells #[P,Q] 187)=W2 at *;generalize W1.heap.size=br at *;have a6:=C.out.ne kr;cases b with
   |false =>
    have e0:_=some (Value.int .i64 P):=kr.cell 0;have e1:_=some (Value.int .i64 Q):=kr.cell 1;have a2:=kr.frozen 0;have a3:=kr.frozen 1;have k3:Blk ((W2.setCell br (.int .i64 k)).setCell ⟨br,1,none⟩ (.int .i64 ((k:Int)+1))) br 187 #[k,.int .i64 ((k:Int)+1)]:=(kr.set (i:=0)).set (i:=1);have U:Blk ((W2.setCell br (.int .i64 k)).setCell ⟨br,1,none⟩ (.int .i64 ((k:Int)+1))) bx 125 #[x.name,x.a,x.b,x.c]:=(X.other a8).other a8;have M:qR ((W2.setCell br (.int .i64 k)).setCell ⟨br,1,none⟩ (.int .i64 ((k:Int)+1))) w.heap.size f k:=C.out.block (by rw[zrF _ _ _ _ a6,zrF _ _ _ _ a6]);have y:zB w ((W2.setCell br (.int .i64 k)).setCell ⟨br,1,none⟩ (.int .i64 ((k:Int)+1))):=(V.out.setCell (p:=br) a4 _).setCell (p:=⟨br,1,none⟩) a4 _;go_upto_region 9 with fail;clear e0 e1 a2 a3;generalize ((W2.setCell br (.int .i64 k)).setCell ⟨br,1,none⟩ (.int .i64 ((k:Int)+1)))=W3 at *;obtain⟨w4,q,R,J⟩:=M.put a9 (k,k+1) (by omega);have hrun':(Instr.mapUpdate 180 (.map (some w)) (.string x.name) (.agg #[k,.int .i64 ((k:Int)+1)])).run prog W3=.ok () w4:=q;have g0:_=some (Value.int .i64 k):=k3.cell 0;have g1:_=some (Value.int .i64 ((k:Int)+1)):=k3.cell 1;have g2:_=some (Value.string x.name):=U.cell 0;have Z:Hid (zB w w4):=y.grown J y.size (fun j hj=>by cases hj;exact zri _);have a1:Hid (qR w4 w.heap.size (yk (its.take (k+1))) (k+1)):=by
     show qR _ _ _ _;rw[ad.out];have e:((f x.name).map Prod.fst).getD k=k:=by
      have h:=ab.out;cases hf:f x.name with
      |none=>rfl
      |some r=>rw[hf] at h;cases h
     rw[e];exact R
    clear q R J k3 U M y C V kr X;go_wp2;go_roundw
    case rel=>exact⟨k+1,hlt,by go_num,a1.out,Z.out⟩
    case measure=>simp[intOf];omega
   |true =>
    have e0:_=some (Value.int .i64 P):=kr.cell 0;have e1:_=some (Value.int .i64 Q):=kr.cell 1;have a2:=kr.frozen 0;have a3:=kr.frozen 1;have k3:Blk (W2.setCell ⟨br,1,none⟩ (.int .i64 ((k:Int)+1))) br 187 #[P,.int .i64 ((k:Int)+1)]:=kr.set (i:=1);have U:Blk (W2.setCell ⟨br,1,none⟩ (.int .i64 ((k:Int)+1))) bx 125 #[x.name,x.a,x.b,x.c]:=X.other a8;have M:qR (W2.setCell ⟨br,1,none⟩ (.int .i64 ((k:Int)+1))) w.heap.size f k:=C.out.block (by rw[zrF _ _ _ _ a6]);have y:zB w (W2.setCell ⟨br,1,none⟩ (.int .i64 ((k:Int)+1))):=V.out.setCell (p:=⟨br,1,none⟩) a4 _;go_upto_region 9 with fail;clear e0 e1 a2 a3;generalize (W2.setCell ⟨br,1,none⟩ (.int .i64 ((k:Int)+1)))=W3 at *;obtain⟨w4,q,R,J⟩:=M.put a9 (P,k+1) (by omega);have hrun':(Instr.mapUpdate 180 (.map (some w)) (.string x.name) (.agg #[P,.int .i64 ((k:Int)+1)])).run prog W3=.ok () w4:=q;have g0:_=some (Value.int .i64 P):=k3.cell 0;have g1:_=some (Value.int .i64 ((k:Int)+1)):=k3.cell 1;have g2:_=some (Value.string x.name):=U.cell 0;have Z:Hid (zB w w4):=y.grown J y.size (fun j hj=>by cases hj;exact zri _);have a1:Hid (qR w4 w.heap.size (yk (its.take (k+1))) (k+1)):=by
     show qR _ _ _ _;rw[ad.out];have e:((f x.name).map Prod.fst).getD k=P:=by
      have h:=ab.out;have h2:=aj.out;cases hf:f x.name with
      |none=>rw[hf] at h;cases h
      |some r=>rw[hf] at h2;simp at h2;simp[h2]
     rw[e];exact R
    clear q R J k3 U M y C V kr X;go_wp2;go_roundw
    case rel=>exact⟨k+1,hlt,by go_num,a1.out,Z.out⟩
    case measure=>simp[intOf];omega
  ·obtain rfl:k=its.length:=by omega
   rw[zrC] at o;have HR:=zH o;have HB:=zH u;clear o u;go_wp2;go_ret;exact⟨rfl,HR.out,HB.out⟩
end
end Go.Proofs.YtoffdbflfikcoaaGreatDoor
namespace Go.Proofs
open Go.Shelf
def Tryz.sortItem_ren:Go.Shelf.Ren:=⟨fun|6=>138|15=>192|14=>191|28=>230|29=>161|20=>222|21=>223|22=>224|23=>225|24=>226|25=>227|26=>228|27=>229|46=>245|47=>246|48=>247|49=>248|50=>249|57=>257|n=>n,fun|22=>121|24=>125|25=>249|3=>3|39=>48|0=>0|53=>271|55=>82|4=>4|46=>330|45=>329|50=>220|5=>5|9=>9|66=>359|70=>363|76=>371|77=>340|n=>n,fun|n=>n⟩
theorem Tryz.sortItem:Go.Proofs.SlLaysF0.n6 prog Tryz.sortItem_ren:={
 mixed:=by kernel_rfl
 f6:=⟨Tryz.f138.name,by decide,zK func138 (by kernel_rfl)⟩
 f14:=⟨Tryz.f191.name,by decide,zK func191 (by kernel_rfl)⟩
 f15:=zK func192 (by kernel_rfl)
 f20:=⟨Tryz.f222.name,by decide,zK func222 (by kernel_rfl)⟩
 f21:=⟨Tryz.f223.name,by decide,zK func223 (by kernel_rfl)⟩
 f22:=⟨Tryz.f224.name,by decide,zK func224 (by kernel_rfl)⟩
 f23:=⟨Tryz.f225.name,by decide,zK func225 (by kernel_rfl)⟩
 f24:=⟨Tryz.f226.name,by decide,zK func226 (by kernel_rfl)⟩
 f25:=⟨Tryz.f227.name,by decide,zK func227 (by kernel_rfl)⟩
 f26:=⟨Tryz.f228.name,by decide,zK func228 (by kernel_rfl)⟩
 f27:=⟨Tryz.f229.name,by decide,zK func229 (by kernel_rfl)⟩
 f28:=zK func230 (by kernel_rfl)
 f29:=zK zvc (by kernel_rfl)
 f46:=⟨Tryz.f245.name,by decide,zK func245 (by kernel_rfl)⟩
 f47:=zK func246 (by kernel_rfl)
 f48:=zK func247 (by kernel_rfl)
 f49:=⟨Tryz.f248.name,by decide,zK func248 (by kernel_rfl)⟩
 f50:=⟨Tryz.f249.name,by decide,zK func249 (by kernel_rfl)⟩
 f57:=⟨Tryz.f257.name,by decide,zK func257 (by kernel_rfl)⟩
 t0:=zsz
 a0:=ztk
 z0:=zs5
 v0:=zsH
 t3:=zrn
 a3:=zsc
 z3:=zr4
 v3:=zrW
 t4:=zrV
 a4:=zsN
 z4:=zsD
 v4:=zr7
 t5:=zso
 a5:=ztj
 z5:=zs4
 v5:=zsG
 t9:=zrf
 a9:=zsY
 z9:=zsK
 v9:=zsx
 t22:=zsQ
 a22:=isAgg121
 z22:=zvn
 v22:=zur
 t25:=underlying249
 a25:=isAgg249
 z25:=sizeOf249
 v25:=zeroValue249
 t39:=zsB
 a39:=ztc
 z39:=zs2
 v39:=zsJ
 t45:=underlying329
 a45:=isAgg329
 z45:=sizeOf329
 v45:=zeroValue329
 t46:=underlying330
 a46:=isAgg330
 z46:=sizeOf330
 v46:=zeroValue330
 t50:=underlying220
 a50:=isAgg220
 z50:=sizeOf220
 v50:=zeroValue220
 t53:=zsF
 a53:=zte
 z53:=zs6
 v53:=zsL
 t55:=ztr
 a55:=zu9
 z55:=zuW
 v55:=ztP
 t66:=underlying359
 a66:=isAgg359
 z66:=sizeOf359
 v66:=zeroValue359
 t70:=underlying363
 a70:=isAgg363
 z70:=sizeOf363
 v70:=zeroValue363
 t76:=underlying371
 a76:=isAgg371
 z76:=sizeOf371
 v76:=zeroValue371
 t77:=underlying340
 a77:=isAgg340
 z77:=sizeOf340
 v77:=zeroValue340 }
def Tryz.ixItem_ren:Go.Shelf.Ren:=⟨fun|6=>92|n=>n,fun|22=>121|24=>125|3=>3|0=>0|4=>4|n=>n,fun|n=>n⟩
theorem Tryz.ixItem:Go.Proofs.SlLaysQ.n6 prog Tryz.ixItem_ren:={
 mixed:=by kernel_rfl
 f6:=⟨Tryz.f92.name,by decide,zK func92 (by kernel_rfl)⟩
 t0:=zsz
 a0:=ztk
 z0:=zs5
 v0:=zsH
 t3:=zrn
 a3:=zsc
 z3:=zr4
 v3:=zrW
 t4:=zrV
 a4:=zsN
 z4:=zsD
 v4:=zr7
 t22:=zsQ
 a22:=isAgg121
 z22:=zvn
 v22:=zur }
def Tryz.hasItem_ren:Go.Shelf.Ren:=⟨fun|7=>137|6=>92|n=>n,fun|22=>121|24=>125|4=>4|0=>0|3=>3|n=>n,fun|n=>n⟩
theorem Tryz.hasItem:Go.Proofs.SlLaysQ.n7 prog Tryz.hasItem_ren:={
 mixed:=by kernel_rfl
 f6:=⟨Tryz.f92.name,by decide,zK func92 (by kernel_rfl)⟩
 f7:=⟨Tryz.f137.name,by decide,zK func137 (by kernel_rfl)⟩
 t0:=zsz
 a0:=ztk
 z0:=zs5
 v0:=zsH
 t3:=zrn
 a3:=zsc
 z3:=zr4
 v3:=zrW
 t4:=zrV
 a4:=zsN
 z4:=zsD
 v4:=zr7
 t22:=zsQ
 a22:=isAgg121
 z22:=zvn
 v22:=zur }
def Tryz.clnLine_ren:Go.Shelf.Ren:=⟨fun|41=>87|n=>n,fun|22=>98|23=>107|4=>4|n=>n,fun|n=>n⟩
theorem Tryz.clnLine:Go.Proofs.SlLaysE0.n41 prog Tryz.clnLine_ren:={
 mixed:=by kernel_rfl
 f41:=⟨Tryz.f87.name,by decide,zK func87 (by kernel_rfl)⟩
 t4:=zrV
 a4:=zsN
 z4:=zsD
 v4:=zr7
 t22:=underlying98
 a22:=isAgg98
 z22:=sizeOf98
 v22:=zeroValue98 }
def Tryz.clnItem_ren:Go.Shelf.Ren:=⟨fun|41=>90|n=>n,fun|22=>121|23=>125|4=>4|n=>n,fun|n=>n⟩
theorem Tryz.clnItem:Go.Proofs.SlLaysE0.n41 prog Tryz.clnItem_ren:={
 mixed:=by kernel_rfl
 f41:=⟨Tryz.f90.name,by decide,zK func90 (by kernel_rfl)⟩
 t4:=zrV
 a4:=zsN
 z4:=zsD
 v4:=zr7
 t22:=zsQ
 a22:=isAgg121
 z22:=zvn
 v22:=zur }
def Tryz.insInt_ren:Go.Shelf.Ren:=⟨fun|21=>49|27=>93|28=>94|35=>147|39=>195|n=>n,fun|22=>47|3=>3|4=>4|0=>0|n=>n,fun|n=>n⟩
theorem Tryz.insInt:Go.Proofs.Lays2.n21 prog Tryz.insInt_ren:={
 mixed:=by kernel_rfl
 f21:=zK func49 (by kernel_rfl)
 f27:=zK func93 (by kernel_rfl)
 f28:=zK func94 (by kernel_rfl)
 f35:=zK func147 (by kernel_rfl)
 f39:=zK func195 (by kernel_rfl)
 t0:=zsz
 a0:=ztk
 z0:=zs5
 v0:=zsH
 t3:=zrn
 a3:=zsc
 z3:=zr4
 v3:=zrW
 t4:=zrV
 a4:=zsN
 z4:=zsD
 v4:=zr7
 t22:=zrq
 a22:=isAgg47
 z22:=sizeOf47
 v22:=zeroValue47
 i3:=by kernel_rfl }
end Go.Proofs
namespace Go.Proofs.YtoffdbflfikcoaaGreatDoor
section
open Go.RowKit Go.Shelf Go.Lib Sv
theorem eq3(a b c a' b' c':Int)(w:World):(Op.equalIn 9999 102 (.agg #[a,b,c]) (.agg #[a',b',c'])).run prog w=.ok (a==a'&&(b==b'&&c==c')) w:=by
 have u3:=zrn;have a3:=zsc;have z3:=zr4;rw[show (9999:Nat)=9998+1 from rfl,Op.equalIn];simp only[zuG,ztw underlying102,zuu];simp only[zsC,Std.Legacy.Range.size,zuH,zsR,Nat.div_one,zuP,ztQ,zu4,zvr]
 by_cases h1:a=a'
 ·by_cases h2:b=b'
  ·by_cases h3:c=c'
   ·subst h1 h2 h3;go_simp
   ·have e3:(c==c')=false:=by simpa using h3
    subst h1 h2;go_simp
  ·have e2:(b==b')=false:=by simpa using h2
   subst h1;go_simp
 ·have e1:(a==a')=false:=by simpa using h1
  go_simp
theorem ze9:EqlAt prog 125 (fun x=>.agg (zQ x).toArray) (fun x y=>decide (x=y)):=by
 refine⟨fun x y w=>?_,GuardAt.agg _ (by kernel_rfl)⟩;have u3:=zrn;have a3:=zsc;have z3:=zr4;have u9:=zrf;have a9:=zsY;have z9:=zsK;have av:=isAgg102;have zv:=sizeOf102;have hS:prog.underlying 125=some (.struct (prog.fieldsOf 125)):=by kernel_rfl
 have hp:prog.stoodInHeld 125=false:=by kernel_rfl
 have he:decide (x=y)=(x.name.toList==y.name.toList&&(x.a==y.a&&(x.b==y.b&&x.c==y.c))):=by
  obtain⟨n,a,b,c⟩:=x;obtain⟨n',a',b',c'⟩:=y;rw[zrB];simp only[zrz,It.mk.injEq,zs1,ztW];constructor
  ·rintro⟨rfl,rfl,rfl,rfl⟩;exact⟨rfl,rfl,rfl,rfl⟩
  ·rintro⟨h,rfl,rfl,rfl⟩;exact⟨Zd h,rfl,rfl,rfl⟩
 show (binOp .eql 125 (.agg (zQ x).toArray) (.agg (zQ y).toArray)).run prog w=.ok (.bool (decide (x=y))) w;rw[he];simp only[zQ];have h3:=eq3 x.a x.b x.c y.a y.b y.c;generalize x.name=n at *;generalize y.name=n' at *;generalize x.a=a at *;generalize x.b=b at *;generalize x.c=c at *;generalize y.a=a' at *;generalize y.b=b' at *;generalize y.c=c' at *;generalize (a==a'&&(b==b'&&c==c'))=q at *;clear he;rw[run_eql_struct,show (10000:Nat)=9999+1 from rfl,run_equalIn_agg w 9999 125 _ _ hS hp];simp only[Program.fieldsOf,underlying125];cases hn:(n.toList==n'.toList)<;>cases q<;>go_simp
end
section
open Go.RowKit Sv
theorem zoY(va:Option Addr)(vl vc:Nat)(a b c:Int)(hx:a<0)(w:World) :
  zR 91 #[.agg #[.slice va vl vc],.agg #[a,b,c]] w (.bool false):=by
 have j:zB w ((w.alloc (.cells #[.slice va vl vc] 105)).alloc (.cells #[a,b,c] 102)):=((zf0 _ w).alloc zN _).alloc (by simp only[zc1];omega) _;have o:=zH j;clear j;go_enter zuj,ztY;go_wp2_with fail;generalize (w.alloc (.cells #[.slice va vl vc] 105)).alloc (.cells #[a,b,c] 102)=W0 at *;go_loop [10] (fun i=>∃k:Nat,k<=0/\i=.int .i64 k) (fun i=>3-(intOf i).toNat)
 case atStart=>exact⟨0,by omega,rfl⟩
 case round =>
  obtain⟨k,hk,rfl⟩:=hrel
  match k,hk with
  |0,_ =>have p:=YL a b c W0;go_wp2;go_ret;exact⟨rfl,o.out⟩
theorem zhJ(va:Option Addr)(vl vc:Nat)(a b c:Int)(hx0:¬a<0)(hx:999<a)(w:World) :
  zR 91 #[.agg #[.slice va vl vc],.agg #[a,b,c]] w (.bool false):=by
 have j:zB w ((w.alloc (.cells #[.slice va vl vc] 105)).alloc (.cells #[a,b,c] 102)):=((zf0 _ w).alloc zN _).alloc (by simp only[zc1];omega) _;have o:=zH j;clear j;go_enter zuj,ztY;go_wp2_with fail;generalize (w.alloc (.cells #[.slice va vl vc] 105)).alloc (.cells #[a,b,c] 102)=W0 at *;go_loop [10] (fun i=>∃k:Nat,k<=0/\i=.int .i64 k) (fun i=>3-(intOf i).toNat)
 case atStart=>exact⟨0,by omega,rfl⟩
 case round =>
  obtain⟨k,hk,rfl⟩:=hrel
  match k,hk with
  |0,_ =>have p:=YL a b c W0;go_wp2;go_ret;exact⟨rfl,o.out⟩
theorem zp9(va:Option Addr)(vl vc:Nat)(a b c:Int)(ha0:¬a<0)(ha1:¬999<a)(hx:b<0)(w:World) :
  zR 91 #[.agg #[.slice va vl vc],.agg #[a,b,c]] w (.bool false):=by
 have j:zB w ((w.alloc (.cells #[.slice va vl vc] 105)).alloc (.cells #[a,b,c] 102)):=((zf0 _ w).alloc zN _).alloc (by simp only[zc1];omega) _;have o:=zH j;clear j;go_enter zuj,ztY;go_wp2_with fail;generalize (w.alloc (.cells #[.slice va vl vc] 105)).alloc (.cells #[a,b,c] 102)=W0 at *;go_loop [10] (fun i=>∃k:Nat,k<=1/\i=.int .i64 k) (fun i=>3-(intOf i).toNat)
 case atStart=>exact⟨0,by omega,rfl⟩
 case round =>
  obtain⟨k,hk,rfl⟩:=hrel
  match k,hk with
  |0,_ =>
   have p:=YL a b c W0;go_wp2;go_round
   case rel=>exact⟨1,by omega,rfl⟩
   case measure=>simp[intOf]
  |1,_ =>have p:=Xt a b c W0;go_wp2;go_ret;exact⟨rfl,o.out⟩
theorem zmx(va:Option Addr)(vl vc:Nat)(a b c:Int)(ha0:¬a<0)(ha1:¬999<a)(hx0:¬b<0)(hx:999<b)(w:World) :
  zR 91 #[.agg #[.slice va vl vc],.agg #[a,b,c]] w (.bool false):=by
 have j:zB w ((w.alloc (.cells #[.slice va vl vc] 105)).alloc (.cells #[a,b,c] 102)):=((zf0 _ w).alloc zN _).alloc (by simp only[zc1];omega) _;have o:=zH j;clear j;go_enter zuj,ztY;go_wp2_with fail;generalize (w.alloc (.cells #[.slice va vl vc] 105)).alloc (.cells #[a,b,c] 102)=W0 at *;go_loop [10] (fun i=>∃k:Nat,k<=1/\i=.int .i64 k) (fun i=>3-(intOf i).toNat)
 case atStart=>exact⟨0,by omega,rfl⟩
 case round =>
  obtain⟨k,hk,rfl⟩:=hrel
  match k,hk with
  |0,_ =>
   have p:=YL a b c W0;go_wp2;go_round
   case rel=>exact⟨1,by omega,rfl⟩
   case measure=>simp[intOf]
  |1,_ =>have p:=Xt a b c W0;go_wp2;go_ret;exact⟨rfl,o.out⟩
theorem zmM(va:Option Addr)(vl vc:Nat)(a b c:Int)(ha0:¬a<0)(ha1:¬999<a)(hb0:¬b<0)(hb1:¬999<b)(hx:c<0)(w:World) :
  zR 91 #[.agg #[.slice va vl vc],.agg #[a,b,c]] w (.bool false):=by
 have j:zB w ((w.alloc (.cells #[.slice va vl vc] 105)).alloc (.cells #[a,b,c] 102)):=((zf0 _ w).alloc zN _).alloc (by simp only[zc1];omega) _;have p:=zH j;clear j;go_enter zuj,ztY;go_wp2_with fail;generalize (w.alloc (.cells #[.slice va vl vc] 105)).alloc (.cells #[a,b,c] 102)=W0 at *;go_loop [10] (fun i=>∃k:Nat,k<=2/\i=.int .i64 k) (fun i=>3-(intOf i).toNat)
 case atStart=>exact⟨0,by omega,rfl⟩
 case round =>
  obtain⟨k,hk,rfl⟩:=hrel
  match k,hk with
  |0,_ =>
   have o:=YL a b c W0;go_wp2;go_round
   case rel=>exact⟨1,by omega,rfl⟩
   case measure=>simp[intOf]
  |1,_ =>
   have o:=Xt a b c W0;go_wp2;go_round
   case rel=>exact⟨2,by omega,rfl⟩
   case measure=>simp[intOf]
  |2,_ =>have o:=zaP a b c W0;go_wp2;go_ret;exact⟨rfl,p.out⟩
theorem zpy(va:Option Addr)(vl vc:Nat)(a b c:Int)(ha0:¬a<0)(ha1:¬999<a)(hb0:¬b<0)(hb1:¬999<b)(hx0:¬c<0)(hx:999<c)(w:World) :
  zR 91 #[.agg #[.slice va vl vc],.agg #[a,b,c]] w (.bool false):=by
 have j:zB w ((w.alloc (.cells #[.slice va vl vc] 105)).alloc (.cells #[a,b,c] 102)):=((zf0 _ w).alloc zN _).alloc (by simp only[zc1];omega) _;have p:=zH j;clear j;go_enter zuj,ztY;go_wp2_with fail;generalize (w.alloc (.cells #[.slice va vl vc] 105)).alloc (.cells #[a,b,c] 102)=W0 at *;go_loop [10] (fun i=>∃k:Nat,k<=2/\i=.int .i64 k) (fun i=>3-(intOf i).toNat)
 case atStart=>exact⟨0,by omega,rfl⟩
 case round =>
  obtain⟨k,hk,rfl⟩:=hrel
  match k,hk with
  |0,_ =>
   have o:=YL a b c W0;go_wp2;go_round
   case rel=>exact⟨1,by omega,rfl⟩
   case measure=>simp[intOf]
  |1,_ =>
   have o:=Xt a b c W0;go_wp2;go_round
   case rel=>exact⟨2,by omega,rfl⟩
   case measure=>simp[intOf]
  |2,_ =>have o:=zaP a b c W0;go_wp2;go_ret;exact⟨rfl,p.out⟩
theorem zqr(va:Option Addr)(vl vc:Nat)(a b c:Int)(h:¬((0<=a/\a<=999)/\(0<=b/\b<=999)/\(0<=c/\c<=999)))(w:World) :
  zR 91 #[.agg #[.slice va vl vc],.agg #[a,b,c]] w (.bool false):=by
 by_cases a0:a<0
 ·exact zoY va vl vc a b c a0 w
 by_cases a1:999<a
 ·exact zhJ va vl vc a b c a0 a1 w
 by_cases b0:b<0
 ·exact zp9 va vl vc a b c a0 a1 b0 w
 by_cases b1:999<b
 ·exact zmx va vl vc a b c a0 a1 b0 b1 w
 by_cases c0:c<0
 ·exact zmM va vl vc a b c a0 a1 b0 b1 c0 w
 by_cases c1:999<c
 ·exact zpy va vl vc a b c a0 a1 b0 b1 c0 c1 w
 exact absurd ⟨⟨by omega,by omega⟩,⟨by omega,by omega⟩,⟨by omega,by omega⟩⟩ h
theorem ZP(s:ByteArray)(w:World)(h:zr s):zC 189 #[s] w fun e w'=>e=.returned true/\w=w':=(zeZ s w).mono fun _ _ ⟨h1,h2⟩=>⟨h1.1 h,h2⟩
theorem Xi(s:ByteArray)(w:World)(h:¬zr s):zC 189 #[s] w fun e w'=>e=.returned false/\w=w':=(zeZ s w).mono fun _ _ ⟨h1,h2⟩=>⟨h1.2 h,h2⟩
open Classical in
theorem zgj(l:List zf)(hl:Rg l)(va:Option Addr)(vc:Nat)(x:It)(w:World)(hv:zk w (.slice va l.length vc) l) :
  zR 91 #[.agg #[.slice va l.length vc],.agg #[x.a,x.b,x.c]] w (.bool (decide (xh l x))):=by
 by_cases h:InV x.a x.b x.c
 ·obtain⟨n,a,b,c⟩:=x;obtain⟨a',rfl⟩:∃a':Nat,a=(a':Int):=⟨a.toNat,by have:=h.1;simp only at this;omega⟩;obtain⟨b',rfl⟩:∃b':Nat,b=(b':Int):=⟨b.toNat,by have:=h.2.1;simp only at this;omega⟩;obtain⟨c',rfl⟩:∃c':Nat,c=(c':Int):=⟨c.toNat,by have:=h.2.2;simp only at this;omega⟩;have h1:=h.1;have h2:=h.2.1;have h3:=h.2.2;simp only at h1 h2 h3;refine(Kz l hl (.slice va l.length vc) a' b' c' (by omega) (by omega) (by omega) w hv).mono fun e w' ⟨B,he,hB,hb⟩=>⟨?_,hb⟩;rw[he];congr 2;rw[zrB,hB,zrz];unfold xh;simp only[zrh];exact⟨fun h'=>⟨h,h'⟩,fun h'=>h'.2⟩
 ·refine(zqr va l.length vc x.a x.b x.c h w).mono fun e w' ⟨he,hb⟩=>⟨?_,hb⟩;rw[he];congr 2;symm;rw[zsm];exact fun h'=>h h'.1
theorem KT(va:Option Addr)(vc:Nat)(a b c:Int)(w:World)(hv:zk w (.slice va zm.length vc) zm) :
  zR 91 #[.agg #[.slice va zm.length vc],.agg #[a,b,c]] w (.bool (decide (InV a b c))):=by
 refine(zgj zm Xp va vc ⟨⟨#[]⟩,a,b,c⟩ w hv).mono fun e w' ⟨he,hb⟩=>⟨?_,hb⟩;rw[he];congr 2;rw[zrB];simp only[zrz];unfold xh;constructor
 ·exact fun h=>h.1
 ·intro h;refine⟨h,zm3.2 ?_⟩;obtain⟨h1,h2,h3⟩:=h;simp only;unfold Z4 ALL;omega
theorem zh5(ra:Option Addr)(rc:Nat)(w:World):zR 190 #[.agg #[.slice ra 0 rc]] w (.bool true):=by
 have hB:Hid (zB w (w.alloc (.cells #[.slice ra 0 rc] 105))):=(zf0 _ w).alloc zN _;go_enter func190,ntmps190;go_wp2;go_ret;exact⟨rfl,hB.out⟩
theorem zkF(ra:Option Addr)(rn rc:Nat)(w:World)(h:0<rn):zR 190 #[.agg #[.slice ra rn rc]] w (.bool false):=by
 have hB:Hid (zB w (w.alloc (.cells #[.slice ra rn rc] 105))):=(zf0 _ w).alloc zN _;have hz:((rn:Int)==0)=false:=by rw[zf2];omega
 go_enter func190,ntmps190;go_wp2;go_ret;exact⟨rfl,hB.out⟩
theorem zgW(a b c a' b' c':Int)(w:World):(Op.equalIn 10000 102 (.agg #[a,b,c]) (.agg #[a',b',c'])).run prog w=.ok (a==a'&&(b==b'&&c==c')) w:=by
 have u3:=zrn;have a3:=zsc;have z3:=zr4;rw[show (10000:Nat)=9999+1 from rfl,Op.equalIn];simp only[zuG,ztw underlying102,zuu];simp only[zsC,Std.Legacy.Range.size,zuH,zsR,Nat.div_one,zuP,ztQ,zu4,zvr]
 by_cases h1:a=a'
 ·by_cases h2:b=b'
  ·by_cases h3:c=c'
   ·subst h1 h2 h3;go_simp
   ·have e3:(c==c')=false:=by simpa using h3
    subst h1 h2;go_simp
  ·have e2:(b==b')=false:=by simpa using h2
   subst h1;go_simp
 ·have e1:(a==a')=false:=by simpa using h1
  go_simp
end
