/- Has of a version that is none: a part below 0 or above 999. -/
import Derived.Test.YtlamemjfaogjmaaGreatDoorCtLineB
import Derived.Test.YtlamemjfaogjmaaGreatDoorCtLineC
import Derived.Test.YtlamemjfaogjmaaGreatDoorCtLineP
import Derived.DeepKeys4
import Derived.Shelf.SlSortCmp.NoneTotal
import Derived.Shelf.SlicesQ.Contains
import Derived.Shelf.SlicesE.Clone
import Derived.Shelf.Spec.SlicesInsertGrow
open Go.Proofs.YtlamemjfaogjmaaGreatDoor
set_option maxHeartbeats 4000000
set_option maxRecDepth 100000
namespace Go.Proofs.YtlamemjfaogjmaaGreatDoor
open Go.RowKit Sv
theorem zaZ(s:ByteArray)(w:World)(hs:s.size<=100000)(hw:Lw w):zC 34 #[.string s] w (ZL w (lineF s)):=by
 have h4:=kindF_le (cutF s 32).1;have h:kindF (cutF s 32).1=0\/kindF (cutF s 32).1=1\/kindF (cutF s 32).1=2\/kindF (cutF s 32).1=3\/kindF (cutF s 32).1=4:=by omega
 unfold lineF;rcases h with h|h|h|h|h
 ·rw[if_pos h];exact zh2 s w hs hw h
 ·rw[h,if_neg (by omega),if_neg (by omega)];exact zbP s w hs hw h _ rfl
 ·rw[h,if_neg (by omega),if_neg (by omega)];exact Jj 2 (Or.inl rfl) s w hs hw h _ rfl
 ·rw[h,if_neg (by omega),if_neg (by omega)];exact Jj 3 (Or.inr rfl) s w hs hw h _ rfl
 ·rw[h,if_neg (by omega),if_pos rfl];exact zcR s w hs hw h
end Go.Proofs.YtlamemjfaogjmaaGreatDoor
namespace Go.Proofs.YtlamemjfaogjmaaGreatDoor
open Go.RowKit Go.Maps
structure Rep{α β:Type}(ok:α->Prop)(kl:α->Lit)(el:β->DataW Unit)(D:DataW Unit)(L:List (α × β)):Prop where
 tidy:Tidy D
 size:Maps.size D=L.length
 oks:∀p∈L,ok p.1
 has:∀a,ok a->(Maps.has D (kl a)=true↔a∈L.map Prod.fst)
 all:∀x,Maps.has D x=true->∃p∈L,x=kl p.1
 at':∀p∈L,∀z,D.atKey (kl p.1) z=el p.2
 nodup:(L.map Prod.fst).Nodup
section
variable {α β:Type} {ok:α->Prop} {kl:α->Lit} {el:β->DataW Unit} {D:DataW Unit} {L:List (α × β)}
theorem Rep.empty:Rep ok kl el (.map []) ([]:List (α × β)) :=
 ⟨tidy_empty,rfl,fun p h=>(by cases h),fun a _=>(by simp[Maps.has]),fun x h=>(by simp[Maps.has] at h),fun p h=>(by cases h),List.nodup_nil⟩
theorem Rep.not(h:Rep ok kl el D L){a:α}(ha:ok a)(hn:a∉L.map Prod.fst):Maps.has D (kl a)=false:=by
 cases e:Maps.has D (kl a) with
 |false=>rfl
 |true=>exact absurd ((h.has a ha).1 e) hn
theorem Rep.put(h:Rep ok kl el D L)(inj:∀a b,ok a->ok b->kl a=kl b->a=b)(key:∀a,WideAt.IsKeyLit (kl a)){a:α}(ha:ok a)(hn:a∉L.map Prod.fst)(b:β) :
  Rep ok kl el (D.put (kl a) (el b)) (L++[(a,b)]):=by
 have hne:∀c,ok c->c≠a->kl c≠kl a:=fun c hc hca e=>hca (inj c a hc ha e);refine⟨h.tidy.put (key a) _,?_,?_,?_,?_,?_,?_⟩
 ·rw[size_put h.tidy,h.not ha hn];simp[h.size]
 ·intro p hp;rcases List.mem_append.1 hp with hp|hp
  ·exact h.oks p hp
  ·rw[List.mem_singleton] at hp;subst hp;exact ha
 ·intro c hc;rw[List.map_append,List.mem_append]
  by_cases e:c=a
  ·subst e;simp[has_put_same h.tidy.isMap (key c)]
  ·rw[has_put_other (hne c hc e)];simp[h.has c hc,e]
 ·intro x hx
  by_cases e:x=kl a
  ·exact⟨(a,b),by simp,e⟩
  ·rw[has_put_other e] at hx;obtain⟨p,hp,hx⟩:=h.all x hx;exact⟨p,by simp[hp],hx⟩
 ·intro p hp z;rcases List.mem_append.1 hp with hp|hp
  ·rw[atKey_put_other (hne p.1 (h.oks p hp) (fun e=>hn (e▸List.mem_map_of_mem hp)))];exact h.at' p hp z
  ·rw[List.mem_singleton] at hp;subst hp;exact atKey_put_same h.tidy.isMap (key a) _ _
 ·rw[List.map_append,List.nodup_append];refine⟨h.nodup,by simp,fun x hx y hy=>?_⟩;simp at hy;subst hy;exact fun e=>hn (e▸hx)
end
theorem QJ{P:Program}{k:TypeId}{R:Value->Option (DataW Unit × List MemPlace)}{w:World}{b n:Nat}{D:DataW Unit}(h:w.ownsMap P k R b n D):w.ownsMap P k R b (Maps.size D) D:=by
 obtain⟨es,clock,h1,h2,h3,rfl⟩:=h;exact⟨es,clock,h1,h2,by simp[Maps.size,length_sorted],rfl⟩
theorem QZ{P:Program}{k:TypeId}{R:Value->Option (DataW Unit × List MemPlace)}{w w':World}{bm n:Nat}{D:DataW Unit}(h:w.ownsMap P k R bm n D)(hb:zB w w'):w'.ownsMap P k R bm n D:=by
 have hlt:=h.lt;obtain⟨es,clock,h1,h2⟩:=h;exact⟨es,clock,(hb.block bm hlt).trans h1,h2⟩
end Go.Proofs.YtlamemjfaogjmaaGreatDoor
namespace Go.Proofs.YtlamemjfaogjmaaGreatDoor
open Go.RowKit Go.Maps
theorem ZM:Keyed Tryz.prog 9:=string_keyed Tryz.underlying9
theorem Qo{s:ByteArray}(h:s.size<=100000):keyOf Tryz.prog 9 (.string s)=some (.string s.data.toList):=WideMaps.keyOf_string_mk Tryz.underlying9 (by unfold maxLen;omega)
def xZ(s:ByteArray):Lit:=.string s.data.toList
theorem Yz(s:ByteArray):WideAt.IsKeyLit (xZ s):=trivial
theorem Jn{a b:ByteArray}(h:xZ a=xZ b):a=b:=by
 unfold xZ at h;injection h with h;exact ByteArray.ext (Array.toList_inj.1 h)
structure yX{β:Type}(el:β->DataW Unit)(D:DataW Unit)(f:ByteArray->Option β)(n:Nat):Prop where
 tidy:Tidy D
 size:Maps.size D=n
 has:∀a,Maps.has D (xZ a)=(f a).isSome
 at':∀a b,f a=some b->∀z,D.atKey (xZ a) z=el b
section
variable {β:Type} {el:β->DataW Unit} {D:DataW Unit} {f:ByteArray->Option β} {n:Nat}
theorem yX.empty:yX el (.map []) (fun _=>(none:Option β)) 0:=⟨tidy_empty,rfl,fun a=>by simp[Maps.has],fun a b h=>by cases h⟩
theorem yX.put(h:yX el D f n)(a:ByteArray)(b:β):yX el (D.put (xZ a) (el b)) (fun c=>if c=a then some b else f c) (if (f a).isSome then n else n+1):=by
 refine⟨h.tidy.put (Yz a) _,?_,fun c=>?_,fun c d hd z=>?_⟩
 ·rw[size_put h.tidy,h.has,h.size]
 ·by_cases e:c=a
  ·subst e;rw[has_put_same h.tidy.isMap (Yz c)];simp
  ·rw[has_put_other (fun e'=>e (Jn e')),h.has,if_neg e]
 ·by_cases e:c=a
  ·subst e;rw[if_pos rfl] at hd;cases hd;exact atKey_put_same h.tidy.isMap (Yz c) _ _
  ·rw[if_neg e] at hd;rw[atKey_put_other (fun e'=>e (Jn e'))];exact h.at' c d hd z
end
def x9(r:Nat × Nat):DataW Unit:=.agg [.lit (.int .i64 r.1),.lit (.int .i64 r.2)]
def xX(r:Nat × Nat):Value:=.agg #[.int .i64 r.1,.int .i64 r.2]
def JM:List Value->Option (DataW Unit × List MemPlace)
 |[.int .i64 a,.int .i64 b]=>some (.agg [.lit (.int .i64 a),.lit (.int .i64 b)],[])
 |_=>none
def ZX:Value->Option (DataW Unit × List MemPlace)
 |.agg cs=>JM cs.toList
 |_=>none
theorem YS(r:Nat × Nat):ZX (xX r)=some (x9 r,[]):=rfl
theorem KO{v:Value}{r:Nat × Nat}{ps:List MemPlace}(h:ZX v=some (x9 r,ps)):v=xX r:=by
 unfold ZX at h;split at h
 ·rename_i cs;unfold JM at h;split at h
  ·rename_i a b e;simp only[Option.some.injEq,Prod.mk.injEq,x9,DataW.agg.injEq,List.cons.injEq,DataW.lit.injEq,Lit.int.injEq,true_and,and_true] at h;obtain⟨⟨h1,h2⟩,-⟩:=h;rw[show cs=#[.int .i64 a,.int .i64 b] from Array.toList_inj.1 e,h1,h2];rfl
  ·cases h
 ·cases h
theorem Ks(w:World):(zeroValue 193).run Tryz.prog w=.ok (.agg #[.int .i64 0,.int .i64 0]) w:=by kernel_rfl
def qb(w:World)(bm:Nat)(f:ByteArray->Option (Nat × Nat))(N:Nat):Prop:=∃D n,w.ownsMap Tryz.prog 9 ZX bm n D/\yX x9 D f n/\n<=N
theorem qb.below{B:Nat}{w w':World}{bm N:Nat}{f:ByteArray->Option (Nat × Nat)}(h:qb w bm f N)(hb:Below B w w')(hB:w.heap.size<=B):qb w' bm f N:=by
 obtain⟨D,n,h1,h2,h3⟩:=h;exact⟨D,n,QZ h1 (hb.mono hB),h2,h3⟩
theorem qb.lt{w:World}{bm N:Nat}{f:ByteArray->Option (Nat × Nat)}(h:qb w bm f N):bm<w.heap.size:=by obtain⟨D,n,h1,_⟩:=h;exact h1.lt
theorem qb.block{w w':World}{bm N:Nat}{f:ByteArray->Option (Nat × Nat)}(h:qb w bm f N)(hb:w'.heap[bm]?=w.heap[bm]?):qb w' bm f N:=by
 obtain⟨D,n,⟨es,clock,h1,h2⟩,hR⟩:=h;exact⟨D,n,⟨es,clock,hb.trans h1,h2⟩,hR⟩
theorem qb.made(w:World):qb (w.alloc (.map #[] 0)) w.heap.size (fun _=>none) 0:=⟨.map [],0,World.ownsMap_made w _ _ _,yX.empty,Nat.le_refl _⟩
theorem qb.ne{w:World}{bm N b:Nat}{f:ByteArray->Option (Nat × Nat)}{t:TypeId}{cs:Array Value}(h:qb w bm f N)(hb:Blk w b t cs):bm≠b:=by
 rintro rfl;obtain⟨D,n,⟨es,clock,h1,_⟩,_⟩:=h;have:=h1.symm.trans hb;cases this
theorem qb.look{w:World}{bm N:Nat}{f:ByteArray->Option (Nat × Nat)}(h:qb w bm f N){s:ByteArray}(hs:s.size<=100000) :
  (Instr.lookup 138 (.map (some bm)) (.string s) true).run Tryz.prog w=.ok (.tuple #[xX ((f s).getD (0,0)),.bool (f s).isSome]) w/\(Instr.lookup 138 (.map (some bm)) (.string s) false).run Tryz.prog w=.ok (xX ((f s).getD (0,0))) w:=by
 obtain⟨D,n,hD,hR,-⟩:=h;have key:∀v ps,ZX v=some (D.atKey (.string s.data.toList) (x9 (0,0)),ps)->v=xX ((f s).getD (0,0)):=fun v ps hv=>by
  cases hf:f s with
  |none =>have hh:=hR.has s;rw[hf] at hh;rw[atKey_of_not_has (show Maps.has D (.string s.data.toList)=false from hh)] at hv;exact KO hv
  |some r =>rw[show D.atKey (.string s.data.toList) (x9 (0,0))=x9 r from hR.at' s r hf _] at hv;exact KO hv
 constructor
 ·obtain⟨v,ps,hrun,hv⟩:=hD.look_ok ZM Tryz.underlying138 (Ks w) (YS (0,0)) (Qo hs);rw[key v ps hv,show Maps.has D (.string s.data.toList)=(f s).isSome from hR.has s] at hrun;exact hrun
 ·obtain⟨v,ps,hrun,hv⟩:=hD.lookup ZM Tryz.underlying138 (Ks w) (YS (0,0)) (Qo hs);rw[key v ps hv] at hrun;exact hrun
theorem qb.put{w:World}{bm N:Nat}{f:ByteArray->Option (Nat × Nat)}(h:qb w bm f N){s:ByteArray}(hs:s.size<=100000)(r:Nat × Nat)(hN:N<1000000) :
  ∃w',(Instr.mapUpdate 138 (.map (some bm)) (.string s) (xX r)).run Tryz.prog w=.ok () w'/\qb w' bm (fun c=>if c=s then some r else f c) (N+1)/\w.grownBy w' (some bm):=by
 obtain⟨D,n,hD,hR,hn⟩:=h;obtain⟨w',hrun,g1,k1⟩:=hD.update ZM Tryz.underlying138 (by unfold maxLen;omega) (Qo hs) (YS r);have hR1:=hR.put s r;exact⟨w',hrun,⟨_,_,hR1.size▸QJ g1,hR1,by split<;>omega⟩,k1⟩
theorem Jb(l:List It)(x:It):qD (l++[x])=if x.name∈l.map It.name then qD l else qD l+1:=by
 unfold qD;rw[List.map_append,List.eraseDups_append,List.length_append,List.map_cons,List.map_nil]
 by_cases h:x.name∈l.map It.name
 ·rw[if_pos h,show [x.name].removeAll (l.map It.name)=[] by simp only[List.removeAll,List.filter_cons,List.filter_nil,List.elem_eq_mem,h,decide_true,Bool.not_true,Bool.false_eq_true,if_false]];rfl
 ·rw[if_neg h,show [x.name].removeAll (l.map It.name)=[x.name] by simp only[List.removeAll,List.filter_cons,List.filter_nil,List.elem_eq_mem,h,decide_false,Bool.not_false,if_true]];rfl
theorem Jc(l:List It):qD l<=l.length:=by
 unfold qD;have:∀m:List ByteArray,m.eraseDups.length<=m.length:=by
  intro m
  induction h:m.length using Nat.strongRecOn generalizing m with
  |_ n ih =>
   cases m with
   |nil=>simp
   |cons a m =>rw[List.eraseDups_cons];have h1:=List.length_filter_le (fun b=>!(b==a)) m;have:=ih (m.filter fun b=>!(b==a)).length (by rw[<-h];simp only[List.length_cons];omega) _ rfl;simp only[List.length_cons] at h ⊢;omega
 simpa using this (l.map It.name)
def yO(l:List It)(c:ByteArray):Option Unit:=if c∈l.map It.name then some () else none
def qX(w:World)(bm:Nat)(l:List It):Prop:=∃D,w.ownsMap Tryz.prog 9 unitElem bm (qD l) D/\yX (fun _:Unit=>.agg []) D (yO l) (qD l)
theorem qX.made(w:World):qX (w.alloc (.map #[] 0)) w.heap.size []:=⟨.map [],World.ownsMap_made w _ _ _,yX.empty⟩
theorem qX.below{B:Nat}{w w':World}{bm:Nat}{l:List It}(h:qX w bm l)(hb:Below B w w')(hB:w.heap.size<=B):qX w' bm l:=by
 obtain⟨D,h1,h2⟩:=h;exact⟨D,QZ h1 (hb.mono hB),h2⟩
theorem qX.lt{w:World}{bm:Nat}{l:List It}(h:qX w bm l):bm<w.heap.size:=by obtain⟨D,h1,_⟩:=h;exact h1.lt
theorem qX.block{w w':World}{bm:Nat}{l:List It}(h:qX w bm l)(hb:w'.heap[bm]?=w.heap[bm]?):qX w' bm l:=by
 obtain⟨D,⟨es,clock,h1,h2⟩,hR⟩:=h;exact⟨D,⟨es,clock,hb.trans h1,h2⟩,hR⟩
theorem qX.put{w:World}{bm:Nat}{l:List It}(h:qX w bm l)(hl:l.length<1000000){x:It}(hs:x.name.size<=100000) :
  ∃w',(Instr.mapUpdate 185 (.map (some bm)) (.string x.name) (.agg #[])).run Tryz.prog w=.ok () w'/\qX w' bm (l++[x])/\w.grownBy w' (some bm):=by
 obtain⟨D,hD,hR⟩:=h;have hle:=Jc l;obtain⟨w',hrun,g1,k1⟩:=hD.update ZM Tryz.underlying185 (by unfold maxLen;omega) (Qo hs) unitElem_mk;have hR1:=hR.put x.name ();have e1:(fun c=>if c=x.name then some () else yO l c)=yO (l++[x]):=by
  funext c;unfold yO
  by_cases h:c=x.name
  ·simp[h]
  ·simp[h]
 have e2:(if (yO l x.name).isSome then qD l else qD l+1)=qD (l++[x]):=by
  rw[Jb];unfold yO
  by_cases h:x.name∈l.map It.name
  ·rw[if_pos h,if_pos h];rfl
  ·rw[if_neg h,if_neg h];rfl
 rw[e1,e2] at hR1;exact⟨w',hrun,⟨_,hR1.size▸QJ g1,hR1⟩,k1⟩
theorem qX.len{w:World}{bm:Nat}{l:List It}(h:qX w bm l)(ty:TypeId):(Builtin.len_ #[185] ty #[.map (some bm)]).run Tryz.prog w=.ok (.int .i64 (qD l)) w:=by
 obtain⟨D,hD,hR⟩:=h;rw[hD.len Tryz.underlying185 ty,hR.size]
end Go.Proofs.YtlamemjfaogjmaaGreatDoor
namespace Go.Proofs.YtlamemjfaogjmaaGreatDoor
open Go.RowKit Go.Deep Go.Maps Sv
theorem zfG{l:List It}{k:Nat}(h:k<l.length):l.take (k+1)=l.take k++[l.getD k default]:=by
 rw[List.take_succ_eq_append_getElem h,List.getD_eq_getElem?_getD,List.getElem?_eq_getElem h];rfl
theorem zeA(its:List It)(v:Value)(w:World)(h:zS w v its)(hl:its.length<=100000)(hn:∀x∈its,x.name.size<=100000) :
  zC 65 #[v] w fun e w'=>e=.returned (.map (some w.heap.size))/\qb w' w.heap.size (qv its) its.length/\zB w w':=by
 have HI:=zH h;have HNS:=zH hn;obtain⟨va,vc,rfl,-⟩:=h.form;clear h hn;have hr0:=qb.made w;have HR0:Hid (qb (w.alloc (.map #[] 0)) w.heap.size (qv (its.take 0)) 0):=hr0;have HB0:Hid (zB w (w.alloc (.map #[] 0))):=(Below.refl _ w).alloc zN _;clear hr0;have hmm:=@run_makeMap Tryz.prog;go_enter Tryz.func65,Tryz.ntmps65;go_wp2_with fail;clear hmm;go_loopw [11] (fun iV wr=>∃k:Nat,k<=its.length/\iV=.int .i64 k/\qb wr w.heap.size (qv (its.take k)) k/\zB w wr) (fun iV _=>its.length-(intOf iV).toNat)
 case atStart=>exact⟨0,Nat.zero_le _,rfl,HR0.out,HB0.out⟩
 case round =>
  obtain⟨k,hk,rfl,hrows,hbr⟩:=hrel;clear HR0 HB0
  by_cases hlt:k<its.length
  ·obtain⟨g,cap',e,hg,c0,c1,c2,c3⟩:=(show zS wr _ its from HI.out.below hbr zN).at k hlt;simp at e;obtain⟨rfl,rfl⟩:=e;have hsn:qv (its.take (k+1))=fun c=>if c=(its.getD k default).name then some ((((qv (its.take k) (its.getD k default).name).map Prod.fst).getD k,k+1)) else qv (its.take k) c:=by
    funext c;rw[zfG hlt,Y8,List.length_take,Nat.min_eq_left hk]
    by_cases hc:(its.getD k default).name=c
    ·subst hc;simp
    ·rw[if_neg hc,if_neg (fun e=>hc e.symm)]
   have hxs:(its.getD k default).name.size<=100000:=HNS.out _ (zbp hlt);have HSN:=zH hsn;clear hsn;generalize its.getD k default=x at *;generalize qv (its.take k)=f at *;have kx:=Blk.new wr 145 #[.string x.name,.int .i64 x.a,.int .i64 x.b,.int .i64 x.c];have hbx:zB wr (wr.alloc (.cells #[.string x.name,.int .i64 x.a,.int .i64 x.b,.int .i64 x.c] 145)):=zF.alloc zN _;have hr1:=hrows.below hbx zN;have hb1:zB w (wr.alloc (.cells #[.string x.name,.int .i64 x.a,.int .i64 x.b,.int .i64 x.c] 145)):=zT hbr hbx;have HR1:=zH hr1;have HB1:=zH hb1;clear hrows hbr hbx hr1 hb1;go_upto_region 5 with fail;clear c0 c1 c2 c3;generalize wr.alloc (.cells #[.string x.name,.int .i64 x.a,.int .i64 x.b,.int .i64 x.c] 145)=W1 at *;generalize wr.heap.size=bx at *;obtain⟨⟨P,Q⟩,hpq⟩:∃pq:Nat × Nat,(f x.name).getD (0,0)=pq:=⟨_,rfl⟩;obtain⟨b,hb⟩:∃b,(f x.name).isSome=b:=⟨_,rfl⟩;have hlook:(Instr.lookup 138 (.map (some w.heap.size)) (.string x.name) true).run Tryz.prog W1=.ok (.tuple #[.agg #[.int .i64 P,.int .i64 Q],.bool b]) W1:=by have h:=(HR1.out.look hxs).1;rw[hpq,hb] at h;exact h
   have d0:_=some (Value.string x.name):=kx.cell 0;have kr:=Blk.new W1 193 #[.int .i64 P,.int .i64 Q];have hbr:zB W1 (W1.alloc (.cells #[.int .i64 P,.int .i64 Q] 193)):=zF.alloc zN _;have kx2:=kx.below hbr kx.lt;have HR2:=zH (HR1.out.below hbr zN);have HB2:Hid (zB w (W1.alloc (.cells #[.int .i64 P,.int .i64 Q] 193))):=zT HB1.out hbr;have HPQ:=zH hpq;have HBB:=zH hb;have hxr:bx≠W1.heap.size:=Nat.ne_of_lt kx.lt;have hbW:w.heap.size<=W1.heap.size:=HB1.out.size;clear hpq hb hbr HR1 HB1 kx;go_upto_region 6 with fail;clear hlook d0;generalize W1.alloc (.cells #[.int .i64 P,.int .i64 Q] 193)=W2 at *;generalize W1.heap.size=br at *;have hmr:=HR2.out.ne kr;cases b with
   |false =>
    have e0:_=some (Value.int .i64 P):=kr.cell 0;have e1:_=some (Value.int .i64 Q):=kr.cell 1;have ef0:=kr.frozen 0;have ef1:=kr.frozen 1;have k3:Blk ((W2.setCell ⟨br,0,none⟩ (.int .i64 k)).setCell ⟨br,1,none⟩ (.int .i64 ((k:Int)+1))) br 193 #[.int .i64 k,.int .i64 ((k:Int)+1)]:=(kr.set (i:=0)).set (i:=1);have kx3:Blk ((W2.setCell ⟨br,0,none⟩ (.int .i64 k)).setCell ⟨br,1,none⟩ (.int .i64 ((k:Int)+1))) bx 145 #[.string x.name,.int .i64 x.a,.int .i64 x.b,.int .i64 x.c]:=(kx2.other hxr).other hxr;have hr3:qb ((W2.setCell ⟨br,0,none⟩ (.int .i64 k)).setCell ⟨br,1,none⟩ (.int .i64 ((k:Int)+1))) w.heap.size f k:=HR2.out.block (by rw[Below.heap_setCell _ _ _ _ hmr,Below.heap_setCell _ _ _ _ hmr]);have hb3:zB w ((W2.setCell ⟨br,0,none⟩ (.int .i64 k)).setCell ⟨br,1,none⟩ (.int .i64 ((k:Int)+1))):=(HB2.out.setCell (p:=⟨br,0,none⟩) hbW _).setCell (p:=⟨br,1,none⟩) hbW _;go_upto_region 9 with fail;clear e0 e1 ef0 ef1;generalize ((W2.setCell ⟨br,0,none⟩ (.int .i64 k)).setCell ⟨br,1,none⟩ (.int .i64 ((k:Int)+1)))=W3 at *;obtain⟨w4,hrun,hr4,hg4⟩:=hr3.put hxs (k,k+1) (by omega);have hrun':(Instr.mapUpdate 138 (.map (some w.heap.size)) (.string x.name) (.agg #[.int .i64 k,.int .i64 ((k:Int)+1)])).run Tryz.prog W3=.ok () w4:=hrun;have g0:_=some (Value.int .i64 k):=k3.cell 0;have g1:_=some (Value.int .i64 ((k:Int)+1)):=k3.cell 1;have g2:_=some (Value.string x.name):=kx3.cell 0;have HB4:Hid (zB w w4):=hb3.grown hg4 hb3.size (fun j hj=>by cases hj;exact Nat.le_refl _);have HR4:Hid (qb w4 w.heap.size (qv (its.take (k+1))) (k+1)):=by
     show qb _ _ _ _;rw[HSN.out];have e:((f x.name).map Prod.fst).getD k=k:=by
      have h:=HBB.out;cases hf:f x.name with
      |none=>rfl
      |some r=>rw[hf] at h;cases h
     rw[e];exact hr4
    clear hrun hr4 hg4 k3 kx3 hr3 hb3 HR2 HB2 kr kx2;go_wp2;go_roundw
    case rel=>exact⟨k+1,hlt,by go_num,HR4.out,HB4.out⟩
    case measure=>simp[intOf];omega
   |true =>
    have e0:_=some (Value.int .i64 P):=kr.cell 0;have e1:_=some (Value.int .i64 Q):=kr.cell 1;have ef0:=kr.frozen 0;have ef1:=kr.frozen 1;have k3:Blk (W2.setCell ⟨br,1,none⟩ (.int .i64 ((k:Int)+1))) br 193 #[.int .i64 P,.int .i64 ((k:Int)+1)]:=kr.set (i:=1);have kx3:Blk (W2.setCell ⟨br,1,none⟩ (.int .i64 ((k:Int)+1))) bx 145 #[.string x.name,.int .i64 x.a,.int .i64 x.b,.int .i64 x.c]:=kx2.other hxr;have hr3:qb (W2.setCell ⟨br,1,none⟩ (.int .i64 ((k:Int)+1))) w.heap.size f k:=HR2.out.block (by rw[Below.heap_setCell _ _ _ _ hmr]);have hb3:zB w (W2.setCell ⟨br,1,none⟩ (.int .i64 ((k:Int)+1))):=HB2.out.setCell (p:=⟨br,1,none⟩) hbW _;go_upto_region 9 with fail;clear e0 e1 ef0 ef1;generalize (W2.setCell ⟨br,1,none⟩ (.int .i64 ((k:Int)+1)))=W3 at *;obtain⟨w4,hrun,hr4,hg4⟩:=hr3.put hxs (P,k+1) (by omega);have hrun':(Instr.mapUpdate 138 (.map (some w.heap.size)) (.string x.name) (.agg #[.int .i64 P,.int .i64 ((k:Int)+1)])).run Tryz.prog W3=.ok () w4:=hrun;have g0:_=some (Value.int .i64 P):=k3.cell 0;have g1:_=some (Value.int .i64 ((k:Int)+1)):=k3.cell 1;have g2:_=some (Value.string x.name):=kx3.cell 0;have HB4:Hid (zB w w4):=hb3.grown hg4 hb3.size (fun j hj=>by cases hj;exact Nat.le_refl _);have HR4:Hid (qb w4 w.heap.size (qv (its.take (k+1))) (k+1)):=by
     show qb _ _ _ _;rw[HSN.out];have e:((f x.name).map Prod.fst).getD k=P:=by
      have h:=HBB.out;have h2:=HPQ.out;cases hf:f x.name with
      |none=>rw[hf] at h;cases h
      |some r=>rw[hf] at h2;simp at h2;simp[h2]
     rw[e];exact hr4
    clear hrun hr4 hg4 k3 kx3 hr3 hb3 HR2 HB2 kr kx2;go_wp2;go_roundw
    case rel=>exact⟨k+1,hlt,by go_num,HR4.out,HB4.out⟩
    case measure=>simp[intOf];omega
  ·obtain rfl:k=its.length:=by omega
   rw[List.take_length] at hrows;have HR:=zH hrows;have HB:=zH hbr;clear hrows hbr;go_wp2;go_ret;exact⟨rfl,HR.out,HB.out⟩
end Go.Proofs.YtlamemjfaogjmaaGreatDoor
namespace Go.Proofs
open Go.Shelf
def Tryz.sortItem_ren:Go.Shelf.Ren:=⟨fun|6=>97|15=>47|14=>126|28=>74|29=>75|20=>146|21=>147|22=>148|23=>149|24=>150|25=>151|26=>152|27=>153|46=>170|47=>171|48=>172|49=>173|50=>174|57=>186|n=>n,fun|22=>105|24=>145|25=>191|3=>3|39=>22|0=>0|53=>151|55=>153|4=>4|46=>236|45=>235|50=>160|5=>5|9=>9|66=>264|70=>267|76=>278|77=>279|n=>n,fun|n=>n⟩
theorem Tryz.sortItem:Go.Proofs.SlLaysF0.n6 Tryz.prog Tryz.sortItem_ren:={
 mixed:=by kernel_rfl
 f6:=⟨Tryz.f97.name,by decide,zK Tryz.func97 (by kernel_rfl)⟩
 f14:=⟨Tryz.f126.name,by decide,zK Tryz.func126 (by kernel_rfl)⟩
 f15:=zK Tryz.func47 (by kernel_rfl)
 f20:=⟨Tryz.f146.name,by decide,zK Tryz.func146 (by kernel_rfl)⟩
 f21:=⟨Tryz.f147.name,by decide,zK Tryz.func147 (by kernel_rfl)⟩
 f22:=⟨Tryz.f148.name,by decide,zK Tryz.func148 (by kernel_rfl)⟩
 f23:=⟨Tryz.f149.name,by decide,zK Tryz.func149 (by kernel_rfl)⟩
 f24:=⟨Tryz.f150.name,by decide,zK Tryz.func150 (by kernel_rfl)⟩
 f25:=⟨Tryz.f151.name,by decide,zK Tryz.func151 (by kernel_rfl)⟩
 f26:=⟨Tryz.f152.name,by decide,zK Tryz.func152 (by kernel_rfl)⟩
 f27:=⟨Tryz.f153.name,by decide,zK Tryz.func153 (by kernel_rfl)⟩
 f28:=zK Tryz.func74 (by kernel_rfl)
 f29:=zK Tryz.func75 (by kernel_rfl)
 f46:=⟨Tryz.f170.name,by decide,zK Tryz.func170 (by kernel_rfl)⟩
 f47:=zK Tryz.func171 (by kernel_rfl)
 f48:=zK Tryz.func172 (by kernel_rfl)
 f49:=⟨Tryz.f173.name,by decide,zK Tryz.func173 (by kernel_rfl)⟩
 f50:=⟨Tryz.f174.name,by decide,zK Tryz.func174 (by kernel_rfl)⟩
 f57:=⟨Tryz.f186.name,by decide,zK Tryz.func186 (by kernel_rfl)⟩
 t0:=Tryz.underlying0
 a0:=Tryz.isAgg0
 z0:=Tryz.sizeOf0
 v0:=Tryz.zeroValue0
 t3:=Tryz.underlying3
 a3:=Tryz.isAgg3
 z3:=Tryz.sizeOf3
 v3:=Tryz.zeroValue3
 t4:=Tryz.underlying4
 a4:=Tryz.isAgg4
 z4:=Tryz.sizeOf4
 v4:=Tryz.zeroValue4
 t5:=Tryz.underlying5
 a5:=Tryz.isAgg5
 z5:=Tryz.sizeOf5
 v5:=Tryz.zeroValue5
 t9:=Tryz.underlying9
 a9:=Tryz.isAgg9
 z9:=Tryz.sizeOf9
 v9:=Tryz.zeroValue9
 t22:=Tryz.underlying105
 a22:=Tryz.isAgg105
 z22:=Tryz.sizeOf105
 v22:=Tryz.zeroValue105
 t25:=Tryz.underlying191
 a25:=Tryz.isAgg191
 z25:=Tryz.sizeOf191
 v25:=Tryz.zeroValue191
 t39:=Tryz.underlying22
 a39:=Tryz.isAgg22
 z39:=Tryz.sizeOf22
 v39:=Tryz.zeroValue22
 t45:=Tryz.underlying235
 a45:=Tryz.isAgg235
 z45:=Tryz.sizeOf235
 v45:=Tryz.zeroValue235
 t46:=Tryz.underlying236
 a46:=Tryz.isAgg236
 z46:=Tryz.sizeOf236
 v46:=Tryz.zeroValue236
 t50:=Tryz.underlying160
 a50:=Tryz.isAgg160
 z50:=Tryz.sizeOf160
 v50:=Tryz.zeroValue160
 t53:=Tryz.underlying151
 a53:=Tryz.isAgg151
 z53:=Tryz.sizeOf151
 v53:=Tryz.zeroValue151
 t55:=Tryz.underlying153
 a55:=Tryz.isAgg153
 z55:=Tryz.sizeOf153
 v55:=Tryz.zeroValue153
 t66:=Tryz.underlying264
 a66:=Tryz.isAgg264
 z66:=Tryz.sizeOf264
 v66:=Tryz.zeroValue264
 t70:=Tryz.underlying267
 a70:=Tryz.isAgg267
 z70:=Tryz.sizeOf267
 v70:=Tryz.zeroValue267
 t76:=Tryz.underlying278
 a76:=Tryz.isAgg278
 z76:=Tryz.sizeOf278
 v76:=Tryz.zeroValue278
 t77:=Tryz.underlying279
 a77:=Tryz.isAgg279
 z77:=Tryz.sizeOf279
 v77:=Tryz.zeroValue279 }
def Tryz.ixItem_ren:Go.Shelf.Ren:=⟨fun|6=>72|n=>n,fun|22=>105|24=>145|3=>3|0=>0|4=>4|n=>n,fun|n=>n⟩
theorem Tryz.ixItem:Go.Proofs.SlLaysQ.n6 Tryz.prog Tryz.ixItem_ren:={
 mixed:=by kernel_rfl
 f6:=⟨Tryz.f72.name,by decide,zK Tryz.func72 (by kernel_rfl)⟩
 t0:=Tryz.underlying0
 a0:=Tryz.isAgg0
 z0:=Tryz.sizeOf0
 v0:=Tryz.zeroValue0
 t3:=Tryz.underlying3
 a3:=Tryz.isAgg3
 z3:=Tryz.sizeOf3
 v3:=Tryz.zeroValue3
 t4:=Tryz.underlying4
 a4:=Tryz.isAgg4
 z4:=Tryz.sizeOf4
 v4:=Tryz.zeroValue4
 t22:=Tryz.underlying105
 a22:=Tryz.isAgg105
 z22:=Tryz.sizeOf105
 v22:=Tryz.zeroValue105 }
def Tryz.hasItem_ren:Go.Shelf.Ren:=⟨fun|7=>96|6=>72|n=>n,fun|22=>105|24=>145|4=>4|0=>0|3=>3|n=>n,fun|n=>n⟩
theorem Tryz.hasItem:Go.Proofs.SlLaysQ.n7 Tryz.prog Tryz.hasItem_ren:={
 mixed:=by kernel_rfl
 f6:=⟨Tryz.f72.name,by decide,zK Tryz.func72 (by kernel_rfl)⟩
 f7:=⟨Tryz.f96.name,by decide,zK Tryz.func96 (by kernel_rfl)⟩
 t0:=Tryz.underlying0
 a0:=Tryz.isAgg0
 z0:=Tryz.sizeOf0
 v0:=Tryz.zeroValue0
 t3:=Tryz.underlying3
 a3:=Tryz.isAgg3
 z3:=Tryz.sizeOf3
 v3:=Tryz.zeroValue3
 t4:=Tryz.underlying4
 a4:=Tryz.isAgg4
 z4:=Tryz.sizeOf4
 v4:=Tryz.zeroValue4
 t22:=Tryz.underlying105
 a22:=Tryz.isAgg105
 z22:=Tryz.sizeOf105
 v22:=Tryz.zeroValue105 }
def Tryz.clnLine_ren:Go.Shelf.Ren:=⟨fun|41=>64|n=>n,fun|22=>83|23=>92|4=>4|n=>n,fun|n=>n⟩
theorem Tryz.clnLine:Go.Proofs.SlLaysE0.n41 Tryz.prog Tryz.clnLine_ren:={
 mixed:=by kernel_rfl
 f41:=⟨Tryz.f64.name,by decide,zK Tryz.func64 (by kernel_rfl)⟩
 t4:=Tryz.underlying4
 a4:=Tryz.isAgg4
 z4:=Tryz.sizeOf4
 v4:=Tryz.zeroValue4
 t22:=Tryz.underlying83
 a22:=Tryz.isAgg83
 z22:=Tryz.sizeOf83
 v22:=Tryz.zeroValue83 }
def Tryz.clnItem_ren:Go.Shelf.Ren:=⟨fun|41=>71|n=>n,fun|22=>105|23=>145|4=>4|n=>n,fun|n=>n⟩
theorem Tryz.clnItem:Go.Proofs.SlLaysE0.n41 Tryz.prog Tryz.clnItem_ren:={
 mixed:=by kernel_rfl
 f41:=⟨Tryz.f71.name,by decide,zK Tryz.func71 (by kernel_rfl)⟩
 t4:=Tryz.underlying4
 a4:=Tryz.isAgg4
 z4:=Tryz.sizeOf4
 v4:=Tryz.zeroValue4
 t22:=Tryz.underlying105
 a22:=Tryz.isAgg105
 z22:=Tryz.sizeOf105
 v22:=Tryz.zeroValue105 }
end Go.Proofs
namespace Go.Proofs.YtlamemjfaogjmaaGreatDoor
open Go.RowKit Go.Shelf Go.Lib Sv
theorem eq3(a b c a' b' c':Int)(w:World):(Op.equalIn 9999 87 (.agg #[.int .i64 a,.int .i64 b,.int .i64 c]) (.agg #[.int .i64 a',.int .i64 b',.int .i64 c'])).run Tryz.prog w=.ok (a==a'&&(b==b'&&c==c')) w:=by
 have u3:=Tryz.underlying3;have a3:=Tryz.isAgg3;have z3:=Tryz.sizeOf3;rw[show (9999:Nat)=9998+1 from rfl,Op.equalIn];simp only[Sem.run_bind,run_underlying Tryz.underlying87,Result.andThen_ok];simp only[Std.Legacy.Range.forIn_eq_forIn_range',Std.Legacy.Range.size,Nat.sub_zero,Nat.add_sub_cancel,Nat.div_one,List.range'_succ,List.range'_zero,List.forIn_cons,List.forIn_nil]
 by_cases h1:a=a'
 ·by_cases h2:b=b'
  ·by_cases h3:c=c'
   ·subst h1 h2 h3;go_simp
   ·have e3:(c==c')=false:=by simpa using h3
    subst h1 h2;go_simp
  ·have e2:(b==b')=false:=by simpa using h2
   subst h1;go_simp
 ·have e1:(a==a')=false:=by simpa using h1
  go_simp
theorem JR:EqlAt Tryz.prog 145 (fun x=>.agg (zr x).toArray) (fun x y=>decide (x=y)):=by
 refine⟨fun x y w=>?_,GuardAt.agg _ (by kernel_rfl)⟩;have u3:=Tryz.underlying3;have a3:=Tryz.isAgg3;have z3:=Tryz.sizeOf3;have u9:=Tryz.underlying9;have a9:=Tryz.isAgg9;have z9:=Tryz.sizeOf9;have av:=Tryz.isAgg87;have zv:=Tryz.sizeOf87;have hS:Tryz.prog.underlying 145=some (.struct (Tryz.prog.fieldsOf 145)):=by kernel_rfl
 have hp:Tryz.prog.stoodInHeld 145=false:=by kernel_rfl
 have he:decide (x=y)=(x.name.toList==y.name.toList&&(x.a==y.a&&(x.b==y.b&&x.c==y.c))):=by
  obtain⟨n,a,b,c⟩:=x;obtain⟨n',a',b',c'⟩:=y;rw[Bool.eq_iff_iff];simp only[decide_eq_true_eq,It.mk.injEq,Bool.and_eq_true,beq_iff_eq];constructor
  ·rintro⟨rfl,rfl,rfl,rfl⟩;exact⟨rfl,rfl,rfl,rfl⟩
  ·rintro⟨h,rfl,rfl,rfl⟩;exact⟨yE h,rfl,rfl,rfl⟩
 show (binOp .eql 145 (.agg (zr x).toArray) (.agg (zr y).toArray)).run Tryz.prog w=.ok (.bool (decide (x=y))) w;rw[he];simp only[zr];have h3:=eq3 x.a x.b x.c y.a y.b y.c;generalize x.name=n at *;generalize y.name=n' at *;generalize x.a=a at *;generalize x.b=b at *;generalize x.c=c at *;generalize y.a=a' at *;generalize y.b=b' at *;generalize y.c=c' at *;generalize (a==a'&&(b==b'&&c==c'))=q at *;clear he;rw[run_eql_struct,show (10000:Nat)=9999+1 from rfl,run_equalIn_agg w 9999 145 _ _ hS hp];simp only[Program.fieldsOf,Tryz.underlying145];cases hn:(n.toList==n'.toList)<;>cases q<;>go_simp
end Go.Proofs.YtlamemjfaogjmaaGreatDoor
namespace Go.Proofs.YtlamemjfaogjmaaGreatDoor
open Go.RowKit Sv
theorem zcc(va:Option Addr)(vl vc:Nat)(a b c:Int)(hx:a<0)(w:World) :
  zR 104 #[.agg #[.slice va vl vc],.agg #[.int .i64 a,.int .i64 b,.int .i64 c]] w (.bool false):=by
 have hB0:zB w ((w.alloc (.cells #[.slice va vl vc] 90)).alloc (.cells #[.int .i64 a,.int .i64 b,.int .i64 c] 87)):=((Below.refl _ w).alloc zN _).alloc (by simp only[World.size_alloc];omega) _;have HB0:=zH hB0;clear hB0;go_enter Tryz.func104,Tryz.ntmps104;go_wp2_with fail;generalize (w.alloc (.cells #[.slice va vl vc] 90)).alloc (.cells #[.int .i64 a,.int .i64 b,.int .i64 c] 87)=W0 at *;go_loop [10] (fun i=>∃k:Nat,k<=0/\i=.int .i64 k) (fun i=>3-(intOf i).toNat)
 case atStart=>exact⟨0,by omega,rfl⟩
 case round =>
  obtain⟨k,hk,rfl⟩:=hrel
  match k,hk with
  |0,_ =>have hix:=xY a b c W0;go_wp2;go_ret;exact⟨rfl,HB0.out⟩
theorem zcb(va:Option Addr)(vl vc:Nat)(a b c:Int)(hx0:¬a<0)(hx:999<a)(w:World) :
  zR 104 #[.agg #[.slice va vl vc],.agg #[.int .i64 a,.int .i64 b,.int .i64 c]] w (.bool false):=by
 have hB0:zB w ((w.alloc (.cells #[.slice va vl vc] 90)).alloc (.cells #[.int .i64 a,.int .i64 b,.int .i64 c] 87)):=((Below.refl _ w).alloc zN _).alloc (by simp only[World.size_alloc];omega) _;have HB0:=zH hB0;clear hB0;go_enter Tryz.func104,Tryz.ntmps104;go_wp2_with fail;generalize (w.alloc (.cells #[.slice va vl vc] 90)).alloc (.cells #[.int .i64 a,.int .i64 b,.int .i64 c] 87)=W0 at *;go_loop [10] (fun i=>∃k:Nat,k<=0/\i=.int .i64 k) (fun i=>3-(intOf i).toNat)
 case atStart=>exact⟨0,by omega,rfl⟩
 case round =>
  obtain⟨k,hk,rfl⟩:=hrel
  match k,hk with
  |0,_ =>have hix:=xY a b c W0;go_wp2;go_ret;exact⟨rfl,HB0.out⟩
theorem zfV(va:Option Addr)(vl vc:Nat)(a b c:Int)(ha0:¬a<0)(ha1:¬999<a)(hx:b<0)(w:World) :
  zR 104 #[.agg #[.slice va vl vc],.agg #[.int .i64 a,.int .i64 b,.int .i64 c]] w (.bool false):=by
 have hB0:zB w ((w.alloc (.cells #[.slice va vl vc] 90)).alloc (.cells #[.int .i64 a,.int .i64 b,.int .i64 c] 87)):=((Below.refl _ w).alloc zN _).alloc (by simp only[World.size_alloc];omega) _;have HB0:=zH hB0;clear hB0;go_enter Tryz.func104,Tryz.ntmps104;go_wp2_with fail;generalize (w.alloc (.cells #[.slice va vl vc] 90)).alloc (.cells #[.int .i64 a,.int .i64 b,.int .i64 c] 87)=W0 at *;go_loop [10] (fun i=>∃k:Nat,k<=1/\i=.int .i64 k) (fun i=>3-(intOf i).toNat)
 case atStart=>exact⟨0,by omega,rfl⟩
 case round =>
  obtain⟨k,hk,rfl⟩:=hrel
  match k,hk with
  |0,_ =>
   have hix:=xY a b c W0;go_wp2;go_round
   case rel=>exact⟨1,by omega,rfl⟩
   case measure=>simp[intOf]
  |1,_ =>have hix:=Qd a b c W0;go_wp2;go_ret;exact⟨rfl,HB0.out⟩
theorem zeo(va:Option Addr)(vl vc:Nat)(a b c:Int)(ha0:¬a<0)(ha1:¬999<a)(hx0:¬b<0)(hx:999<b)(w:World) :
  zR 104 #[.agg #[.slice va vl vc],.agg #[.int .i64 a,.int .i64 b,.int .i64 c]] w (.bool false):=by
 have hB0:zB w ((w.alloc (.cells #[.slice va vl vc] 90)).alloc (.cells #[.int .i64 a,.int .i64 b,.int .i64 c] 87)):=((Below.refl _ w).alloc zN _).alloc (by simp only[World.size_alloc];omega) _;have HB0:=zH hB0;clear hB0;go_enter Tryz.func104,Tryz.ntmps104;go_wp2_with fail;generalize (w.alloc (.cells #[.slice va vl vc] 90)).alloc (.cells #[.int .i64 a,.int .i64 b,.int .i64 c] 87)=W0 at *;go_loop [10] (fun i=>∃k:Nat,k<=1/\i=.int .i64 k) (fun i=>3-(intOf i).toNat)
 case atStart=>exact⟨0,by omega,rfl⟩
 case round =>
  obtain⟨k,hk,rfl⟩:=hrel
  match k,hk with
  |0,_ =>
   have hix:=xY a b c W0;go_wp2;go_round
   case rel=>exact⟨1,by omega,rfl⟩
   case measure=>simp[intOf]
  |1,_ =>have hix:=Qd a b c W0;go_wp2;go_ret;exact⟨rfl,HB0.out⟩
theorem zhL(va:Option Addr)(vl vc:Nat)(a b c:Int)(ha0:¬a<0)(ha1:¬999<a)(hb0:¬b<0)(hb1:¬999<b)(hx:c<0)(w:World) :
  zR 104 #[.agg #[.slice va vl vc],.agg #[.int .i64 a,.int .i64 b,.int .i64 c]] w (.bool false):=by
 have hB0:zB w ((w.alloc (.cells #[.slice va vl vc] 90)).alloc (.cells #[.int .i64 a,.int .i64 b,.int .i64 c] 87)):=((Below.refl _ w).alloc zN _).alloc (by simp only[World.size_alloc];omega) _;have HB0:=zH hB0;clear hB0;go_enter Tryz.func104,Tryz.ntmps104;go_wp2_with fail;generalize (w.alloc (.cells #[.slice va vl vc] 90)).alloc (.cells #[.int .i64 a,.int .i64 b,.int .i64 c] 87)=W0 at *;go_loop [10] (fun i=>∃k:Nat,k<=2/\i=.int .i64 k) (fun i=>3-(intOf i).toNat)
 case atStart=>exact⟨0,by omega,rfl⟩
 case round =>
  obtain⟨k,hk,rfl⟩:=hrel
  match k,hk with
  |0,_ =>
   have hix:=xY a b c W0;go_wp2;go_round
   case rel=>exact⟨1,by omega,rfl⟩
   case measure=>simp[intOf]
  |1,_ =>
   have hix:=Qd a b c W0;go_wp2;go_round
   case rel=>exact⟨2,by omega,rfl⟩
   case measure=>simp[intOf]
  |2,_ =>have hix:=YX a b c W0;go_wp2;go_ret;exact⟨rfl,HB0.out⟩
theorem zbJ(va:Option Addr)(vl vc:Nat)(a b c:Int)(ha0:¬a<0)(ha1:¬999<a)(hb0:¬b<0)(hb1:¬999<b)(hx0:¬c<0)(hx:999<c)(w:World) :
  zR 104 #[.agg #[.slice va vl vc],.agg #[.int .i64 a,.int .i64 b,.int .i64 c]] w (.bool false):=by
 have hB0:zB w ((w.alloc (.cells #[.slice va vl vc] 90)).alloc (.cells #[.int .i64 a,.int .i64 b,.int .i64 c] 87)):=((Below.refl _ w).alloc zN _).alloc (by simp only[World.size_alloc];omega) _;have HB0:=zH hB0;clear hB0;go_enter Tryz.func104,Tryz.ntmps104;go_wp2_with fail;generalize (w.alloc (.cells #[.slice va vl vc] 90)).alloc (.cells #[.int .i64 a,.int .i64 b,.int .i64 c] 87)=W0 at *;go_loop [10] (fun i=>∃k:Nat,k<=2/\i=.int .i64 k) (fun i=>3-(intOf i).toNat)
 case atStart=>exact⟨0,by omega,rfl⟩
 case round =>
  obtain⟨k,hk,rfl⟩:=hrel
  match k,hk with
  |0,_ =>
   have hix:=xY a b c W0;go_wp2;go_round
   case rel=>exact⟨1,by omega,rfl⟩
   case measure=>simp[intOf]
  |1,_ =>
   have hix:=Qd a b c W0;go_wp2;go_round
   case rel=>exact⟨2,by omega,rfl⟩
   case measure=>simp[intOf]
  |2,_ =>have hix:=YX a b c W0;go_wp2;go_ret;exact⟨rfl,HB0.out⟩
theorem zaV(va:Option Addr)(vl vc:Nat)(a b c:Int)(h:¬((0<=a/\a<=999)/\(0<=b/\b<=999)/\(0<=c/\c<=999)))(w:World) :
  zR 104 #[.agg #[.slice va vl vc],.agg #[.int .i64 a,.int .i64 b,.int .i64 c]] w (.bool false):=by
 by_cases a0:a<0
 ·exact zcc va vl vc a b c a0 w
 by_cases a1:999<a
 ·exact zcb va vl vc a b c a0 a1 w
 by_cases b0:b<0
 ·exact zfV va vl vc a b c a0 a1 b0 w
 by_cases b1:999<b
 ·exact zeo va vl vc a b c a0 a1 b0 b1 w
 by_cases c0:c<0
 ·exact zhL va vl vc a b c a0 a1 b0 b1 c0 w
 by_cases c1:999<c
 ·exact zbJ va vl vc a b c a0 a1 b0 b1 c0 c1 w
 exact absurd ⟨⟨by omega,by omega⟩,⟨by omega,by omega⟩,⟨by omega,by omega⟩⟩ h
end Go.Proofs.YtlamemjfaogjmaaGreatDoor
