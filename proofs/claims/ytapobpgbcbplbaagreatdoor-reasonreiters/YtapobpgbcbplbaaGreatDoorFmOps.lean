/- What is made of two families: by the sets that they have, and by a thing. -/
import Derived.Test.YtapobpgbcbplbaaGreatDoorBdMakes
import Derived.RangeFuncOwn
namespace Go.Proofs.YtapobpgbcbplbaaGreatDoor
namespace Bd
open Go.RowKit Go.Maps
structure zZ(B:Nat)(w:World)(s b:Nat)(O:Nat->Prop)(vars:Nat)(room:Int)(ns:List Nd):Prop where
  arena:∃bm v L next,zM B w b bm v ns L room next/\xV ns L/\(∃i:Nat,next=2+(i:Int)/\i<=ns.length/\∀j,j<i->(nd ns j).v<24)/\(∀k,Own b bm v k->O k)
  own:∀k,O k->B<=k/\k<w.heap.size
  sO:¬O s
  slt:s<w.heap.size
  c0:w.cell? ⟨s,0,none⟩=some (.pointer (some ⟨b,0,none⟩))
  c1:w.cell? ⟨s,1,none⟩=some (.int .i64 vars)
def yW(w:World)(k:Nat):Prop:=∃o:Obj,w.heap[k]?=some o/\o.isCells=true
theorem yW.lt{w:World}{k:Nat}(h:yW w k):k<w.heap.size:=by
  obtain⟨o,h1,-⟩:=h;exact(Array.getElem?_eq_some_iff.1 h1).1
theorem yW.kept{w w':World}{S:Nat->Prop}{k:Nat}(h:yW w k)(hk:zc S w w')(hn:¬S k):yW w' k:=by
  obtain⟨o,h1,h2⟩:=h;exact⟨o,(hk.block k (Array.getElem?_eq_some_iff.1 h1).1 hn).trans h1,h2⟩
theorem yW.below{w w':World}{k:Nat}(h:yW w k)(hb:zB w w'):yW w' k:=h.kept (zc.of_below hb (fun _=>False)) (fun h=>h)
theorem Zv{w:World}{a:Addr}{v:Value}(h:w.cell? a=some v):yW w a.block:=by
  unfold World.cell? at h;cases e:w.heap[a.block]? with
  |none=>rw[e] at h;cases h
  |some o =>rw[e] at h;cases o<;>first|exact⟨_,e,rfl⟩|cases h
theorem zbH{w:World}{P:Program}{k:TypeId}{R:Value->Option (DataW Unit × List MemPlace)}{bm n:Nat}{D:DataW Unit}(h:w.ownsMap P k R bm n D):¬yW w bm:=by
  obtain⟨es,clock,hb,-⟩:=h;rintro⟨o,h1,h2⟩;rw[hb] at h1;cases h1;cases h2
theorem zn5{W:World}{B t k n:Nat}{v:Value}{cs:List Value}(h:W.ownsRow B t k v n cs):∀(j:Nat) (o:Obj),v.ownBlock=some j->W.heap[j]?=some o->o.isCells=true:=by
  intro j o hj ho;rcases h.2 with ⟨rfl,_⟩|⟨g,cap,cur,rfl,_,hg,_⟩
  · simp[Value.ownBlock] at hj
  · simp only[Value.ownBlock,Option.some.injEq] at hj
    subst hj;rw[hg] at ho;cases ho;rfl
theorem zjp{W:World}{B t k n:Nat}{v:Value}{cs:List Value}(h:W.ownsRow B t k v n cs){j:Nat}(hj:v.ownBlock=some j):yW W j:=by
  have hl:=(h.lt j hj).2;obtain⟨o,ho⟩:∃o,W.heap[j]?=some o:=⟨_,Array.getElem?_eq_getElem hl⟩;exact⟨o,ho,zn5 h j o hj ho⟩
structure qA(O O':Nat->Prop)(w w':World):Prop where
  kept:zc O w w'
  own:∀k,O' k->O k\/w.heap.size<=k
  map:∀k,O' k->yW w' k\/(O k/\¬yW w k)
section
variable {B s b:Nat} {O O' O'':Nat->Prop} {vars:Nat} {room:Int} {ns:List Nd} {w w' w'':World}
theorem zZ.kept{S:Nat->Prop}(h:zZ B w s b O vars room ns)(hk:zc S w w')(hn:∀k,O k->¬S k)(hs:¬S s):zZ B w' s b O vars room ns:=by
  obtain⟨bm,v,L,next,hA,hB,hN,hO⟩:=h.arena;exact ⟨⟨bm,v,L,next,hA.kept hk (fun k hk=>hn k (hO k hk)),hB,hN,hO⟩,fun k hk'=>⟨(h.own k hk').1,Nat.lt_of_lt_of_le (h.own k hk').2 hk.size⟩,h.sO,Nat.lt_of_lt_of_le h.slt hk.size,
    (hk.cell (a:=⟨s,0,none⟩) h.slt hs).trans h.c0,(hk.cell (a:=⟨s,1,none⟩) h.slt hs).trans h.c1⟩
theorem zZ.new(h:zZ B w s b O vars room ns)(hb:zB w w'):zZ B w' s b O vars room ns:=h.kept (zc.of_below hb (fun _=>False)) (fun _ _ h=>h) (fun h=>h)
theorem zZ.old(h:zZ B w s b O vars room ns){j:Nat}(hj:w.heap.size<=j):¬O j:=fun ho=>by have:=(h.own j ho).2;omega
theorem qA.refl(O:Nat->Prop)(w:World):qA O O w w:=⟨zc.refl _ _,fun _ h=>.inl h,fun k h=>(Classical.em (yW w k)).imp id (fun n=>⟨h,n⟩)⟩
theorem qA.of_below(O:Nat->Prop)(hb:zB w w'):qA O O w w':=⟨zc.of_below hb _,fun _ h=>.inl h,fun k h=>(Classical.em (yW w k)).imp (fun c=>c.below hb) (fun n=>⟨h,n⟩)⟩
theorem qA.trans(h:qA O O' w w')(k:qA O' O'' w' w''):qA O O'' w w'' :=
  ⟨h.kept.andThen k.kept (fun i hi hlt=>(h.own i hi).elim id (fun h=>by omega)),fun i hi=>by
    rcases k.own i hi with h1|h1
    · exact h.own i h1
    · exact .inr (Nat.le_trans h.kept.size h1),fun i hi=>by
    rcases k.map i hi with h1|⟨h1,h2⟩
    · exact .inl h1
    · rcases h.map i h1 with h3|h3
      · exact absurd h3 h2
      · exact .inr h3⟩
theorem qA.size(h:qA O O' w w'):w.heap.size<=w'.heap.size:=h.kept.size
theorem qA.cell(h:qA O O' w w'){a:Addr}(hlt:a.block<w.heap.size)(hn:¬O a.block):w'.cell? a=w.cell? a:=h.kept.cell hlt hn
theorem qA.beside(h:qA O O' w w'){j:Nat}(hlt:j<w.heap.size)(hn:¬O j):¬O' j:=fun ho=>by
  rcases h.own j ho with h1|h1
  · exact hn h1
  · omega
theorem qA.below{B:Nat}(h:qA O O' w w')(hB:B<=w.heap.size)(ho:∀k,O k->B<=k):Below B w w':=h.kept.below hB ho
theorem zZ.moved{bm:Nat}{v v':Value}{ns':List Nd}{L':List (Nd × Int)}{next':Int}(h:zZ B w s b O vars room ns)(hbm0:¬yW w bm)(hO:∀k,Own b bm v k->O k)(hA:zM B w' b bm v' ns' L' room next')(hB:xV ns' L')(hN:∃i:Nat,next'=2+(i:Int)/\i<=ns'.length/\∀j,j<i->(nd ns' j).v<24)
    (hk:zc (Own b bm v) w w') (hv:v'.ownBlock=v.ownBlock\/∃g,v'.ownBlock=some g/\w.heap.size<=g):∃O',zZ B w' s b O' vars room ns'/\qA O O' w w':=by
  have hs:¬Own b bm v s:=fun ho=>h.sO (hO s ho);obtain⟨D,hD,-⟩:=hA.hmap;have hbm:=hD.lt;refine⟨Own b bm v',⟨⟨bm,v',L',next',hA,hB,hN,fun _ h=>h⟩,?_,?_,Nat.lt_of_lt_of_le h.slt hk.size,(hk.cell (a:=⟨s,0,none⟩) h.slt hs).trans h.c0,(hk.cell (a:=⟨s,1,none⟩) h.slt hs).trans h.c1⟩,hk.mono hO,?_,?_⟩
  · rintro k (e|e|e)
    · have:=h.own k (hO k (.inl e));exact⟨this.1,Nat.lt_of_lt_of_le this.2 hk.size⟩
    · have:=h.own k (hO k (.inr (.inl e)));exact⟨this.1,Nat.lt_of_lt_of_le this.2 hk.size⟩
    · exact hA.row.lt k e
  · rintro (e|e|e)
    · exact h.sO (hO s (.inl e))
    · exact h.sO (hO s (.inr (.inl e)))
    · rcases hv with h1|⟨g,h1,h2⟩
      · exact h.sO (hO s (.inr (.inr (by rw[<-h1];exact e))))
      · rw[h1] at e;cases e;have:=h.slt;omega
  · rintro k (e|e|e)
    · exact .inl (hO k (.inl e))
    · exact .inl (hO k (.inr (.inl e)))
    · rcases hv with h1|⟨g,h1,h2⟩
      · exact .inl (hO k (.inr (.inr (by rw[<-h1];exact e))))
      · rw[h1] at e;cases e;exact .inr h2
  · rintro k (e|e|e)
    · rw[e];exact .inl (Zv hA.croom)
    · rw[e];exact .inr ⟨hO bm (.inr (.inl rfl)),hbm0⟩
    · exact .inl (zjp hA.row e)
theorem zkT:∀ns:List Nd,(QQ ns).length=cnt ns:=by
  intro ns;unfold QQ cnt;have key:(ns.map fun n=>decide (n.v<24))=(List.range ns.length).map fun i=>decide ((nd ns i).v<24):=by
    apply List.ext_getElem (by simp);intro i h1 h2;simp at h1 h2;simp[xS ns i h1]
  rw[<-List.countP_eq_length_filter,<-List.countP_eq_length_filter];have e1:List.countP (fun n:Nd=>decide (n.v<24)) ns=List.countP (fun b:Bool=>b) (ns.map fun n=>decide (n.v<24)):=by rw[List.countP_map];rfl
  have e2:List.countP (fun i=>decide ((nd ns i).v<24)) (List.range ns.length)=List.countP (fun b:Bool=>b) ((List.range ns.length).map fun i=>decide ((nd ns i).v<24)):=by rw[List.countP_map];rfl
  rw[e1,e2,key]
theorem zlY(hS:zZ B w s b O vars room ns)(hl:ns.length<=90000)(hroom:(cnt ns:Int)<room)(hB:B<=w.heap.size)(n:Nd)(hn:n.Ok)(hf:Fit ns n) :
    zC 162 #[.pointer (some ⟨b,0,none⟩),n.val] w fun e w'=>e=.returned (.tuple #[.int .i64 (QC ns n).2,.nilIface])/\∃O',zZ B w' s b O' vars room (QC ns n).1/\qA O O' w w':=by
  obtain⟨bm,v,L,next,hA,hBk,⟨i,hi1,hi2,hi3⟩,hO⟩:=hS.arena;have hLl:L.length<=ns.length:=by rw[JZ hBk];exact zdZ ns
  have hLc:L.length<=cnt ns:=by rw[JZ hBk];exact Nat.le_of_eq (zkT ns)
  unfold QC
  by_cases c:idx ns n<ns.length
  · rw[if_pos c]
    have hin:(n,2+(idx ns n:Int))∈L:=by
      have:=hBk.all _ c (by rw[JK c];exact hf.v1)
      rwa [JK c] at this
    exact(zn8 hA (by omega) n hn hf _ hin).mono fun e w' ⟨he,hb⟩=>⟨he,O,hS.new hb,qA.of_below O hb⟩
  · rw[if_neg c]
    have hnin:n∉L.map Prod.fst:=fun h=>by
      obtain⟨p,hp,rfl⟩:=List.mem_map.1 h;obtain⟨j,hj,-,rfl⟩:=hBk.mem p hp;exact zc7 c hj rfl
    refine(zfU hA (by omega) n hn hf hnin (by omega) (by omega) i hi1 hi2 hB).mono ?_;rintro e w' ⟨k,v',rfl,hk,hocc,hfree,hA',hK,hv⟩;have hocc':∀j,j<k->(nd ns j).v<24:=fun j hj=>by
      by_cases h:j<i
      · exact hi3 j h
      · exact hocc j (by omega) hj
    obtain rfl:k=zP ns:=zke hk hocc' hfree;refine⟨rfl,hS.moved (by obtain⟨D0,hD0,-⟩:=hA.hmap;exact zbH hD0) hO hA' (zi4 hBk hk hfree hf.v1 hnin) ⟨zP ns,rfl,?_,fun j hj=>?_⟩ hK hv⟩
    · have:=(zeg (n:=n) hk).2
      exact Nat.le_trans hk this
    · show (nd (zY ns (zP ns) n) j).v<24
      rw[xr hk j (by omega),if_neg (by omega)];exact hocc' j hj
theorem zjF(hS:zZ B w s b O vars room ns)(h:Int)(hi:I64 h)(hl:ns.length<=90000) :
    zC 121 #[.pointer (some ⟨b,0,none⟩),.int .i64 h] w fun e w'=>e=.returned (.bool (ze ns h))/\w=w':=by
  obtain⟨bm,v,L,next,hA,-⟩:=hS.arena;exact X6 hA h hi (by omega)
theorem zdH(hS:zZ B w s b O vars room ns)(h:Int)(hi:I64 h)(hl:ns.length<=90000) :
    zC 125 #[.pointer (some ⟨b,0,none⟩),.int .i64 h] w fun e w'=>e=.returned (.int .i64 (zb ns h))/\w=w':=by
  obtain⟨bm,v,L,next,hA,-⟩:=hS.arena;exact Yn hA h hi (by omega)
theorem QN(hS:zZ B w s b O vars room ns)(h:Int)(hi:I64 h)(hl:ns.length<=90000) :
    zR 78 #[.pointer (some ⟨b,0,none⟩),.int .i64 h] w (.tuple #[(qm ns h).val,.bool (decide (zb ns h≠24))]):=by
  obtain⟨bm,v,L,next,hA,-⟩:=hS.arena;exact Xb hA h hi (by omega)
theorem zhp(hS:zZ B w s b O vars room ns)(hr:zw ns)(hl:ns.length<=90000)(hB:B<=w.heap.size)(bf:Nat){cp:Nat}(fs:List Int)(hF:xG w bf fs)(hfl:fs.length<=1000) :
    zC 70 #[.pointer (some ⟨b,0,none⟩),.slice (some ⟨bf,0,none⟩) fs.length cp] w fun e w'=>∃n:Int,e=.returned (.int .i64 n)/\∃O',zZ B w' s b O' vars room (swept ns (qc ns fs))/\qA O O' w w':=by
  obtain⟨bm,v,L,next,hA,hBk,-,hO⟩:=hS.arena;have hLl:L.length<=ns.length:=by rw[JZ hBk];exact zdZ ns
  refine(zmw hr hBk (by omega) hA bf fs hF hfl hB (by omega)).mono ?_;rintro e w' ⟨rfl,hA',hK⟩;exact⟨_,rfl,hS.moved (by obtain⟨D0,hD0,-⟩:=hA.hmap;exact zbH hD0) hO hA' (zgv hBk) ⟨0,rfl,Nat.zero_le _,fun j h=>by omega⟩ hK (.inl rfl)⟩
end
end Bd
namespace Fm
open Go.RowKit Go.Maps Go.Proofs.YtapobpgbcbplbaaGreatDoor.Bd
def inF:Nat->List Nd->Int->Nat->Bool
  |0,_,h,x=>decide (h=1/\x=0)
  |d+1,ns,h,x =>
    if zb ns h=24 then decide (h=1/\x=0)
    else if x.testBit (zb ns h).toNat=true then inF d ns (nd ns (pl h)).h (x^^^2^(zb ns h).toNat) else inF d ns (nd ns (pl h)).l x
def inB(ns:List Nd)(h:Int)(x:Nat):Bool:=inF 24 ns h x
def In(ns:List Nd)(h:Int)(x:Nat):Prop:=inB ns h x=true
structure zI(vars:Nat)(ns:List Nd):Prop where
  ranked:zw ns
  once:∀i j,i<ns.length->j<ns.length->(nd ns i).v<24->nd ns i=nd ns j->i=j
  red:∀i,i<ns.length->(nd ns i).v<24->(nd ns i).h≠0
  vars:∀i,i<ns.length->(nd ns i).v<24->(nd ns i).v<(vars:Int)
  free:∀i,i<ns.length->¬(nd ns i).v<24->nd ns i=⟨24,0,0⟩
section
variable {ns:List Nd}
theorem XQ(hr:zw ns):∀(d e:Nat) (h:Int) (x:Nat),24<=zb ns h+d->24<=zb ns h+e->inF d ns h x=inF e ns h x
  |0,0,h,_,_,_=>rfl
  |0,e+1,h,x,hd,_=>by
    have:=(qh hr h).2;unfold inF;rw[if_pos (by omega)]
  |d+1,0,h,x,_,he=>by
    have:=(qh hr h).2;unfold inF;rw[if_pos (by omega)]
  |d+1,e+1,h,x,hd,he=>by
    unfold inF
    by_cases ht:zb ns h=24
    · rw[if_pos ht,if_pos ht]
    · rw[if_neg ht,if_neg ht]
      obtain⟨k1,-,k2,-⟩:=xq hr ht;rw[XQ hr d e _ _ (by omega) (by omega),XQ hr d e (nd ns (pl h)).l _ (by omega) (by omega)]
theorem Jn{h:Int}(ht:zb ns h=24)(x:Nat):inB ns h x=decide (h=1/\x=0):=by
  unfold inB inF;rw[if_pos ht]
theorem QK(x:Nat):¬In ns 0 x:=by unfold In;rw[Jn (by simp[zb])];simp
theorem zcp(x:Nat):In ns 1 x↔x=0:=by unfold In;rw[Jn (by simp[zb])];simp
theorem YH(hr:zw ns){h:Int}(ht:zb ns h≠24)(x:Nat):inB ns h x=if x.testBit (zb ns h).toNat=true then inB ns (nd ns (pl h)).h (x^^^2^(zb ns h).toNat) else inB ns (nd ns (pl h)).l x:=by
  obtain⟨k1,-,k2,-⟩:=xq hr ht;have h0:=(qh hr h).1;show inF 24 ns h x=_;unfold inF;rw[if_neg ht,XQ hr 23 24 _ _ (by omega) (by omega),XQ hr 23 24 (nd ns (pl h)).l _ (by omega) (by omega)];rfl
def loZ(ns:List Nd)(h v:Int):Int:=if zb ns h=v then (nd ns (pl h)).l else h
def hiZ(ns:List Nd)(h v:Int):Int:=if zb ns h=v then (nd ns (pl h)).h else 0
theorem ZX(ns:List Nd):ze ns 0=true:=by simp[ze]
theorem zca(ns:List Nd):ze ns 1=true:=by simp[ze]
theorem QO(ns:List Nd):zb ns 0=24:=by simp[zb]
theorem zeu(ns:List Nd):zb ns 1=24:=by simp[zb]
theorem zaj(hr:zw ns){h v:Int}(hv:v<24)(hh:ze ns h=true):ze ns (loZ ns h v)=true/\(v<=zb ns h->v<zb ns (loZ ns h v)):=by
  unfold loZ
  by_cases e:zb ns h=v
  · rw[if_pos e]
    have:=xq hr (h:=h) (by omega);exact⟨this.2.1,fun _=>by omega⟩
  · rw[if_neg e];exact⟨hh,fun h=>by omega⟩
theorem J2(hr:zw ns){h v:Int}(hv:v<24):ze ns (hiZ ns h v)=true/\v<zb ns (hiZ ns h v):=by
  unfold hiZ
  by_cases e:zb ns h=v
  · rw[if_pos e]
    have:=xq hr (h:=h) (by omega);exact⟨this.2.2.2,by omega⟩
  · rw[if_neg e];exact⟨ZX ns,by rw[QO];exact hv⟩
theorem Q8(x v:Nat):(x^^^2^v).testBit v=!x.testBit v:=by rw[Nat.testBit_xor,Nat.testBit_two_pow];simp
theorem x9(x:Nat){v i:Nat}(h:i≠v):(x^^^2^v).testBit i=x.testBit i:=by rw[Nat.testBit_xor,Nat.testBit_two_pow];simp[Ne.symm h]
theorem ZM(x v:Nat):x^^^2^v^^^2^v=x:=by rw[Nat.xor_assoc,Nat.xor_self,Nat.xor_zero]
theorem KJ(hr:zw ns):∀(d:Nat) (h:Int) (x i:Nat),(i:Int)<zb ns h->x.testBit i=true->inF d ns h x=false
  |0,h,x,i,_,hx=>by
    unfold inF;have:x≠0:=fun e=>by subst e;simp at hx
    simp[this]
  |d+1,h,x,i,hi,hx=>by
    unfold inF;have hne:x≠0:=fun e=>by subst e;simp at hx
    by_cases ht:zb ns h=24
    · rw[if_pos ht];simp[hne]
    · rw[if_neg ht]
      obtain⟨k1,-,k2,-⟩:=xq hr ht;split
      · exact KJ hr d _ _ i (by omega) (by rw[x9 _ (by omega)];exact hx)
      · exact KJ hr d _ _ i (by omega) hx
theorem Ys(hr:zw ns){h:Int}{x i:Nat}(hi:(i:Int)<zb ns h)(hx:In ns h x):x.testBit i=false:=by
  cases e:x.testBit i with
  |false=>rfl
  |true =>have:=KJ hr 24 h x i hi e;unfold In inB at hx;rw[this] at hx;cases hx
theorem znD(hr:zw ns){h v:Int}(hv0:0<=v)(hv:v<24)(hle:v<=zb ns h)(x:Nat):In ns h x↔if x.testBit v.toNat=true then In ns (hiZ ns h v) (x^^^2^v.toNat) else In ns (loZ ns h v) x:=by
  unfold loZ hiZ
  by_cases e:zb ns h=v
  · rw[if_pos e,if_pos e]
    unfold In;rw[YH hr (by omega),e];split<;>rfl
  · rw[if_neg e,if_neg e]
    split
    · rename_i hx
      refine⟨fun h=>?_,fun h=>absurd h (QK _)⟩;rw[Ys hr (by omega) h] at hx;cases hx
    · exact Iff.rfl
theorem JE{ns':List Nd}(hr:zw ns)(he:Ext ns ns'):∀(d:Nat) (h:Int) (x:Nat),ze ns h=true->inF d ns' h x=inF d ns h x
  |0,_,_,_=>rfl
  |d+1,h,x,hh=>by
    unfold inF;rw[he.top h hh]
    by_cases ht:zb ns h=24
    · rw[if_pos ht,if_pos ht]
    · obtain⟨-,k1,-,k2⟩:=xq hr ht
      rw[if_neg ht,if_neg ht,he.node h hh ht,JE hr he d _ _ k1,JE hr he d _ _ k2]
theorem qV{ns':List Nd}(hr:zw ns)(he:Ext ns ns'){h:Int}(hh:ze ns h=true)(x:Nat):In ns' h x↔In ns h x:=by
  unfold In inB;rw[JE hr he 24 h x hh]
theorem zac{vars:Nat}(hg:zI vars ns):∀(d:Nat) (h:Int) (x:Nat),inF d ns h x=true->∀i,x.testBit i=true->i<vars
  |0,h,x,hx,i,hi=>by
    unfold inF at hx;simp at hx;rw[hx.2] at hi;simp at hi
  |d+1,h,x,hx,i,hi=>by
    unfold inF at hx
    by_cases ht:zb ns h=24
    · rw[if_pos ht] at hx;simp at hx;rw[hx.2] at hi;simp at hi
    · rw[if_neg ht] at hx
      have hv:=Go.Proofs.YtapobpgbcbplbaaGreatDoor.Bd.top_lt hg.ranked ht;obtain⟨n1,n2,n3,n4⟩:=yX ht;have h0:=(qh hg.ranked h).1;have:=hg.vars _ n2 (by omega);split at hx
      · by_cases e:i=(zb ns h).toNat
        · omega
        · exact zac hg d _ _ hx i (by rw[x9 _ e];exact hi)
      · exact zac hg d _ _ hx i hi
theorem ziI{vars:Nat}(hg:zI vars ns){h:Int}{x:Nat}(hx:In ns h x){i:Nat}(hi:x.testBit i=true):i<vars:=zac hg 24 h x hx i hi
end
end Fm
namespace Fm
open Go.RowKit Go.Maps Go.Proofs.YtapobpgbcbplbaaGreatDoor.Bd
def xW(vars:Nat)(n:Nd):Bool:=decide (n.v+2<(vars:Int))
def zq(vars:Nat)(ns:List Nd):Nat:=(ns.filter (xW vars)).length
theorem XS{α β:Type}[DecidableEq β]:∀(l:List α) (S:List β) (f:α->β),l.Nodup->(∀a∈l,f a∈S)->(∀a∈l,∀b∈l,f a=f b->a=b)->l.length<=S.length
  |[],_,_,_,_,_=>Nat.zero_le _
  |a :: l,S,f,hn,hS,hi=>by
    rw[List.nodup_cons] at hn;have ha:=hS a (List.mem_cons_self ..);have:=XS l (S.erase (f a)) f hn.2 (fun b hb=>(List.mem_erase_of_ne (fun e=>by
      have:=hi b (List.mem_cons_of_mem _ hb) a (List.mem_cons_self ..) e;subst this;exact hn.1 hb)).2 (hS b (List.mem_cons_of_mem _ hb))) (fun b hb c hc e=>hi b (List.mem_cons_of_mem _ hb) c (List.mem_cons_of_mem _ hc) e)
    rw[List.length_erase_of_mem ha] at this;have:=List.length_pos_of_mem ha;simp only[List.length_cons];omega
theorem zbS{α:Type}(p q r s:α->Bool):∀(l:List α),(∀a∈l,p a=true->q a=true\/r a=true\/s a=true)->(l.filter p).length<=(l.filter q).length+(l.filter r).length+(l.filter s).length
  |[],_=>by simp
  |a :: l,h=>by
    have ih:=zbS p q r s l (fun b hb=>h b (List.mem_cons_of_mem _ hb));have ha:=h a (List.mem_cons_self ..);simp only[List.filter_cons];cases ep:p a<;>cases eq:q a<;>cases er:r a<;>cases es:s a<;>simp_all<;>omega
theorem Jt{α β:Type}(T:List β):∀(S:List α),(S.flatMap fun a=>T.map fun b=>(a,b)).length=S.length*T.length
  |[]=>by simp
  |a :: S=>by simp[Jt T S,Nat.add_mul];omega
theorem zaT(p:Nd->Bool)(ns:List Nd):(ns.filter p).length=((List.range ns.length).filter fun i=>p (nd ns i)).length:=by
  have key:(ns.map fun n=>p n)=(List.range ns.length).map fun i=>p (nd ns i):=by
    apply List.ext_getElem (by simp);intro i h1 h2;simp at h1 h2;simp[xS ns i h1]
  rw[<-List.countP_eq_length_filter,<-List.countP_eq_length_filter];have e1:List.countP p ns=List.countP (fun b:Bool=>b) (ns.map fun n=>p n):=by rw[List.countP_map];rfl
  have e2:List.countP (fun i=>p (nd ns i)) (List.range ns.length)=List.countP (fun b:Bool=>b) ((List.range ns.length).map fun i=>p (nd ns i)):=by rw[List.countP_map];rfl
  rw[e1,e2,key]
section
variable {ns:List Nd} {vars:Nat}
theorem Q7(hg:zI vars ns){h:Int}(ht:zb ns h≠24):zb ns h<(vars:Int):=by
  obtain⟨h1,h2,h3,-⟩:=yX ht;have:=Go.Proofs.YtapobpgbcbplbaaGreatDoor.Bd.top_lt hg.ranked ht;rw[h3] at this ⊢;exact hg.vars _ h2 this
theorem zar(hg:zI vars ns):cnt ns<=zq vars ns+18:=by
  have hr:=hg.ranked;unfold cnt zq;rw[zaT,zaT]
  let I5:=(List.range ns.length).filter fun i=>decide ((nd ns i).v<24/\(nd ns i).v+1=(vars:Int))
  let I4:=(List.range ns.length).filter fun i=>decide ((nd ns i).v<24/\(nd ns i).v+2=(vars:Int))
  have h0:((List.range ns.length).filter fun i=>decide ((nd ns i).v<24)).length<=((List.range ns.length).filter fun i=>xW vars (nd ns i)).length+I4.length+I5.length:=by
    refine zbS _ _ _ _ _ fun i hi hv=>?_;rw[List.mem_range] at hi;simp only[decide_eq_true_eq] at hv;have:=hg.vars i hi hv;simp only[xW,decide_eq_true_eq];omega
  have n5:I5.Nodup:=(List.nodup_range (n:=ns.length)).filter _;have n4:I4.Nodup:=(List.nodup_range (n:=ns.length)).filter _;have m5:∀i,i∈I5↔i<ns.length/\(nd ns i).v<24/\(nd ns i).v+1=(vars:Int):=fun i=>by simp[I5]
  have m4:∀i,i∈I4↔i<ns.length/\(nd ns i).v<24/\(nd ns i).v+2=(vars:Int):=fun i=>by simp[I4]
  have c5:I5.length<=2:=by
    refine XS I5 [0,1] (fun i=>(nd ns i).l) n5 (fun i hi=>?_) (fun i hi j hj e=>?_)
    · obtain⟨h1,h2,h3⟩:=(m5 i).1 hi
      obtain⟨k1,k2⟩:=hr.l i h1 h2;have:zb ns (nd ns i).l=24:=by
        by_cases t:zb ns (nd ns i).l=24
        · exact t
        · have:=Q7 hg t;omega
      rcases Zn k2 this with e|e<;>simp[e]
    · obtain⟨h1,h2,h3⟩:=(m5 i).1 hi
      obtain⟨g1,g2,g3⟩:=(m5 j).1 hj;have one:∀k,k<ns.length->(nd ns k).v<24->(nd ns k).v+1=(vars:Int)->(nd ns k).h=1:=fun k h1 h2 h3=>by
        obtain⟨k1,k2⟩:=hr.h k h1 h2;have:zb ns (nd ns k).h=24:=by
          by_cases t:zb ns (nd ns k).h=24
          · exact t
          · have:=Q7 hg t;omega
        exact(Zn k2 this).resolve_left (hg.red k h1 h2)
      exact hg.once i j h1 g1 h2 (zbG (by omega) e (by rw[one i h1 h2 h3,one j g1 g2 g3]))
  let S0:List Int:=0 :: 1 :: I5.map (fun i:Nat=>2+(i:Int))
  have s0:S0.length<=4:=by simp[S0];omega
  have kid:∀k i,i∈I4->(nd ns i).v<zb ns k->ze ns k=true->k∈S0:=fun k i hi ht hk=>by
    obtain⟨h1,h2,h3⟩:=(m4 i).1 hi
    by_cases t:zb ns k=24
    · rcases Zn hk t with e|e<;>simp[S0,e]
    · have tv:=Q7 hg t
      obtain⟨p1,p2,p3,p4⟩:=yX t;have:pl k∈I5:=(m5 _).2 ⟨p2,by have:=Go.Proofs.YtapobpgbcbplbaaGreatDoor.Bd.top_lt hr t;omega,by omega⟩;simp only[S0,List.mem_cons,List.mem_map];exact .inr (.inr ⟨pl k,this,p4.symm⟩)
  have c4:I4.length<=16:=by
    have:=XS I4 (S0.flatMap fun a=>S0.map fun b=>(a,b)) (fun i=>((nd ns i).l,(nd ns i).h)) n4 (fun i hi=>?_) (fun i hi j hj e=>?_)
    · rw[Jt] at this
      have:S0.length*S0.length<=4*4:=Nat.mul_le_mul s0 s0;omega
    · obtain⟨h1,h2,h3⟩:=(m4 i).1 hi
      obtain⟨k1,k2⟩:=hr.l i h1 h2;obtain⟨k3,k4⟩:=hr.h i h1 h2;rw[List.mem_flatMap];exact⟨_,kid _ i hi k1 k2,List.mem_map.2 ⟨_,kid _ i hi k3 k4,rfl⟩⟩
    · obtain⟨h1,h2,h3⟩:=(m4 i).1 hi
      obtain⟨g1,g2,g3⟩:=(m4 j).1 hj;simp only[Prod.mk.injEq] at e;exact hg.once i j h1 g1 h2 (zbG (by omega) e.1 e.2)
  omega
theorem zoP(hv24:vars<=24)(n:Nd):zq vars (zY ns (zP ns) n)<=zq vars ns+(if n.v+2<(vars:Int) then 1 else 0):=by
  unfold zq zY;have key:∀(l:List Nd) (k:Nat),((l.set k n).filter (xW vars)).length<=(l.filter (xW vars)).length+(if n.v+2<(vars:Int) then 1 else 0):=by
    intro l
    induction l with
    |nil=>intro k;simp
    |cons a l ih =>
      intro k;cases k with
      |zero =>
        simp only[List.set_cons_zero,List.filter_cons]
        by_cases hn:n.v+2<(vars:Int)
        · rw[if_pos hn];split<;>split<;>simp<;>omega
        · rw[if_neg hn]
          have:xW vars n=false:=by simp[xW,hn]
          rw[this];simp only[Bool.false_eq_true,if_false];split<;>simp
      |succ k =>
        simp only[List.set_cons_succ,List.filter_cons];have:=ih k;split
        · simp only[List.length_cons];omega
        · exact this
  refine Nat.le_trans (key _ _) ?_;split
  · rw[List.filter_append]
    have:xW vars ⟨24,0,0⟩=false:=by simp[xW];omega
    simp[this]
  · exact Nat.le_refl _
theorem zb0(hg:zI vars ns){n:Nd}(hn:n.Ok)(hf:Fit ns n)(hne:n.h≠0)(hv:n.v<(vars:Int))(hnin:∀j,j<ns.length->nd ns j≠n):zI vars (zY ns (zP ns) n):=by
  have hk:=Qb ns;have hfr:zP ns<ns.length->¬(nd ns (zP ns)).v<24:=X8;have key:∀j,j<(zY ns (zP ns) n).length->nd (zY ns (zP ns) n) j=n/\j=zP ns\/j<ns.length/\j≠zP ns/\nd (zY ns (zP ns) n) j=nd ns j:=fun j hj=>by
    have hj':=(ZL hk j).1 hj
    by_cases e:j=zP ns
    · exact .inl ⟨by rw[xr hk j hj',if_pos e],e⟩
    · exact .inr ⟨by omega,e,by rw[xr hk j hj',if_neg e]⟩
  refine⟨zdo hg.ranked hk hfr hn hf,fun i j hi hj hvi e=>?_,fun i hi hvi=>?_,fun i hi hvi=>?_,fun i hi hvi=>?_⟩
  · rcases key i hi with ⟨e1,x1⟩|⟨l1,n1,e1⟩<;>rcases key j hj with ⟨e2,x2⟩|⟨l2,n2,e2⟩
    · omega
    · rw[e1,e2] at e;exact absurd e.symm (hnin j l2)
    · rw[e1,e2] at e;exact absurd e (hnin i l1)
    · rw[e1] at hvi;rw[e1,e2] at e;exact hg.once i j l1 l2 hvi e
  · rcases key i hi with ⟨e1,-⟩|⟨l1,-,e1⟩<;>rw[e1] at hvi ⊢
    · exact hne
    · exact hg.red i l1 hvi
  · rcases key i hi with ⟨e1,-⟩|⟨l1,-,e1⟩<;>rw[e1] at hvi ⊢
    · exact hv
    · exact hg.vars i l1 hvi
  · rcases key i hi with ⟨e1,-⟩|⟨l1,-,e1⟩<;>rw[e1] at hvi ⊢
    · exact absurd hf.v1 hvi
    · exact hg.free i l1 hvi
def Zs(ns:List Nd)(v l h:Int):List Nd × Int:=if h=0 then (ns,l) else QC ns ⟨v,l,h⟩
structure zeN(vars:Nat)(ns:List Nd)(v l h:Int)(r:List Nd × Int):Prop where
  good:zI vars r.1
  ext:Ext ns r.1
  has:ze r.1 r.2=true
  mem:∀x,In r.1 r.2 x↔if x.testBit v.toNat=true then In ns h (x^^^2^v.toNat) else In ns l x
  top:v<=zb r.1 r.2
  cnt:zq vars r.1<=zq vars ns+(if v+2<(vars:Int) then 1 else 0)
  len:r.1.length<=max ns.length (Go.Proofs.YtapobpgbcbplbaaGreatDoor.Bd.cnt ns+1)
theorem zdY(hg:zI vars ns)(hv24:vars<=24){v l h:Int}(hl:ns.length<=900000)(h0:0<=v)(h24:v<24)(hv:v<(vars:Int))(hl1:ze ns l=true)(hh1:ze ns h=true)(tl:v<zb ns l)(th:v<zb ns h):zeN vars ns v l h (Zs ns v l h):=by
  unfold Zs
  by_cases e:h=0
  · rw[if_pos e]
    subst e;refine⟨hg,Ext.refl _,hl1,fun x=>?_,by show v<=zb ns l;omega,Nat.le_add_right _ _,Nat.le_max_left _ _⟩;show In ns l x↔_;split
    · rename_i hx
      refine⟨fun k=>?_,fun k=>absurd k (QK _)⟩;rw[Ys hg.ranked (by omega) k] at hx;cases hx
    · exact Iff.rfl
  · rw[if_neg e]
    unfold QC;have hi1:=yO hl1 (by omega);have hi2:=yO hh1 (by omega)
    by_cases c:idx ns ⟨v,l,h⟩<ns.length
    · rw[if_pos c]
      have ha:=JK c;have ht:zb ns (2+(idx ns ⟨v,l,h⟩:Int))=v:=by rw[QI c,ha]
      have hp:pl (2+(idx ns ⟨v,l,h⟩:Int))=idx ns ⟨v,l,h⟩:=by unfold pl;omega
      refine⟨hg,Ext.refl _,?_,fun x=>?_,?_,Nat.le_add_right _ _,Nat.le_max_left _ _⟩
      · show ze ns _=true;unfold ze;rw[ht];simp[h24]
      · show In ns _ x↔_
        unfold In;rw[YH hg.ranked (by rw[ht];omega),ht,hp,ha];split<;>rfl
      · show v<=zb ns (2+(idx ns ⟨v,l,h⟩:Int));omega
    · rw[if_neg c]
      have hnin:∀j,j<ns.length->nd ns j≠⟨v,l,h⟩:=fun j hj=>zc7 c hj;have hf:Fit ns ⟨v,l,h⟩:=⟨h0,h24,hl1,hh1,tl,th⟩;have hgp:=zb0 hg ⟨⟨by show _<=v;omega,by show v<=_;omega⟩,hi1,hi2⟩ hf e hv hnin;have hk:=Qb ns;have hx:Ext ns (zY ns (zP ns) ⟨v,l,h⟩):=znh hk X8 hg.ranked;have ht:zb (zY ns (zP ns) ⟨v,l,h⟩) (2+(zP ns:Int))=v:=zij hk;have hp:pl (2+(zP ns:Int))=zP ns:=by unfold pl;omega
      refine⟨hgp,hx,?_,fun x=>?_,?_,zoP hv24 _,zhU _ _⟩
      · show ze _ _=true;unfold ze;rw[ht];simp[h24]
      · show In _ _ x↔_
        have e1:∀y,In ns h y↔In (zY ns (zP ns) ⟨v,l,h⟩) h y:=fun y=>(qV hg.ranked hx hh1 y).symm;have e2:∀y,In ns l y↔In (zY ns (zP ns) ⟨v,l,h⟩) l y:=fun y=>(qV hg.ranked hx hl1 y).symm;simp only[e1,e2];unfold In;rw[YH hgp.ranked (by rw[ht];omega),ht,hp,xr hk _ (.inr rfl),if_pos rfl];split<;>rfl
      · show v<=zb (zY ns (zP ns) ⟨v,l,h⟩) (2+(zP ns:Int));omega
end
end Fm
namespace Fm
open Go.RowKit Go.Maps Go.Proofs.YtapobpgbcbplbaaGreatDoor.Bd
inductive K where
  |or|and|less|join|without|least|hits
  deriving DecidableEq
def Sub(y x:Nat):Prop:=∀i,y.testBit i=true->x.testBit i=true
def ZA(A:Nat->Prop)(x:Nat):Prop:=∀y,A y->∃i,x.testBit i=true/\y.testBit i=true
def opP:K->(Nat->Prop)->(Nat->Prop)->Nat->Prop
  |.or,A,B,x=>A x\/B x
  |.and,A,B,x=>A x/\B x
  |.less,A,B,x=>A x/\¬B x
  |.join,A,B,x=>∃y z,A y/\B z/\x=y|||z
  |.without,A,B,x=>A x/\∀y,B y->¬Sub y x
  |.least,A,_,x=>A x/\∀y,A y->Sub y x->y=x
  |.hits,A,_,x=>ZA A x/\∀z,ZA A z->Sub z x->z=x
theorem xZ(k:K){A A' B B':Nat->Prop}(ha:∀x,A x↔A' x)(hb:∀x,B x↔B' x)(x:Nat):opP k A B x↔opP k A' B' x:=by
  have e1:A=A':=funext fun x=>propext (ha x);have e2:B=B':=funext fun x=>propext (hb x);rw[e1,e2]
theorem zfl(x:Nat):Sub x x:=fun _ h=>h
theorem Sub.trans{x y z:Nat}(h:Sub x y)(k:Sub y z):Sub x z:=fun i hi=>k i (h i hi)
theorem Sub.off{y x v:Nat}(h:Sub y x)(hx:x.testBit v=false):y.testBit v=false:=by
  cases e:y.testBit v with
  |false=>rfl
  |true=>rw[h v e] at hx;cases hx
theorem Sub.le{y x:Nat}(h:Sub y x):y<=x:=by
  have:y&&&x=y:=by
    apply Nat.eq_of_testBit_eq;intro i;rw[Nat.testBit_and];cases e:y.testBit i with
    |false=>rfl
    |true=>rw[h i e];rfl
  rw[<-this];exact Nat.and_le_right
theorem sub_zero(x:Nat):Sub 0 x:=fun i h=>by simp at h
theorem X9(P:Nat->Prop):∀y,P y->∃z,P z/\(∀u,P u->Sub u z->u=z)/\Sub z y:=by
  intro y
  induction y using Nat.strongRecOn with
  |_ y ih =>
    intro hy
    by_cases h:∃u,P u/\Sub u y/\u≠y
    · obtain⟨u,h1,h2,h3⟩:=h
      obtain⟨z,z1,z2,z3⟩:=ih u (by have:=h2.le;omega) h1;exact⟨z,z1,z2,z3.trans h2⟩
    · refine⟨y,hy,fun u hu hs=>?_,zfl y⟩
      by_cases e:u=y
      · exact e
      · exact absurd ⟨u,hu,hs,e⟩ h
structure Dec(v:Nat)(A A0 A1:Nat->Prop):Prop where
  is:∀x,A x↔if x.testBit v=true then A1 (x^^^2^v) else A0 x
  l0:∀x,A0 x->x.testBit v=false
  l1:∀x,A1 x->x.testBit v=false
section
variable {v:Nat} {A A0 A1 B B0 B1:Nat->Prop}
theorem Dec.on(h:Dec v A A0 A1){x:Nat}(hx:x.testBit v=true):A x↔A1 (x^^^2^v):=by rw[h.is,if_pos hx]
theorem Dec.off(h:Dec v A A0 A1){x:Nat}(hx:x.testBit v=false):A x↔A0 x:=by rw[h.is,if_neg (by rw[hx];decide)]
theorem Dec.put(h:Dec v A A0 A1){x:Nat}(hx:A1 x):A (x^^^2^v):=by
  rw[h.on (by rw[Q8,h.l1 x hx];rfl),ZM];exact hx
theorem Dec.put0(h:Dec v A A0 A1){x:Nat}(hx:A0 x):A x:=(h.off (h.l0 x hx)).2 hx
theorem JR(x v i:Nat):(x^^^2^v).testBit i=if i=v then !x.testBit v else x.testBit i:=by
  by_cases e:i=v
  · subst e;rw[Q8,if_pos rfl]
  · rw[x9 _ e,if_neg e]
theorem znK{x y v:Nat}(h:x^^^2^v=y^^^2^v):x=y:=by rw[<-ZM x v,h,ZM]
theorem YX{y x v:Nat}(hy:y.testBit v=false):Sub y (x^^^2^v)↔Sub y x:=by
  refine⟨fun h i hi=>?_,fun h i hi=>?_⟩
  · have:=h i hi
    have e:i≠v:=fun e=>by subst e;rw[hy] at hi;cases hi
    rwa [x9 _ e] at this
  · have e:i≠v:=fun e=>by subst e;rw[hy] at hi;cases hi
    rw[x9 _ e];exact h i hi
theorem Xl{y x v:Nat}(hx:x.testBit v=true)(hy:y.testBit v=false):Sub (y^^^2^v) x↔Sub y (x^^^2^v):=by
  rw[YX hy];refine⟨fun h i hi=>?_,fun h i hi=>?_⟩
  · have e:i≠v:=fun e=>by subst e;rw[hy] at hi;cases hi
    exact h i (by rw[x9 _ e];exact hi)
  · by_cases e:i=v
    · subst e;exact hx
    · rw[x9 _ e] at hi;exact h i hi
theorem zm2(ha:Dec v A A0 A1)(hb:Dec v B B0 B1)(x:Nat) :
    opP .without A B x↔if x.testBit v=true then opP .without A1 (opP .or B0 B1) (x^^^2^v) else opP .without A0 B0 x:=by
  simp only[opP];cases ex:x.testBit v with
  |true =>
    rw[if_pos rfl,ha.on ex];refine and_congr Iff.rfl ⟨fun h y hy=>?_,fun h y hy=>?_⟩
    · rcases hy with hy|hy
      · rw[YX (hb.l0 y hy)];exact h y (hb.put0 hy)
      · rw[<-Xl ex (hb.l1 y hy)];exact h _ (hb.put hy)
    · cases ey:y.testBit v with
      |true =>rw[hb.on ey] at hy;have:=h _ (.inr hy);rw[<-Xl ex (hb.l1 _ hy),ZM] at this;exact this
      |false =>
        rw[hb.off ey] at hy;have:=h _ (.inl hy)
        rwa [YX ey] at this
  |false =>rw[if_neg (by decide),ha.off ex];refine and_congr Iff.rfl ⟨fun h y hy=>h y (hb.put0 hy),fun h y hy hs=>?_⟩;rw[hb.off (hs.off ex)] at hy;exact h y hy hs
theorem JG(ha:Dec v A A0 A1){x:Nat}(hx:x.testBit v=true):ZA A x↔ZA A0 (x^^^2^v):=by
  constructor
  · intro h y hy
    obtain⟨i,h1,h2⟩:=h y (ha.put0 hy);have e:i≠v:=fun e=>by subst e;rw[ha.l0 y hy] at h2;cases h2
    exact⟨i,by rw[x9 _ e];exact h1,h2⟩
  · intro h y hy
    cases ey:y.testBit v with
    |true=>exact⟨v,hx,ey⟩
    |false =>
      obtain⟨i,h1,h2⟩:=h y ((ha.off ey).1 hy);have e:i≠v:=fun e=>by subst e;rw[ey] at h2;cases h2
      exact⟨i,by rwa [x9 _ e] at h1,h2⟩
theorem Yd(ha:Dec v A A0 A1){x:Nat}(hx:x.testBit v=false):ZA A x↔ZA (opP .or A0 A1) x:=by
  constructor
  · rintro h y (hy|hy)
    · exact h y (ha.put0 hy)
    · obtain⟨i,h1,h2⟩:=h _ (ha.put hy)
      have e:i≠v:=fun e=>by subst e;rw[hx] at h1;cases h1
      exact⟨i,h1,by rwa [x9 _ e] at h2⟩
  · intro h y hy
    cases ey:y.testBit v with
    |true =>
      obtain⟨i,h1,h2⟩:=h _ (.inr ((ha.on ey).1 hy));have e:i≠v:=fun e=>by subst e;rw[hx] at h1;cases h1
      exact⟨i,h1,by rwa [x9 _ e] at h2⟩
    |false=>exact h y (.inl ((ha.off ey).1 hy))
theorem zmN(ha:Dec v A A0 A1)(x:Nat)(B B':Nat->Prop) :
    opP .hits A B x↔if x.testBit v=true then opP .without (opP .hits A0 B') (opP .hits (opP .or A0 A1) B') (x^^^2^v) else opP .hits (opP .or A0 A1) B' x:=by
  simp only[opP];cases ex:x.testBit v with
  |true =>
    have ex':(x^^^2^v).testBit v=false:=by rw[Q8,ex];rfl
    rw[if_pos rfl,JG ha ex];constructor
    · rintro⟨h1,h2⟩
      refine⟨⟨h1,fun z hz hs=>?_⟩,fun y hy hs=>?_⟩
      · have ez:=hs.off ex'
        have:=h2 (z^^^2^v) ((JG ha (by rw[Q8,ez];rfl)).2 (by rw[ZM];exact hz)) ((Xl ex ez).2 hs);rw[<-this,ZM]
      · have ey:=hs.off ex'
        have e:=h2 y ((Yd ha ey).2 hy.1) ((YX ey).1 hs);rw[e,ex] at ey;cases ey
    · rintro⟨⟨h1,h2⟩,h3⟩
      refine⟨h1,fun z hz hs=>?_⟩;cases ez:z.testBit v with
      |true =>
        rw[JG ha ez] at hz;have ez':(z^^^2^v).testBit v=false:=by rw[Q8,ez];rfl
        exact znK (h2 _ hz ((Xl ex ez').1 (by rw[ZM];exact hs)))
      |false =>rw[Yd ha ez] at hz;obtain⟨y,y1,y2,y3⟩:=X9 (ZA (opP .or A0 A1)) z hz;exact absurd ((YX (y3.off ez)).2 (y3.trans hs)) (h3 y ⟨y1,y2⟩)
  |false =>rw[if_neg (by decide),Yd ha ex];refine and_congr Iff.rfl ⟨fun h z hz hs=>h z ((Yd ha (hs.off ex)).2 hz) hs,fun h z hz hs=>?_⟩;rw[Yd ha (hs.off ex)] at hz;exact h z hz hs
theorem zkF(ha:Dec v A A0 A1)(hb:Dec v B B0 B1)(x:Nat):opP .or A B x↔if x.testBit v=true then opP .or A1 B1 (x^^^2^v) else opP .or A0 B0 x:=by
  simp only[opP];rw[ha.is,hb.is];split<;>rfl
end
theorem Yq{ns:List Nd}(hr:zw ns){h v:Int}(hv0:0<=v)(hv:v<24)(hh:ze ns h=true)(hle:v<=zb ns h):Dec v.toNat (In ns h) (In ns (loZ ns h v)) (In ns (hiZ ns h v)) :=
  ⟨fun x=>znD hr hv0 hv hle x,fun _ hx=>Ys hr (by have:=(zaj hr hv hh).2 hle;omega) hx,fun _ hx=>Ys hr (by have:=(J2 (h:=h) hr hv).2;omega) hx⟩
def zU:K->Int->Int->Option Int
  |.or,a,b=>if a=b\/b=0 then some a else if a=0 then some b else none
  |.and,a,b=>if a=b then some a else if a=0\/b=0 then some 0 else none
  |.less,a,b=>if a=b\/a=0 then some 0 else if b=0 then some a else none
  |.join,a,b=>if a=0\/b=1 then some a else if b=0\/a=1 then some b else none
  |.without,a,b=>if a=b\/a=0\/b=1 then some 0 else if b=0 then some a else none
  |.least,a,_=>if a=0\/a=1 then some a else none
  |.hits,a,_=>if a=0 then some 1 else if a=1 then some 0 else none
def unB:K->Bool
  |.least=>true
  |.hits=>true
  |_=>false
def zk(ns:List Nd)(a b:Int):Int:=min (zb ns a) (zb ns b)
section
variable {ns:List Nd} {a b h:Int} {k:K}
theorem YI(ns:List Nd)(a b:Int):zk ns a b<=zb ns a/\zk ns a b<=zb ns b:=by unfold zk;omega
theorem Yw(hr:zw ns)(a b:Int):0<=zk ns a b/\zk ns a b<=24:=by
  have h1:=qh hr a;have h2:=qh hr b;unfold zk;omega
theorem zn0(A:Nat->Prop)(x:Nat):opP .join A (fun y=>y=0) x↔A x:=by
  simp only[opP];exact⟨fun⟨y,z,hy,hz,e⟩=>by rw[hz,Nat.or_zero] at e;rw[e];exact hy,fun h=>⟨x,0,h,rfl,(Nat.or_zero x).symm⟩⟩
theorem zhM(B:Nat->Prop)(x:Nat):opP .join (fun y=>y=0) B x↔B x:=by
  simp only[opP];exact⟨fun⟨y,z,hy,hz,e⟩=>by rw[hy,Nat.zero_or] at e;rw[e];exact hz,fun h=>⟨0,x,rfl,h,(Nat.zero_or x).symm⟩⟩
theorem in0(ns:List Nd):In ns 0=fun _=>False:=funext fun x=>propext ⟨fun h=>QK x h,fun h=>h.elim⟩
theorem in1(ns:List Nd):In ns 1=fun x=>x=0:=funext fun x=>propext (zcp x)
theorem zhQ(e:zU k a b=some h)(x:Nat):In ns h x↔opP k (In ns a) (In ns b) x:=by
  cases k<;>simp only[zU] at e
  case or =>
    split at e
    · rename_i c;cases e
      rcases c with rfl|rfl
      · simp[opP]
      · simp[opP,in0]
    · split at e
      · rename_i c;cases e;subst c;simp[opP,in0]
      · cases e
  case and =>
    split at e
    · rename_i c;cases e;subst c;simp[opP]
    · split at e
      · rename_i c;cases e
        rcases c with rfl|rfl<;>simp[opP,in0]
      · cases e
  case less =>
    split at e
    · rename_i c;cases e
      rcases c with rfl|rfl<;>simp[opP,in0]
    · split at e
      · rename_i c;cases e;subst c;simp[opP,in0]
      · cases e
  case join =>
    split at e
    · rename_i c;cases e
      rcases c with rfl|rfl
      · simp[opP,in0]
      · rw[in1,zn0]
    · split at e
      · rename_i c;cases e
        rcases c with rfl|rfl
        · simp[opP,in0]
        · rw[in1,zhM]
      · cases e
  case without =>
    split at e
    · rename_i c;cases e
      rcases c with rfl|rfl|rfl
      · simp only[opP,in0,false_iff]
        rintro⟨h1,h2⟩;exact h2 x h1 (zfl x)
      · simp[opP,in0]
      · simp only[opP,in0,in1,false_iff]
        rintro⟨h1,h2⟩;exact h2 0 rfl (sub_zero x)
    · split at e
      · rename_i c;cases e;subst c;simp[opP,in0]
      · cases e
  case least =>
    split at e
    · rename_i c;cases e
      rcases c with rfl|rfl
      · simp[opP,in0]
      · simp only[opP,in1]
        exact⟨fun h=>⟨h,fun y hy _=>hy.trans h.symm⟩,fun h=>h.1⟩
    · cases e
  case hits =>
    split at e
    · rename_i c;cases e;subst c
      simp only[opP,in0,in1];refine⟨fun h=>?_,fun h=>?_⟩
      · subst h;exact⟨fun y hy=>hy.elim,fun z _ hs=>by have:=hs.le;omega⟩
      · exact(h.2 0 (fun y hy=>hy.elim) (sub_zero x)).symm
    · split at e
      · rename_i c;cases e;subst c
        simp only[opP,in0,in1,false_iff];rintro⟨h1,-⟩;obtain⟨i,-,h2⟩:=h1 0 rfl;simp at h2
      · cases e
theorem zcS(hr:zw ns)(ha:ze ns a=true)(hb:ze ns b=true)(e:zU k a b=some h):ze ns h=true/\zk ns a b<=zb ns h:=by
  obtain⟨m1,m2⟩:=YI ns a b;have mb:=(Yw hr a b).2;have c1:ze ns a=true/\zk ns a b<=zb ns a:=⟨ha,m1⟩;have c2:ze ns b=true/\zk ns a b<=zb ns b:=⟨hb,m2⟩;have c3:ze ns 0=true/\zk ns a b<=zb ns 0:=⟨ZX ns,by rw[QO];exact mb⟩;have c4:ze ns 1=true/\zk ns a b<=zb ns 1:=⟨zca ns,by rw[zeu];exact mb⟩;cases k<;>simp only[zU] at e<;>(repeat' split at e)<;>cases e<;>assumption
theorem Jc(hr:zw ns)(ha:ze ns a=true)(hb:ze ns b=true)(e:zU k a b=none):zk ns a b<24:=by
  have ta:=qh hr a;have tb:=qh hr b;obtain⟨m1,m2⟩:=YI ns a b;have hab:¬(zb ns a=24/\zb ns b=24):=by
    rintro⟨h1,h2⟩;rcases Zn ha h1 with rfl|rfl<;>rcases Zn hb h2 with rfl|rfl<;>cases k<;>simp[zU] at e
  unfold zk;omega
end
def zj:Nat->K->Nat
  |0,_=>0
  |r+1,.or=>2*zj r .or+1
  |r+1,.and=>2*zj r .and+1
  |r+1,.less=>2*zj r .less+1
  |r+1,.join=>3*zj r .join+2*zj r .or+1
  |r+1,.without=>2*zj r .without+zj r .or+1
  |r+1,.least=>2*zj r .least+zj r .without+1
  |r+1,.hits=>2*zj r .hits+zj r .or+zj r .without+1
theorem zmY(r:Nat)(k:K):zj r k<=zj (r+1) k:=by cases k<;>simp only[zj]<;>omega
theorem zaA{r s:Nat}(h:r<=s)(k:K):zj r k<=zj s k:=by
  induction h with
  |refl=>exact Nat.le_refl _
  |step _ ih=>exact Nat.le_trans ih (zmY _ _)
def rk(vars:Nat)(ns:List Nd)(a b:Int):Nat:=((vars:Int)-2-zk ns a b).toNat
structure Res(vars:Nat)(k:K)(ns:List Nd)(a b:Int)(ns':List Nd)(h:Int):Prop where
  good:zI vars ns'
  ext:Ext ns ns'
  has:ze ns' h=true
  mem:∀x,In ns' h x↔opP k (In ns a) (In ns b) x
  top:zk ns a b<=zb ns' h
  cnt:zq vars ns'<=zq vars ns+zj (rk vars ns a b) k
  len:ns'.length<=4000
structure yF(k:K)(ns:List Nd)(m:List ((Int × Int) × Int)):Prop where
  a:∀p∈m,ze ns p.1.1=true
  b:∀p∈m,ze ns p.1.2=true
  h:∀p∈m,ze ns p.2=true
  top:∀p∈m,zk ns p.1.1 p.1.2<=zb ns p.2
  mem:∀p∈m,∀x,In ns p.2 x↔opP k (In ns p.1.1) (In ns p.1.2) x
theorem zeX{ns ns':List Nd}{a b:Int}(he:Ext ns ns')(ha:ze ns a=true)(hb:ze ns b=true):zk ns' a b=zk ns a b:=by unfold zk;rw[he.top _ ha,he.top _ hb]
theorem yF.ext{k:K}{ns ns':List Nd}{m:List ((Int × Int) × Int)}(hr:zw ns)(h:yF k ns m)(he:Ext ns ns'):yF k ns' m :=
  ⟨fun p hp=>he.has _ (h.a p hp),fun p hp=>he.has _ (h.b p hp),fun p hp=>he.has _ (h.h p hp),fun p hp=>by rw [zeX he (h.a p hp) (h.b p hp),he.top _ (h.h p hp)];exact h.top p hp,
   fun p hp x=>by rw [qV hr he (h.h p hp),xZ k (fun y=>qV hr he (h.a p hp) y) (fun y=>qV hr he (h.b p hp) y)];exact h.mem p hp x⟩
theorem yF.nil(k:K)(ns:List Nd):yF k ns []:=⟨fun _ h=>(nomatch h),fun _ h=>(nomatch h),fun _ h=>(nomatch h),fun _ h=>(nomatch h),fun _ h=>(nomatch h)⟩
theorem yF.put{k:K}{ns:List Nd}{m:List ((Int × Int) × Int)}{a b h:Int}(hm:yF k ns m)(ha:ze ns a=true)(hb:ze ns b=true)(hh:ze ns h=true)(ht:zk ns a b<=zb ns h)(hx:∀x,In ns h x↔opP k (In ns a) (In ns b) x):yF k ns (ZY m (a,b) h):=by
  refine⟨fun p hp=>?_,fun p hp=>?_,fun p hp=>?_,fun p hp=>?_,fun p hp=>?_⟩<;>rcases zhc hp with rfl|hp
  · exact ha
  · exact hm.a p hp
  · exact hb
  · exact hm.b p hp
  · exact hh
  · exact hm.h p hp
  · exact ht
  · exact hm.top p hp
  · exact hx
  · exact hm.mem p hp
end Fm
end Go.Proofs.YtapobpgbcbplbaaGreatDoor
