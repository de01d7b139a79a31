import Derived.Test.YthifnefkdjkicaaGreatDoorArSweep
namespace Go.Proofs.YthifnefkdjkicaaGreatDoor
set_option maxHeartbeats 1000000
set_option maxRecDepth 100000
namespace Bd
open Go.RowKit Go.Maps
theorem zbt(room:Int)(h0:0<=room)(h1:room<=4000)(w:World)(B:Nat)(hB:B<=w.heap.size) :
    zC 53 #[room] w fun e w'=>e=.returned (.tuple #[.pointer (some ⟨w.heap.size+1,0,none⟩),.nilIface])/\zP B w' (w.heap.size+1) w.heap.size (.slice none 0 0) [] [] room 2/\zB w w':=by
  have j:=@run_makeMap Tryz.prog;have hE:zP B ((w.alloc (.map #[] 0)).alloc (.cells #[room,.slice none 0 0,.map (some w.heap.size),(2:Int)] 182)) (w.heap.size+1) w.heap.size (.slice none 0 0) [] [] room 2:=by
    have e1:(w.alloc (.map #[] 0)).heap.size=w.heap.size+1:=by simp
    have hm:((w.alloc (.map #[] 0)).alloc (.cells #[room,.slice none 0 0,.map (some w.heap.size),(2:Int)] 182)).ownsMap Tryz.prog 250 (plainElem (H:=Unit) Tryz.prog 3) w.heap.size 0 (.map []):=(World.ownsMap_made w _ _ _).alloc _;refine⟨by simp,?_,?_,?_,?_,?_,World.ownsRow_nil _ _ _ _,⟨_,hm,Rep.empty⟩,by simp[Value.ownBlock],by omega,by simp[Value.ownBlock],by omega,hB⟩
    · rw[<-e1];simp
    · rw[<-e1];simp
    · rw[<-e1];simp
    · rw[<-e1];simp
    · intro i;rw[<-e1];simp
  have hb:zB w ((w.alloc (.map #[] 0)).alloc (.cells #[room,.slice none 0 0,.map (some w.heap.size),(2:Int)] 182)):=(zF.alloc zN _).alloc (by simp) _;have HE:=zH hE;clear hE;go_enter Tryz.func53,Tryz.ntmps53;go_wp2;go_ret2;exact⟨rfl,HE.out,hb⟩
end Bd
namespace Bd
open Go.RowKit Go.Maps
structure JZ(ns:List Nd):Prop where
  ranked:qd ns
  occ:∀j,j<ns.length->(nd ns j).v<24
  inj:∀i j,i<ns.length->j<ns.length->nd ns i=nd ns j->i=j
def zaY(ns:List Nd):List (Nd × Int):=(List.range ns.length).map fun i=>(nd ns i,2+(i:Int))
theorem zhE{ns:List Nd}{p:Nd × Int}:p∈zaY ns↔∃i:Nat,i<ns.length/\p=(nd ns i,2+(i:Int)):=by
  unfold zaY;simp only[List.mem_map,List.mem_range];constructor
  · rintro⟨i,h,rfl⟩;exact⟨i,h,rfl⟩
  · rintro⟨i,h,rfl⟩;exact⟨i,h,rfl⟩
theorem Jz(ns:List Nd)(n:Nd)(i:Nat):nd (ns++[n]) i=if i<ns.length then nd ns i else if i=ns.length then n else ⟨0,0,0⟩:=by
  unfold nd;simp only[List.getD_eq_getElem?_getD]
  by_cases h:i<ns.length
  · rw[zA2 h,List.getElem?_append_left h]
  · rw[zA1 h,List.getElem?_append_right (by omega)]
    by_cases e:i=ns.length
    · subst e;simp
    · rw[zA1 e,List.getElem?_eq_none (by simp;omega)];rfl
theorem Jd{ns:List Nd}{h:Int}(hh:zj ns h=true):h=0\/h=1\/za ns h<24:=by
  unfold zj at hh;simpa[or_assoc] using hh
theorem Kf{ns:List Nd}{h:Int}(n:Nd)(hh:zj ns h=true):za (ns++[n]) h=za ns h:=by
  rcases Jd hh with rfl|rfl|ht
  · simp[za]
  · simp[za]
  · obtain⟨b1,b2,b3⟩:=Qz (by omega:za ns h≠24)
    unfold za;rw[zA2 (by rw[List.length_append];simp;omega),zA2 (by omega),Jz,zA2 b2]
theorem Kn{ns:List Nd}{h:Int}(n:Nd)(hh:zj ns h=true):zj (ns++[n]) h=true:=by
  unfold zj;rw[Kf n hh];exact hh
theorem JZ.snoc{ns:List Nd}{n:Nd}(hF:JZ ns)(hn:n.Ok)(hf:Fit ns n)(hnin:n∉(zaY ns).map Prod.fst):JZ (ns++[n]):=by
  have o:∀j,j<(ns++[n]).length->nd (ns++[n]) j=n/\j=ns.length\/j<ns.length/\nd (ns++[n]) j=nd ns j:=fun j hj=>by
    rw[List.length_append,List.length_singleton] at hj
    by_cases h:j<ns.length
    · exact .inr ⟨h,by rw[Jz,zA2 h]⟩
    · exact .inl ⟨by rw[Jz,zA1 h,zA2 (by omega)],by omega⟩
  have p:∀i,i<ns.length->nd ns i≠n:=fun i hi e=>hnin (List.mem_map.2 ⟨(nd ns i,2+(i:Int)),zhE.2 ⟨i,hi,rfl⟩,e⟩);refine⟨⟨?_,?_,?_,?_⟩,?_,?_⟩
  · intro j hj
    rcases o j hj with ⟨e,-⟩|⟨h,e⟩
    · rw[e];have:=hf.v0;have:=hf.v1;omega
    · rw[e];exact hF.ranked.v0 j h
  · intro j hj hv
    rcases o j hj with ⟨e,-⟩|⟨h,e⟩
    · rw[e];exact⟨by rw[Kf n hf.l];exact hf.tl,Kn n hf.l⟩
    · rw[e] at hv ⊢
      have:=hF.ranked.l j h hv;exact⟨by rw[Kf n this.2];exact this.1,Kn n this.2⟩
  · intro j hj hv
    rcases o j hj with ⟨e,-⟩|⟨h,e⟩
    · rw[e];exact⟨by rw[Kf n hf.h];exact hf.th,Kn n hf.h⟩
    · rw[e] at hv ⊢
      have:=hF.ranked.h j h hv;exact⟨by rw[Kf n this.2];exact this.1,Kn n this.2⟩
  · intro j hj
    rcases o j hj with ⟨e,-⟩|⟨h,e⟩
    · rw[e];exact hn
    · rw[e];exact hF.ranked.ok j h
  · intro j hj
    rcases o j hj with ⟨e,-⟩|⟨h,e⟩
    · rw[e];exact hf.v1
    · rw[e];exact hF.occ j h
  · intro i j hi hj he
    rcases o i hi with ⟨e1,q1⟩|⟨h1,e1⟩<;>rcases o j hj with ⟨e2,q2⟩|⟨h2,e2⟩
    · omega
    · rw[e1,e2] at he;exact absurd he.symm (p j h2)
    · rw[e1,e2] at he;exact absurd he (p i h1)
    · rw[e1,e2] at he;exact hF.inj i j h1 h2 he
end Bd
namespace Bd
open Go.RowKit Go.Maps
def qp(ns:List Nd)(k:Nat)(n:Nd):List Nd:=(if k=ns.length then ns++[⟨24,0,0⟩] else ns).set k n
section
variable {ns:List Nd} {k:Nat} {n:Nd}
theorem QH(hk:k<=ns.length)(i:Nat):i<(qp ns k n).length↔i<ns.length\/i=k:=by
  unfold qp;rw[List.length_set];split
  · rw[List.length_append,List.length_singleton];omega
  · omega
theorem za8(_hk:k<=ns.length):(qp ns k n).length<=ns.length+1/\ns.length<=(qp ns k n).length:=by
  unfold qp;rw[List.length_set];split
  · rw[List.length_append,List.length_singleton];omega
  · omega
theorem Zf(hk:k<=ns.length)(i:Nat)(hi:i<ns.length\/i=k):nd (qp ns k n) i=if i=k then n else nd ns i:=by
  unfold qp;rw[ze7 _ _ _ _ (by split<;>(try simp)<;>omega)]
  by_cases e:i=k
  · rw[zA2 e,zA2 e]
  · rw[zA1 e,zA1 e]
    split
    · rw[Jz,zA2 (by omega)]
    · rfl
theorem zcd(hk:k<=ns.length)(hfree:k<ns.length->¬(nd ns k).v<24){h:Int}(ht:za ns h<24):nd (qp ns k n) (h-2).toNat=nd ns (h-2).toNat/\za (qp ns k n) h=za ns h:=by
  obtain⟨b1,b2,b3⟩:=Qz (by omega:za ns h≠24);have j:(h-2).toNat≠k:=fun e=>by
    rw[b3,e] at ht;exact hfree (e▸b2) ht
  have h1:nd (qp ns k n) (h-2).toNat=nd ns (h-2).toNat:=by rw[Zf hk _ (.inl b2),zA1 j]
  refine⟨h1,?_⟩;have hl:=(QH (n:=n) hk (h-2).toNat).2 (.inl b2);unfold za;rw[zA2 (by omega),zA2 (by omega),h1]
theorem YR(hk:k<=ns.length)(hfree:k<ns.length->¬(nd ns k).v<24){h:Int}(hh:zj ns h=true):za (qp ns k n) h=za ns h:=by
  rcases Jd hh with rfl|rfl|ht
  · simp[za]
  · simp[za]
  · exact(zcd hk hfree ht).2
theorem XU(hk:k<=ns.length)(hfree:k<ns.length->¬(nd ns k).v<24){h:Int}(hh:zj ns h=true):zj (qp ns k n) h=true:=by
  unfold zj;rw[YR hk hfree hh];exact hh
theorem zdX(hk:k<=ns.length):za (qp ns k n) (2+(k:Int))=n.v:=by
  rw[Ya ((QH hk k).2 (.inr rfl)),Zf hk k (.inr rfl),zA2 rfl]
theorem zo6(hr:qd ns)(hk:k<=ns.length)(hfree:k<ns.length->¬(nd ns k).v<24)(hn:n.Ok)(hf:Fit ns n):qd (qp ns k n):=by
  have o:∀j,j<(qp ns k n).length->nd (qp ns k n) j=n/\j=k\/j<ns.length/\nd (qp ns k n) j=nd ns j:=fun j hj=>by
    have hj':=(QH hk j).1 hj
    by_cases e:j=k
    · exact .inl ⟨by rw[Zf hk j hj',zA2 e],e⟩
    · exact .inr ⟨by omega,by rw[Zf hk j hj',zA1 e]⟩
  refine⟨?_,?_,?_,?_⟩<;>intro j hj<;>rcases o j hj with ⟨e,-⟩|⟨hl,e⟩<;>rw[e]
  · have:=hf.v0;have:=hf.v1;omega
  · exact hr.v0 j hl
  · intro _;rw[YR hk hfree hf.l];exact⟨hf.tl,XU hk hfree hf.l⟩
  · intro hv;have:=hr.l j hl hv;rw[YR hk hfree this.2];exact⟨this.1,XU hk hfree this.2⟩
  · intro _;rw[YR hk hfree hf.h];exact⟨hf.th,XU hk hfree hf.h⟩
  · intro hv;have:=hr.h j hl hv;rw[YR hk hfree this.2];exact⟨this.1,XU hk hfree this.2⟩
  · exact hn
  · exact hr.ok j hl
theorem zjG{L:List (Nd × Int)}(hB:ZQ ns L)(hk:k<=ns.length)(hfree:k<ns.length->¬(nd ns k).v<24)(hv:n.v<24)(hnin:n∉L.map Prod.fst):ZQ (qp ns k n) (L++[(n,2+(k:Int))]):=by
  refine⟨fun p hp=>?_,fun i hi j=>?_,?_,fun i hi j=>?_⟩
  · rcases List.mem_append.1 hp with hp|hp
    · obtain⟨i,hi,j,rfl⟩:=hB.mem p hp
      have o:i≠k:=fun e=>by subst e;exact hfree hi j
      refine⟨i,(QH hk i).2 (.inl hi),?_,?_⟩<;>rw[Zf hk i (.inl hi),zA1 o]
      exact j
    · rw[List.mem_singleton] at hp;subst hp
      refine⟨k,(QH hk k).2 (.inr rfl),?_,?_⟩<;>rw[Zf hk k (.inr rfl),zA2 rfl]
      exact hv
  · have hi':=(QH hk i).1 hi
    rw[Zf hk i hi'] at j ⊢
    by_cases e:i=k
    · rw[zA2 e];subst e;simp
    · rw[zA1 e] at j ⊢
      exact List.mem_append.2 (.inl (hB.all i (by omega) j))
  · rw[List.map_append,List.nodup_append]
    refine⟨hB.nodup,by simp,fun x hx y hy=>?_⟩;simp at hy;subst hy;exact fun e=>hnin (e▸hx)
  · have hi':=(QH hk i).1 hi
    rw[Zf hk i hi'] at j ⊢
    by_cases e:i=k
    · rw[zA2 e] at j;exact absurd hv j
    · rw[zA1 e] at j ⊢
      exact hB.free i (by omega) j
end
end Bd
namespace Bd
open Go.RowKit Go.Maps
def pl(h:Int):Nat:=(h-2).toNat
def yC:Nat->List Nd->Int->(Nat->Bool)->Bool
  |0,_,h,_=>decide (h=1)
  |d+1,ns,h,f =>
    if za ns h=24 then decide (h=1)
    else if f (za ns h).toNat then yC d ns (nd ns (pl h)).h f else yC d ns (nd ns (pl h)).l f
def sem(ns:List Nd)(h:Int)(f:Nat->Bool):Bool:=yC 24 ns h f
structure zU(vars:Nat)(ns:List Nd):Prop where
  ranked:qd ns
  once:∀i j,i<ns.length->j<ns.length->(nd ns i).v<24->nd ns i=nd ns j->i=j
  red:∀i,i<ns.length->(nd ns i).v<24->(nd ns i).l≠(nd ns i).h
  vars:∀i,i<ns.length->(nd ns i).v<24->(nd ns i).v<(vars:Int)
  free:∀i,i<ns.length->¬(nd ns i).v<24->nd ns i=⟨24,0,0⟩
section
variable {ns:List Nd}
theorem xj{h:Int}(ht:za ns h≠24):2<=h/\pl h<ns.length/\za ns h=(nd ns (pl h)).v/\h=2+(pl h:Int):=by
  obtain⟨h1,h2,h3⟩:=Qz ht;exact⟨h1,h2,h3,by unfold pl;omega⟩
theorem XM(hr:qd ns){h:Int}(ht:za ns h≠24):za ns h<24:=by
  have:=(qx hr h).2;omega
theorem ZF(hr:qd ns){h:Int}(ht:za ns h≠24):za ns h<za ns (nd ns (pl h)).l/\zj ns (nd ns (pl h)).l=true/\za ns h<za ns (nd ns (pl h)).h/\zj ns (nd ns (pl h)).h=true:=by
  obtain⟨h1,h2,h3,h4⟩:=xj ht;have hv:=XM hr ht;rw[h3] at hv ⊢;exact⟨(hr.l _ h2 hv).1,(hr.l _ h2 hv).2,(hr.h _ h2 hv).1,(hr.h _ h2 hv).2⟩
theorem Y3{h:Int}(hh:zj ns h=true)(ht:za ns h=24):h=0\/h=1:=by
  rcases Jd hh with h1|h1|h1
  · exact .inl h1
  · exact .inr h1
  · omega
theorem K3(hr:qd ns)(f:Nat->Bool):∀(d e:Nat) (h:Int),24<=za ns h+d->24<=za ns h+e->yC d ns h f=yC e ns h f
  |0,0,h,_,_=>rfl
  |0,e+1,h,hd,_=>by
    have:=(qx hr h).2;unfold yC;rw[zA2 (by omega)]
  |d+1,0,h,_,he=>by
    have:=(qx hr h).2;unfold yC;rw[zA2 (by omega)]
  |d+1,e+1,h,hd,he=>by
    unfold yC
    by_cases ht:za ns h=24
    · rw[zA2 ht,zA2 ht]
    · rw[zA1 ht,zA1 ht]
      obtain⟨k1,-,k2,-⟩:=ZF hr ht;rw[K3 hr f d e _ (by omega) (by omega),K3 hr f d e (nd ns (pl h)).l (by omega) (by omega)]
theorem Jq{h:Int}(ht:za ns h=24)(f:Nat->Bool):sem ns h f=decide (h=1):=by
  unfold sem yC;rw[zA2 ht]
theorem ZJ(f:Nat->Bool):sem ns 0 f=false:=by rw[Jq (by simp[za])];rfl
theorem ZT(f:Nat->Bool):sem ns 1 f=true:=by rw[Jq (by simp[za])];rfl
theorem Xe(hr:qd ns){h:Int}(ht:za ns h≠24)(f:Nat->Bool):sem ns h f=if f (za ns h).toNat then sem ns (nd ns (pl h)).h f else sem ns (nd ns (pl h)).l f:=by
  obtain⟨k1,-,k2,-⟩:=ZF hr ht;have h0:=(qx hr h).1;show yC 24 ns h f=_;unfold yC;rw[zA1 ht,K3 hr f 23 24 _ (by omega) (by omega),K3 hr f 23 24 (nd ns (pl h)).l (by omega) (by omega)];rfl
def loS(ns:List Nd)(h v:Int):Int:=if za ns h=v then (nd ns (pl h)).l else h
def hiS(ns:List Nd)(h v:Int):Int:=if za ns h=v then (nd ns (pl h)).h else h
theorem Yt(hr:qd ns){h v:Int}(hv:v<24)(hh:zj ns h=true):zj ns (loS ns h v)=true/\(v<=za ns h->v<za ns (loS ns h v))/\za ns h<=za ns (loS ns h v):=by
  unfold loS
  by_cases e:za ns h=v
  · rw[zA2 e]
    have:=ZF hr (h:=h) (by omega);exact⟨this.2.1,fun _=>by omega,by omega⟩
  · rw[zA1 e];exact⟨hh,fun h=>by omega,Int.le_refl _⟩
theorem QX(hr:qd ns){h v:Int}(hv:v<24)(hh:zj ns h=true):zj ns (hiS ns h v)=true/\(v<=za ns h->v<za ns (hiS ns h v))/\za ns h<=za ns (hiS ns h v):=by
  unfold hiS
  by_cases e:za ns h=v
  · rw[zA2 e]
    have:=ZF hr (h:=h) (by omega);exact⟨this.2.2.2,fun _=>by omega,by omega⟩
  · rw[zA1 e];exact⟨hh,fun h=>by omega,Int.le_refl _⟩
theorem QS(hr:qd ns){h v:Int}(hv:v<24)(f:Nat->Bool):sem ns h f=if f v.toNat then sem ns (hiS ns h v) f else sem ns (loS ns h v) f:=by
  unfold loS hiS
  by_cases e:za ns h=v
  · rw[zA2 e,zA2 e,Xe hr (by omega),e]
  · rw[zA1 e,zA1 e];split<;>rfl
theorem zbk(hr:qd ns){f g:Nat->Bool}:∀(d:Nat) (h:Int),(∀i:Nat,za ns h<=(i:Int)->f i=g i)->yC d ns h f=yC d ns h g
  |0,_,_=>rfl
  |d+1,h,hfg=>by
    unfold yC
    by_cases ht:za ns h=24
    · rw[zA2 ht,zA2 ht]
    · rw[zA1 ht,zA1 ht]
      obtain⟨k1,-,k2,-⟩:=ZF hr ht;have h0:=(qx hr h).1;rw[hfg (za ns h).toNat (by omega),zbk hr d _ (fun i hi=>hfg i (by omega)),zbk hr d (nd ns (pl h)).l (fun i hi=>hfg i (by omega))]
theorem Yy(hr:qd ns){f g:Nat->Bool}{h:Int}(hfg:∀i:Nat,za ns h<=(i:Int)->f i=g i):sem ns h f=sem ns h g:=zbk hr 24 h hfg
def turn(f:Nat->Bool)(v:Nat)(b:Bool):Nat->Bool:=fun i=>if i=v then b else f i
theorem Yq(f:Nat->Bool){v i:Nat}(b:Bool)(h:i≠v):turn f v b i=f i:=zA1 h
theorem Ki(f:Nat->Bool)(v:Nat)(b:Bool):turn f v b v=b:=zA2 rfl
theorem zmN(hr:qd ns){a b v:Int}(hv0:0<=v)(hv:v<24)(ha:zj ns a=true)(hb:zj ns b=true)(hta:v<=za ns a)(htb:v<=za ns b)(h:∀f,sem ns a f=sem ns b f) :
    (∀f,sem ns (loS ns a v) f=sem ns (loS ns b v) f)/\(∀f,sem ns (hiS ns a v) f=sem ns (hiS ns b v) f):=by
  have la:=(Yt hr hv ha).2.1 hta;have lb:=(Yt hr hv hb).2.1 htb;have ga:=(QX hr hv ha).2.1 hta;have gb:=(QX hr hv hb).2.1 htb;refine⟨fun f=>?_,fun f=>?_⟩
  · have:=h (turn f v.toNat false)
    rw[QS hr hv,QS (h:=b) hr hv] at this;rw[Ki,zA1 (by simp),zA1 (by simp),Yy hr (g:=f) (fun i hi=>Yq _ _ (by omega)),Yy (h:=loS ns b v) hr (g:=f) (fun i hi=>Yq _ _ (by omega))] at this;exact this
  · have:=h (turn f v.toNat true)
    rw[QS hr hv,QS (h:=b) hr hv] at this;rw[Ki,zA2 rfl,zA2 rfl,Yy hr (g:=f) (fun i hi=>Yq _ _ (by omega)),Yy (h:=hiS ns b v) hr (g:=f) (fun i hi=>Yq _ _ (by omega))] at this;exact this
theorem zlG{a b:Nd}(h0:a.v=b.v)(h1:a.l=b.l)(h2:a.h=b.h):a=b:=by cases a;cases b;cases h0;cases h1;cases h2;rfl
theorem Jv{vars:Nat}(hg:zU vars ns):∀(d:Nat) (a b:Int),24<=za ns a+d->24<=za ns b+d->zj ns a=true->zj ns b=true->(∀f,sem ns a f=sem ns b f)->a=b
  |0,a,b,da,db,ha,hb,h=>by
    have ta:=(qx hg.ranked a).2;have tb:=(qx hg.ranked b).2;have:=h (fun _=>false);rw[Jq (by omega),Jq (by omega)] at this;rcases Y3 ha (by omega) with rfl|rfl<;>rcases Y3 hb (by omega) with rfl|rfl<;>simp at this ⊢
  |d+1,a,b,da,db,ha,hb,h=>by
    have ta:=qx hg.ranked a;have tb:=qx hg.ranked b
    by_cases e:za ns a=24/\za ns b=24
    · exact Jv hg 0 a b (by omega) (by omega) ha hb h
    · have hr:=hg.ranked
      obtain⟨v,hv,j,o,M⟩:∃v,v<24/\v<=za ns a/\v<=za ns b/\(v=za ns a\/v=za ns b):=by
        rcases Int.lt_or_le (za ns a) (za ns b) with h1|h1
        · exact⟨za ns a,by omega,by omega,by omega,.inl rfl⟩
        · exact⟨za ns b,by omega,by omega,by omega,.inr rfl⟩
      have y:0<=v:=by omega
      obtain⟨sl,sh⟩:=zmN hr y hv ha hb j o h;have la:=Yt hr hv ha;have lb:=Yt hr hv hb;have ga:=QX hr hv ha;have gb:=QX hr hv hb;have e1:=Jv hg d _ _ (by have:=la.2.1 j;omega) (by have:=lb.2.1 o;omega) la.1 lb.1 sl;have e2:=Jv hg d _ _ (by have:=ga.2.1 j;omega) (by have:=gb.2.1 o;omega) ga.1 gb.1 sh
      by_cases ca:za ns a=v
      · obtain⟨R,q,U,C⟩:=xj (ns:=ns) (h:=a) (by omega)
        by_cases cb:za ns b=v
        · obtain⟨J,p,K,u⟩:=xj (ns:=ns) (h:=b) (by omega)
          unfold loS at e1;unfold hiS at e2;rw[zA2 ca,zA2 cb] at e1 e2;have:=hg.once (pl a) (pl b) q p (by omega) (by
            have e0:(nd ns (pl a)).v=(nd ns (pl b)).v:=by omega
            exact zlG e0 e1 e2)
          rw[C,u,this]
        · unfold loS at e1;unfold hiS at e2
          rw[zA2 ca,zA1 cb] at e1 e2;exact absurd (e1.trans e2.symm) (hg.red _ q (by omega))
      · have cb:za ns b=v:=by omega
        obtain⟨J,p,K,u⟩:=xj (ns:=ns) (h:=b) (by omega);unfold loS at e1;unfold hiS at e2;rw[zA1 ca,zA2 cb] at e1 e2;exact absurd (e1.symm.trans e2) (hg.red _ p (by omega))
theorem KF{vars:Nat}(hg:zU vars ns){a b:Int}(ha:zj ns a=true)(hb:zj ns b=true)(h:∀f,sem ns a f=sem ns b f):a=b :=
  Jv hg 24 a b (by have:=(qx hg.ranked a).1;omega) (by have:=(qx hg.ranked b).1;omega) ha hb h
structure Ext(ns ns':List Nd):Prop where
  has:∀h,zj ns h=true->zj ns' h=true
  top:∀h,zj ns h=true->za ns' h=za ns h
  node:∀h,zj ns h=true->za ns h≠24->nd ns' (pl h)=nd ns (pl h)
theorem Ext.refl(ns:List Nd):Ext ns ns:=⟨fun _ h=>h,fun _ _=>rfl,fun _ _ _=>rfl⟩
theorem Ext.trans{a b c:List Nd}(h:Ext a b)(k:Ext b c):Ext a c :=
  ⟨fun x hx=>k.has x (h.has x hx),fun x hx=>(k.top x (h.has x hx)).trans (h.top x hx),fun x hx ht=>(k.node x (h.has x hx) (by rw[h.top x hx];exact ht)).trans (h.node x hx ht)⟩
theorem zaT{ns':List Nd}(hr:qd ns)(he:Ext ns ns')(f:Nat->Bool):∀(d:Nat) (h:Int),zj ns h=true->yC d ns' h f=yC d ns h f
  |0,_,_=>rfl
  |d+1,h,hh=>by
    unfold yC;rw[he.top h hh]
    by_cases ht:za ns h=24
    · rw[zA2 ht,zA2 ht]
    · obtain⟨-,k1,-,k2⟩:=ZF hr ht
      rw[zA1 ht,zA1 ht,he.node h hh ht,zaT hr he f d _ k1,zaT hr he f d _ k2]
theorem xU{ns':List Nd}(hr:qd ns)(he:Ext ns ns'){h:Int}(hh:zj ns h=true)(f:Nat->Bool):sem ns' h f=sem ns h f:=zaT hr he f 24 h hh
theorem zjI{k:Nat}{n:Nd}(hk:k<=ns.length)(hfree:k<ns.length->¬(nd ns k).v<24)(hr:qd ns):Ext ns (qp ns k n) :=
  ⟨fun _ hh=>XU hk hfree hh,fun _ hh=>YR hk hfree hh,fun _ _ ht=>(zcd hk hfree (XM hr ht)).1⟩
end
end Bd
namespace Bd
open Go.RowKit Go.Maps
def zM(n:Nat):Nat->Bool:=fun i=>n.testBit i
theorem J7(vals v:Nat)(hv:vals<18446744073709551616):(bits BinOp.and IntKind.u64 ((vals:Int)/2^v) 1==1)=zM vals v:=by
  have e:(vals:Int)/2^v=((vals/2^v:Nat):Int):=by simp
  have hd:vals/2^v<=vals:=Nat.div_le_self _ _;generalize hm:vals/2^v=m at *;rw[e,and_one_u64 _ (by omega) (by omega)];have hb:zM vals v=decide (m%2=1):=by unfold zM;rw[Nat.testBit_eq_decide_div_mod_eq,hm]
  rw[hb,Bool.eq_iff_iff];simp;omega
end Bd
namespace Bd
open Go.RowKit Go.Maps
def qh(ns:List Nd):Nat:=ns.findIdx fun n=>!decide (n.v<24)
def idx(ns:List Nd)(n:Nd):Nat:=ns.findIdx fun m=>decide (m=n)
def cnt(ns:List Nd):Nat:=(ns.filter fun n=>decide (n.v<24)).length
section
variable {ns:List Nd}
theorem QC(ns:List Nd):qh ns<=ns.length:=List.findIdx_le_length
theorem zcK{j:Nat}(h:j<qh ns):(nd ns j).v<24:=by
  have hl:j<ns.length:=Nat.lt_of_lt_of_le h (QC ns);have:=List.not_of_lt_findIdx h;rw[ZY ns j hl];simpa using this
theorem zaV(h:qh ns<ns.length):¬(nd ns (qh ns)).v<24:=by
  have:=List.findIdx_getElem (w:=h);rw[ZY ns _ h];unfold qh;simpa using this
theorem zjc{k:Nat}(hk:k<=ns.length)(ht:∀j,j<k->(nd ns j).v<24)(hf:k<ns.length->¬(nd ns k).v<24):k=qh ns:=by
  rcases Nat.lt_trichotomy k (qh ns) with h|h|h
  · exact absurd (zcK h) (hf (Nat.lt_of_lt_of_le h (QC ns)))
  · exact h
  · exact absurd (ht _ h) (zaV (by omega))
theorem Xf{n:Nd}(h:idx ns n<ns.length):nd ns (idx ns n)=n:=by
  have:=List.findIdx_getElem (w:=h);rw[ZY ns _ h];unfold idx;simpa using this
theorem ze2{n:Nd}(h:¬idx ns n<ns.length){j:Nat}(hj:j<ns.length):nd ns j≠n:=by
  have:j<idx ns n:=by omega
  have:=List.not_of_lt_findIdx this;rw[ZY ns j hj];simpa using this
def Zp(ns:List Nd)(n:Nd):List Nd × Int:=if idx ns n<ns.length then (ns,2+(idx ns n:Int)) else (qp ns (qh ns) n,2+(qh ns:Int))
def yi(ns:List Nd)(v l h:Int):List Nd × Int:=if l=h then (ns,l) else Zp ns ⟨v,l,h⟩
theorem zgW(ns:List Nd)(n:Nd):cnt (qp ns (qh ns) n)<=cnt ns+1:=by
  unfold cnt qp;have j:∀(l:List Nd) (k:Nat),((l.set k n).filter fun n=>decide (n.v<24)).length<=(l.filter fun n=>decide (n.v<24)).length+1:=by
    intro l
    induction l with
    |nil=>intro k;simp
    |cons a l ih =>
      intro k;cases k with
      |zero =>simp only[List.set_cons_zero,List.filter_cons];split<;>split<;>simp<;>omega
      |succ k =>
        simp only[List.set_cons_succ,List.filter_cons];have:=ih k;split
        · simp only[List.length_cons];omega
        · exact this
  refine Nat.le_trans (j _ _) ?_;split
  · rw[List.filter_append];simp
  · exact Nat.le_refl _
theorem zlq{vars:Nat}(hg:zU vars ns){n:Nd}(hn:n.Ok)(hf:Fit ns n)(hne:n.l≠n.h)(hv:n.v<(vars:Int))(hnin:∀j,j<ns.length->nd ns j≠n):zU vars (qp ns (qh ns) n):=by
  have hk:=QC ns;have q:qh ns<ns.length->¬(nd ns (qh ns)).v<24:=zaV;have p:∀j,j<(qp ns (qh ns) n).length->nd (qp ns (qh ns) n) j=n/\j=qh ns\/j<ns.length/\j≠qh ns/\nd (qp ns (qh ns) n) j=nd ns j:=fun j hj=>by
    have hj':=(QH hk j).1 hj
    by_cases e:j=qh ns
    · exact .inl ⟨by rw[Zf hk j hj',zA2 e],e⟩
    · exact .inr ⟨by omega,e,by rw[Zf hk j hj',zA1 e]⟩
  refine⟨zo6 hg.ranked hk q hn hf,fun i j hi hj o e=>?_,fun i hi o=>?_,fun i hi o=>?_,fun i hi o=>?_⟩
  · rcases p i hi with ⟨e1,x1⟩|⟨l1,n1,e1⟩<;>rcases p j hj with ⟨e2,x2⟩|⟨l2,n2,e2⟩
    · omega
    · rw[e1,e2] at e;exact absurd e.symm (hnin j l2)
    · rw[e1,e2] at e;exact absurd e (hnin i l1)
    · rw[e1] at o;rw[e1,e2] at e;exact hg.once i j l1 l2 o e
  · rcases p i hi with ⟨e1,-⟩|⟨l1,-,e1⟩<;>rw[e1] at o ⊢
    · exact hne
    · exact hg.red i l1 o
  · rcases p i hi with ⟨e1,-⟩|⟨l1,-,e1⟩<;>rw[e1] at o ⊢
    · exact hv
    · exact hg.vars i l1 o
  · rcases p i hi with ⟨e1,-⟩|⟨l1,-,e1⟩<;>rw[e1] at o ⊢
    · exact absurd hf.v1 o
    · exact hg.free i l1 o
theorem zkw:∀(ns:List Nd),¬qh ns<ns.length->cnt ns=ns.length:=fun ns h=>by
  unfold cnt;rw[List.filter_eq_self.2];intro a ha;obtain⟨i,hi,rfl⟩:=List.getElem_of_mem ha;have:=zcK (ns:=ns) (j:=i) (by have:=QC ns;omega);rw[ZY ns i hi] at this;simpa using this
theorem ziK(ns:List Nd)(n:Nd):(qp ns (qh ns) n).length<=max ns.length (cnt ns+1):=by
  by_cases h:qh ns<ns.length
  · have:(qp ns (qh ns) n).length=ns.length:=by unfold qp;rw[zA1 (by omega)];simp
    omega
  · have h1:=zkw ns h
    have h2:=(za8 (n:=n) (QC ns)).1;omega
structure zh0(vars:Nat)(ns:List Nd)(v l h:Int)(r:List Nd × Int):Prop where
  good:zU vars r.1
  ext:Ext ns r.1
  has:zj r.1 r.2=true
  sem:∀f,sem r.1 r.2 f=if f v.toNat then sem ns h f else sem ns l f
  top:v<=za r.1 r.2
  cnt:cnt r.1<=cnt ns+1
  len:r.1.length<=ns.length+1
  tight:r.1.length<=max ns.length (Go.Proofs.YthifnefkdjkicaaGreatDoor.Bd.cnt ns+1)
  i64:I64 r.2
theorem xX{h:Int}(hh:zj ns h=true)(hl:ns.length<=1000000):I64 h:=by
  rcases Jd hh with rfl|rfl|ht
  · exact⟨by omega,by omega⟩
  · exact⟨by omega,by omega⟩
  · obtain⟨h1,h2,-,h4⟩:=xj (ns:=ns) (h:=h) (by omega)
    exact⟨by omega,by omega⟩
theorem Q4{vars:Nat}(hg:zU vars ns){v l h:Int}(hl:ns.length<=900000)(h0:0<=v)(h24:v<24)(hv:v<(vars:Int))(hl1:zj ns l=true)(hh1:zj ns h=true)(tl:v<za ns l)(th:v<za ns h):zh0 vars ns v l h (yi ns v l h):=by
  unfold yi
  by_cases e:l=h
  · rw[zA2 e]
    subst e;exact⟨hg,Ext.refl _,hl1,fun f=>by split<;>rfl,by show v<=za ns l;omega,Nat.le_succ _,Nat.le_succ _,Nat.le_max_left _ _,xX hl1 (by omega)⟩
  · rw[zA1 e]
    unfold Zp;have q:=xX hl1 (by omega);have u:=xX hh1 (by omega)
    by_cases c:idx ns ⟨v,l,h⟩<ns.length
    · rw[zA2 c]
      have ha:=Xf c;have ht:za ns (2+(idx ns ⟨v,l,h⟩:Int))=v:=by rw[Ya c,ha]
      have hp:pl (2+(idx ns ⟨v,l,h⟩:Int))=idx ns ⟨v,l,h⟩:=by unfold pl;omega
      refine⟨hg,Ext.refl _,?_,fun f=>?_,?_,Nat.le_succ _,Nat.le_succ _,Nat.le_max_left _ _,⟨by show _<=(2+_:Int);omega,by show (2+_:Int)<=_;omega⟩⟩
      · show zj ns _=true;unfold zj;rw[ht];simp[h24]
      · show Go.Proofs.YthifnefkdjkicaaGreatDoor.Bd.sem ns _ f=_
        rw[Xe hg.ranked (by rw[ht];omega),ht,hp,ha]
      · show v<=za ns (2+(idx ns ⟨v,l,h⟩:Int));omega
    · rw[zA1 c]
      have o:∀j,j<ns.length->nd ns j≠⟨v,l,h⟩:=fun j hj=>ze2 c hj;have hf:Fit ns ⟨v,l,h⟩:=⟨h0,h24,hl1,hh1,tl,th⟩;have p:=zlq hg ⟨⟨by show _<=v;omega,by show v<=_;omega⟩,q,u⟩ hf e hv o;have hk:=QC ns;have hx:Ext ns (qp ns (qh ns) ⟨v,l,h⟩):=zjI hk zaV hg.ranked;have ht:za (qp ns (qh ns) ⟨v,l,h⟩) (2+(qh ns:Int))=v:=zdX hk;have hp:pl (2+(qh ns:Int))=qh ns:=by unfold pl;omega
      refine⟨p,hx,?_,fun f=>?_,?_,zgW _ _,(za8 hk).1,ziK _ _,⟨by show _<=(2+_:Int);omega,by show (2+_:Int)<=_;omega⟩⟩
      · show zj _ _=true;unfold zj;rw[ht];simp[h24]
      · show Go.Proofs.YthifnefkdjkicaaGreatDoor.Bd.sem _ _ f=_
        rw[Xe p.ranked (by rw[ht];omega),ht,hp,Zf hk _ (.inr rfl),zA2 rfl,xU hg.ranked hx hl1,xU hg.ranked hx hh1]
      · show v<=za (qp ns (qh ns) ⟨v,l,h⟩) (2+(qh ns:Int));omega
end
end Bd
namespace Bd
open Go.RowKit Go.Maps
def yA(k:Nd):Option Int:=if k.v=1\/k.l=k.h then some k.l else if k.v=0 then some k.h else if k.l=1/\k.h=0 then some k.v else none
def JY(k:Nd):Option Int:=if k.v=k.l then some 0 else if k.v=0 then some k.l else if k.l=0 then some k.v else none
def qL(op:Bool)(k:Nd):Option Int:=if op=true then yA k else JY k
def opS(op a b c:Bool):Bool:=if op=true then (if a=true then b else c) else (a != b)
def zg(ns:List Nd)(k:Nd):Int:=min (min (za ns k.v) (za ns k.l)) (za ns k.h)
def loK(ns:List Nd)(k:Nd)(v:Int):Nd:=⟨loS ns k.v v,loS ns k.l v,loS ns k.h v⟩
def hiK(ns:List Nd)(k:Nd)(v:Int):Nd:=⟨hiS ns k.v v,hiS ns k.l v,hiS ns k.h v⟩
def look{α:Type}[DecidableEq α](m:List (α × Int))(k:α):Option Int:=(m.find? fun p=>decide (p.1=k)).map Prod.snd
def Zw{α:Type}[DecidableEq α](m:List (α × Int))(k:α)(h:Int):List (α × Int):=if k∈m.map Prod.fst then m.map (fun q=>if q.1=k then (q.1,h) else q) else m++[(k,h)]
def zu:Nat->Bool->List Nd->List (Nd × Int)->Nd->List Nd × List (Nd × Int) × Int
  |0,op,ns,m,k=>(ns,m,(qL op k).getD 0)
  |d+1,op,ns,m,k =>
    match qL op k with
    |some h=>(ns,m,h)
    |none =>
      match look m k with
      |some h=>(ns,m,h)
      |none =>
        let r1:=zu d op ns m (loK ns k (zg ns k))
        let r2:=zu d op r1.1 r1.2.1 (hiK ns k (zg ns k))
        let r3:=yi r2.1 (zg ns k) r1.2.2 r2.2.2
        (r3.1,Zw r2.2.1 k r3.2,r3.2)
section
variable {α:Type} [DecidableEq α] {m:List (α × Int)} {k:α}
theorem zeo{h:Int}(e:look m k=some h):(k,h)∈m:=by
  unfold look at e;obtain⟨p,hp,rfl⟩:=Option.map_eq_some_iff.1 e;have h1:=List.find?_some hp;have h2:=List.mem_of_find?_eq_some hp;simp at h1;subst h1;exact h2
theorem zpr(e:look m k=none):k∉m.map Prod.fst:=by
  unfold look at e;rw[Option.map_eq_none_iff,List.find?_eq_none] at e;intro h;obtain⟨p,hp,rfl⟩:=List.mem_map.1 h;exact e p hp (by simp)
theorem Ko{h:Int}{p:α × Int}(hp:p∈Zw m k h):p=(k,h)\/p∈m:=by
  unfold Zw at hp;split at hp
  · obtain⟨q,hq,rfl⟩:=List.mem_map.1 hp
    by_cases e:q.1=k
    · rw[zA2 e];exact .inl (by rw[e])
    · rw[zA1 e];exact .inr hq
  · rcases List.mem_append.1 hp with hp|hp
    · exact .inr hp
    · rw[List.mem_singleton] at hp;exact .inl hp
theorem zjq(h:Int):(Zw m k h).length<=m.length+1:=by
  unfold Zw;split
  · simp
  · simp
end
structure yJ(ns:List Nd)(k:Nd):Prop where
  a:zj ns k.v=true
  b:zj ns k.l=true
  c:zj ns k.h=true
structure Qj(op:Bool)(ns:List Nd)(m:List (Nd × Int)):Prop where
  keys:∀p∈m,yJ ns p.1
  has:∀p∈m,zj ns p.2=true
  top:∀p∈m,zg ns p.1<=za ns p.2
  sem:∀p∈m,∀f,sem ns p.2 f=opS op (sem ns p.1.v f) (sem ns p.1.l f) (sem ns p.1.h f)
section
variable {ns:List Nd} {op:Bool} {m:List (Nd × Int)} {k:Nd} {vars:Nat}
theorem XH(ns:List Nd)(k:Nd):zg ns k<=za ns k.v/\zg ns k<=za ns k.l/\zg ns k<=za ns k.h:=by unfold zg;omega
theorem zfi{x:Int}(h1:x<=za ns k.v)(h2:x<=za ns k.l)(h3:x<=za ns k.h):x<=zg ns k:=by unfold zg;omega
theorem QK(hr:qd ns)(k:Nd):0<=zg ns k/\zg ns k<=24:=by
  have h1:=qx hr k.v;have h2:=qx hr k.l;have h3:=qx hr k.h;unfold zg;omega
theorem yJ.ext{ns':List Nd}(h:yJ ns k)(he:Ext ns ns'):yJ ns' k:=⟨he.has _ h.a,he.has _ h.b,he.has _ h.c⟩
theorem Xl{ns':List Nd}(h:yJ ns k)(he:Ext ns ns'):zg ns' k=zg ns k:=by unfold zg;rw[he.top _ h.a,he.top _ h.b,he.top _ h.c]
theorem Qj.ext{ns':List Nd}(hr:qd ns)(h:Qj op ns m)(he:Ext ns ns'):Qj op ns' m :=
  ⟨fun p hp=>(h.keys p hp).ext he,fun p hp=>he.has _ (h.has p hp),fun p hp=>by rw [Xl (h.keys p hp) he,he.top _ (h.has p hp)];exact h.top p hp,
   fun p hp f=>by rw [xU hr he (h.has p hp),xU hr he (h.keys p hp).a,xU hr he (h.keys p hp).b,xU hr he (h.keys p hp).c];exact h.sem p hp f⟩
theorem zpc{h:Int}(hh:h=0\/h=1):za ns h=24:=by rcases hh with rfl|rfl<;>simp[za]
theorem zgb(hr:qd ns){h:Int}(h3:yJ ns k)(e:qL op k=some h):zj ns h=true/\zg ns k<=za ns h/\∀f,sem ns h f=opS op (sem ns k.v f) (sem ns k.l f) (sem ns k.h f):=by
  obtain⟨m1,m2,m3⟩:=XH ns k;have mb:=(QK hr k).2;unfold qL at e;cases op with
  |true =>
    simp only[if_true] at e;unfold yA at e;split at e
    · rename_i c
      cases e;refine⟨h3.b,m2,fun f=>?_⟩;rcases c with c|c
      · rw[c,ZT];simp[opS]
      · rw[c];simp only[opS,if_true];split<;>rfl
    · split at e
      · rename_i c
        cases e;refine⟨h3.c,m3,fun f=>?_⟩;rw[c,ZJ];simp[opS]
      · split at e
        · rename_i c
          cases e;refine⟨h3.a,m1,fun f=>?_⟩;rw[c.1,c.2,ZT,ZJ];simp only[opS,if_true];cases sem ns k.v f<;>rfl
        · cases e
  |false =>
    simp only[Bool.false_eq_true,if_false] at e;unfold JY at e;split at e
    · rename_i c
      cases e;refine⟨by simp[zj],by rw[zpc (.inl rfl)];exact mb,fun f=>?_⟩;rw[c,ZJ];simp[opS]
    · split at e
      · rename_i c
        cases e;refine⟨h3.b,m2,fun f=>?_⟩;rw[c,ZJ];simp[opS]
      · split at e
        · rename_i c
          cases e;refine⟨h3.a,m1,fun f=>?_⟩;rw[c,ZJ];simp[opS]
        · cases e
theorem Xs(hr:qd ns)(h3:yJ ns k)(e:qL op k=none):zg ns k<24:=by
  have tv:=qx hr k.v;have tl:=qx hr k.l;obtain⟨m1,m2,m3⟩:=XH ns k;unfold qL at e;cases op with
  |true =>
    simp only[if_true] at e;unfold yA at e;split at e
    · cases e
    · split at e
      · cases e
      · rename_i c1 c2
        by_cases t:za ns k.v=24
        · rcases Y3 h3.a t with h|h
          · exact absurd h c2
          · exact absurd (.inl h) c1
        · omega
  |false =>
    simp only[Bool.false_eq_true,if_false] at e;unfold JY at e;split at e
    · cases e
    · split at e
      · cases e
      · split at e
        · cases e
        · rename_i c1 c2 c3
          by_cases t:za ns k.v=24
          · by_cases u:za ns k.l=24
            · rcases Y3 h3.a t with h|h<;>rcases Y3 h3.b u with g|g<;>first|exact absurd h c2|exact absurd g c3|exact absurd (h.trans g.symm) c1
            · omega
          · omega
def rk(vars:Nat)(ns:List Nd)(k:Nd):Nat:=((vars:Int)-zg ns k).toNat
structure zbj(vars:Nat)(op:Bool)(ns:List Nd)(m:List (Nd × Int))(k:Nd)(r:List Nd × List (Nd × Int) × Int):Prop where
  good:zU vars r.1
  ext:Ext ns r.1
  memo:Qj op r.1 r.2.1
  has:zj r.1 r.2.2=true
  sem:∀f,sem r.1 r.2.2 f=opS op (sem ns k.v f) (sem ns k.l f) (sem ns k.h f)
  top:zg ns k<=za r.1 r.2.2
  cnt:cnt r.1+1<=cnt ns+2^rk vars ns k
  len:r.1.length+1<=ns.length+2^rk vars ns k
  tight:r.1.length+1<=max (ns.length+1) (Go.Proofs.YthifnefkdjkicaaGreatDoor.Bd.cnt ns+2^rk vars ns k)
  mlen:r.2.1.length+1<=m.length+2^rk vars ns k
theorem zbM(hr:qd ns)(h3:yJ ns k)(hv:zg ns k<24):yJ ns (loK ns k (zg ns k))/\zg ns k<zg ns (loK ns k (zg ns k)):=by
  obtain⟨m1,m2,m3⟩:=XH ns k;have a:=Yt hr hv h3.a;have b:=Yt hr hv h3.b;have c:=Yt hr hv h3.c;refine⟨⟨a.1,b.1,c.1⟩,?_⟩;have:=zfi (ns:=ns) (k:=loK ns k (zg ns k)) (x:=zg ns k+1) (a.2.1 m1) (b.2.1 m2) (c.2.1 m3);omega
theorem zbr(hr:qd ns)(h3:yJ ns k)(hv:zg ns k<24):yJ ns (hiK ns k (zg ns k))/\zg ns k<zg ns (hiK ns k (zg ns k)):=by
  obtain⟨m1,m2,m3⟩:=XH ns k;have a:=QX hr hv h3.a;have b:=QX hr hv h3.b;have c:=QX hr hv h3.c;refine⟨⟨a.1,b.1,c.1⟩,?_⟩;have:=zfi (ns:=ns) (k:=hiK ns k (zg ns k)) (x:=zg ns k+1) (a.2.1 m1) (b.2.1 m2) (c.2.1 m3);omega
theorem Ku(hg:zU vars ns){h:Int}(ht:za ns h≠24):za ns h<(vars:Int):=by
  obtain⟨h1,h2,h3,-⟩:=xj ht;have:=XM hg.ranked ht;rw[h3] at this ⊢;exact hg.vars _ h2 this
theorem zam(hg:zU vars ns)(hv:zg ns k<24):zg ns k<(vars:Int):=by
  have:zg ns k=za ns k.v\/zg ns k=za ns k.l\/zg ns k=za ns k.h:=by unfold zg;omega
  rcases this with e|e|e<;>rw[e] at hv ⊢<;>exact Ku hg (by omega)
theorem zgy(op c a b d x y z:Bool):opS op (if c=true then a else x) (if c=true then b else y) (if c=true then d else z)=if c=true then opS op a b d else opS op x y z:=by
  cases c<;>simp
theorem zac(hg:zU vars ns)(hm:Qj op ns m){h:Int}(hh:zj ns h=true)(ht:zg ns k<=za ns h)(hs:∀f,Go.Proofs.YthifnefkdjkicaaGreatDoor.Bd.sem ns h f=opS op (Go.Proofs.YthifnefkdjkicaaGreatDoor.Bd.sem ns k.v f) (Go.Proofs.YthifnefkdjkicaaGreatDoor.Bd.sem ns k.l f) (Go.Proofs.YthifnefkdjkicaaGreatDoor.Bd.sem ns k.h f)):zbj vars op ns m k (ns,m,h):=by
  have:=Nat.one_le_two_pow (n:=rk vars ns k);exact⟨hg,Ext.refl _,hm,hh,hs,ht,by show Go.Proofs.YthifnefkdjkicaaGreatDoor.Bd.cnt ns+1<=_;omega,by show ns.length+1<=_;omega,by show ns.length+1<=_;omega,by show m.length+1<=_;omega⟩
theorem Qi:∀(d:Nat) (ns:List Nd) (m:List (Nd × Int)) (k:Nd),zU vars ns->Qj op ns m->yJ ns k->24<=zg ns k+d->ns.length+2^rk vars ns k<=900000->zbj vars op ns m k (zu d op ns m k)
  |0,ns,m,k,hg,hm,h3,hd,_=>by
    unfold zu;cases e:qL op k with
    |none=>have:=Xs hg.ranked h3 e;omega
    |some h =>obtain⟨a,b,c⟩:=zgb hg.ranked h3 e;exact zac hg hm a b c
  |d+1,ns,m,k,hg,hm,h3,hd,hl=>by
    unfold zu;cases e:qL op k with
    |some h =>obtain⟨a,b,c⟩:=zgb hg.ranked h3 e;exact zac hg hm a b c
    |none =>
      cases e2:look m k with
      |some h =>have hp:=zeo e2;exact zac hg hm (hm.has _ hp) (hm.top _ hp) (hm.sem _ hp)
      |none =>
        have hr:=hg.ranked;have hv:=Xs hr h3 e;have K:=zam hg hv;have J:=(QK hr k).1;obtain⟨l3,lt⟩:=zbM hr h3 hv;obtain⟨g3,gt⟩:=zbr hr h3 hv;have C:2^rk vars ns k=2^(rk vars ns k-1)+2^(rk vars ns k-1):=by
          have:1<=rk vars ns k:=by unfold rk;omega
          obtain⟨q,hq⟩:∃q,rk vars ns k=q+1:=⟨rk vars ns k-1,by omega⟩;rw[hq,Nat.add_sub_cancel,Nat.pow_succ];omega
        have M:=Nat.one_le_two_pow (n:=rk vars ns k-1);have p1:2^rk vars ns (loK ns k (zg ns k))<=2^(rk vars ns k-1):=Nat.pow_le_pow_right (by omega) (by unfold rk;omega);have i1:=Qi d ns m (loK ns k (zg ns k)) hg hm l3 (by omega) (by omega);show zbj vars op ns m k (_,_,_);generalize zu d op ns m (loK ns k (zg ns k))=r1 at *;have g3':=g3.ext i1.ext;have gm:=Xl g3 i1.ext;have p2:2^rk vars r1.1 (hiK ns k (zg ns k))<=2^(rk vars ns k-1):=Nat.pow_le_pow_right (by omega) (by unfold rk;rw[gm];omega);have l1:=i1.len;have c1:=i1.cnt;have m1:=i1.mlen;have i2:=Qi d r1.1 r1.2.1 (hiK ns k (zg ns k)) i1.good i1.memo g3' (by rw[gm];omega) (by omega);generalize zu d op r1.1 r1.2.1 (hiK ns k (zg ns k))=r2 at *;have l2:=i2.len;have c2:=i2.cnt;have t1:=i1.tight;have t2:=i2.tight;have m2:=i2.mlen;have h1':=i2.ext.has _ i1.has;have t1':za r2.1 r1.2.2=za r1.1 r1.2.2:=i2.ext.top _ i1.has;have i3:=Q4 i2.good (v:=zg ns k) (l:=r1.2.2) (h:=r2.2.2) (by omega) J hv K h1' i2.has (by rw[t1'];have:=i1.top;omega) (by have:=i2.top;rw[gm] at this;omega);generalize yi r2.1 (zg ns k) r1.2.2 r2.2.2=r3 at *;have j:=(i1.ext.trans i2.ext).trans i3.ext;have c3:=i3.cnt;have t3:=i3.tight;have l3':=i3.len;have o:∀f,Go.Proofs.YthifnefkdjkicaaGreatDoor.Bd.sem r3.1 r3.2 f=opS op (Go.Proofs.YthifnefkdjkicaaGreatDoor.Bd.sem ns k.v f) (Go.Proofs.YthifnefkdjkicaaGreatDoor.Bd.sem ns k.l f) (Go.Proofs.YthifnefkdjkicaaGreatDoor.Bd.sem ns k.h f):=fun f=>by
          rw [i3.sem f,xU i1.good.ranked i2.ext i1.has,i1.sem f,i2.sem f,xU hr i1.ext g3.a,xU hr i1.ext g3.b,xU hr i1.ext g3.c,
            QS (h:=k.v) hr hv f,QS (h:=k.l) hr hv f,QS (h:=k.h) hr hv f,zgy]
          rfl
        have mp:=zjq (m:=r2.2.1) (k:=k) r3.2;have mo:=i2.memo.ext i2.good.ranked i3.ext;have u:zg ns k<=za r3.1 r3.2:=i3.top;have y:=h3.ext j;have mk:=Xl h3 j;refine⟨i3.good,j,⟨fun p hp=>?_,fun p hp=>?_,fun p hp=>?_,fun p hp f=>?_⟩,i3.has,o,u,by show Go.Proofs.YthifnefkdjkicaaGreatDoor.Bd.cnt r3.1+1<=_;omega,by show r3.1.length+1<=_;omega,by show r3.1.length+1<=_;omega,by show (Zw r2.2.1 k r3.2).length+1<=_;omega⟩
        · rcases Ko hp with rfl|hp
          · exact y
          · exact mo.keys p hp
        · rcases Ko hp with rfl|hp
          · exact i3.has
          · exact mo.has p hp
        · rcases Ko hp with rfl|hp
          · show zg r3.1 k<=_;rw[mk];exact u
          · exact mo.top p hp
        · rcases Ko hp with rfl|hp
          · show Go.Proofs.YthifnefkdjkicaaGreatDoor.Bd.sem r3.1 r3.2 f=_
            rw[o f,xU hr j h3.a,xU hr j h3.b,xU hr j h3.c]
          · exact mo.sem p hp f
end
end Bd
end Go.Proofs.YthifnefkdjkicaaGreatDoor
