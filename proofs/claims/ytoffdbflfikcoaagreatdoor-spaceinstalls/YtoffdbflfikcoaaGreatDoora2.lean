import Derived.Test.YtoffdbflfikcoaaGreatDoora1
open Go.RowKit
namespace Go.Proofs.YtoffdbflfikcoaaGreatDoor
set_option maxHeartbeats 1000000
set_option maxRecDepth 100000
namespace Bd
open Go.Maps
theorem zar(room:Int)(h0:0<=room)(h1:room<=4000)(w:World)(B:Nat)(hB:B<=w.heap.size) :
    zC 50 #[room] w fun e w'=>e=.returned (.tuple #[.pointer (some ⟨w.heap.size+1,0,none⟩),.nilIface])/\zM B w' (w.heap.size+1) w.heap.size (.slice none 0 0) [] [] room 2/\zB w w':=by
  have j:=@run_makeMap Tryz.prog;have hE:zM B ((w.alloc (.map #[] 0)).alloc (.cells #[room,.slice none 0 0,.map (some w),(2:Int)] 194)) (w.heap.size+1) w.heap.size (.slice none 0 0) [] [] room 2:=by
    have e1:(w.alloc (.map #[] 0)).heap.size=w.heap.size+1:=by simp
    have hm:((w.alloc (.map #[] 0)).alloc (.cells #[room,.slice none 0 0,.map (some w),(2:Int)] 194)).ownsMap Tryz.prog 200 (plainElem (H:=Unit) Tryz.prog 3) w.heap.size 0 (.map []):=(World.ownsMap_made w _ _ _).alloc _;refine⟨by simp,?_,?_,?_,?_,?_,zrp _ _ _ _,⟨_,hm,Rep.empty⟩,by simp[Value.ownBlock],by omega,by simp[Value.ownBlock],by omega,hB⟩
    · rw[<-e1];simp
    · rw[<-e1];simp
    · rw[<-e1];simp
    · rw[<-e1];simp
    · intro i;rw[<-e1];simp
  have hb:zB w ((w.alloc (.map #[] 0)).alloc (.cells #[room,.slice none 0 0,.map (some w),(2:Int)] 194)):=(zF.alloc zN _).alloc (by simp) _;have HE:=zH hE;clear hE;go_enter Tryz.func50,Tryz.ntmps50;go_wp2;go_ret2;exact⟨rfl,HE.out,hb⟩
end Bd
namespace Bd
open Go.Maps
structure zcv(ns:List Nd):Prop where
  ranked:zZ ns
  occ:∀j,j<ns.length->(nd ns j).v<24
  inj:∀i j,i<ns.length->j<ns.length->nd ns i=nd ns j->i=j
def zbG(ns:List Nd):List (Nd × Int):=(List.range ns.length).map fun i=>(nd ns i,2+(i:Int))
theorem zni{ns:List Nd}{p:Nd × Int}:p∈zbG ns↔∃i:Nat,i<ns.length/\p=(nd ns i,2+(i:Int)):=by
  unfold zbG;simp only[zrA,zsa];constructor
  · rintro⟨i,h,rfl⟩;exact⟨i,h,rfl⟩
  · rintro⟨i,h,rfl⟩;exact⟨i,h,rfl⟩
theorem KZ(ns:List Nd)(n:Nd)(i:Nat):nd (ns++[n]) i=if i<ns.length then nd ns i else if i=ns.length then n else ⟨0,0,0⟩:=by
  unfold nd;simp only[zc0]
  by_cases h:i<ns.length
  · rw[zc3 h,zrk h]
  · rw[zc2 h,zrG (by omega)]
    by_cases e:i=ns.length
    · subst e;simp
    · rw[zc2 e,zsM (by simp;omega)];rfl
theorem JL{ns:List Nd}{h:Int}(hh:zh ns h=true):h=0\/h=1\/za ns h<24:=by
  unfold zh at hh;simpa[or_assoc] using hh
theorem Xq{ns:List Nd}{h:Int}(n:Nd)(hh:zh ns h=true):za (ns++[n]) h=za ns h:=by
  rcases JL hh with rfl|rfl|ht
  · simp[za]
  · simp[za]
  · obtain⟨b1,b2,b3⟩:=QY (by omega:za ns h≠24)
    unfold za;rw[zc3 (by rw[zf4];simp;omega),zc3 (by omega),KZ,zc3 b2]
theorem JH{ns:List Nd}{h:Int}(n:Nd)(hh:zh ns h=true):zh (ns++[n]) h=true:=by
  unfold zh;rw[Xq n hh];exact hh
theorem zcv.snoc{ns:List Nd}{n:Nd}(hF:zcv ns)(hn:n.Ok)(hf:Fit ns n)(hnin:n∉(zbG ns).map Prod.fst):zcv (ns++[n]):=by
  have o:∀j,j<(ns++[n]).length->nd (ns++[n]) j=n/\j=ns.length\/j<ns.length/\nd (ns++[n]) j=nd ns j:=fun j hj=>by
    rw[zf4,zr9] at hj
    by_cases h:j<ns.length
    · exact .inr ⟨h,by rw[KZ,zc3 h]⟩
    · exact .inl ⟨by rw[KZ,zc2 h,zc3 (by omega)],by omega⟩
  have p:∀i,i<ns.length->nd ns i≠n:=fun i hi e=>hnin (zrA.2 ⟨(nd ns i,2+(i:Int)),zni.2 ⟨i,hi,rfl⟩,e⟩);refine⟨⟨?_,?_,?_,?_⟩,?_,?_⟩
  · intro j hj
    rcases o j hj with ⟨e,-⟩|⟨h,e⟩
    · rw[e];have:=hf.v0;have:=hf.v1;omega
    · rw[e];exact hF.ranked.v0 j h
  · intro j hj hv
    rcases o j hj with ⟨e,-⟩|⟨h,e⟩
    · rw[e];exact⟨by rw[Xq n hf.l];exact hf.tl,JH n hf.l⟩
    · rw[e] at hv ⊢
      have:=hF.ranked.l j h hv;exact⟨by rw[Xq n this.2];exact this.1,JH n this.2⟩
  · intro j hj hv
    rcases o j hj with ⟨e,-⟩|⟨h,e⟩
    · rw[e];exact⟨by rw[Xq n hf.h];exact hf.th,JH n hf.h⟩
    · rw[e] at hv ⊢
      have:=hF.ranked.h j h hv;exact⟨by rw[Xq n this.2];exact this.1,JH n this.2⟩
  · intro j hj
    rcases o j hj with ⟨e,-⟩|⟨h,e⟩
    · rw[e];exact hn
    · rw[e];exact hF.ranked.ok j h
  · intro j hj
    rcases o j hj with ⟨e,-⟩|⟨h,e⟩
    · rw[e];exact hf.v1
    · rw[e];exact hF.occ j h
  · intro i j hi hj he
    rcases o i hi with ⟨e1,q1⟩|⟨h1,e1⟩<;>rcases o j hj with ⟨e2,q2⟩|⟨h2,e2⟩
    · omega
    · rw[e1,e2] at he;exact absurd he.symm (p j h2)
    · rw[e1,e2] at he;exact absurd he (p i h1)
    · rw[e1,e2] at he;exact hF.inj i j h1 h2 he
end Bd
namespace Bd
open Go.Maps
def qp(ns:List Nd)(k:Nat)(n:Nd):List Nd:=(if k=ns.length then ns++[⟨24,0,0⟩] else ns).set k n
section
variable {ns:List Nd} {k:Nat} {n:Nd}
theorem QU(hk:k<=ns.length)(i:Nat):i<(qp ns k n).length↔i<ns.length\/i=k:=by
  unfold qp;rw[zr3];split
  · rw[zf4,zr9];omega
  · omega
theorem zcs(_hk:k<=ns.length):(qp ns k n).length<=ns.length+1/\ns.length<=(qp ns k n).length:=by
  unfold qp;rw[zr3];split
  · rw[zf4,zr9];omega
  · omega
theorem Zw(hk:k<=ns.length)(i:Nat)(hi:i<ns.length\/i=k):nd (qp ns k n) i=if i=k then n else nd ns i:=by
  unfold qp;rw[zcL _ _ _ _ (by split<;>(try simp)<;>omega)]
  by_cases e:i=k
  · rw[zc3 e,zc3 e]
  · rw[zc2 e,zc2 e]
    split
    · rw[KZ,zc3 (by omega)]
    · rfl
theorem zcI(hk:k<=ns.length)(hfree:k<ns.length->¬(nd ns k).v<24){h:Int}(ht:za ns h<24):nd (qp ns k n) (h-2).toNat=nd ns (h-2).toNat/\za (qp ns k n) h=za ns h:=by
  obtain⟨b1,b2,b3⟩:=QY (by omega:za ns h≠24);have j:(h-2).toNat≠k:=fun e=>by
    rw[b3,e] at ht;exact hfree (e▸b2) ht
  have h1:nd (qp ns k n) (h-2).toNat=nd ns (h-2).toNat:=by rw[Zw hk _ (.inl b2),zc2 j]
  refine⟨h1,?_⟩;have hl:=(QU (n:=n) hk (h-2).toNat).2 (.inl b2);unfold za;rw[zc3 (by omega),zc3 (by omega),h1]
theorem Xd(hk:k<=ns.length)(hfree:k<ns.length->¬(nd ns k).v<24){h:Int}(hh:zh ns h=true):za (qp ns k n) h=za ns h:=by
  rcases JL hh with rfl|rfl|ht
  · simp[za]
  · simp[za]
  · exact(zcI hk hfree ht).2
theorem Ks(hk:k<=ns.length)(hfree:k<ns.length->¬(nd ns k).v<24){h:Int}(hh:zh ns h=true):zh (qp ns k n) h=true:=by
  unfold zh;rw[Xd hk hfree hh];exact hh
theorem zff(hk:k<=ns.length):za (qp ns k n) (2+(k:Int))=n.v:=by
  rw[Yq ((QU hk k).2 (.inr rfl)),Zw hk k (.inr rfl),zc3 rfl]
theorem zik(hr:zZ ns)(hk:k<=ns.length)(hfree:k<ns.length->¬(nd ns k).v<24)(hn:n.Ok)(hf:Fit ns n):zZ (qp ns k n):=by
  have o:∀j,j<(qp ns k n).length->nd (qp ns k n) j=n/\j=k\/j<ns.length/\nd (qp ns k n) j=nd ns j:=fun j hj=>by
    have hj':=(QU hk j).1 hj
    by_cases e:j=k
    · exact .inl ⟨by rw[Zw hk j hj',zc3 e],e⟩
    · exact .inr ⟨by omega,by rw[Zw hk j hj',zc2 e]⟩
  refine⟨?_,?_,?_,?_⟩<;>intro j hj<;>rcases o j hj with ⟨e,-⟩|⟨hl,e⟩<;>rw[e]
  · have:=hf.v0;have:=hf.v1;omega
  · exact hr.v0 j hl
  · intro _;rw[Xd hk hfree hf.l];exact⟨hf.tl,Ks hk hfree hf.l⟩
  · intro hv;have:=hr.l j hl hv;rw[Xd hk hfree this.2];exact⟨this.1,Ks hk hfree this.2⟩
  · intro _;rw[Xd hk hfree hf.h];exact⟨hf.th,Ks hk hfree hf.h⟩
  · intro hv;have:=hr.h j hl hv;rw[Xd hk hfree this.2];exact⟨this.1,Ks hk hfree this.2⟩
  · exact hn
  · exact hr.ok j hl
theorem zpI{L:List (Nd × Int)}(hB:Z8 ns L)(hk:k<=ns.length)(hfree:k<ns.length->¬(nd ns k).v<24)(hv:n.v<24)(hnin:n∉L.map Prod.fst):Z8 (qp ns k n) (L++[(n,2+(k:Int))]):=by
  refine⟨fun p hp=>?_,fun i hi j=>?_,?_,fun i hi j=>?_⟩
  · rcases zro.1 hp with hp|hp
    · obtain⟨i,hi,j,rfl⟩:=hB.mem p hp
      have o:i≠k:=fun e=>by subst e;exact hfree hi j
      refine⟨i,(QU hk i).2 (.inl hi),?_,?_⟩<;>rw[Zw hk i (.inl hi),zc2 o]
      exact j
    · rw[zra] at hp;subst hp
      refine⟨k,(QU hk k).2 (.inr rfl),?_,?_⟩<;>rw[Zw hk k (.inr rfl),zc3 rfl]
      exact hv
  · have hi':=(QU hk i).1 hi
    rw[Zw hk i hi'] at j ⊢
    by_cases e:i=k
    · rw[zc3 e];subst e;simp
    · rw[zc2 e] at j ⊢
      exact zro.2 (.inl (hB.all i (by omega) j))
  · rw[zrv,zts]
    refine⟨hB.nodup,by simp,fun x hx y hy=>?_⟩;simp at hy;subst hy;exact fun e=>hnin (e▸hx)
  · have hi':=(QU hk i).1 hi
    rw[Zw hk i hi'] at j ⊢
    by_cases e:i=k
    · rw[zc3 e] at j;exact absurd hv j
    · rw[zc2 e] at j ⊢
      exact hB.free i (by omega) j
end
end Bd
namespace Bd
open Go.Maps
def pl(h:Int):Nat:=(h-2).toNat
def yK:Nat->List Nd->Int->(Nat->Bool)->Bool
  |0,_,h,_=>decide (h=1)
  |d+1,ns,h,f =>
    if za ns h=24 then decide (h=1)
    else if f (za ns h).toNat then yK d ns (nd ns (pl h)).h f else yK d ns (nd ns (pl h)).l f
def sem(ns:List Nd)(h:Int)(f:Nat->Bool):Bool:=yK 24 ns h f
structure zG(vars:Nat)(ns:List Nd):Prop where
  ranked:zZ ns
  once:∀i j,i<ns.length->j<ns.length->(nd ns i).v<24->nd ns i=nd ns j->i=j
  red:∀i,i<ns.length->(nd ns i).v<24->(nd ns i).l≠(nd ns i).h
  vars:∀i,i<ns.length->(nd ns i).v<24->(nd ns i).v<(vars:Int)
  free:∀i,i<ns.length->¬(nd ns i).v<24->nd ns i=⟨24,0,0⟩
section
variable {ns:List Nd}
theorem xo{h:Int}(ht:za ns h≠24):2<=h/\pl h<ns.length/\za ns h=(nd ns (pl h)).v/\h=2+(pl h:Int):=by
  obtain⟨h1,h2,h3⟩:=QY ht;exact⟨h1,h2,h3,by unfold pl;omega⟩
theorem YW(hr:zZ ns){h:Int}(ht:za ns h≠24):za ns h<24:=by
  have:=(qe hr h).2;omega
theorem Zh(hr:zZ ns){h:Int}(ht:za ns h≠24):za ns h<za ns (nd ns (pl h)).l/\zh ns (nd ns (pl h)).l=true/\za ns h<za ns (nd ns (pl h)).h/\zh ns (nd ns (pl h)).h=true:=by
  obtain⟨h1,h2,h3,h4⟩:=xo ht;have hv:=YW hr ht;rw[h3] at hv ⊢;exact⟨(hr.l _ h2 hv).1,(hr.l _ h2 hv).2,(hr.h _ h2 hv).1,(hr.h _ h2 hv).2⟩
theorem Q5{h:Int}(hh:zh ns h=true)(ht:za ns h=24):h=0\/h=1:=by
  rcases JL hh with h1|h1|h1
  · exact .inl h1
  · exact .inr h1
  · omega
theorem Ji(hr:zZ ns)(f:Nat->Bool):∀(d e:Nat) (h:Int),24<=za ns h+d->24<=za ns h+e->yK d ns h f=yK e ns h f
  |0,0,h,_,_=>rfl
  |0,e+1,h,hd,_=>by
    have:=(qe hr h).2;unfold yK;rw[zc3 (by omega)]
  |d+1,0,h,_,he=>by
    have:=(qe hr h).2;unfold yK;rw[zc3 (by omega)]
  |d+1,e+1,h,hd,he=>by
    unfold yK
    by_cases ht:za ns h=24
    · rw[zc3 ht,zc3 ht]
    · rw[zc2 ht,zc2 ht]
      obtain⟨k1,-,k2,-⟩:=Zh hr ht;rw[Ji hr f d e _ (by omega) (by omega),Ji hr f d e (nd ns (pl h)).l (by omega) (by omega)]
theorem JO{h:Int}(ht:za ns h=24)(f:Nat->Bool):sem ns h f=decide (h=1):=by
  unfold sem yK;rw[zc3 ht]
theorem ZI(f:Nat->Bool):sem ns 0 f=false:=by rw[JO (by simp[za])];rfl
theorem Zy(f:Nat->Bool):sem ns 1 f=true:=by rw[JO (by simp[za])];rfl
theorem YN(hr:zZ ns){h:Int}(ht:za ns h≠24)(f:Nat->Bool):sem ns h f=if f (za ns h).toNat then sem ns (nd ns (pl h)).h f else sem ns (nd ns (pl h)).l f:=by
  obtain⟨k1,-,k2,-⟩:=Zh hr ht;have h0:=(qe hr h).1;show yK 24 ns h f=_;unfold yK;rw[zc2 ht,Ji hr f 23 24 _ (by omega) (by omega),Ji hr f 23 24 (nd ns (pl h)).l (by omega) (by omega)];rfl
def loS(ns:List Nd)(h v:Int):Int:=if za ns h=v then (nd ns (pl h)).l else h
def hiS(ns:List Nd)(h v:Int):Int:=if za ns h=v then (nd ns (pl h)).h else h
theorem YH(hr:zZ ns){h v:Int}(hv:v<24)(hh:zh ns h=true):zh ns (loS ns h v)=true/\(v<=za ns h->v<za ns (loS ns h v))/\za ns h<=za ns (loS ns h v):=by
  unfold loS
  by_cases e:za ns h=v
  · rw[zc3 e]
    have:=Zh hr (h:=h) (by omega);exact⟨this.2.1,fun _=>by omega,by omega⟩
  · rw[zc2 e];exact⟨hh,fun h=>by omega,Int.le_refl _⟩
theorem Yv(hr:zZ ns){h v:Int}(hv:v<24)(hh:zh ns h=true):zh ns (hiS ns h v)=true/\(v<=za ns h->v<za ns (hiS ns h v))/\za ns h<=za ns (hiS ns h v):=by
  unfold hiS
  by_cases e:za ns h=v
  · rw[zc3 e]
    have:=Zh hr (h:=h) (by omega);exact⟨this.2.2.2,fun _=>by omega,by omega⟩
  · rw[zc2 e];exact⟨hh,fun h=>by omega,Int.le_refl _⟩
theorem Yp(hr:zZ ns){h v:Int}(hv:v<24)(f:Nat->Bool):sem ns h f=if f v.toNat then sem ns (hiS ns h v) f else sem ns (loS ns h v) f:=by
  unfold loS hiS
  by_cases e:za ns h=v
  · rw[zc3 e,zc3 e,YN hr (by omega),e]
  · rw[zc2 e,zc2 e];split<;>rfl
theorem zbI(hr:zZ ns){f g:Nat->Bool}:∀(d:Nat) (h:Int),(∀i:Nat,za ns h<=(i:Int)->f i=g i)->yK d ns h f=yK d ns h g
  |0,_,_=>rfl
  |d+1,h,hfg=>by
    unfold yK
    by_cases ht:za ns h=24
    · rw[zc3 ht,zc3 ht]
    · rw[zc2 ht,zc2 ht]
      obtain⟨k1,-,k2,-⟩:=Zh hr ht;have h0:=(qe hr h).1;rw[hfg (za ns h).toNat (by omega),zbI hr d _ (fun i hi=>hfg i (by omega)),zbI hr d (nd ns (pl h)).l (fun i hi=>hfg i (by omega))]
theorem Yr(hr:zZ ns){f g:Nat->Bool}{h:Int}(hfg:∀i:Nat,za ns h<=(i:Int)->f i=g i):sem ns h f=sem ns h g:=zbI hr 24 h hfg
def turn(f:Nat->Bool)(v:Nat)(b:Bool):Nat->Bool:=fun i=>if i=v then b else f i
theorem Ym(f:Nat->Bool){v i:Nat}(b:Bool)(h:i≠v):turn f v b i=f i:=zc2 h
theorem KJ(f:Nat->Bool)(v:Nat)(b:Bool):turn f v b v=b:=zc3 rfl
theorem zjq(hr:zZ ns){a b v:Int}(hv0:0<=v)(hv:v<24)(ha:zh ns a=true)(hb:zh ns b=true)(hta:v<=za ns a)(htb:v<=za ns b)(h:∀f,sem ns a f=sem ns b f) :
    (∀f,sem ns (loS ns a v) f=sem ns (loS ns b v) f)/\(∀f,sem ns (hiS ns a v) f=sem ns (hiS ns b v) f):=by
  have la:=(YH hr hv ha).2.1 hta;have lb:=(YH hr hv hb).2.1 htb;have ga:=(Yv hr hv ha).2.1 hta;have gb:=(Yv hr hv hb).2.1 htb;refine⟨fun f=>?_,fun f=>?_⟩
  · have:=h (turn f v.toNat false)
    rw[Yp hr hv,Yp (h:=b) hr hv] at this;rw[KJ,zc2 (by simp),zc2 (by simp),Yr hr (g:=f) (fun i hi=>Ym _ _ (by omega)),Yr (h:=loS ns b v) hr (g:=f) (fun i hi=>Ym _ _ (by omega))] at this;exact this
  · have:=h (turn f v.toNat true)
    rw[Yp hr hv,Yp (h:=b) hr hv] at this;rw[KJ,zc3 rfl,zc3 rfl,Yr hr (g:=f) (fun i hi=>Ym _ _ (by omega)),Yr (h:=hiS ns b v) hr (g:=f) (fun i hi=>Ym _ _ (by omega))] at this;exact this
theorem zix{a b:Nd}(h0:a.v=b.v)(h1:a.l=b.l)(h2:a.h=b.h):a=b:=by cases a;cases b;cases h0;cases h1;cases h2;rfl
theorem Jv{vars:Nat}(hg:zG vars ns):∀(d:Nat) (a b:Int),24<=za ns a+d->24<=za ns b+d->zh ns a=true->zh ns b=true->(∀f,sem ns a f=sem ns b f)->a=b
  |0,a,b,da,db,ha,hb,h=>by
    have ta:=(qe hg.ranked a).2;have tb:=(qe hg.ranked b).2;have:=h (fun _=>false);rw[JO (by omega),JO (by omega)] at this;rcases Q5 ha (by omega) with rfl|rfl<;>rcases Q5 hb (by omega) with rfl|rfl<;>simp at this ⊢
  |d+1,a,b,da,db,ha,hb,h=>by
    have ta:=qe hg.ranked a;have tb:=qe hg.ranked b
    by_cases e:za ns a=24/\za ns b=24
    · exact Jv hg 0 a b (by omega) (by omega) ha hb h
    · have hr:=hg.ranked
      obtain⟨v,hv,j,o,M⟩:∃v,v<24/\v<=za ns a/\v<=za ns b/\(v=za ns a\/v=za ns b):=by
        rcases Int.lt_or_le (za ns a) (za ns b) with h1|h1
        · exact⟨za ns a,by omega,by omega,by omega,.inl rfl⟩
        · exact⟨za ns b,by omega,by omega,by omega,.inr rfl⟩
      have y:0<=v:=by omega
      obtain⟨sl,sh⟩:=zjq hr y hv ha hb j o h;have la:=YH hr hv ha;have lb:=YH hr hv hb;have ga:=Yv hr hv ha;have gb:=Yv hr hv hb;have e1:=Jv hg d _ _ (by have:=la.2.1 j;omega) (by have:=lb.2.1 o;omega) la.1 lb.1 sl;have e2:=Jv hg d _ _ (by have:=ga.2.1 j;omega) (by have:=gb.2.1 o;omega) ga.1 gb.1 sh
      by_cases ca:za ns a=v
      · obtain⟨R,q,U,C⟩:=xo (ns:=ns) (h:=a) (by omega)
        by_cases cb:za ns b=v
        · obtain⟨J,p,K,u⟩:=xo (ns:=ns) (h:=b) (by omega)
          unfold loS at e1;unfold hiS at e2;rw[zc3 ca,zc3 cb] at e1 e2;have:=hg.once (pl a) (pl b) q p (by omega) (by
            have e0:(nd ns (pl a)).v=(nd ns (pl b)).v:=by omega
            exact zix e0 e1 e2)
          rw[C,u,this]
        · unfold loS at e1;unfold hiS at e2
          rw[zc3 ca,zc2 cb] at e1 e2;exact absurd (e1.trans e2.symm) (hg.red _ q (by omega))
      · have cb:za ns b=v:=by omega
        obtain⟨J,p,K,u⟩:=xo (ns:=ns) (h:=b) (by omega);unfold loS at e1;unfold hiS at e2;rw[zc2 ca,zc3 cb] at e1 e2;exact absurd (e1.symm.trans e2) (hg.red _ p (by omega))
theorem K7{vars:Nat}(hg:zG vars ns){a b:Int}(ha:zh ns a=true)(hb:zh ns b=true)(h:∀f,sem ns a f=sem ns b f):a=b :=
  Jv hg 24 a b (by have:=(qe hg.ranked a).1;omega) (by have:=(qe hg.ranked b).1;omega) ha hb h
structure Ext(ns ns':List Nd):Prop where
  has:∀h,zh ns h=true->zh ns' h=true
  top:∀h,zh ns h=true->za ns' h=za ns h
  node:∀h,zh ns h=true->za ns h≠24->nd ns' (pl h)=nd ns (pl h)
theorem Ext.refl(ns:List Nd):Ext ns ns:=⟨fun _ h=>h,fun _ _=>rfl,fun _ _ _=>rfl⟩
theorem Ext.trans{a b c:List Nd}(h:Ext a b)(k:Ext b c):Ext a c :=
  ⟨fun x hx=>k.has x (h.has x hx),fun x hx=>(k.top x (h.has x hx)).trans (h.top x hx),fun x hx ht=>(k.node x (h.has x hx) (by rw[h.top x hx];exact ht)).trans (h.node x hx ht)⟩
theorem zb8{ns':List Nd}(hr:zZ ns)(he:Ext ns ns')(f:Nat->Bool):∀(d:Nat) (h:Int),zh ns h=true->yK d ns' h f=yK d ns h f
  |0,_,_=>rfl
  |d+1,h,hh=>by
    unfold yK;rw[he.top h hh]
    by_cases ht:za ns h=24
    · rw[zc3 ht,zc3 ht]
    · obtain⟨-,k1,-,k2⟩:=Zh hr ht
      rw[zc2 ht,zc2 ht,he.node h hh ht,zb8 hr he f d _ k1,zb8 hr he f d _ k2]
theorem xY{ns':List Nd}(hr:zZ ns)(he:Ext ns ns'){h:Int}(hh:zh ns h=true)(f:Nat->Bool):sem ns' h f=sem ns h f:=zb8 hr he f 24 h hh
theorem zpz{k:Nat}{n:Nd}(hk:k<=ns.length)(hfree:k<ns.length->¬(nd ns k).v<24)(hr:zZ ns):Ext ns (qp ns k n) :=
  ⟨fun _ hh=>Ks hk hfree hh,fun _ hh=>Xd hk hfree hh,fun _ _ ht=>(zcI hk hfree (YW hr ht)).1⟩
end
end Bd
namespace Bd
open Go.Maps
def Qa(n:Nat):Nat->Bool:=fun i=>n.testBit i
theorem za8(vals v:Nat)(hv:vals<18446744073709551616):(bits BinOp.and IntKind.u64 ((vals:Int)/2^v) 1==1)=Qa vals v:=by
  have e:(vals:Int)/2^v=((vals/2^v:Nat):Int):=by simp
  have hd:vals/2^v<=vals:=zu3 _ _;generalize hm:vals/2^v=m at *;rw[e,and_one_u64 _ (by omega) (by omega)];have hb:Qa vals v=decide (m%2=1):=by unfold Qa;rw[zsW,hm]
  rw[hb,zrB];simp;omega
end Bd
namespace Bd
open Go.Maps
def qi(ns:List Nd):Nat:=ns.findIdx fun n=>!decide (n.v<24)
def idx(ns:List Nd)(n:Nd):Nat:=ns.findIdx fun m=>decide (m=n)
def cnt(ns:List Nd):Nat:=(ns.filter fun n=>decide (n.v<24)).length
section
variable {ns:List Nd}
theorem QN(ns:List Nd):qi ns<=ns.length:=List.findIdx_le_length
theorem zfX{j:Nat}(h:j<qi ns):(nd ns j).v<24:=by
  have hl:j<ns.length:=zc6 h (QN ns);have:=List.not_of_lt_findIdx h;rw[Qn ns j hl];simpa using this
theorem J8(h:qi ns<ns.length):¬(nd ns (qi ns)).v<24:=by
  have:=List.findIdx_getElem (w:=h);rw[Qn ns _ h];unfold qi;simpa using this
theorem zq5{k:Nat}(hk:k<=ns.length)(ht:∀j,j<k->(nd ns j).v<24)(hf:k<ns.length->¬(nd ns k).v<24):k=qi ns:=by
  rcases Nat.lt_trichotomy k (qi ns) with h|h|h
  · exact absurd (zfX h) (hf (zc6 h (QN ns)))
  · exact h
  · exact absurd (ht _ h) (J8 (by omega))
theorem Ki{n:Nd}(h:idx ns n<ns.length):nd ns (idx ns n)=n:=by
  have:=List.findIdx_getElem (w:=h);rw[Qn ns _ h];unfold idx;simpa using this
theorem zgd{n:Nd}(h:¬idx ns n<ns.length){j:Nat}(hj:j<ns.length):nd ns j≠n:=by
  have:j<idx ns n:=by omega
  have:=List.not_of_lt_findIdx this;rw[Qn ns j hj];simpa using this
def ZH(ns:List Nd)(n:Nd):List Nd × Int:=if idx ns n<ns.length then (ns,2+(idx ns n:Int)) else (qp ns (qi ns) n,2+(qi ns:Int))
def yn(ns:List Nd)(v l h:Int):List Nd × Int:=if l=h then (ns,l) else ZH ns ⟨v,l,h⟩
theorem zmb(ns:List Nd)(n:Nd):cnt (qp ns (qi ns) n)<=cnt ns+1:=by
  unfold cnt qp;have j:∀(l:List Nd) (k:Nat),((l.set k n).filter fun n=>decide (n.v<24)).length<=(l.filter fun n=>decide (n.v<24)).length+1:=by
    intro l
    induction l with
    |nil=>intro k;simp
    |cons a l ih =>
      intro k;cases k with
      |zero =>simp only[zrd,zsp];split<;>split<;>simp<;>omega
      |succ k =>
        simp only[zre,zsp];have:=ih k;split
        · simp only[zrb];omega
        · exact this
  refine zf1 (j _ _) ?_;split
  · rw[zsg];simp
  · exact zri _
theorem zht{vars:Nat}(hg:zG vars ns){n:Nd}(hn:n.Ok)(hf:Fit ns n)(hne:n.l≠n.h)(hv:n.v<(vars:Int))(hnin:∀j,j<ns.length->nd ns j≠n):zG vars (qp ns (qi ns) n):=by
  have hk:=QN ns;have q:qi ns<ns.length->¬(nd ns (qi ns)).v<24:=J8;have p:∀j,j<(qp ns (qi ns) n).length->nd (qp ns (qi ns) n) j=n/\j=qi ns\/j<ns.length/\j≠qi ns/\nd (qp ns (qi ns) n) j=nd ns j:=fun j hj=>by
    have hj':=(QU hk j).1 hj
    by_cases e:j=qi ns
    · exact .inl ⟨by rw[Zw hk j hj',zc3 e],e⟩
    · exact .inr ⟨by omega,e,by rw[Zw hk j hj',zc2 e]⟩
  refine⟨zik hg.ranked hk q hn hf,fun i j hi hj o e=>?_,fun i hi o=>?_,fun i hi o=>?_,fun i hi o=>?_⟩
  · rcases p i hi with ⟨e1,x1⟩|⟨l1,n1,e1⟩<;>rcases p j hj with ⟨e2,x2⟩|⟨l2,n2,e2⟩
    · omega
    · rw[e1,e2] at e;exact absurd e.symm (hnin j l2)
    · rw[e1,e2] at e;exact absurd e (hnin i l1)
    · rw[e1] at o;rw[e1,e2] at e;exact hg.once i j l1 l2 o e
  · rcases p i hi with ⟨e1,-⟩|⟨l1,-,e1⟩<;>rw[e1] at o ⊢
    · exact hne
    · exact hg.red i l1 o
  · rcases p i hi with ⟨e1,-⟩|⟨l1,-,e1⟩<;>rw[e1] at o ⊢
    · exact hv
    · exact hg.vars i l1 o
  · rcases p i hi with ⟨e1,-⟩|⟨l1,-,e1⟩<;>rw[e1] at o ⊢
    · exact absurd hf.v1 o
    · exact hg.free i l1 o
theorem zq6:∀(ns:List Nd),¬qi ns<ns.length->cnt ns=ns.length:=fun ns h=>by
  unfold cnt;rw[zu7.2];intro a ha;obtain⟨i,hi,rfl⟩:=zrQ ha;have:=zfX (ns:=ns) (j:=i) (by have:=QN ns;omega);rw[Qn ns i hi] at this;simpa using this
theorem zlQ(ns:List Nd)(n:Nd):(qp ns (qi ns) n).length<=max ns.length (cnt ns+1):=by
  by_cases h:qi ns<ns.length
  · have:(qp ns (qi ns) n).length=ns.length:=by unfold qp;rw[zc2 (by omega)];simp
    omega
  · have h1:=zq6 ns h
    have h2:=(zcs (n:=n) (QN ns)).1;omega
structure zo3(vars:Nat)(ns:List Nd)(v l h:Int)(r:List Nd × Int):Prop where
  good:zG vars r.1
  ext:Ext ns r.1
  has:zh r.1 r.2=true
  sem:∀f,sem r.1 r.2 f=if f v.toNat then sem ns h f else sem ns l f
  top:v<=za r.1 r.2
  cnt:cnt r.1<=cnt ns+1
  len:r.1.length<=ns.length+1
  tight:r.1.length<=max ns.length (Go.Proofs.YtoffdbflfikcoaaGreatDoor.Bd.cnt ns+1)
  i64:I64 r.2
theorem y7{h:Int}(hh:zh ns h=true)(hl:ns.length<=1000000):I64 h:=by
  rcases JL hh with rfl|rfl|ht
  · exact⟨by omega,by omega⟩
  · exact⟨by omega,by omega⟩
  · obtain⟨h1,h2,-,h4⟩:=xo (ns:=ns) (h:=h) (by omega)
    exact⟨by omega,by omega⟩
theorem YK{vars:Nat}(hg:zG vars ns){v l h:Int}(hl:ns.length<=900000)(h0:0<=v)(h24:v<24)(hv:v<(vars:Int))(hl1:zh ns l=true)(hh1:zh ns h=true)(tl:v<za ns l)(th:v<za ns h):zo3 vars ns v l h (yn ns v l h):=by
  unfold yn
  by_cases e:l=h
  · rw[zc3 e]
    subst e;exact⟨hg,Ext.refl _,hl1,fun f=>by split<;>rfl,by show v<=za ns l;omega,zrr _,zrr _,ztq _ _,y7 hl1 (by omega)⟩
  · rw[zc2 e]
    unfold ZH;have q:=y7 hl1 (by omega);have u:=y7 hh1 (by omega)
    by_cases c:idx ns ⟨v,l,h⟩<ns.length
    · rw[zc3 c]
      have ha:=Ki c;have ht:za ns (2+(idx ns ⟨v,l,h⟩:Int))=v:=by rw[Yq c,ha]
      have hp:pl (2+(idx ns ⟨v,l,h⟩:Int))=idx ns ⟨v,l,h⟩:=by unfold pl;omega
      refine⟨hg,Ext.refl _,?_,fun f=>?_,?_,zrr _,zrr _,ztq _ _,⟨by show _<=(2+_:Int);omega,by show (2+_:Int)<=_;omega⟩⟩
      · show zh ns _=true;unfold zh;rw[ht];simp[h24]
      · show Go.Proofs.YtoffdbflfikcoaaGreatDoor.Bd.sem ns _ f=_
        rw[YN hg.ranked (by rw[ht];omega),ht,hp,ha]
      · show v<=za ns (2+(idx ns ⟨v,l,h⟩:Int));omega
    · rw[zc2 c]
      have o:∀j,j<ns.length->nd ns j≠⟨v,l,h⟩:=fun j hj=>zgd c hj;have hf:Fit ns ⟨v,l,h⟩:=⟨h0,h24,hl1,hh1,tl,th⟩;have p:=zht hg ⟨⟨by show _<=v;omega,by show v<=_;omega⟩,q,u⟩ hf e hv o;have hk:=QN ns;have hx:Ext ns (qp ns (qi ns) ⟨v,l,h⟩):=zpz hk J8 hg.ranked;have ht:za (qp ns (qi ns) ⟨v,l,h⟩) (2+(qi ns:Int))=v:=zff hk;have hp:pl (2+(qi ns:Int))=qi ns:=by unfold pl;omega
      refine⟨p,hx,?_,fun f=>?_,?_,zmb _ _,(zcs hk).1,zlQ _ _,⟨by show _<=(2+_:Int);omega,by show (2+_:Int)<=_;omega⟩⟩
      · show zh _ _=true;unfold zh;rw[ht];simp[h24]
      · show Go.Proofs.YtoffdbflfikcoaaGreatDoor.Bd.sem _ _ f=_
        rw[YN p.ranked (by rw[ht];omega),ht,hp,Zw hk _ (.inr rfl),zc3 rfl,xY hg.ranked hx hl1,xY hg.ranked hx hh1]
      · show v<=za (qp ns (qi ns) ⟨v,l,h⟩) (2+(qi ns:Int));omega
end
end Bd
namespace Bd
open Go.Maps
def yN(k:Nd):Option Int:=if k.v=1\/k.l=k.h then some k.l else if k.v=0 then some k.h else if k.l=1/\k.h=0 then some k.v else none
def zbP(k:Nd):Option Int:=if k.v=k.l then some 0 else if k.v=0 then some k.l else if k.l=0 then some k.v else none
def qP(op:Bool)(k:Nd):Option Int:=if op=true then yN k else zbP k
def opS(op a b c:Bool):Bool:=if op=true then (if a=true then b else c) else (a != b)
def zg(ns:List Nd)(k:Nd):Int:=min (min (za ns k.v) (za ns k.l)) (za ns k.h)
def loK(ns:List Nd)(k:Nd)(v:Int):Nd:=⟨loS ns k.v v,loS ns k.l v,loS ns k.h v⟩
def hiK(ns:List Nd)(k:Nd)(v:Int):Nd:=⟨hiS ns k.v v,hiS ns k.l v,hiS ns k.h v⟩
def look{α:Type}[DecidableEq α](m:List (α × Int))(k:α):Option Int:=(m.find? fun p=>decide (p.1=k)).map Prod.snd
def ZR{α:Type}[DecidableEq α](m:List (α × Int))(k:α)(h:Int):List (α × Int):=if k∈m.map Prod.fst then m.map (fun q=>if q.1=k then (q.1,h) else q) else m++[(k,h)]
def zu:Nat->Bool->List Nd->List (Nd × Int)->Nd->List Nd × List (Nd × Int) × Int
  |0,op,ns,m,k=>(ns,m,(qP op k).getD 0)
  |d+1,op,ns,m,k =>
    match qP op k with
    |some h=>(ns,m,h)
    |none =>
      match look m k with
      |some h=>(ns,m,h)
      |none =>
        let r1:=zu d op ns m (loK ns k (zg ns k))
        let r2:=zu d op r1.1 r1.2.1 (hiK ns k (zg ns k))
        let r3:=yn r2.1 (zg ns k) r1.2.2 r2.2.2
        (r3.1,ZR r2.2.1 k r3.2,r3.2)
section
variable {α:Type} [DecidableEq α] {m:List (α × Int)} {k:α}
theorem zd9{h:Int}(e:look m k=some h):(k,h)∈m:=by
  unfold look at e;obtain⟨p,hp,rfl⟩:=zuf.1 e;have h1:=List.find?_some hp;have h2:=List.mem_of_find?_eq_some hp;simp at h1;subst h1;exact h2
theorem zpm(e:look m k=none):k∉m.map Prod.fst:=by
  unfold look at e;rw[Option.map_eq_none_iff,List.find?_eq_none] at e;intro h;obtain⟨p,hp,rfl⟩:=zrA.1 h;exact e p hp (by simp)
theorem Jo{h:Int}{p:α × Int}(hp:p∈ZR m k h):p=(k,h)\/p∈m:=by
  unfold ZR at hp;split at hp
  · obtain⟨q,hq,rfl⟩:=zrA.1 hp
    by_cases e:q.1=k
    · rw[zc3 e];exact .inl (by rw[e])
    · rw[zc2 e];exact .inr hq
  · rcases zro.1 hp with hp|hp
    · exact .inr hp
    · rw[zra] at hp;exact .inl hp
theorem zos(h:Int):(ZR m k h).length<=m.length+1:=by
  unfold ZR;split
  · simp
  · simp
end
structure yX(ns:List Nd)(k:Nd):Prop where
  a:zh ns k.v=true
  b:zh ns k.l=true
  c:zh ns k.h=true
structure QB(op:Bool)(ns:List Nd)(m:List (Nd × Int)):Prop where
  keys:∀p∈m,yX ns p.1
  has:∀p∈m,zh ns p.2=true
  top:∀p∈m,zg ns p.1<=za ns p.2
  sem:∀p∈m,∀f,sem ns p.2 f=opS op (sem ns p.1.v f) (sem ns p.1.l f) (sem ns p.1.h f)
section
variable {ns:List Nd} {op:Bool} {m:List (Nd × Int)} {k:Nd} {vars:Nat}
theorem Kw(ns:List Nd)(k:Nd):zg ns k<=za ns k.v/\zg ns k<=za ns k.l/\zg ns k<=za ns k.h:=by unfold zg;omega
theorem zfw{x:Int}(h1:x<=za ns k.v)(h2:x<=za ns k.l)(h3:x<=za ns k.h):x<=zg ns k:=by unfold zg;omega
theorem QK(hr:zZ ns)(k:Nd):0<=zg ns k/\zg ns k<=24:=by
  have h1:=qe hr k.v;have h2:=qe hr k.l;have h3:=qe hr k.h;unfold zg;omega
theorem yX.ext{ns':List Nd}(h:yX ns k)(he:Ext ns ns'):yX ns' k:=⟨he.has _ h.a,he.has _ h.b,he.has _ h.c⟩
theorem Ke{ns':List Nd}(h:yX ns k)(he:Ext ns ns'):zg ns' k=zg ns k:=by unfold zg;rw[he.top _ h.a,he.top _ h.b,he.top _ h.c]
theorem QB.ext{ns':List Nd}(hr:zZ ns)(h:QB op ns m)(he:Ext ns ns'):QB op ns' m :=
  ⟨fun p hp=>(h.keys p hp).ext he,fun p hp=>he.has _ (h.has p hp),fun p hp=>by rw [Ke (h.keys p hp) he,he.top _ (h.has p hp)];exact h.top p hp,
   fun p hp f=>by rw [xY hr he (h.has p hp),xY hr he (h.keys p hp).a,xY hr he (h.keys p hp).b,xY hr he (h.keys p hp).c];exact h.sem p hp f⟩
theorem zlF{h:Int}(hh:h=0\/h=1):za ns h=24:=by rcases hh with rfl|rfl<;>simp[za]
theorem zgX(hr:zZ ns){h:Int}(h3:yX ns k)(e:qP op k=some h):zh ns h=true/\zg ns k<=za ns h/\∀f,sem ns h f=opS op (sem ns k.v f) (sem ns k.l f) (sem ns k.h f):=by
  obtain⟨m1,m2,m3⟩:=Kw ns k;have mb:=(QK hr k).2;unfold qP at e;cases op with
  |true =>
    simp only[ztL] at e;unfold yN at e;split at e
    · rename_i c
      cases e;refine⟨h3.b,m2,fun f=>?_⟩;rcases c with c|c
      · rw[c,Zy];simp[opS]
      · rw[c];simp only[opS,ztL];split<;>rfl
    · split at e
      · rename_i c
        cases e;refine⟨h3.c,m3,fun f=>?_⟩;rw[c,ZI];simp[opS]
      · split at e
        · rename_i c
          cases e;refine⟨h3.a,m1,fun f=>?_⟩;rw[c.1,c.2,Zy,ZI];simp only[opS,ztL];cases sem ns k.v f<;>rfl
        · cases e
  |false =>
    simp only[zsu,zvs] at e;unfold zbP at e;split at e
    · rename_i c
      cases e;refine⟨by simp[zh],by rw[zlF (.inl rfl)];exact mb,fun f=>?_⟩;rw[c,ZI];simp[opS]
    · split at e
      · rename_i c
        cases e;refine⟨h3.b,m2,fun f=>?_⟩;rw[c,ZI];simp[opS]
      · split at e
        · rename_i c
          cases e;refine⟨h3.a,m1,fun f=>?_⟩;rw[c,ZI];simp[opS]
        · cases e
theorem XV(hr:zZ ns)(h3:yX ns k)(e:qP op k=none):zg ns k<24:=by
  have tv:=qe hr k.v;have tl:=qe hr k.l;obtain⟨m1,m2,m3⟩:=Kw ns k;unfold qP at e;cases op with
  |true =>
    simp only[ztL] at e;unfold yN at e;split at e
    · cases e
    · split at e
      · cases e
      · rename_i c1 c2
        by_cases t:za ns k.v=24
        · rcases Q5 h3.a t with h|h
          · exact absurd h c2
          · exact absurd (.inl h) c1
        · omega
  |false =>
    simp only[zsu,zvs] at e;unfold zbP at e;split at e
    · cases e
    · split at e
      · cases e
      · split at e
        · cases e
        · rename_i c1 c2 c3
          by_cases t:za ns k.v=24
          · by_cases u:za ns k.l=24
            · rcases Q5 h3.a t with h|h<;>rcases Q5 h3.b u with g|g<;>first|exact absurd h c2|exact absurd g c3|exact absurd (h.trans g.symm) c1
            · omega
          · omega
def rk(vars:Nat)(ns:List Nd)(k:Nd):Nat:=((vars:Int)-zg ns k).toNat
structure zch(vars:Nat)(op:Bool)(ns:List Nd)(m:List (Nd × Int))(k:Nd)(r:List Nd × List (Nd × Int) × Int):Prop where
  good:zG vars r.1
  ext:Ext ns r.1
  memo:QB op r.1 r.2.1
  has:zh r.1 r.2.2=true
  sem:∀f,sem r.1 r.2.2 f=opS op (sem ns k.v f) (sem ns k.l f) (sem ns k.h f)
  top:zg ns k<=za r.1 r.2.2
  cnt:cnt r.1+1<=cnt ns+2^rk vars ns k
  len:r.1.length+1<=ns.length+2^rk vars ns k
  tight:r.1.length+1<=max (ns.length+1) (Go.Proofs.YtoffdbflfikcoaaGreatDoor.Bd.cnt ns+2^rk vars ns k)
  mlen:r.2.1.length+1<=m.length+2^rk vars ns k
theorem zah(hr:zZ ns)(h3:yX ns k)(hv:zg ns k<24):yX ns (loK ns k (zg ns k))/\zg ns k<zg ns (loK ns k (zg ns k)):=by
  obtain⟨m1,m2,m3⟩:=Kw ns k;have a:=YH hr hv h3.a;have b:=YH hr hv h3.b;have c:=YH hr hv h3.c;refine⟨⟨a.1,b.1,c.1⟩,?_⟩;have:=zfw (ns:=ns) (k:=loK ns k (zg ns k)) (x:=zg ns k+1) (a.2.1 m1) (b.2.1 m2) (c.2.1 m3);omega
theorem zal(hr:zZ ns)(h3:yX ns k)(hv:zg ns k<24):yX ns (hiK ns k (zg ns k))/\zg ns k<zg ns (hiK ns k (zg ns k)):=by
  obtain⟨m1,m2,m3⟩:=Kw ns k;have a:=Yv hr hv h3.a;have b:=Yv hr hv h3.b;have c:=Yv hr hv h3.c;refine⟨⟨a.1,b.1,c.1⟩,?_⟩;have:=zfw (ns:=ns) (k:=hiK ns k (zg ns k)) (x:=zg ns k+1) (a.2.1 m1) (b.2.1 m2) (c.2.1 m3);omega
theorem Xb(hg:zG vars ns){h:Int}(ht:za ns h≠24):za ns h<(vars:Int):=by
  obtain⟨h1,h2,h3,-⟩:=xo ht;have:=YW hg.ranked ht;rw[h3] at this ⊢;exact hg.vars _ h2 this
theorem zbZ(hg:zG vars ns)(hv:zg ns k<24):zg ns k<(vars:Int):=by
  have:zg ns k=za ns k.v\/zg ns k=za ns k.l\/zg ns k=za ns k.h:=by unfold zg;omega
  rcases this with e|e|e<;>rw[e] at hv ⊢<;>exact Xb hg (by omega)
theorem zoA(op c a b d x y z:Bool):opS op (if c=true then a else x) (if c=true then b else y) (if c=true then d else z)=if c=true then opS op a b d else opS op x y z:=by
  cases c<;>simp
theorem zbb(hg:zG vars ns)(hm:QB op ns m){h:Int}(hh:zh ns h=true)(ht:zg ns k<=za ns h)(hs:∀f,Go.Proofs.YtoffdbflfikcoaaGreatDoor.Bd.sem ns h f=opS op (Go.Proofs.YtoffdbflfikcoaaGreatDoor.Bd.sem ns k.v f) (Go.Proofs.YtoffdbflfikcoaaGreatDoor.Bd.sem ns k.l f) (Go.Proofs.YtoffdbflfikcoaaGreatDoor.Bd.sem ns k.h f)):zch vars op ns m k (ns,m,h):=by
  have:=zr1 (n:=rk vars ns k);exact⟨hg,Ext.refl _,hm,hh,hs,ht,by show Go.Proofs.YtoffdbflfikcoaaGreatDoor.Bd.cnt ns+1<=_;omega,by show ns.length+1<=_;omega,by show ns.length+1<=_;omega,by show m.length+1<=_;omega⟩
theorem Qw:∀(d:Nat) (ns:List Nd) (m:List (Nd × Int)) (k:Nd),zG vars ns->QB op ns m->yX ns k->24<=zg ns k+d->ns.length+2^rk vars ns k<=900000->zch vars op ns m k (zu d op ns m k)
  |0,ns,m,k,hg,hm,h3,hd,_=>by
    unfold zu;cases e:qP op k with
    |none=>have:=XV hg.ranked h3 e;omega
    |some h =>obtain⟨a,b,c⟩:=zgX hg.ranked h3 e;exact zbb hg hm a b c
  |d+1,ns,m,k,hg,hm,h3,hd,hl=>by
    unfold zu;cases e:qP op k with
    |some h =>obtain⟨a,b,c⟩:=zgX hg.ranked h3 e;exact zbb hg hm a b c
    |none =>
      cases e2:look m k with
      |some h =>have hp:=zd9 e2;exact zbb hg hm (hm.has _ hp) (hm.top _ hp) (hm.sem _ hp)
      |none =>
        have hr:=hg.ranked;have hv:=XV hr h3 e;have K:=zbZ hg hv;have J:=(QK hr k).1;obtain⟨l3,lt⟩:=zah hr h3 hv;obtain⟨g3,gt⟩:=zal hr h3 hv;have C:2^rk vars ns k=2^(rk vars ns k-1)+2^(rk vars ns k-1):=by
          have:1<=rk vars ns k:=by unfold rk;omega
          obtain⟨q,hq⟩:∃q,rk vars ns k=q+1:=⟨rk vars ns k-1,by omega⟩;rw[hq,zsR,zsU];omega
        have M:=zr1 (n:=rk vars ns k-1);have p1:2^rk vars ns (loK ns k (zg ns k))<=2^(rk vars ns k-1):=zrt (by omega) (by unfold rk;omega);have i1:=Qw d ns m (loK ns k (zg ns k)) hg hm l3 (by omega) (by omega);show zch vars op ns m k (_,_,_);generalize zu d op ns m (loK ns k (zg ns k))=r1 at *;have g3':=g3.ext i1.ext;have gm:=Ke g3 i1.ext;have p2:2^rk vars r1.1 (hiK ns k (zg ns k))<=2^(rk vars ns k-1):=zrt (by omega) (by unfold rk;rw[gm];omega);have l1:=i1.len;have c1:=i1.cnt;have m1:=i1.mlen;have i2:=Qw d r1.1 r1.2.1 (hiK ns k (zg ns k)) i1.good i1.memo g3' (by rw[gm];omega) (by omega);generalize zu d op r1.1 r1.2.1 (hiK ns k (zg ns k))=r2 at *;have l2:=i2.len;have c2:=i2.cnt;have t1:=i1.tight;have t2:=i2.tight;have m2:=i2.mlen;have h1':=i2.ext.has _ i1.has;have t1':za r2.1 r1.2.2=za r1.1 r1.2.2:=i2.ext.top _ i1.has;have i3:=YK i2.good (v:=zg ns k) (l:=r1.2.2) (h:=r2.2.2) (by omega) J hv K h1' i2.has (by rw[t1'];have:=i1.top;omega) (by have:=i2.top;rw[gm] at this;omega);generalize yn r2.1 (zg ns k) r1.2.2 r2.2.2=r3 at *;have j:=(i1.ext.trans i2.ext).trans i3.ext;have c3:=i3.cnt;have t3:=i3.tight;have l3':=i3.len;have o:∀f,Go.Proofs.YtoffdbflfikcoaaGreatDoor.Bd.sem r3.1 r3.2 f=opS op (Go.Proofs.YtoffdbflfikcoaaGreatDoor.Bd.sem ns k.v f) (Go.Proofs.YtoffdbflfikcoaaGreatDoor.Bd.sem ns k.l f) (Go.Proofs.YtoffdbflfikcoaaGreatDoor.Bd.sem ns k.h f):=fun f=>by
          rw [i3.sem f,xY i1.good.ranked i2.ext i1.has,i1.sem f,i2.sem f,xY hr i1.ext g3.a,xY hr i1.ext g3.b,xY hr i1.ext g3.c,
            Yp (h:=k.v) hr hv f,Yp (h:=k.l) hr hv f,Yp (h:=k.h) hr hv f,zoA]
          rfl
        have mp:=zos (m:=r2.2.1) (k:=k) r3.2;have mo:=i2.memo.ext i2.good.ranked i3.ext;have u:zg ns k<=za r3.1 r3.2:=i3.top;have y:=h3.ext j;have mk:=Ke h3 j;refine⟨i3.good,j,⟨fun p hp=>?_,fun p hp=>?_,fun p hp=>?_,fun p hp f=>?_⟩,i3.has,o,u,by show Go.Proofs.YtoffdbflfikcoaaGreatDoor.Bd.cnt r3.1+1<=_;omega,by show r3.1.length+1<=_;omega,by show r3.1.length+1<=_;omega,by show (ZR r2.2.1 k r3.2).length+1<=_;omega⟩
        · rcases Jo hp with rfl|hp
          · exact y
          · exact mo.keys p hp
        · rcases Jo hp with rfl|hp
          · exact i3.has
          · exact mo.has p hp
        · rcases Jo hp with rfl|hp
          · show zg r3.1 k<=_;rw[mk];exact u
          · exact mo.top p hp
        · rcases Jo hp with rfl|hp
          · show Go.Proofs.YtoffdbflfikcoaaGreatDoor.Bd.sem r3.1 r3.2 f=_
            rw[o f,xY hr j h3.a,xY hr j h3.b,xY hr j h3.c]
          · exact mo.sem p hp f
end
end Bd
namespace Bd
open Go.Maps
structure OpR(vars:Nat)(ns:List Nd)(r:List Nd × Int)(g:(Nat->Bool)->Bool):Prop where
  good:zG vars r.1
  ext:Ext ns r.1
  has:zh r.1 r.2=true
  sem:∀f,sem r.1 r.2 f=g f
  len:r.1.length+1<=ns.length+2^vars
  cnt:cnt r.1+1<=cnt ns+2^vars
  tight:r.1.length+1<=max (ns.length+1) (Go.Proofs.YtoffdbflfikcoaaGreatDoor.Bd.cnt ns+2^vars)
def xI(op:Bool)(ns:List Nd)(k:Nd):List Nd × Int:=((zu 24 op ns [] k).1,(zu 24 op ns [] k).2.2)
def xH(ns:List Nd)(v:Int)(is:Bool):List Nd × Int:=if is=true then yn ns v 0 1 else yn ns v 1 0
section
variable {vars:Nat} {ns:List Nd}
theorem JS(op:Bool)(ns:List Nd):QB op ns []:=⟨fun p h=>(by cases h),fun p h=>(by cases h),fun p h=>(by cases h),fun p h=>(by cases h)⟩
theorem Qd(ns:List Nd):zh ns 0=true:=by simp[zh]
theorem xT(ns:List Nd):zh ns 1=true:=by simp[zh]
theorem Y7(ns:List Nd):za ns 0=24:=by simp[za]
theorem Yc(ns:List Nd):za ns 1=24:=by simp[za]
theorem Kb(hr:zZ ns)(k:Nd):2^rk vars ns k<=2^vars:=zrt (by omega) (by unfold rk;have:=(QK hr k).1;omega)
theorem zeO(op:Bool)(hg:zG vars ns){k:Nd}(h3:yX ns k)(hl:ns.length+2^vars<=900000):OpR vars ns (xI op ns k) (fun f=>opS op (sem ns k.v f) (sem ns k.l f) (sem ns k.h f)):=by
  have hp:=Kb (vars:=vars) hg.ranked k;have h:=Qw (op:=op) 24 ns [] k hg (JS op ns) h3 (by have:=(QK hg.ranked k).1;omega) (by omega);exact⟨h.good,h.ext,h.has,h.sem,by have:=h.len;show (zu 24 op ns [] k).1.length+1<=_;omega,by have:=h.cnt;show Go.Proofs.YtoffdbflfikcoaaGreatDoor.Bd.cnt (zu 24 op ns [] k).1+1<=_;omega,by have:=h.tight;show (zu 24 op ns [] k).1.length+1<=_;omega⟩
theorem zlD(hg:zG vars ns){v:Int}(is:Bool)(hv0:0<=v)(hv:v<(vars:Int))(hv24:v<24)(hl:ns.length+2^vars<=900000):OpR vars ns (xH ns v is) (fun f=>f v.toNat==is):=by
  have h1:1<=vars:=by omega
  have h2:2<=2^vars:=by
    obtain⟨q,rfl⟩:∃q,vars=q+1:=⟨vars-1,by omega⟩;have:=zr1 (n:=q);rw[zsU];omega
  unfold xH;cases is with
  |true =>rw[zc3 rfl];have h:=YK hg (v:=v) (l:=0) (h:=1) (by omega) hv0 hv24 hv (Qd ns) (xT ns) (by rw[Y7];exact hv24) (by rw[Yc];exact hv24);exact⟨h.good,h.ext,h.has,fun f=>by rw[h.sem f,Zy,ZI];cases f v.toNat<;>rfl,by have:=h.len;omega,by have:=h.cnt;omega,by have:=h.tight;omega⟩
  |false =>rw[zc2 (by simp)];have h:=YK hg (v:=v) (l:=1) (h:=0) (by omega) hv0 hv24 hv (xT ns) (Qd ns) (by rw[Yc];exact hv24) (by rw[Y7];exact hv24);exact⟨h.good,h.ext,h.has,fun f=>by rw[h.sem f,Zy,ZI];cases f v.toNat<;>rfl,by have:=h.len;omega,by have:=h.cnt;omega,by have:=h.tight;omega⟩
end
end Bd
