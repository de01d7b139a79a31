/- Form and Resolve: plain. -/
import Derived.Test.YtlmmkbnjhilbdaaGreatDoorBdSem
namespace Go.Proofs.YtlmmkbnjhilbdaaGreatDoor
namespace Bd
open Go.RowKit Go.Maps
def ql(ns:List Nd):Nat:=ns.findIdx fun n=>!decide (n.v<24)
def idx(ns:List Nd)(n:Nd):Nat:=ns.findIdx fun m=>decide (m=n)
def cnt(ns:List Nd):Nat:=(ns.filter fun n=>decide (n.v<24)).length
section
variable {ns:List Nd}
theorem Qw(ns:List Nd):ql ns<=ns.length:=List.findIdx_le_length
theorem zdO{j:Nat}(h:j<ql ns):(nd ns j).v<24:=by
  have hl:j<ns.length:=Nat.lt_of_lt_of_le h (Qw ns);have:=List.not_of_lt_findIdx h;rw[ZS ns j hl];simpa using this
theorem zaM(h:ql ns<ns.length):¬(nd ns (ql ns)).v<24:=by
  have:=List.findIdx_getElem (w:=h);rw[ZS ns _ h];unfold ql;simpa using this
theorem zhK{k:Nat}(hk:k<=ns.length)(ht:∀j,j<k->(nd ns j).v<24)(hf:k<ns.length->¬(nd ns k).v<24):k=ql ns:=by
  rcases Nat.lt_trichotomy k (ql ns) with h|h|h
  · exact absurd (zdO h) (hf (Nat.lt_of_lt_of_le h (Qw ns)))
  · exact h
  · exact absurd (ht _ h) (zaM (by omega))
theorem XE{n:Nd}(h:idx ns n<ns.length):nd ns (idx ns n)=n:=by
  have:=List.findIdx_getElem (w:=h);rw[ZS ns _ h];unfold idx;simpa using this
theorem zdH{n:Nd}(h:¬idx ns n<ns.length){j:Nat}(hj:j<ns.length):nd ns j≠n:=by
  have:j<idx ns n:=by omega
  have:=List.not_of_lt_findIdx this;rw[ZS ns j hj];simpa using this
def Zn(ns:List Nd)(n:Nd):List Nd × Int:=if idx ns n<ns.length then (ns,2+(idx ns n:Int)) else (qt ns (ql ns) n,2+(ql ns:Int))
def yl(ns:List Nd)(v l h:Int):List Nd × Int:=if l=h then (ns,l) else Zn ns ⟨v,l,h⟩
theorem zoD(ns:List Nd)(n:Nd):cnt (qt ns (ql ns) n)<=cnt ns+1:=by
  unfold cnt qt;have key:∀(l:List Nd) (k:Nat),((l.set k n).filter fun n=>decide (n.v<24)).length<=(l.filter fun n=>decide (n.v<24)).length+1:=by
    intro l
    induction l with
    |nil=>intro k;simp
    |cons a l ih =>
      intro k;cases k with
      |zero =>simp only[List.set_cons_zero,List.filter_cons];split<;>split<;>simp<;>omega
      |succ k =>
        simp only[List.set_cons_succ,List.filter_cons];have:=ih k;split
        · simp only[List.length_cons];omega
        · exact this
  refine Nat.le_trans (key _ _) ?_;split
  · rw[List.filter_append];simp
  · exact Nat.le_refl _
theorem zmF{vars:Nat}(hg:zu vars ns){n:Nd}(hn:n.Ok)(hf:Fit ns n)(hne:n.l≠n.h)(hv:n.v<(vars:Int))(hnin:∀j,j<ns.length->nd ns j≠n):zu vars (qt ns (ql ns) n):=by
  have hk:=Qw ns;have hfr:ql ns<ns.length->¬(nd ns (ql ns)).v<24:=zaM;have key:∀j,j<(qt ns (ql ns) n).length->nd (qt ns (ql ns) n) j=n/\j=ql ns\/j<ns.length/\j≠ql ns/\nd (qt ns (ql ns) n) j=nd ns j:=fun j hj=>by
    have hj':=(Qo hk j).1 hj
    by_cases e:j=ql ns
    · exact .inl ⟨by rw[x9 hk j hj',if_pos e],e⟩
    · exact .inr ⟨by omega,e,by rw[x9 hk j hj',if_neg e]⟩
  refine⟨zmC hg.ranked hk hfr hn hf,fun i j hi hj hvi e=>?_,fun i hi hvi=>?_,fun i hi hvi=>?_,fun i hi hvi=>?_⟩
  · rcases key i hi with ⟨e1,x1⟩|⟨l1,n1,e1⟩<;>rcases key j hj with ⟨e2,x2⟩|⟨l2,n2,e2⟩
    · omega
    · rw[e1,e2] at e;exact absurd e.symm (hnin j l2)
    · rw[e1,e2] at e;exact absurd e (hnin i l1)
    · rw[e1] at hvi;rw[e1,e2] at e;exact hg.once i j l1 l2 hvi e
  · rcases key i hi with ⟨e1,-⟩|⟨l1,-,e1⟩<;>rw[e1] at hvi ⊢
    · exact hne
    · exact hg.red i l1 hvi
  · rcases key i hi with ⟨e1,-⟩|⟨l1,-,e1⟩<;>rw[e1] at hvi ⊢
    · exact hv
    · exact hg.vars i l1 hvi
  · rcases key i hi with ⟨e1,-⟩|⟨l1,-,e1⟩<;>rw[e1] at hvi ⊢
    · exact absurd hf.v1 hvi
    · exact hg.free i l1 hvi
theorem zlA:∀(ns:List Nd),¬ql ns<ns.length->cnt ns=ns.length:=fun ns h=>by
  unfold cnt;rw[List.filter_eq_self.2];intro a ha;obtain⟨i,hi,rfl⟩:=List.getElem_of_mem ha;have:=zdO (ns:=ns) (j:=i) (by have:=Qw ns;omega);rw[ZS ns i hi] at this;simpa using this
theorem zmT(ns:List Nd)(n:Nd):(qt ns (ql ns) n).length<=max ns.length (cnt ns+1):=by
  by_cases h:ql ns<ns.length
  · have:(qt ns (ql ns) n).length=ns.length:=by unfold qt;rw[if_neg (by omega)];simp
    omega
  · have h1:=zlA ns h
    have h2:=(JN (n:=n) (Qw ns)).1;omega
structure zkv(vars:Nat)(ns:List Nd)(v l h:Int)(r:List Nd × Int):Prop where
  good:zu vars r.1
  ext:Ext ns r.1
  has:zj r.1 r.2=true
  sem:∀f,sem r.1 r.2 f=if f v.toNat then sem ns h f else sem ns l f
  top:v<=zb r.1 r.2
  cnt:cnt r.1<=cnt ns+1
  len:r.1.length<=ns.length+1
  tight:r.1.length<=max ns.length (Go.Proofs.YtlmmkbnjhilbdaaGreatDoor.Bd.cnt ns+1)
  i64:I64 r.2
theorem yS{h:Int}(hh:zj ns h=true)(hl:ns.length<=1000000):I64 h:=by
  rcases Ju hh with rfl|rfl|ht
  · exact⟨by omega,by omega⟩
  · exact⟨by omega,by omega⟩
  · obtain⟨h1,h2,-,h4⟩:=yU (ns:=ns) (h:=h) (by omega)
    exact⟨by omega,by omega⟩
theorem QW{vars:Nat}(hg:zu vars ns){v l h:Int}(hl:ns.length<=900000)(h0:0<=v)(h24:v<24)(hv:v<(vars:Int))(hl1:zj ns l=true)(hh1:zj ns h=true)(tl:v<zb ns l)(th:v<zb ns h):zkv vars ns v l h (yl ns v l h):=by
  unfold yl
  by_cases e:l=h
  · rw[if_pos e]
    subst e;exact⟨hg,Ext.refl _,hl1,fun f=>by split<;>rfl,by show v<=zb ns l;omega,Nat.le_succ _,Nat.le_succ _,Nat.le_max_left _ _,yS hl1 (by omega)⟩
  · rw[if_neg e]
    unfold Zn;have hi1:=yS hl1 (by omega);have hi2:=yS hh1 (by omega)
    by_cases c:idx ns ⟨v,l,h⟩<ns.length
    · rw[if_pos c]
      have ha:=XE c;have ht:zb ns (2+(idx ns ⟨v,l,h⟩:Int))=v:=by rw[QL c,ha]
      have hp:pl (2+(idx ns ⟨v,l,h⟩:Int))=idx ns ⟨v,l,h⟩:=by unfold pl;omega
      refine⟨hg,Ext.refl _,?_,fun f=>?_,?_,Nat.le_succ _,Nat.le_succ _,Nat.le_max_left _ _,⟨by show _<=(2+_:Int);omega,by show (2+_:Int)<=_;omega⟩⟩
      · show zj ns _=true;unfold zj;rw[ht];simp[h24]
      · show Go.Proofs.YtlmmkbnjhilbdaaGreatDoor.Bd.sem ns _ f=_
        rw[Yu hg.ranked (by rw[ht];omega),ht,hp,ha]
      · show v<=zb ns (2+(idx ns ⟨v,l,h⟩:Int));omega
    · rw[if_neg c]
      have hnin:∀j,j<ns.length->nd ns j≠⟨v,l,h⟩:=fun j hj=>zdH c hj;have hf:Fit ns ⟨v,l,h⟩:=⟨h0,h24,hl1,hh1,tl,th⟩;have hgp:=zmF hg ⟨⟨by show _<=v;omega,by show v<=_;omega⟩,hi1,hi2⟩ hf e hv hnin;have hk:=Qw ns;have hx:Ext ns (qt ns (ql ns) ⟨v,l,h⟩):=zoy hk zaM hg.ranked;have ht:zb (qt ns (ql ns) ⟨v,l,h⟩) (2+(ql ns:Int))=v:=zfk hk;have hp:pl (2+(ql ns:Int))=ql ns:=by unfold pl;omega
      refine⟨hgp,hx,?_,fun f=>?_,?_,zoD _ _,(JN hk).1,zmT _ _,⟨by show _<=(2+_:Int);omega,by show (2+_:Int)<=_;omega⟩⟩
      · show zj _ _=true;unfold zj;rw[ht];simp[h24]
      · show Go.Proofs.YtlmmkbnjhilbdaaGreatDoor.Bd.sem _ _ f=_
        rw[Yu hgp.ranked (by rw[ht];omega),ht,hp,x9 hk _ (.inr rfl),if_pos rfl,xJ hg.ranked hx hl1,xJ hg.ranked hx hh1]
      · show v<=zb (qt ns (ql ns) ⟨v,l,h⟩) (2+(ql ns:Int));omega
end
end Bd
namespace Bd
open Go.RowKit Go.Maps
def yI(k:Nd):Option Int:=if k.v=1\/k.l=k.h then some k.l else if k.v=0 then some k.h else if k.l=1/\k.h=0 then some k.v else none
def JM(k:Nd):Option Int:=if k.v=k.l then some 0 else if k.v=0 then some k.l else if k.l=0 then some k.v else none
def qK(op:Bool)(k:Nd):Option Int:=if op=true then yI k else JM k
def opS(op a b c:Bool):Bool:=if op=true then (if a=true then b else c) else (a != b)
def zf(ns:List Nd)(k:Nd):Int:=min (min (zb ns k.v) (zb ns k.l)) (zb ns k.h)
def loK(ns:List Nd)(k:Nd)(v:Int):Nd:=⟨loS ns k.v v,loS ns k.l v,loS ns k.h v⟩
def hiK(ns:List Nd)(k:Nd)(v:Int):Nd:=⟨hiS ns k.v v,hiS ns k.l v,hiS ns k.h v⟩
def look{α:Type}[DecidableEq α](m:List (α × Int))(k:α):Option Int:=(m.find? fun p=>decide (p.1=k)).map Prod.snd
def Zl{α:Type}[DecidableEq α](m:List (α × Int))(k:α)(h:Int):List (α × Int):=if k∈m.map Prod.fst then m.map (fun q=>if q.1=k then (q.1,h) else q) else m++[(k,h)]
def zr:Nat->Bool->List Nd->List (Nd × Int)->Nd->List Nd × List (Nd × Int) × Int
  |0,op,ns,m,k=>(ns,m,(qK op k).getD 0)
  |d+1,op,ns,m,k =>
    match qK op k with
    |some h=>(ns,m,h)
    |none =>
      match look m k with
      |some h=>(ns,m,h)
      |none =>
        let r1:=zr d op ns m (loK ns k (zf ns k))
        let r2:=zr d op r1.1 r1.2.1 (hiK ns k (zf ns k))
        let r3:=yl r2.1 (zf ns k) r1.2.2 r2.2.2
        (r3.1,Zl r2.2.1 k r3.2,r3.2)
section
variable {α:Type} [DecidableEq α] {m:List (α × Int)} {k:α}
theorem zfT{h:Int}(e:look m k=some h):(k,h)∈m:=by
  unfold look at e;obtain⟨p,hp,rfl⟩:=Option.map_eq_some_iff.1 e;have h1:=List.find?_some hp;have h2:=List.mem_of_find?_eq_some hp;simp at h1;subst h1;exact h2
theorem zib(e:look m k=none):k∉m.map Prod.fst:=by
  unfold look at e;rw[Option.map_eq_none_iff,List.find?_eq_none] at e;intro h;obtain⟨p,hp,rfl⟩:=List.mem_map.1 h;exact e p hp (by simp)
theorem Ja{h:Int}{p:α × Int}(hp:p∈Zl m k h):p=(k,h)\/p∈m:=by
  unfold Zl at hp;split at hp
  · obtain⟨q,hq,rfl⟩:=List.mem_map.1 hp
    by_cases e:q.1=k
    · rw[if_pos e];exact .inl (by rw[e])
    · rw[if_neg e];exact .inr hq
  · rcases List.mem_append.1 hp with hp|hp
    · exact .inr hp
    · rw[List.mem_singleton] at hp;exact .inl hp
theorem zlC(h:Int):(Zl m k h).length<=m.length+1:=by
  unfold Zl;split
  · simp
  · simp
end
structure yR(ns:List Nd)(k:Nd):Prop where
  a:zj ns k.v=true
  b:zj ns k.l=true
  c:zj ns k.h=true
structure Z7(op:Bool)(ns:List Nd)(m:List (Nd × Int)):Prop where
  keys:∀p∈m,yR ns p.1
  has:∀p∈m,zj ns p.2=true
  top:∀p∈m,zf ns p.1<=zb ns p.2
  sem:∀p∈m,∀f,sem ns p.2 f=opS op (sem ns p.1.v f) (sem ns p.1.l f) (sem ns p.1.h f)
section
variable {ns:List Nd} {op:Bool} {m:List (Nd × Int)} {k:Nd} {vars:Nat}
theorem XA(ns:List Nd)(k:Nd):zf ns k<=zb ns k.v/\zf ns k<=zb ns k.l/\zf ns k<=zb ns k.h:=by unfold zf;omega
theorem zcR{x:Int}(h1:x<=zb ns k.v)(h2:x<=zb ns k.l)(h3:x<=zb ns k.h):x<=zf ns k:=by unfold zf;omega
theorem Qm(hr:qg ns)(k:Nd):0<=zf ns k/\zf ns k<=24:=by
  have h1:=qi hr k.v;have h2:=qi hr k.l;have h3:=qi hr k.h;unfold zf;omega
theorem yR.ext{ns':List Nd}(h:yR ns k)(he:Ext ns ns'):yR ns' k:=⟨he.has _ h.a,he.has _ h.b,he.has _ h.c⟩
theorem Xm{ns':List Nd}(h:yR ns k)(he:Ext ns ns'):zf ns' k=zf ns k:=by unfold zf;rw[he.top _ h.a,he.top _ h.b,he.top _ h.c]
theorem Z7.ext{ns':List Nd}(hr:qg ns)(h:Z7 op ns m)(he:Ext ns ns'):Z7 op ns' m :=
  ⟨fun p hp=>(h.keys p hp).ext he,fun p hp=>he.has _ (h.has p hp),fun p hp=>by rw [Xm (h.keys p hp) he,he.top _ (h.has p hp)];exact h.top p hp,
   fun p hp f=>by rw [xJ hr he (h.has p hp),xJ hr he (h.keys p hp).a,xJ hr he (h.keys p hp).b,xJ hr he (h.keys p hp).c];exact h.sem p hp f⟩
theorem znb{h:Int}(hh:h=0\/h=1):zb ns h=24:=by rcases hh with rfl|rfl<;>simp[zb]
theorem zdF(hr:qg ns){h:Int}(h3:yR ns k)(e:qK op k=some h):zj ns h=true/\zf ns k<=zb ns h/\∀f,sem ns h f=opS op (sem ns k.v f) (sem ns k.l f) (sem ns k.h f):=by
  obtain⟨m1,m2,m3⟩:=XA ns k;have mb:=(Qm hr k).2;unfold qK at e;cases op with
  |true =>
    simp only[if_true] at e;unfold yI at e;split at e
    · rename_i c
      cases e;refine⟨h3.b,m2,fun f=>?_⟩;rcases c with c|c
      · rw[c,Zj];simp[opS]
      · rw[c];simp only[opS,if_true];split<;>rfl
    · split at e
      · rename_i c
        cases e;refine⟨h3.c,m3,fun f=>?_⟩;rw[c,Zh];simp[opS]
      · split at e
        · rename_i c
          cases e;refine⟨h3.a,m1,fun f=>?_⟩;rw[c.1,c.2,Zj,Zh];simp only[opS,if_true];cases sem ns k.v f<;>rfl
        · cases e
  |false =>
    simp only[Bool.false_eq_true,if_false] at e;unfold JM at e;split at e
    · rename_i c
      cases e;refine⟨by simp[zj],by rw[znb (.inl rfl)];exact mb,fun f=>?_⟩;rw[c,Zh];simp[opS]
    · split at e
      · rename_i c
        cases e;refine⟨h3.b,m2,fun f=>?_⟩;rw[c,Zh];simp[opS]
      · split at e
        · rename_i c
          cases e;refine⟨h3.a,m1,fun f=>?_⟩;rw[c,Zh];simp[opS]
        · cases e
theorem XO(hr:qg ns)(h3:yR ns k)(e:qK op k=none):zf ns k<24:=by
  have tv:=qi hr k.v;have tl:=qi hr k.l;obtain⟨m1,m2,m3⟩:=XA ns k;unfold qK at e;cases op with
  |true =>
    simp only[if_true] at e;unfold yI at e;split at e
    · cases e
    · split at e
      · cases e
      · rename_i c1 c2
        by_cases t:zb ns k.v=24
        · rcases QY h3.a t with h|h
          · exact absurd h c2
          · exact absurd (.inl h) c1
        · omega
  |false =>
    simp only[Bool.false_eq_true,if_false] at e;unfold JM at e;split at e
    · cases e
    · split at e
      · cases e
      · split at e
        · cases e
        · rename_i c1 c2 c3
          by_cases t:zb ns k.v=24
          · by_cases u:zb ns k.l=24
            · rcases QY h3.a t with h|h<;>rcases QY h3.b u with g|g<;>first|exact absurd h c2|exact absurd g c3|exact absurd (h.trans g.symm) c1
            · omega
          · omega
def rk(vars:Nat)(ns:List Nd)(k:Nd):Nat:=((vars:Int)-zf ns k).toNat
structure zay(vars:Nat)(op:Bool)(ns:List Nd)(m:List (Nd × Int))(k:Nd)(r:List Nd × List (Nd × Int) × Int):Prop where
  good:zu vars r.1
  ext:Ext ns r.1
  memo:Z7 op r.1 r.2.1
  has:zj r.1 r.2.2=true
  sem:∀f,sem r.1 r.2.2 f=opS op (sem ns k.v f) (sem ns k.l f) (sem ns k.h f)
  top:zf ns k<=zb r.1 r.2.2
  cnt:cnt r.1+1<=cnt ns+2^rk vars ns k
  len:r.1.length+1<=ns.length+2^rk vars ns k
  tight:r.1.length+1<=max (ns.length+1) (Go.Proofs.YtlmmkbnjhilbdaaGreatDoor.Bd.cnt ns+2^rk vars ns k)
  mlen:r.2.1.length+1<=m.length+2^rk vars ns k
theorem J5(hr:qg ns)(h3:yR ns k)(hv:zf ns k<24):yR ns (loK ns k (zf ns k))/\zf ns k<zf ns (loK ns k (zf ns k)):=by
  obtain⟨m1,m2,m3⟩:=XA ns k;have a:=QX hr hv h3.a;have b:=QX hr hv h3.b;have c:=QX hr hv h3.c;refine⟨⟨a.1,b.1,c.1⟩,?_⟩;have:=zcR (ns:=ns) (k:=loK ns k (zf ns k)) (x:=zf ns k+1) (a.2.1 m1) (b.2.1 m2) (c.2.1 m3);omega
theorem zbI(hr:qg ns)(h3:yR ns k)(hv:zf ns k<24):yR ns (hiK ns k (zf ns k))/\zf ns k<zf ns (hiK ns k (zf ns k)):=by
  obtain⟨m1,m2,m3⟩:=XA ns k;have a:=QR hr hv h3.a;have b:=QR hr hv h3.b;have c:=QR hr hv h3.c;refine⟨⟨a.1,b.1,c.1⟩,?_⟩;have:=zcR (ns:=ns) (k:=hiK ns k (zf ns k)) (x:=zf ns k+1) (a.2.1 m1) (b.2.1 m2) (c.2.1 m3);omega
theorem YN(hg:zu vars ns){h:Int}(ht:zb ns h≠24):zb ns h<(vars:Int):=by
  obtain⟨h1,h2,h3,-⟩:=yU ht;have:=YC hg.ranked ht;rw[h3] at this ⊢;exact hg.vars _ h2 this
theorem zaY(hg:zu vars ns)(hv:zf ns k<24):zf ns k<(vars:Int):=by
  have:zf ns k=zb ns k.v\/zf ns k=zb ns k.l\/zf ns k=zb ns k.h:=by unfold zf;omega
  rcases this with e|e|e<;>rw[e] at hv ⊢<;>exact YN hg (by omega)
theorem zic(op c a b d x y z:Bool):opS op (if c=true then a else x) (if c=true then b else y) (if c=true then d else z)=if c=true then opS op a b d else opS op x y z:=by
  cases c<;>simp
theorem zaT(hg:zu vars ns)(hm:Z7 op ns m){h:Int}(hh:zj ns h=true)(ht:zf ns k<=zb ns h)(hs:∀f,Go.Proofs.YtlmmkbnjhilbdaaGreatDoor.Bd.sem ns h f=opS op (Go.Proofs.YtlmmkbnjhilbdaaGreatDoor.Bd.sem ns k.v f) (Go.Proofs.YtlmmkbnjhilbdaaGreatDoor.Bd.sem ns k.l f) (Go.Proofs.YtlmmkbnjhilbdaaGreatDoor.Bd.sem ns k.h f)):zay vars op ns m k (ns,m,h):=by
  have:=Nat.one_le_two_pow (n:=rk vars ns k);exact⟨hg,Ext.refl _,hm,hh,hs,ht,by show Go.Proofs.YtlmmkbnjhilbdaaGreatDoor.Bd.cnt ns+1<=_;omega,by show ns.length+1<=_;omega,by show ns.length+1<=_;omega,by show m.length+1<=_;omega⟩
theorem Z5:∀(d:Nat) (ns:List Nd) (m:List (Nd × Int)) (k:Nd),zu vars ns->Z7 op ns m->yR ns k->24<=zf ns k+d->ns.length+2^rk vars ns k<=900000->zay vars op ns m k (zr d op ns m k)
  |0,ns,m,k,hg,hm,h3,hd,_=>by
    unfold zr;cases e:qK op k with
    |none=>have:=XO hg.ranked h3 e;omega
    |some h =>obtain⟨a,b,c⟩:=zdF hg.ranked h3 e;exact zaT hg hm a b c
  |d+1,ns,m,k,hg,hm,h3,hd,hl=>by
    unfold zr;cases e:qK op k with
    |some h =>obtain⟨a,b,c⟩:=zdF hg.ranked h3 e;exact zaT hg hm a b c
    |none =>
      cases e2:look m k with
      |some h =>have hp:=zfT e2;exact zaT hg hm (hm.has _ hp) (hm.top _ hp) (hm.sem _ hp)
      |none =>
        have hr:=hg.ranked;have hv:=XO hr h3 e;have hvv:=zaY hg hv;have hv0:=(Qm hr k).1;obtain⟨l3,lt⟩:=J5 hr h3 hv;obtain⟨g3,gt⟩:=zbI hr h3 hv;have hpow:2^rk vars ns k=2^(rk vars ns k-1)+2^(rk vars ns k-1):=by
          have:1<=rk vars ns k:=by unfold rk;omega
          obtain⟨q,hq⟩:∃q,rk vars ns k=q+1:=⟨rk vars ns k-1,by omega⟩;rw[hq,Nat.add_sub_cancel,Nat.pow_succ];omega
        have pge:=Nat.one_le_two_pow (n:=rk vars ns k-1);have p1:2^rk vars ns (loK ns k (zf ns k))<=2^(rk vars ns k-1):=Nat.pow_le_pow_right (by omega) (by unfold rk;omega);have i1:=Z5 d ns m (loK ns k (zf ns k)) hg hm l3 (by omega) (by omega);show zay vars op ns m k (_,_,_);generalize zr d op ns m (loK ns k (zf ns k))=r1 at *;have g3':=g3.ext i1.ext;have gm:=Xm g3 i1.ext;have p2:2^rk vars r1.1 (hiK ns k (zf ns k))<=2^(rk vars ns k-1):=Nat.pow_le_pow_right (by omega) (by unfold rk;rw[gm];omega);have l1:=i1.len;have c1:=i1.cnt;have m1:=i1.mlen;have i2:=Z5 d r1.1 r1.2.1 (hiK ns k (zf ns k)) i1.good i1.memo g3' (by rw[gm];omega) (by omega);generalize zr d op r1.1 r1.2.1 (hiK ns k (zf ns k))=r2 at *;have l2:=i2.len;have c2:=i2.cnt;have t1:=i1.tight;have t2:=i2.tight;have m2:=i2.mlen;have h1':=i2.ext.has _ i1.has;have t1':zb r2.1 r1.2.2=zb r1.1 r1.2.2:=i2.ext.top _ i1.has;have i3:=QW i2.good (v:=zf ns k) (l:=r1.2.2) (h:=r2.2.2) (by omega) hv0 hv hvv h1' i2.has (by rw[t1'];have:=i1.top;omega) (by have:=i2.top;rw[gm] at this;omega);generalize yl r2.1 (zf ns k) r1.2.2 r2.2.2=r3 at *;have x13:=(i1.ext.trans i2.ext).trans i3.ext;have c3:=i3.cnt;have t3:=i3.tight;have l3':=i3.len;have hsem:∀f,Go.Proofs.YtlmmkbnjhilbdaaGreatDoor.Bd.sem r3.1 r3.2 f=opS op (Go.Proofs.YtlmmkbnjhilbdaaGreatDoor.Bd.sem ns k.v f) (Go.Proofs.YtlmmkbnjhilbdaaGreatDoor.Bd.sem ns k.l f) (Go.Proofs.YtlmmkbnjhilbdaaGreatDoor.Bd.sem ns k.h f):=fun f=>by
          rw [i3.sem f,xJ i1.good.ranked i2.ext i1.has,i1.sem f,i2.sem f,xJ hr i1.ext g3.a,xJ hr i1.ext g3.b,xJ hr i1.ext g3.c,
            QJ (h:=k.v) hr hv f,QJ (h:=k.l) hr hv f,QJ (h:=k.h) hr hv f,zic]
          rfl
        have mp:=zlC (m:=r2.2.1) (k:=k) r3.2;have mo:=i2.memo.ext i2.good.ranked i3.ext;have htop:zf ns k<=zb r3.1 r3.2:=i3.top;have h3x:=h3.ext x13;have mk:=Xm h3 x13;refine⟨i3.good,x13,⟨fun p hp=>?_,fun p hp=>?_,fun p hp=>?_,fun p hp f=>?_⟩,i3.has,hsem,htop,by show Go.Proofs.YtlmmkbnjhilbdaaGreatDoor.Bd.cnt r3.1+1<=_;omega,by show r3.1.length+1<=_;omega,by show r3.1.length+1<=_;omega,by show (Zl r2.2.1 k r3.2).length+1<=_;omega⟩
        · rcases Ja hp with rfl|hp
          · exact h3x
          · exact mo.keys p hp
        · rcases Ja hp with rfl|hp
          · exact i3.has
          · exact mo.has p hp
        · rcases Ja hp with rfl|hp
          · show zf r3.1 k<=_;rw[mk];exact htop
          · exact mo.top p hp
        · rcases Ja hp with rfl|hp
          · show Go.Proofs.YtlmmkbnjhilbdaaGreatDoor.Bd.sem r3.1 r3.2 f=_
            rw[hsem f,xJ hr x13 h3.a,xJ hr x13 h3.b,xJ hr x13 h3.c]
          · exact mo.sem p hp f
end
end Bd
namespace Bd
open Go.RowKit Go.Maps
structure OpR(vars:Nat)(ns:List Nd)(r:List Nd × Int)(g:(Nat->Bool)->Bool):Prop where
  good:zu vars r.1
  ext:Ext ns r.1
  has:zj r.1 r.2=true
  sem:∀f,sem r.1 r.2 f=g f
  len:r.1.length+1<=ns.length+2^vars
  cnt:cnt r.1+1<=cnt ns+2^vars
  tight:r.1.length+1<=max (ns.length+1) (Go.Proofs.YtlmmkbnjhilbdaaGreatDoor.Bd.cnt ns+2^vars)
def xr(op:Bool)(ns:List Nd)(k:Nd):List Nd × Int:=((zr 24 op ns [] k).1,(zr 24 op ns [] k).2.2)
def xk(ns:List Nd)(v:Int)(is:Bool):List Nd × Int:=if is=true then yl ns v 0 1 else yl ns v 1 0
section
variable {vars:Nat} {ns:List Nd}
theorem KS(op:Bool)(ns:List Nd):Z7 op ns []:=⟨fun p h=>(by cases h),fun p h=>(by cases h),fun p h=>(by cases h),fun p h=>(by cases h)⟩
theorem ZX(ns:List Nd):zj ns 0=true:=by simp[zj]
theorem xE(ns:List Nd):zj ns 1=true:=by simp[zj]
theorem YH(ns:List Nd):zb ns 0=24:=by simp[zb]
theorem QF(ns:List Nd):zb ns 1=24:=by simp[zb]
theorem Xo(hr:qg ns)(k:Nd):2^rk vars ns k<=2^vars:=Nat.pow_le_pow_right (by omega) (by unfold rk;have:=(Qm hr k).1;omega)
theorem zc9(op:Bool)(hg:zu vars ns){k:Nd}(h3:yR ns k)(hl:ns.length+2^vars<=900000):OpR vars ns (xr op ns k) (fun f=>opS op (sem ns k.v f) (sem ns k.l f) (sem ns k.h f)):=by
  have hp:=Xo (vars:=vars) hg.ranked k;have h:=Z5 (op:=op) 24 ns [] k hg (KS op ns) h3 (by have:=(Qm hg.ranked k).1;omega) (by omega);exact⟨h.good,h.ext,h.has,h.sem,by have:=h.len;show (zr 24 op ns [] k).1.length+1<=_;omega,by have:=h.cnt;show Go.Proofs.YtlmmkbnjhilbdaaGreatDoor.Bd.cnt (zr 24 op ns [] k).1+1<=_;omega,by have:=h.tight;show (zr 24 op ns [] k).1.length+1<=_;omega⟩
theorem ziZ(hg:zu vars ns){v:Int}(is:Bool)(hv0:0<=v)(hv:v<(vars:Int))(hv24:v<24)(hl:ns.length+2^vars<=900000):OpR vars ns (xk ns v is) (fun f=>f v.toNat==is):=by
  have h1:1<=vars:=by omega
  have h2:2<=2^vars:=by
    obtain⟨q,rfl⟩:∃q,vars=q+1:=⟨vars-1,by omega⟩;have:=Nat.one_le_two_pow (n:=q);rw[Nat.pow_succ];omega
  unfold xk;cases is with
  |true =>rw[if_pos rfl];have h:=QW hg (v:=v) (l:=0) (h:=1) (by omega) hv0 hv24 hv (ZX ns) (xE ns) (by rw[YH];exact hv24) (by rw[QF];exact hv24);exact⟨h.good,h.ext,h.has,fun f=>by rw[h.sem f,Zj,Zh];cases f v.toNat<;>rfl,by have:=h.len;omega,by have:=h.cnt;omega,by have:=h.tight;omega⟩
  |false =>rw[if_neg (by simp)];have h:=QW hg (v:=v) (l:=1) (h:=0) (by omega) hv0 hv24 hv (xE ns) (ZX ns) (by rw[QF];exact hv24) (by rw[YH];exact hv24);exact⟨h.good,h.ext,h.has,fun f=>by rw[h.sem f,Zj,Zh];cases f v.toNat<;>rfl,by have:=h.len;omega,by have:=h.cnt;omega,by have:=h.tight;omega⟩
end
end Bd
namespace Bd
open Go.RowKit Go.Maps
theorem JV{ns:List Nd}(hr:qg ns):∀(d:Nat) (h:Int) (m:List Bool),m.length=ns.length->(∀i,mk m i=true->(nd ns i).v<24)->∀i,mk (zQ d ns h m) i=true->(nd ns i).v<24
  |0,_,_,_,hm=>hm
  |d+1,h,m,hl,hm=>by
    unfold zQ;split
    · exact hm
    · rename_i hn
      obtain⟨b1,b2,b3⟩:=Qf (not_or.1 hn).1;have b4:=(qi hr h).2;have b5:=(not_or.1 hn).1;refine JV hr d _ _ (by rw[ZJ,List.length_set,hl]) (JV hr d _ _ (by rw[List.length_set,hl]) ?_);intro i hi;rw[Je _ _ _ (by omega)] at hi
      by_cases e:i=(h-2).toNat
      · rw[e];omega
      · rw[decide_eq_false e,Bool.false_or] at hi;exact hm i hi
theorem zjR{ns:List Nd}(hr:qg ns)(fs:List Int):∀i,mk (qx ns fs) i=true->(nd ns i).v<24:=by
  have:∀(fs:List Int) (m:List Bool),m.length=ns.length->(∀i,mk m i=true->(nd ns i).v<24)->∀i,mk (fs.foldl (fun m h=>zQ 24 ns h m) m) i=true->(nd ns i).v<24:=by
    intro fs
    induction fs with
    |nil=>intro m _ h;exact h
    |cons f fs ih=>intro m hl h;exact ih _ (by rw[ZJ,hl]) (JV hr 24 f m hl h)
  exact this fs _ (by simp) (fun i h=>by rw[zdx] at h;cases h)
theorem zcD{ns:List Nd}(hr:qg ns)(fs:List Int):∀i,i<ns.length->mk (qx ns fs) i=true->y9 ns (qx ns fs) (nd ns i).l/\y9 ns (qx ns fs) (nd ns i).h:=by
  have:∀(fs:List Int) (m:List Bool),m.length=ns.length->(∀i,i<ns.length->mk m i=true->y9 ns m (nd ns i).l/\y9 ns m (nd ns i).h) ->
      ∀i,i<ns.length->mk (fs.foldl (fun m h=>zQ 24 ns h m) m) i=true->y9 ns (fs.foldl (fun m h=>zQ 24 ns h m) m) (nd ns i).l/\y9 ns (fs.foldl (fun m h=>zQ 24 ns h m) m) (nd ns i).h:=by
    intro fs
    induction fs with
    |nil=>intro m _ h;exact h
    |cons f fs ih =>
      intro m hl h;refine ih _ (by rw[ZJ,hl]) (fun i hi hm=>?_)
      by_cases h0:mk m i=true
      · exact⟨(h i hi h0).1.grow hl 24 f,(h i hi h0).2.grow hl 24 f⟩
      · exact(Kr hr 24 f m hl (by have:=(qi hr f).1;omega)).2 i hi hm (by simpa using h0)
  exact this fs _ (by simp) (fun i _ h=>by rw[zdx] at h;cases h)
theorem zlu{ns:List Nd}(hr:qg ns)(fs:List Int):qg (qy ns (qx ns fs)):=by
  have hc:=zcD hr fs;have hreal:=zjR hr fs;generalize qx ns fs=M at *;have key:∀j,j<ns.length->mk M j=true/\nd (qy ns M) j=nd ns j\/mk M j=false/\nd (qy ns M) j=⟨24,0,0⟩:=fun j hj=>by
    rw[Qy ns M j hj]
    by_cases h:mk M j=true
    · exact .inl ⟨h,by rw[if_pos h]⟩
    · exact .inr ⟨by simpa using h,by rw[if_neg h]⟩
  have child:∀h,y9 ns M h->zj ns h=true->zb (qy ns M) h=zb ns h/\zj (qy ns M) h=true:=fun h hm hh=>by
    have e:zb (qy ns M) h=zb ns h:=by
      rw[zcI];rcases hm with hm|hm
      · rw[hm];split<;>rfl
      · rw[if_pos hm]
    exact⟨e,by unfold zj at *;rw[e];exact hh⟩
  refine⟨?_,?_,?_,?_⟩<;>intro j hj<;>rw[Zu] at hj
  · rcases key j hj with ⟨-,e⟩|⟨-,e⟩
    · rw[e];exact hr.v0 j hj
    · rw[e];simp
  · intro hv
    rcases key j hj with ⟨hm,e⟩|⟨-,e⟩
    · rw[e]
      have:=hr.l j hj (hreal j hm);have hcl:=child _ (hc j hj hm).1 this.2;rw[hcl.1];exact⟨this.1,hcl.2⟩
    · rw[e] at hv;simp at hv
  · intro hv
    rcases key j hj with ⟨hm,e⟩|⟨-,e⟩
    · rw[e]
      have:=hr.h j hj (hreal j hm);have hcl:=child _ (hc j hj hm).2 this.2;rw[hcl.1];exact⟨this.1,hcl.2⟩
    · rw[e] at hv;simp at hv
  · rcases key j hj with ⟨-,e⟩|⟨-,e⟩
    · rw[e];exact hr.ok j hj
    · rw[e];exact⟨⟨by decide,by decide⟩,⟨by decide,by decide⟩,⟨by decide,by decide⟩⟩
theorem zhD{ns:List Nd}{L:List (Nd × Int)}{M:List Bool}(hB:ZA ns L):ZA (qy ns M) (LTo L M ns.length):=by
  refine⟨fun p hp=>?_,fun i hi hv=>?_,?_,fun i hi hv=>?_⟩
  · obtain⟨h1,h2⟩:=List.mem_filter.1 hp
    obtain⟨i,hi,hv,rfl⟩:=hB.mem p h1;simp only[show (2+(i:Int)-2).toNat=i by omega,decide_eq_false (show ¬ns.length<=i by omega),Bool.false_or] at h2;refine⟨i,by rw[Zu];exact hi,?_,?_⟩<;>rw[Qy ns M i hi,if_pos h2]
    exact hv
  · rw[Zu] at hi
    rw[Qy ns M i hi] at hv ⊢
    by_cases hm:mk M i=true
    · rw[if_pos hm] at hv ⊢
      exact List.mem_filter.2 ⟨hB.all i hi hv,by simp only[show (2+(i:Int)-2).toNat=i by omega,hm,Bool.or_true]⟩
    · rw[if_neg hm] at hv;simp at hv
  · exact hB.nodup.sublist (List.filter_sublist.map _)
  · rw[Zu] at hi
    rw[Qy ns M i hi] at hv ⊢
    by_cases hm:mk M i=true
    · rw[if_pos hm] at hv ⊢;exact hB.free i hi hv
    · rw[if_neg hm]
def Yo(ns:List Nd):List Nat:=(List.range ns.length).filter fun i=>decide ((nd ns i).v<24)
theorem X4{ns:List Nd}{L:List (Nd × Int)}(hB:ZA ns L):L.length=(Yo ns).length:=by
  have hp:L.Perm ((Yo ns).map fun i:Nat=>(nd ns i,2+(i:Int))):=by
    refine(List.perm_ext_iff_of_nodup (List.Pairwise.of_map Prod.fst (fun a b h e=>h (e▸rfl)) hB.nodup) (List.Pairwise.map _ (fun a b h e=>h (by have:=(Prod.mk.inj e).2;omega)) (List.nodup_range.filter _))).2 fun p=>?_;rw[List.mem_map];constructor
    · intro h
      obtain⟨i,hi,hv,rfl⟩:=hB.mem p h;exact⟨i,List.mem_filter.2 ⟨List.mem_range.2 hi,by simpa using hv⟩,rfl⟩
    · rintro⟨i,hi,rfl⟩
      obtain⟨h1,h2⟩:=List.mem_filter.1 hi;exact hB.all i (List.mem_range.1 h1) (by simpa using h2)
  rw[hp.length_eq,List.length_map]
theorem zfY(ns:List Nd):(Yo ns).length<=ns.length:=by
  unfold Yo;exact Nat.le_trans (List.length_filter_le _ _) (by simp)
end Bd
namespace Bd
open Go.RowKit Go.Maps
section
variable {ns:List Nd} {vars:Nat}
theorem ziD(hr:qg ns)(fs:List Int):∀h∈fs,y9 ns (qx ns fs) h:=by
  have:∀(fs:List Int) (m:List Bool),m.length=ns.length->∀h,(h∈fs\/y9 ns m h)->y9 ns (fs.foldl (fun m h=>zQ 24 ns h m) m) h:=by
    intro fs
    induction fs with
    |nil=>intro m _ h hh;exact hh.elim (fun h=>by cases h) id
    |cons f fs ih =>
      intro m hl h hh;refine ih _ (by rw[ZJ,hl]) h ?_;rcases hh with hh|hh
      · rcases List.mem_cons.1 hh with rfl|hh
        · exact .inr (Kr hr 24 h m hl (by have:=(qi hr h).1;omega)).1
        · exact .inl hh
      · exact .inr (hh.grow hl 24 f)
  exact fun h hh=>this fs _ (by simp) h (.inl hh)
theorem zdU{M:List Bool}{h:Int}(hm:y9 ns M h):zb (qy ns M) h=zb ns h/\(zb ns h≠24->nd (qy ns M) (pl h)=nd ns (pl h)):=by
  have e:zb (qy ns M) h=zb ns h:=by
    rw[zcI];rcases hm with hm|hm
    · rw[hm];split<;>rfl
    · rw[if_pos hm]
  refine⟨e,fun ht=>?_⟩;rcases hm with hm|hm
  · exact absurd hm ht
  · rw[Qy ns M _ (yU ht).2.1,if_pos (show mk M (pl h)=true from hm)]
theorem znA(hg:zu vars ns)(fs:List Int):zu vars (qy ns (qx ns fs)):=by
  have hr:=zlu hg.ranked fs;generalize qx ns fs=M at *;have key:∀j,j<ns.length->mk M j=true/\nd (qy ns M) j=nd ns j\/nd (qy ns M) j=⟨24,0,0⟩:=fun j hj=>by
    rw[Qy ns M j hj]
    by_cases h:mk M j=true
    · exact .inl ⟨h,by rw[if_pos h]⟩
    · exact .inr (by rw[if_neg h])
  refine⟨hr,fun i j hi hj hv e=>?_,fun i hi hv=>?_,fun i hi hv=>?_,fun i hi hv=>?_⟩
  · rw[Zu] at hi hj
    rcases key i hi with ⟨-,e1⟩|e1<;>rw[e1] at hv e
    · rcases key j hj with ⟨-,e2⟩|e2<;>rw[e2] at e
      · exact hg.once i j hi hj hv e
      · rw[e] at hv;simp at hv
    · simp at hv
  · rw[Zu] at hi
    rcases key i hi with ⟨-,e1⟩|e1<;>rw[e1] at hv ⊢
    · exact hg.red i hi hv
    · simp at hv
  · rw[Zu] at hi
    rcases key i hi with ⟨-,e1⟩|e1<;>rw[e1] at hv ⊢
    · exact hg.vars i hi hv
    · simp at hv
  · rw[Zu] at hi
    rcases key i hi with ⟨-,e1⟩|e1<;>rw[e1] at hv ⊢
    exact hg.free i hi hv
theorem JW(hr:qg ns)(fs:List Int)(f:Nat->Bool):∀(d:Nat) (h:Int),y9 ns (qx ns fs) h->yK d (qy ns (qx ns fs)) h f=yK d ns h f
  |0,_,_=>rfl
  |d+1,h,hm=>by
    obtain⟨e1,e2⟩:=zdU hm;unfold yK;rw[e1]
    by_cases ht:zb ns h=24
    · rw[if_pos ht,if_pos ht]
    · have hk:=zcD hr fs (pl h) (yU ht).2.1 (hm.resolve_left ht)
      rw[if_neg ht,if_neg ht,e2 ht,JW hr fs f d _ hk.1,JW hr fs f d _ hk.2]
theorem zld(hg:zu vars ns){fs:List Int}{h:Int}(hh:h∈fs)(hb:zj ns h=true):zj (qy ns (qx ns fs)) h=true/\∀f,sem (qy ns (qx ns fs)) h f=sem ns h f:=by
  have hm:=ziD hg.ranked fs h hh;refine⟨?_,fun f=>JW hg.ranked fs f 24 h hm⟩;unfold zj;rw[(zdU hm).1];exact hb
end
abbrev Fn':Type:=(Nat->Bool)->Bool
end Bd
namespace Bd
open Go.RowKit Go.Maps
def xQ(n:Nat):Nat->Bool:=fun i=>n.testBit i
theorem J4(vals v:Nat)(hv:vals<18446744073709551616):(bits BinOp.and IntKind.u64 ((vals:Int)/2^v) 1==1)=xQ vals v:=by
  have e:(vals:Int)/2^v=((vals/2^v:Nat):Int):=by simp
  have hd:vals/2^v<=vals:=Nat.div_le_self _ _;generalize hm:vals/2^v=m at *;rw[e,and_one_u64 _ (by omega) (by omega)];have hb:xQ vals v=decide (m%2=1):=by unfold xQ;rw[Nat.testBit_eq_decide_div_mod_eq,hm]
  rw[hb,Bool.eq_iff_iff];simp;omega
end Bd
section
open Go.RowKit
inductive YU (l:List (List Int)):List Int->Prop
  |bad {told c:List Int} (hc:c∈l) (h:∀x∈c,-x∈told):YU l told
  |unit {told c:List Int} {x:Int} (hc:c∈l) (hx:x∈c) (h:∀y∈c,y≠x->-y∈told) (hr:YU l (x :: told)):YU l told
def Zk(l l':List (List Int)):Prop:=∀c∈l,∃c'∈l',∀x,x∈c↔x∈c'
theorem Zk.refl(l:List (List Int)):Zk l l:=fun c hc=>⟨c,hc,fun _=>Iff.rfl⟩
theorem Zk.trans{l m n:List (List Int)}(h:Zk l m)(h2:Zk m n):Zk l n:=fun c hc=>by
  obtain⟨d,hd,e⟩:=h c hc;obtain⟨f,hf,e2⟩:=h2 d hd;exact⟨f,hf,fun x=>(e x).trans (e2 x)⟩
theorem Zk.of_sub{l m:List (List Int)}(h:∀c∈l,c∈m):Zk l m:=fun c hc=>⟨c,h c hc,fun _=>Iff.rfl⟩
theorem YU.mono{l l':List (List Int)}{told told':List Int}(h:YU l told)(hs:Zk l l')(ht:∀x∈told,x∈told'):YU l' told':=by
  induction h generalizing told' with
  |bad hc h =>obtain⟨c',hc',e⟩:=hs _ hc;exact .bad hc' fun x hx=>ht _ (h x ((e x).2 hx))
  |unit hc hx h _ ih =>
    obtain⟨c',hc',e⟩:=hs _ hc;refine .unit hc' ((e _).1 hx) (fun y hy hne=>ht _ (h y ((e y).2 hy) hne)) (ih fun z hz=>?_);rcases List.mem_cons.1 hz with rfl|hz
    · exact List.mem_cons_self
    · exact List.mem_cons_of_mem _ (ht z hz)
def KE(l:List (List Int))(t:List Int):Prop:=∀c∈l,(∃x∈c,x∈t)\/∃x∈c,∃y∈c,x≠y/\-x∉t/\-y∉t
def zaC(c:List Int):Prop:=∃x∈c,-x∈c
theorem zon{l:List (List Int)}{t c:List Int}(h0:∀x∈c,x≠0)(hb:zaC c)(hs:KE l t):KE (l++[c]) t:=fun d hd=>by
  rcases List.mem_append.1 hd with hd|hd
  · exact hs d hd
  · rw[List.mem_singleton] at hd
    subst hd;obtain⟨x,hx,hn⟩:=hb
    by_cases h1:x∈t
    · exact Or.inl ⟨x,hx,h1⟩
    · by_cases h2:-x∈t
      · exact Or.inl ⟨-x,hn,h2⟩
      · have:=h0 x hx
        exact Or.inr ⟨x,hx,-x,hn,by omega,h2,by rw[Int.neg_neg];exact h1⟩
end
section
open Go.RowKit
def Zf(s:Nat × Nat)(x:Int):Nat × Nat :=
  if 0<x/\x<=24 then (s.1|||2^(x.toNat-1),s.2) else if -24<=x/\x<0 then (s.1,s.2|||2^((-x).toNat-1)) else s
def zm(c:List Int):Nat × Nat:=c.foldl Zf (0,0)
theorem znu(c:List Int)(x:Int):zm (c++[x])=Zf (zm c) x:=by unfold zm;rw[List.foldl_append];rfl
theorem zgs(m k i:Nat):(m|||2^k).testBit i=(m.testBit i||decide (k=i)):=by
  rw[Nat.testBit_or,Nat.testBit_two_pow]
theorem zfM(c:List Int)(s:Nat × Nat)(i:Nat):((c.foldl Zf s).1.testBit i=(s.1.testBit i||decide (i<24/\(i:Int)+1∈c)))/\((c.foldl Zf s).2.testBit i=(s.2.testBit i||decide (i<24/\-((i:Int)+1)∈c))):=by
  induction c generalizing s with
  |nil=>simp
  |cons x c ih =>
    rw[List.foldl_cons,(ih _).1,(ih _).2];unfold Zf
    by_cases h1:0<x/\x<=24
    · rw[if_pos h1]
      have e2:(-((i:Int)+1)∈x :: c)↔-((i:Int)+1)∈c:=by
        rw[List.mem_cons];exact⟨fun h=>h.resolve_left (by omega),Or.inr⟩
      have e1:(i<24/\(i:Int)+1∈x :: c)↔(x.toNat-1=i\/(i<24/\(i:Int)+1∈c)):=by
        rw[List.mem_cons];constructor
        · rintro⟨h,h2|h2⟩
          · exact Or.inl (by omega)
          · exact Or.inr ⟨h,h2⟩
        · rintro (h|⟨h,h2⟩)
          · exact⟨by omega,Or.inl (by omega)⟩
          · exact⟨h,Or.inr h2⟩
      refine⟨?_,by simp only[e2]⟩;show ((s.1|||2^(x.toNat-1)).testBit i||_)=_;rw[zgs,Bool.or_assoc,<-Bool.decide_or];simp only[e1]
    · rw[if_neg h1]
      by_cases h2:-24<=x/\x<0
      · rw[if_pos h2]
        have e2:((i:Int)+1∈x :: c)↔(i:Int)+1∈c:=by
          rw[List.mem_cons];exact⟨fun h=>h.resolve_left (by omega),Or.inr⟩
        have e1:(i<24/\-((i:Int)+1)∈x :: c)↔((-x).toNat-1=i\/(i<24/\-((i:Int)+1)∈c)):=by
          rw[List.mem_cons];constructor
          · rintro⟨h,h3|h3⟩
            · exact Or.inl (by omega)
            · exact Or.inr ⟨h,h3⟩
          · rintro (h|⟨h,h3⟩)
            · exact⟨by omega,Or.inl (by omega)⟩
            · exact⟨h,Or.inr h3⟩
        refine⟨by simp only[e2],?_⟩;show ((s.2|||2^((-x).toNat-1)).testBit i||_)=_;rw[zgs,Bool.or_assoc,<-Bool.decide_or];simp only[e1]
      · rw[if_neg h2]
        have e1:(i<24/\(i:Int)+1∈x :: c)↔(i<24/\(i:Int)+1∈c):=by
          rw[List.mem_cons];exact⟨fun⟨h,h3⟩=>⟨h,h3.resolve_left (by omega)⟩,fun⟨h,h3⟩=>⟨h,Or.inr h3⟩⟩
        have e2:(i<24/\-((i:Int)+1)∈x :: c)↔(i<24/\-((i:Int)+1)∈c):=by
          rw[List.mem_cons];exact⟨fun⟨h,h3⟩=>⟨h,h3.resolve_left (by omega)⟩,fun⟨h,h3⟩=>⟨h,Or.inr h3⟩⟩
        simp only[e1,e2,and_self]
theorem Ye(c:List Int)(i:Nat):(zm c).1.testBit i=decide (i<24/\(i:Int)+1∈c):=by
  have:=(zfM c (0,0) i).1;simpa[zm] using this
theorem QG(c:List Int)(i:Nat):(zm c).2.testBit i=decide (i<24/\-((i:Int)+1)∈c):=by
  have:=(zfM c (0,0) i).2;simpa[zm] using this
def Small(s:Nat × Nat):Prop:=s.1<2^24/\s.2<2^24
theorem zdL{m:Nat}(h:∀i,24<=i->m.testBit i=false):m<2^24:=Nat.lt_pow_two_of_testBit m h
theorem ze2(c:List Int):Small (zm c) :=
  ⟨zdL fun i hi=>by rw[Ye];simp;omega,zdL fun i hi=>by rw[QG];simp;omega⟩
def qB(s:Nat × Nat):Bool:=decide (s.1&&&s.2≠0)
theorem zb7{s:Nat × Nat}:qB s=true↔∃i,s.1.testBit i=true/\s.2.testBit i=true:=by
  unfold qB;rw[decide_eq_true_eq];constructor
  · intro h
    obtain⟨i,hi⟩:=Nat.exists_testBit_of_ne_zero h;rw[Nat.testBit_and,Bool.and_eq_true] at hi;exact⟨i,hi⟩
  · rintro⟨i,h1,h2⟩ h
    have:(s.1&&&s.2).testBit i=true:=by rw[Nat.testBit_and,h1,h2];rfl
    rw[h] at this;simp at this
def yZ(s:Nat × Nat)(i:Nat):Option Int:=if s.1.testBit i=true then some ((i:Int)+1) else if s.2.testBit i=true then some (-((i:Int)+1)) else none
def yE(s:Nat × Nat)(k:Nat):List Int:=(List.range k).filterMap (yZ s)
def qp(s:Nat × Nat):List Int:=yE s 24
theorem JB(s:Nat × Nat)(k:Nat):yE s (k+1)=yE s k++(yZ s k).toList:=by
  unfold yE;rw[List.range_succ,List.filterMap_append];congr 1
theorem zag(s:Nat × Nat)(k:Nat):(yE s k).length<=k:=by
  unfold yE;refine Nat.le_trans (List.length_filterMap_le _ _) ?_;simp
theorem zo8{s:Nat × Nat}(ha:qB s=false){x:Int}:x∈qp s↔∃i:Nat,i<24/\((x=(i:Int)+1/\s.1.testBit i=true)\/(x=-((i:Int)+1)/\s.2.testBit i=true)):=by
  unfold qp yE;rw[List.mem_filterMap];constructor
  · rintro⟨i,hi,h⟩
    rw[List.mem_range] at hi;unfold yZ at h
    by_cases h1:s.1.testBit i=true
    · rw[if_pos h1] at h
      exact⟨i,hi,Or.inl ⟨(Option.some.inj h).symm,h1⟩⟩
    · rw[if_neg h1] at h
      by_cases h2:s.2.testBit i=true
      · rw[if_pos h2] at h
        exact⟨i,hi,Or.inr ⟨(Option.some.inj h).symm,h2⟩⟩
      · rw[if_neg h2] at h;cases h
  · rintro⟨i,hi,⟨e,h1⟩|⟨e,h2⟩⟩
    · exact⟨i,List.mem_range.2 hi,by unfold yZ;rw[if_pos h1,e]⟩
    · refine⟨i,List.mem_range.2 hi,?_⟩
      unfold yZ;rw[if_neg,if_pos h2,e];intro h1;have:=zb7.2 ⟨i,h1,h2⟩;rw[ha] at this;cases this
theorem zk2{s:Nat × Nat}:zY 24 (qp s):=fun x hx=>by
  unfold qp yE at hx;obtain⟨i,hi,h⟩:=List.mem_filterMap.1 hx;rw[List.mem_range] at hi;rw[qG];unfold yZ at h
  by_cases h1:s.1.testBit i=true
  · rw[if_pos h1] at h
    have:=Option.some.inj h;omega
  · rw[if_neg h1] at h
    by_cases h2:s.2.testBit i=true
    · rw[if_pos h2] at h
      have:=Option.some.inj h;omega
    · rw[if_neg h2] at h;cases h
theorem zl4{c:List Int}(hl:zY 24 c):qB (zm c)=true↔∃x∈c,-x∈c:=by
  rw[zb7];constructor
  · rintro⟨i,h1,h2⟩
    rw[Ye,decide_eq_true_eq] at h1;rw[QG,decide_eq_true_eq] at h2;exact⟨_,h1.2,h2.2⟩
  · rintro⟨x,hx,hn⟩
    have h:=qG.1 (hl x hx)
    by_cases hp:0<x
    · refine⟨x.toNat-1,?_,?_⟩
      · rw[Ye,decide_eq_true_eq];exact⟨by omega,by rw[show ((x.toNat-1:Nat):Int)+1=x by omega];exact hx⟩
      · rw[QG,decide_eq_true_eq];exact⟨by omega,by rw[show ((x.toNat-1:Nat):Int)+1=x by omega];exact hn⟩
    · refine⟨(-x).toNat-1,?_,?_⟩
      · rw[Ye,decide_eq_true_eq];exact⟨by omega,by rw[show (((-x).toNat-1:Nat):Int)+1=-x by omega];exact hn⟩
      · rw[QG,decide_eq_true_eq];exact⟨by omega,by rw[show (((-x).toNat-1:Nat):Int)+1=-x by omega,Int.neg_neg];exact hx⟩
theorem Qu{c:List Int}(hl:zY 24 c)(ha:qB (zm c)=false){x:Int}:x∈qp (zm c)↔x∈c:=by
  rw[zo8 ha];constructor
  · rintro⟨i,hi,⟨e,h⟩|⟨e,h⟩⟩
    · rw[Ye,decide_eq_true_eq] at h;rw[e];exact h.2
    · rw[QG,decide_eq_true_eq] at h;rw[e];exact h.2
  · intro hx
    have h:=qG.1 (hl x hx)
    by_cases hp:0<x
    · refine⟨x.toNat-1,by omega,Or.inl ⟨by omega,?_⟩⟩
      rw[Ye,decide_eq_true_eq];exact⟨by omega,by rw[show ((x.toNat-1:Nat):Int)+1=x by omega];exact hx⟩
    · refine⟨(-x).toNat-1,by omega,Or.inr ⟨by omega,?_⟩⟩
      rw[QG,decide_eq_true_eq];exact⟨by omega,by rw[show (((-x).toNat-1:Nat):Int)+1=-x by omega,Int.neg_neg];exact hx⟩
end
end Go.Proofs.YtlmmkbnjhilbdaaGreatDoor
