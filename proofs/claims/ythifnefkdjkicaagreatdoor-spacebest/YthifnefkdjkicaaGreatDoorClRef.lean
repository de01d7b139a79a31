import Derived.Test.YthifnefkdjkicaaGreatDoorWyLeast
import Derived.Shelf.Strconv.AppendInt10
namespace Go.Proofs.YthifnefkdjkicaaGreatDoor
set_option maxHeartbeats 4000000
set_option maxRecDepth 100000
section
open Go.RowKit Go.Deep
theorem zk7(F:Nat)(cb:Array Value)(p:Int->Bool)(xs:List Int)(a:Option Addr)(cap:Nat)(w:World)(hm:xs.length<=9223372036854775807)
  (hent:∀q w,(callFunc F q).run Tryz.prog w=.ok (.enter F q) w) (hI:qe w a xs)
  (hf:∀W i,zB w W->i<xs.length->zR F (#[.int .i64 (xs.getD i 0)]++cb) W (.bool (p (xs.getD i 0)))) :
  zR 66 #[.slice a xs.length cap,.func (.func F) #[] cb] w (.int .i64 (yI p xs)):=by
 have HF:=zH hf;have HI:=zH hI;clear hf hI;go_enter Tryz.func66,Tryz.ntmps66;go_wp2_with fail;go_loopw [8] (fun kV wr=>∃k:Nat,k<=xs.length/\kV=.int .i64 k/\(∀j,j<k->p (xs.getD j 0)=false)/\zB w wr) (fun kV _=>xs.length-(intOf kV).toNat)
 case atStart=>exact⟨0,Nat.zero_le _,rfl,fun j h=>by omega,Below.refl _ _⟩
 case round =>
  obtain⟨k,hk,rfl,h1,C⟩:=hrel;have H1:=zH h1;have o:=zH C;clear h1 C
  by_cases hlt:k<xs.length
  ·obtain⟨ad,rfl,hl,hc⟩:=HI.out.below o.out k hlt;have HC:=zH (HF.out wr k o.out hlt);cases hp:p (xs.getD k 0) with
   |true =>rw[hp] at HC;have HP:=zH hp;clear hp;generalize hx:xs.getD k 0=x at *;have HX:=zH hx;clear hx;go_wp2_with fail;refine HC.out.mono ?_;rintro e w1 ⟨rfl,u⟩;have y:Hid (zB w w1):=zT o.out u;clear u HC;go_wp2;go_ret;exact⟨by rw[JV H1.out hlt (by rw[HX.out];exact HP.out)];rfl,y.out⟩
   |false =>
    rw[hp] at HC;have HP:=zH hp;clear hp;generalize hx:xs.getD k 0=x at *;have HX:=zH hx;clear hx;go_wp2_with fail;refine HC.out.mono ?_;rintro e w1 ⟨rfl,u⟩;have y:Hid (zB w w1):=zT o.out u;clear u HC;go_wp2;go_roundw
    case rel=>exact ⟨k + 1,hlt,by go_num,fun j hj=>(by
     rcases Nat.lt_succ_iff_lt_or_eq.1 hj with e|e
     ·exact H1.out j e
     ·rw [e,HX.out];exact HP.out),y.out⟩
    case measure=>simp[intOf];omega
  ·obtain rfl:k=xs.length:=by omega
   go_wp2;go_ret;exact⟨by rw[zbP H1.out];rfl,o.out⟩
theorem zn9(F:Nat)(cb:Array Value)(p:Int->Bool)(xs:List Int)(a:Option Addr)(cap:Nat)(w:World)(hm:xs.length<=9223372036854775807)
  (hent:∀j w,(callFunc F j).run Tryz.prog w=.ok (.enter F j) w) (hI:qe w a xs)
  (hf:∀W i,zB w W->i<xs.length->zR F (#[.int .i64 (xs.getD i 0)]++cb) W (.bool (p (xs.getD i 0)))) :
  zR 32 #[.slice a xs.length cap,.func (.func F) #[] cb] w (.bool (xs.any p)):=by
 have H:=zH (zk7 F cb p xs a cap w hm hent hI hf);clear hf hI hent;rw[<-zaI];generalize yI p xs=i at *;go_enter Tryz.func32,Tryz.ntmps32;go_wp2_with fail;refine H.out.mono ?_;rintro e w1 ⟨rfl,o⟩;have q:=zH o;clear o H;go_wp2;go_ret;exact⟨by first|rfl|simp,q.out⟩
end
namespace Bd
open Go.RowKit Go.Maps Go.Deep
def xh(x:Int):Bool:=decide (x<0)||decide (1000000<x)
theorem zlx:∀j w,(callFunc 33 j).run Tryz.prog w=.ok (.enter 33 j) w:=by intro j w;kernel_rfl
theorem znx:∀j w,(callFunc 34 j).run Tryz.prog w=.ok (.enter 34 j) w:=by intro j w;kernel_rfl
theorem zlY(x:Int)(w:World):zR 33 #[x] w (.bool (xh x)):=by
 unfold xh
 by_cases h:x<0
 ·rw[decide_eq_true h];go_enter Tryz.func33,Tryz.ntmps33;go_wp2;go_ret;exact⟨rfl,Below.refl _ _⟩
 ·rw[decide_eq_false h];go_enter Tryz.func33,Tryz.ntmps33;go_wp2;go_ret;exact⟨by simp,Below.refl _ _⟩
def Zd(costs:List Int):zJ:=fun i b=>if b=true/\i<costs.length then costs.getD i 0 else 0
theorem zfS{costs:List Int}(h:costs.any xh=false):Zj (Zd costs):=by
 intro i b;unfold Zd;split
 ·rename_i q;have:=List.any_eq_false.1 h (costs.getD i 0) (by rw[List.getD_eq_getElem?_getD,List.getElem?_eq_getElem q.2];exact List.getElem_mem q.2);unfold xh at this;generalize costs.getD i 0=x at this ⊢;simp at this;omega
 ·omega
theorem zhI(costs:List Int)(i:Nat)(bb:Bool)(a:Nat)(sa:Option Addr)(cap:Nat)(w:World)(hi:i<64)(ha:w.cell? a=some (.slice sa costs.length cap))(hI:qe w sa costs):zR 34 #[i,bb,.pointer (some a)] w (.int .i64 (Zd costs i bb)):=by
 unfold Zd;cases bb with
 |false =>rw[zA1 (by simp)];clear hI;go_enter Tryz.func34,Tryz.ntmps34;go_wp2;go_ret;exact⟨rfl,Below.refl _ _⟩
 |true =>
  by_cases hlt:i<costs.length
  ·rw[zA2 ⟨rfl,hlt⟩];obtain⟨ad,rfl,j,cA⟩:=hI i hlt;generalize costs.getD i 0=x at *;have h0:(0:Int)<=(i:Int):=by omega
   have h1:(i:Int)<(costs.length:Int):=by omega
   obtain⟨ab,ao,o⟩:=ad;clear hI j;go_enter Tryz.func34,Tryz.ntmps34;go_wp2;go_ret;exact⟨rfl,Below.refl _ _⟩
  ·rw[zA1 (fun e=>hlt e.2)];have h1:¬(i:Int)<(costs.length:Int):=by omega
   clear hI;go_enter Tryz.func34,Tryz.ntmps34;go_wp2;go_ret;exact⟨rfl,Below.refl _ _⟩
theorem zim(costs:List Int)(vars:Nat)(hv:vars<=24){a:Nat}{sa:Option Addr}{cap:Nat}{W0:World}(ha:a<W0.heap.size)(ca:W0.cell? a=some (.slice sa costs.length cap))(hI:qe W0 sa costs):ZA W0 34 #[.pointer (some a)] (Zd costs) vars:=fun W j bb hW hj =>
 zhI costs j bb a sa cap W (by omega) ((hW.cell (p:=a) ha).trans ca) (hI.below hW)
section
variable {B p s b:Nat} {O:Nat->Prop} {vars:Nat} {room:Int} {st:List Nd × Int} {w:World}
def KG(vars:Nat)(st:List Nd × Int)(costs:List Int):Value:=if costs.any xh then .tuple #[.int .u64 0,.iface 42 (.int .i64 2)] else (zw (Zd costs) vars st.1 st.2 0).best
theorem zgA(hsol:Zh B w p s b O vars room st)(hg:zU vars st.1)(hl:st.1.length<=90000)(h24:vars<=24)(hh:zj st.1 st.2=true)(costs:List Int)(hm:costs.length<=1000000)(sa:Option Addr)(cap:Nat)(hI:qe w sa costs) :
  zR 15 #[.pointer (some p),.slice sa costs.length cap] w (KG vars st costs):=by
 have y:=Go.Proofs.YthifnefkdjkicaaGreatDoor.below_new w (.cells #[.slice sa costs.length cap] 23);have Y:(w.alloc (.cells #[.slice sa costs.length cap] 23)).cell? w.heap.size=some (.slice sa costs.length cap):=by simp
 have M:=zH (zfh (hsol.new y) hl hh);have X:=zH (hI.below y);have q:Hid (∀W,Below (w.alloc (.cells #[.slice sa costs.length cap] 23)).heap.size (w.alloc (.cells #[.slice sa costs.length cap] 23)) W->zR 32 #[.slice sa costs.length cap,.func (.func 33) #[] #[]] W (.bool (costs.any xh))):=fun W hW=>zn9 33 #[] xh costs sa cap W (by omega) zlx (X.out.below hW) (fun W' i _ _=>zlY (costs.getD i 0) W');have V:Hid (costs.any xh=false->∀W,Below (w.alloc (.cells #[.slice sa costs.length cap] 23)).heap.size (w.alloc (.cells #[.slice sa costs.length cap] 23)) W->zC 27 #[.pointer (some p),.func (.func 34) #[] #[.pointer (some w.heap.size)]] W fun e w'=>e=.returned (zw (Zd costs) vars st.1 st.2 0).best/\zB W w'):=fun a3 W hW =>
  zas (F:=34) (cb:=#[.pointer (some w.heap.size)]) (C:=Zd costs) ((hsol.new y).new hW) hg hl h24 znx (zfS a3) ((zim costs vars h24 (by simp) Y X.out).new hW) hh
 have a0:=zH y;have J:Hid (∀W,Below (w.alloc (.cells #[.slice sa costs.length cap] 23)).heap.size (w.alloc (.cells #[.slice sa costs.length cap] 23)) W->W.cell? w.heap.size=some (.slice sa costs.length cap)):=fun W hW=>(hW.cell (p:=w.heap.size) (by simp)).trans Y;clear hsol hg hh hI X y Y;unfold KG;cases hq:costs.any xh with
 |true =>rw[zA2 rfl];rw[hq] at q;clear V;go_enter Tryz.func15,Tryz.ntmps15;go_wp2_with fail;refine M.out.mono ?_;rintro e w2 ⟨rfl,o⟩;clear M;have ca:=J.out w2 o;go_wp2_with fail;refine(q.out w2 o).mono ?_;rintro e w3 ⟨rfl,u⟩;have j:=zT o u;have U:Hid (zB w w3):=zT a0.out j;clear ca q J o u;clear j;go_wp2;go_ret2;exact⟨rfl,U.out⟩
 |false =>
  rw[zA1 (by simp)];have a1:=zH (V.out hq);rw[hq] at q;clear V hq;generalize zw (Zd costs) vars st.1 st.2 0=R at *;obtain⟨ri,rc,rb⟩:=R;unfold Wy.best at *;go_enter Tryz.func15,Tryz.ntmps15;go_wp2_with fail;refine M.out.mono ?_;rintro e w2 ⟨rfl,o⟩;clear M;have ca:=J.out w2 o;go_wp2_with fail;refine(q.out w2 o).mono ?_;rintro e w3 ⟨rfl,u⟩;have j:=zT o u;have U:Hid (zB w w3):=zT a0.out j;clear ca q J o u;go_wp2_with fail;refine(a1.out w3 j).mono ?_;rintro e w4 ⟨rfl,a2⟩;have Z:Hid (zB w w4):=zT U.out a2;clear a2 a1 j;cases rb with
  |false =>go_wp2;go_ret2;exact⟨rfl,Z.out⟩
  |true =>go_wp2;go_ret2;exact⟨rfl,Z.out⟩
end
end Bd
namespace Bd
open Go.RowKit
def qc(C:zJ):Nat->Nat->(Nat->Bool)->Int
 |0,_,_=>0
 |k+1,v,f=>C v (f v)+qc C k (v+1) f
def Agr(k v:Nat)(f f':Nat->Bool):Prop:=∀i,(i<v\/v+k<=i)->f' i=f i
def YG(k v:Nat)(f' f'':Nat->Bool):Prop:=(∀i,v<=i->i<v+k->f' i=f'' i)\/∃j,v<=j/\j<v+k/\f' j=true/\f'' j=false/\∀i,v<=i->i<j->f' i=f'' i
theorem Agr.down{k v:Nat}{f f':Nat->Bool}(h:Agr (k+1) v f f'){b:Bool}(hb:f' v=b):Agr k (v+1) (turn f v b) f':=fun i hi=>by
 by_cases e:i=v
 ·rw[e,ZM,hb]
 ·rw[xn _ _ e];exact h i (by omega)
theorem Agr.up{k v:Nat}{f f':Nat->Bool}{b:Bool}(h:Agr k (v+1) (turn f v b) f'):Agr (k+1) v f f':=fun i hi=>by
 rw[h i (by omega),xn _ _ (by omega)]
theorem Agr.at{k v:Nat}{f f':Nat->Bool}{b:Bool}(h:Agr k (v+1) (turn f v b) f'):f' v=b:=by rw[h v (by omega),ZM]
theorem YG.up{k v:Nat}{f' f'':Nat->Bool}(h:YG k (v+1) f' f'')(e:f' v=f'' v):YG (k+1) v f' f'':=by
 rcases h with h|⟨j,h1,h2,h3,h4,h5⟩
 ·left;intro i h1 h2
  by_cases ei:i=v
  ·rw[ei,e]
  ·exact h i (by omega) (by omega)
 ·right;refine⟨j,by omega,by omega,h3,h4,fun i i1 i2=>?_⟩
  by_cases ei:i=v
  ·rw[ei,e]
  ·exact h5 i (by omega) i2
structure zn8(C:zJ)(k v:Nat)(g:Fn')(f:Nat->Bool)(x:Wy):Prop where
 no:x.can=false->∀f',Agr k v f f'->g f'=false
 yes:x.can=true->∃f',Agr k v f f'/\g f'=true/\x.cost=qc C k v f'/\(∀i,x.items.testBit i=(decide (v<=i/\i<v+k)&&f' i))/\∀f'',Agr k v f f''->g f''=true->x.cost<qc C k v f''\/x.cost=qc C k v f''/\YG k v f' f''
theorem Jm(C:zJ):∀(k v:Nat) (g:Fn') (f:Nat->Bool),zn8 C k v g f (qo C k v g f)
 |0,v,g,f=>by
  have M:∀f',Agr 0 v f f'->f'=f:=fun f' h=>funext fun i=>h i (by omega);unfold qo;refine⟨fun h f' hf=>by rw[M f' hf];exact h,fun h=>⟨f,fun _ _=>rfl,h,rfl,fun i=>?_,fun j hf _=>Or.inr ⟨rfl,Or.inl fun i h1 h2=>by omega⟩⟩⟩;have:decide (v<=i/\i<v+0)=false:=decide_eq_false (by omega);rw[this];simp
 |k+1,v,g,f=>by
  have ho:=Jm C k (v+1) g (turn f v false);have hi:=Jm C k (v+1) g (turn f v true);unfold qo;generalize qo C k (v+1) g (turn f v false)=wo at ho;generalize qo C k (v+1) g (turn f v true)=wi at hi
  by_cases hc:wi.can=true/\(wo.can=false\/(wiF C v wi).cost<=(woF C v wo).cost)
  ·have hB:xG C v wo wi=wiF C v wi:=by unfold xG;rw[zA2 hc]
   rw[hB];obtain⟨f',a1,a2,a3,a4,a5⟩:=hi.yes hc.1;have hv:=a1.at
   refine⟨fun h=>absurd (h.symm.trans hc.1) (by simp),fun _=>⟨f',a1.up,a2,?_,fun i=>?_,fun j hf hg=>?_⟩⟩
   ·show wi.cost+C v true=C v (f' v)+_;rw[hv,a3];omega
   ·show (wi.items|||2^v).testBit i=_;rw[Nat.testBit_or,Nat.testBit_two_pow,a4 i]
    by_cases e:v=i
    ·subst e;rw[hv];have:decide (v<=v/\v<v+(k+1))=true:=decide_eq_true (by omega);rw[this];simp
    ·have:decide (v+1<=i/\i<v+1+k)=decide (v<=i/\i<v+(k+1)):=by
      by_cases q:v+1<=i/\i<v+1+k
      ·rw[decide_eq_true q,decide_eq_true (by omega)]
      ·rw[decide_eq_false q,decide_eq_false (by omega)]
     rw[this];simp[e]
   ·show wi.cost+C v true<C v (j v)+_\/wi.cost+C v true=C v (j v)+_/\_;cases hq:j v with
    |true =>
     rcases a5 j (hf.down hq) hg with h|⟨h,hl⟩
     ·left;omega
     ·right;exact⟨by omega,hl.up (hv.trans hq.symm)⟩
    |false =>
     have o:wo.can=true:=by
      cases e:wo.can with
      |true=>rfl
      |false=>exact absurd (hg.symm.trans (ho.no e j (hf.down hq))) (by simp)
     have R:wi.cost+C v true<=wo.cost+C v false:=by
      rcases hc.2 with h|h
      ·exact absurd (h.symm.trans o) (by simp)
      ·exact h
     obtain⟨fo,b1,b2,b3,b4,b5⟩:=ho.yes o;have J:wo.cost<=qc C k (v+1) j:=by rcases b5 j (hf.down hq) hg with h|⟨h,_⟩<;>omega
     by_cases e:wi.cost+C v true<C v false+qc C k (v+1) j
     ·left;exact e
     ·right;exact⟨by omega,Or.inr ⟨v,Nat.le_refl _,by omega,hv,hq,fun i h1 h2=>by omega⟩⟩
  ·have hB:xG C v wo wi=woF C v wo:=by unfold xG;rw[zA1 hc]
   rw[hB];refine⟨fun h f' hf=>?_,fun h=>?_⟩
   ·have y:wo.can=false:=h;have u:wi.can=false:=by
     cases e:wi.can with
     |false=>rfl
     |true=>exact absurd ⟨e,Or.inl y⟩ hc
    cases hq:f' v with
    |true=>exact hi.no u f' (hf.down hq)
    |false=>exact ho.no y f' (hf.down hq)
   ·have y:wo.can=true:=h;obtain⟨f',a1,a2,a3,a4,a5⟩:=ho.yes y;have hv:=a1.at
    refine⟨f',a1.up,a2,?_,fun i=>?_,fun j hf hg=>?_⟩
    ·show wo.cost+C v false=C v (f' v)+_;rw[hv,a3];omega
    ·show wo.items.testBit i=_;rw[a4 i]
     by_cases e:v=i
     ·subst e;rw[hv];simp
     ·have:decide (v+1<=i/\i<v+1+k)=decide (v<=i/\i<v+(k+1)):=by
       by_cases q:v+1<=i/\i<v+1+k
       ·rw[decide_eq_true q,decide_eq_true (by omega)]
       ·rw[decide_eq_false q,decide_eq_false (by omega)]
      rw[this]
    ·show wo.cost+C v false<C v (j v)+_\/wo.cost+C v false=C v (j v)+_/\_;cases hq:j v with
     |false =>
      rcases a5 j (hf.down hq) hg with h|⟨h,hl⟩
      ·left;omega
      ·right;exact⟨by omega,hl.up (hv.trans hq.symm)⟩
     |true =>
      left;have u:wi.can=true:=by
       cases e:wi.can with
       |true=>rfl
       |false=>exact absurd (hg.symm.trans (hi.no e j (hf.down hq))) (by simp)
      obtain⟨fi,b1,b2,b3,b4,b5⟩:=hi.yes u;have J:wi.cost<=qc C k (v+1) j:=by rcases b5 j (hf.down hq) hg with h|⟨h,_⟩<;>omega
      have U:¬(wi.cost+C v true<=wo.cost+C v false):=fun e=>hc ⟨u,Or.inr e⟩;omega
end Bd
namespace Bd
open Go.RowKit Go.Maps Num
section
variable {w w':World} {dk vars:Nat} {ns:List Nd} {L:List (Int × NV)}
end
structure QV(w:World)(bx:Nat):Prop where
 lt:bx<w.heap.size
 c:w.cell? bx=some (.slice none 0 0)
 f:w.frozen? bx=false
 no:∀o n,w.cell? ⟨bx,o,none⟩≠some (.int .u64 n)
theorem QV.kept{S:Nat->Prop}{w w':World}{bx:Nat}(h:QV w bx)(hk:zc S w w')(hn:¬S bx):QV w' bx :=
 ⟨Nat.lt_of_lt_of_le h.lt hk.size,(hk.cell (a:=bx) h.lt hn).trans h.c,(hk.frozen (a:=bx) h.lt hn).trans h.f,fun o n=>by rw[hk.cell (a:=⟨bx,o,none⟩) h.lt hn];exact h.no o n⟩
theorem QV.new{w w':World}{bx:Nat}(h:QV w bx)(hb:zB w w'):QV w' bx:=h.kept (zc.of_below hb (fun _=>False)) (fun h=>h)
structure CS(B s b dk:Nat)(O:Nat->Prop)(vars:Nat)(room:Int)(ns:List Nd)(W0 w:World)(nb bx:Nat)(gv gl gh:Int)(L:List (Int × NV)):Prop where
 space:zx B w s b O vars room ns
 done:yX w dk vars ns L
 tri:Tri w nb gv gl gh
 box:QV w bx
 kept:zc (fun j=>j=dk) W0 w
section
variable {B s b dk:Nat} {O:Nat->Prop} {vars:Nat} {room:Int} {ns:List Nd} {W0 w w':World} {nb bx:Nat} {gv gl gh:Int} {L:List (Int × NV)}
theorem CS.new(h:CS B s b dk O vars room ns W0 w nb bx gv gl gh L)(hb:zB w w'):CS B s b dk O vars room ns W0 w' nb bx gv gl gh L :=
 ⟨h.space.new hb,h.done.new hb,h.tri.new hb,h.box.new hb,h.kept.trans (zc.of_below hb _)⟩
end
end Bd
namespace Bd
open Go.RowKit Num Go.Sort
theorem Zc.small{w:World}{v:Value}{m:Nat}(h:Zc w v m)(hm:m<=100000000) :
  (m=0/\∃a c,v=.agg #[.slice a 0 c])\/(m≠0/\∃b o c,v=.agg #[.slice (some ⟨b,o,none⟩) 1 c]/\b<w.heap.size/\w.cell? ⟨b,o,none⟩=some (.int .u64 m)):=by
 obtain⟨s,ds,rfl,⟨a,q,rfl,hc,hi⟩,hN,hv,hl⟩:=h.open hm
 match ds,hl with
 |[],_=>exact .inl ⟨by rw[<-hv,zoQ],a,q,rfl⟩
 |[d],_ =>
  obtain⟨b,o,rfl,hb,j⟩:=hi 0 (by simp);have hd:val 1000000000 [d]=d:=by unfold val;simp[S,dig]
  have h0:=hN.last (by simp);have e:d=m:=by rw[<-hd];exact hv
  subst e;exact .inr ⟨h0,b,o,q,rfl,hb,j⟩
end Bd
namespace Bd
open Go.RowKit Go.Deep Sv
section
variable {B p s b vars:Nat} {O:Nat->Prop} {room:Int} {K:List (List Int)} {w:World}
theorem Jl(h12:vars<=12)(hl:yP vars K):ClR vars K (clF K):=by
 have:=za9 h12 K hl K.length zN
 rwa [List.take_length] at this
theorem zm2(h12:vars<=12)(hl:yP vars K):(clF K).1.length<=90000:=by
 have:=(Jl h12 hl).len;have:=za5 h12;omega
def zaJ(vars:Nat)(K:List (List Int)):Nat:=QF vars 0 (fun f=>K.all (clS f)) (fun _=>false)
end
end Bd
namespace Bd
open Go.RowKit
theorem KY(g:Fn'):∀(k v:Nat) (f:Nat->Bool),QF k v g f≠0↔∃f':Nat->Bool,(∀i,i<v\/v+k<=i->f' i=f i)/\g f'=true
 |0,v,f=>by
  unfold QF;constructor
  ·intro h;refine⟨f,fun _ _=>rfl,?_⟩;cases hg:g f with
   |true=>rfl
   |false=>rw[hg] at h;exact absurd rfl h
  ·rintro⟨f',h1,h2⟩;have:f'=f:=funext fun i=>h1 i (by omega);rw[<-this,h2];simp
 |k+1,v,f=>by
  unfold QF;have h0:=KY g k (v+1) (turn f v false);have h1:=KY g k (v+1) (turn f v true);constructor
  ·intro h
   by_cases e:QF k (v+1) g (turn f v false)=0
   ·obtain⟨f',a,b⟩:=h1.1 (by omega);exact⟨f',fun i hi=>by rw[a i (by omega),xn _ _ (by omega)],b⟩
   ·obtain⟨f',a,b⟩:=h0.1 e;exact⟨f',fun i hi=>by rw[a i (by omega),xn _ _ (by omega)],b⟩
  ·rintro⟨f',a,b⟩;have j:∀i,i<v+1\/v+1+k<=i->f' i=turn f v (f' v) i:=fun i hi=>by
    by_cases e:i=v
    ·rw[e,ZM]
    ·rw[xn _ _ e];exact a i (by omega)
   cases hv:f' v with
   |false=>rw[hv] at j;have:=h0.2 ⟨f',j,b⟩;omega
   |true=>rw[hv] at j;have:=h1.2 ⟨f',j,b⟩;omega
theorem zcJ{vars:Nat}{c:List Int}(hl:ql vars c){f g:Nat->Bool}(h:∀i,i<vars->f i=g i):clS f c=clS g c:=by
 unfold clS;rw[Bool.eq_iff_iff,List.any_eq_true,List.any_eq_true];have j:∀x∈c,xP f x=xP g x:=fun x hx=>by unfold xP;rw[h _ (YZ (hl x hx))]
 exact⟨fun⟨x,h1,h2⟩=>⟨x,h1,by rw[<-j x h1];exact h2⟩,fun⟨x,h1,h2⟩=>⟨x,h1,by rw[j x h1];exact h2⟩⟩
theorem X4{vars:Nat}{K:List (List Int)}(hl:yP vars K){f g:Nat->Bool}(h:∀i,i<vars->f i=g i):K.all (clS f)=K.all (clS g):=by
 rw[Bool.eq_iff_iff,List.all_eq_true,List.all_eq_true];exact⟨fun a c hc=>by rw[<-zcJ (hl c hc) h];exact a c hc,fun a c hc=>by rw[zcJ (hl c hc) h];exact a c hc⟩
theorem Xp{vars:Nat}(h24:vars<=24){K:List (List Int)}(hl:yP vars K)(vals:Nat):K.all (clS (zM vals))=yF vals K:=by
 unfold yF;rw[Bool.eq_iff_iff,List.all_eq_true,List.all_eq_true];have h24:∀c∈K,ql 24 c:=fun c hc x hx=>QM (by omega) (hl c hc x hx);exact⟨fun h c hc=>by rw[<-ze4 (h24 c hc)];exact h c hc,fun h c hc=>by rw[ze4 (h24 c hc)];exact h c hc⟩
theorem zkg{vars:Nat}(h24:vars<=24){K:List (List Int)}(hl:yP vars K){vals:Nat}(h:Yz vals K):yF vals K=true:=by
 unfold yF;rw[List.all_eq_true];intro c hc;obtain⟨x,hx,hh⟩:=h c hc;unfold ZE;rw[List.any_eq_true];exact⟨x,hx,by unfold QR;rw[QM (by omega) (hl c hc x hx),hh];rfl⟩
theorem zos{vars:Nat}(h24:vars<=24){K:List (List Int)}(hl:yP vars K):zaJ vars K≠0↔YA K=true:=by
 unfold zaJ;rw[KY,zgV];constructor
 ·rintro⟨f',-,h2⟩;refine⟨Yk f' vars,zp9 ?_⟩;rw[<-Xp h24 hl,X4 hl (g:=f') (fun i hi=>zcD f' vars i hi)];exact h2
 ·rintro⟨vals,h⟩;refine⟨fun i=>decide (i<vars)&&zM vals i,fun i hi=>?_,?_⟩
  ·have:¬i<vars:=by omega
   simp[this]
  ·rw[X4 hl (g:=zM vals) (fun i hi=>by simp[hi]),Xp h24 hl];exact zkg h24 hl h
end Bd
namespace Bd
open Go.RowKit
section
variable {vars:Nat} {K:List (List Int)}
theorem zkK(h24:vars<=24)(hl:yP vars K):YA K=true↔∃f:Nat->Bool,(∀j,vars<=j->f j=false)/\K.all (clS f)=true:=by
 rw[<-zos h24 hl];unfold zaJ;rw[KY];exact⟨fun⟨f,h1,h2⟩=>⟨f,fun j hj=>h1 j (by omega),h2⟩,fun⟨f,h1,h2⟩=>⟨f,fun j hj=>h1 j (by omega),h2⟩⟩
end
end Bd
namespace Bd
open Go.RowKit
theorem Js(C:zJ):∀(k v:Nat) (f g:Nat->Bool),(∀i,v<=i->i<v+k->f i=g i)->qc C k v f=qc C k v g
 |0,_,_,_,_=>rfl
 |k+1,v,f,g,h=>by
  show C v (f v)+_=C v (g v)+_;rw[h v zN (by omega),Js C k (v+1) f g (fun i h1 h2=>h i (by omega) (by omega))]
theorem zcg(C:zJ):∀(k v:Nat) (f:Nat->Bool),qc C (k+1) v f=qc C k v f+C (v+k) (f (v+k))
 |0,v,f=>by show C v (f v)+0=0+C (v+0) (f (v+0));rw[Nat.add_zero];omega
 |k+1,v,f=>by
  have:=zcg C k (v+1) f;show C v (f v)+qc C (k+1) (v+1) f=(C v (f v)+qc C k (v+1) f)+_;rw[this,show v+1+k=v+(k+1) by omega];omega
section
variable {vars:Nat} {K:List (List Int)}
structure zh4(C:zJ)(vars:Nat)(K:List (List Int))(x:Wy):Prop where
 can:x.can=YA K
 cost:x.can=true->x.cost=qc C vars 0 (zM x.items)
 small:x.can=true->x.items<2^vars
 holds:x.can=true->yF x.items K=true
 least:∀vals,yF vals K=true->x.can=true/\x.cost<=qc C vars 0 (zM vals)
theorem zhC(C:zJ)(h12:vars<=12)(hl:yP vars K):zh4 C vars K (zw C vars (clF K).1 (clF K).2 0):=by
 have hb:=Jm C (vars-0) 0 (sem (clF K).1 (clF K).2) (fun _=>false);have hs:=(Jl h12 hl).sem;have u:=zkK (show vars<=24 by omega) hl;unfold zw;rw[Nat.sub_zero] at hb ⊢;generalize qo C vars 0 (sem (clF K).1 (clF K).2) (fun _=>false)=x at hb;have y:x.can=true->∃f':Nat->Bool,(∀i,i<vars->zM x.items i=f' i)/\x.cost=qc C vars 0 (zM x.items)/\x.items<2^vars/\K.all (clS f')=true/\(∀j,vars<=j->f' j=false)/\∀o,Agr vars 0 (fun _=>false) o->K.all (clS o)=true->x.cost<=qc C vars 0 o:=fun hc=>by
  obtain⟨f',a1,a2,a3,a4,a5⟩:=hb.yes hc;have q:∀i,i<vars->zM x.items i=f' i:=fun i hi=>by
   show x.items.testBit i=_;rw[a4 i,decide_eq_true (by omega),Bool.true_and]
  refine⟨f',q,?_,?_,(hs f').symm.trans a2,fun j hj=>a1 j (by omega),fun o hf hg=>?_⟩
  ·rw[a3];exact Js C vars 0 _ _ (fun i _ h2=>(q i (by omega)).symm)
  ·apply Nat.lt_pow_two_of_testBit;intro i hi;rw[a4 i,decide_eq_false (by omega),Bool.false_and]
  ·rcases a5 o hf ((hs o).trans hg) with h|⟨h,_⟩<;>omega
 refine⟨?_,fun hc=>?_,fun hc=>?_,fun hc=>?_,fun vals hv=>?_⟩
 ·cases hc:x.can with
  |true =>obtain⟨f',-,-,-,h4,h5,-⟩:=y hc;exact(u.2 ⟨f',h5,h4⟩).symm
  |false =>
   cases hq:YA K with
   |false=>rfl
   |true =>obtain⟨f,a,b⟩:=u.1 hq;exact absurd ((hs f).trans b) (by rw[hb.no hc f (fun j hj=>a j (by omega))];simp)
 ·obtain⟨f',-,h2,-⟩:=y hc;exact h2
 ·obtain⟨f',-,-,h3,-⟩:=y hc;exact h3
 ·obtain⟨f',h1,-,-,h4,-⟩:=y hc;rw[<-Xp (show vars<=24 by omega) hl,X4 hl h1];exact h4
 ·have ha:K.all (clS (fun j=>if j<vars then zM vals j else false))=true:=by
   rw[X4 hl (g:=zM vals) (fun i hi=>zA2 hi),Xp (by omega) hl];exact hv
  have hc:x.can=true:=by
   cases hc:x.can with
   |true=>rfl
   |false=>exact absurd ((hs _).trans ha) (by rw[hb.no hc _ (fun j hj=>zA1 (by omega))];simp)
  obtain⟨f',-,-,-,-,-,h6⟩:=y hc;refine⟨hc,?_⟩;have:=h6 _ (fun j hj=>zA1 (by omega)) ha;rw[Js C vars 0 _ (zM vals) (fun i _ h2=>zA2 (by omega))] at this;exact this
end
end Bd
namespace Bd
open Go.RowKit
def yY(k vars:Nat):Nat->Nat
 |0=>0
 |m+1=>if k.testBit (vars-1-m) then yY k vars m|||2^m else yY k vars m
theorem zdh{i m:Nat}(e:¬m=i):decide (i<m+1)=decide (i<m):=by
 by_cases q:i<m
 ·rw[decide_eq_true q,decide_eq_true (by omega)]
 ·rw[decide_eq_false q,decide_eq_false (by omega)]
theorem zbl(k vars:Nat):∀m i,(yY k vars m).testBit i=(decide (i<m)&&k.testBit (vars-1-i))
 |0,i=>by simp[yY]
 |m+1,i=>by
  have ih:=zbl k vars m i;unfold yY;split
  ·rename_i h;rw[Nat.testBit_or,Nat.testBit_two_pow,ih]
   by_cases e:m=i
   ·subst e;simp[h]
   ·rw[zdh e];simp[e]
  ·rename_i h;rw[ih]
   by_cases e:m=i
   ·subst e;simp at h;simp[h]
   ·rw[zdh e]
theorem zdg(k vars m:Nat):yY k vars m<2^m:=Nat.lt_pow_two_of_testBit _ (fun i hi=>by rw[zbl,decide_eq_false (by omega)];rfl)
def qZ(vars k:Nat):Nat:=yY k vars vars
theorem Xw(vars k:Nat):qZ vars k<2^vars:=zdg k vars vars
theorem YQ{vars i:Nat}(k:Nat)(hi:i<vars):(qZ vars k).testBit i=k.testBit (vars-1-i):=by
 unfold qZ;rw[zbl,decide_eq_true hi,Bool.true_and]
theorem YD{vars i x:Nat}(hx:x<2^vars)(hi:vars<=i):x.testBit i=false:=Nat.testBit_lt_two_pow (Nat.lt_of_lt_of_le hx (Nat.pow_le_pow_right (by omega) hi))
theorem Xg{vars k:Nat}(hk:k<2^vars):qZ vars (qZ vars k)=k:=by
 apply Nat.eq_of_testBit_eq;intro i
 by_cases hi:i<vars
 ·rw[YQ _ hi,YQ _ (by omega)];congr 1;omega
 ·rw[YD (Xw _ _) (by omega),YD hk (by omega)]
theorem zmq{x y i:Nat}(hx:x.testBit i=false)(hy:y.testBit i=true)(h:∀j,i<j->x.testBit j=y.testBit j):x<y:=by
 have e:x/2^(i+1)=y/2^(i+1):=Nat.eq_of_testBit_eq (fun j=>by rw[Nat.testBit_div_two_pow,Nat.testBit_div_two_pow];exact h _ (by omega));rw[Nat.testBit_eq_decide_div_mod_eq] at hx hy;have hx':=of_decide_eq_false hx;have hy':=of_decide_eq_true hy;have dx:x/2^(i+1)=x/2^i/2:=by rw[Nat.pow_succ,Nat.div_div_eq_div_mul]
 have dy:y/2^(i+1)=y/2^i/2:=by rw[Nat.pow_succ,Nat.div_div_eq_div_mul]
 exact Nat.lt_of_not_le (fun o=>by have:=Nat.div_le_div_right (c:=2^i) o;omega)
theorem zil{vars x y:Nat}(hx:x<2^vars)(hy:y<2^vars)(h:YG vars 0 (zM x) (zM y)):qZ vars y<=qZ vars x:=by
 rcases h with h|⟨j,-,hj,h1,h2,h3⟩
 ·have:x=y:=by
   apply Nat.eq_of_testBit_eq;intro i
   by_cases hi:i<vars
   ·exact h i (Nat.zero_le _) (by omega)
   ·rw[YD hx (by omega),YD hy (by omega)]
  rw[this];exact Nat.le_refl _
 ·apply Nat.le_of_lt;refine zmq (i:=vars-1-j) ?_ ?_ ?_
  ·rw[YQ _ (by omega),show vars-1-(vars-1-j)=j by omega];exact h2
  ·rw[YQ _ (by omega),show vars-1-(vars-1-j)=j by omega];exact h1
  ·intro i hi
   by_cases hv:i<vars
   ·rw[YQ _ hv,YQ _ hv];exact(h3 (vars-1-i) (Nat.zero_le _) (by omega)).symm
   ·rw[YD (Xw _ _) (by omega),YD (Xw _ _) (by omega)]
section
variable {vars:Nat} {K:List (List Int)}
def qj(vars:Nat)(K:List (List Int))(j:Nat):List Nat:=((List.range j).map fun i=>qZ vars (2^vars-1-i)).filter fun x=>yF x K
theorem zdu(j:Nat):qj vars K (j+1)=if yF (qZ vars (2^vars-1-j)) K=true then qj vars K j++[qZ vars (2^vars-1-j)] else qj vars K j:=by
 unfold qj;rw[List.range_succ,List.map_append,List.filter_append];split
 ·rename_i h;simp[h]
 ·rename_i h;simp[h]
theorem zfw{j y:Nat}:y∈qj vars K j↔(∃i,i<j/\qZ vars (2^vars-1-i)=y)/\yF y K=true:=by
 unfold qj;rw[List.mem_filter,List.mem_map];constructor
 ·rintro⟨⟨i,hi,e⟩,h⟩;exact⟨⟨i,List.mem_range.1 hi,e⟩,h⟩
 ·rintro⟨⟨i,hi,e⟩,h⟩;exact⟨⟨i,List.mem_range.2 hi,e⟩,h⟩
theorem Xm{y:Nat}:y∈qj vars K (2^vars)↔y<2^vars/\yF y K=true:=by
 rw[zfw];constructor
 ·rintro⟨⟨i,-,rfl⟩,h⟩;exact⟨Xw _ _,h⟩
 ·rintro⟨h1,h2⟩;have:=Xw vars y;refine⟨⟨2^vars-1-qZ vars y,by omega,?_⟩,h2⟩;rw[show 2^vars-1-(2^vars-1-qZ vars y)=qZ vars y by omega,Xg h1]
theorem zcy(j:Nat):(qj vars K j).length<=j:=by
 unfold qj;have:=List.length_filter_le (fun x=>yF x K) ((List.range j).map fun i=>qZ vars (2^vars-1-i));simpa using this
def chS(C:zJ)(vars:Nat)(st:Int × Bool × Nat)(x:Nat):Int × Bool × Nat:=if st.2.1=false\/qc C vars 0 (zM x)<st.1 then (qc C vars 0 (zM x),true,x) else st
def chF(C:zJ)(vars:Nat)(l:List Nat):Int × Bool × Nat:=l.foldl (chS C vars) (0,false,0)
theorem zb8(C:zJ)(l:List Nat)(x:Nat):chF C vars (l++[x])=chS C vars (chF C vars l) x:=by unfold chF;rw[List.foldl_append];rfl
structure zj7(C:zJ)(vars:Nat)(l:List Nat)(st:Int × Bool × Nat):Prop where
 no:st.2.1=false->l=[]
 yes:st.2.1=true->st.2.2∈l/\st.1=qc C vars 0 (zM st.2.2)/\∀y∈l,st.1<qc C vars 0 (zM y)\/st.1=qc C vars 0 (zM y)/\qZ vars y<=qZ vars st.2.2
theorem zfE(C:zJ):∀j,j<=2^vars->zj7 C vars (qj vars K j) (chF C vars (qj vars K j))
 |0,_=>⟨fun _=>rfl,fun h=>(by cases h)⟩
 |j+1,hj=>by
  have ih:=zfE C j (by omega);rw[zdu];split
  ·have o:∀y∈qj vars K j,2^vars-1-j<qZ vars y:=fun y hy=>by
    obtain⟨⟨i,hi,rfl⟩,-⟩:=zfw.1 hy;rw[Xg (by omega)];omega
   have hx:qZ vars (qZ vars (2^vars-1-j))=2^vars-1-j:=Xg (by omega);generalize qZ vars (2^vars-1-j)=x at *;rw[zb8];generalize chF C vars (qj vars K j)=st at *;unfold chS;split
   ·rename_i hc;refine⟨fun h=>(by cases h),fun _=>⟨List.mem_append_right _ (List.mem_singleton.2 rfl),rfl,fun y hy=>?_⟩⟩;show qc C vars 0 (zM x)<_\/qc C vars 0 (zM x)=_/\qZ vars y<=qZ vars x;rcases List.mem_append.1 hy with hy|hy
    ·rcases hc with hc|hc
     ·rw[ih.no hc] at hy;cases hy
     ·cases hs:st.2.1 with
      |false=>rw[ih.no hs] at hy;cases hy
      |true=>rcases (ih.yes hs).2.2 y hy with h|⟨h,-⟩<;>left<;>omega
    ·rw[List.mem_singleton] at hy;subst hy;exact Or.inr ⟨rfl,Nat.le_refl _⟩
   ·rename_i hc;refine⟨fun h=>absurd (Or.inl h) hc,fun hs=>?_⟩;obtain⟨h1,h2,h3⟩:=ih.yes hs;refine⟨List.mem_append_left _ h1,h2,fun y hy=>?_⟩;rcases List.mem_append.1 hy with hy|hy
    ·exact h3 y hy
    ·rw[List.mem_singleton] at hy;subst hy;have h4:¬qc C vars 0 (zM y)<st.1:=fun e=>hc (Or.inr e);have h5:=o _ h1
     by_cases e:st.1<qc C vars 0 (zM y)
     ·exact Or.inl e
     ·exact Or.inr ⟨by omega,by omega⟩
  ·exact ih
theorem zoj(C:zJ)(h12:vars<=12)(hl:yP vars K)(hc:(zw C vars (clF K).1 (clF K).2 0).can=true){vals:Nat}(ha:yF vals K=true):(zw C vars (clF K).1 (clF K).2 0).cost<qc C vars 0 (zM vals)\/(zw C vars (clF K).1 (clF K).2 0).cost=qc C vars 0 (zM vals)/\YG vars 0 (zM (zw C vars (clF K).1 (clF K).2 0).items) (zM vals):=by
 have hb:=Jm C (vars-0) 0 (sem (clF K).1 (clF K).2) (fun _=>false);have hs:=(Jl h12 hl).sem;have ha':K.all (clS (fun j=>if j<vars then zM vals j else false))=true:=by
  rw[X4 hl (g:=zM vals) (fun i hi=>zA2 hi),Xp (by omega) hl];exact ha
 unfold zw at *;rw[Nat.sub_zero] at *;generalize qo C vars 0 (sem (clF K).1 (clF K).2) (fun _=>false)=x at *;obtain⟨f',a1,a2,a3,a4,a5⟩:=hb.yes hc;have o:∀i,i<vars->zM x.items i=f' i:=fun i hi=>by
  show x.items.testBit i=_;rw[a4 i,decide_eq_true (by omega),Bool.true_and]
 have h6:=a5 _ (fun j hj=>zA1 (by omega)) ((hs _).trans ha');rw[Js C vars 0 _ (zM vals) (fun i _ h2=>zA2 (by omega))] at h6;rcases h6 with h|⟨h,hL⟩
 ·exact Or.inl h
 ·refine Or.inr ⟨h,?_⟩;rcases hL with hL|⟨j,j1,j2,j3,j4,j5⟩
  ·exact Or.inl fun i i1 i2=>by have:f' i=if i<vars then zM vals i else false:=hL i i1 i2;rw[zA2 (by omega)] at this;rw[o i (by omega)];exact this
  ·refine Or.inr ⟨j,j1,j2,by rw[o j (by omega)];exact j3,by have j4':(if j<vars then zM vals j else false)=false:=j4;rw[zA2 (by omega)] at j4';exact j4',fun i i1 i2=>?_⟩;have:f' i=if i<vars then zM vals i else false:=j5 i i1 i2;rw[zA2 (by omega)] at this;rw[o i (by omega)];exact this
theorem zpM{x y:Nat}(hx:x<2^vars)(hy:y<2^vars)(h:qZ vars x=qZ vars y):x=y:=by rw[<-Xg hx,h,Xg hy]
theorem zfK(C:zJ)(h12:vars<=12)(hl:yP vars K):(chF C vars (qj vars K (2^vars))).2.1=(zw C vars (clF K).1 (clF K).2 0).can/\((zw C vars (clF K).1 (clF K).2 0).can=true->(chF C vars (qj vars K (2^vars))).2.2=(zw C vars (clF K).1 (clF K).2 0).items):=by
 have hk:=zfE (K:=K) (vars:=vars) C (2^vars) zN;have hb:=zhC C h12 hl;have hL:=fun hc vals=>zoj (vals:=vals) C h12 hl hc;generalize zw C vars (clF K).1 (clF K).2 0=x at *;generalize chF C vars (qj vars K (2^vars))=st at *;have e:st.2.1=x.can:=by
  cases hc:x.can with
  |true =>
   cases hs:st.2.1 with
   |true=>rfl
   |false =>have h0:=hk.no hs;have:x.items∈qj vars K (2^vars):=Xm.2 ⟨hb.small hc,hb.holds hc⟩;rw[h0] at this;cases this
  |false =>
   cases hs:st.2.1 with
   |false=>rfl
   |true =>have:=(Xm.1 (hk.yes hs).1).2;rw[(hb.least _ this).1] at hc;cases hc
 refine⟨e,fun hc=>?_⟩;obtain⟨h1,h2,h3⟩:=hk.yes (e.trans hc);obtain⟨h4,h5⟩:=Xm.1 h1;have h6:=h3 _ (Xm.2 ⟨hb.small hc,hb.holds hc⟩);rw[<-hb.cost hc] at h6;have h7:=hL hc _ h5;rw[<-h2] at h7;rcases h6 with h6|⟨h6,h8⟩
 ·rcases h7 with h7|⟨h7,-⟩<;>omega
 ·rcases h7 with h7|⟨h7,h9⟩
  ·omega
  ·have:=zil (hb.small hc) h4 h9;exact zpM h4 (hb.small hc) (by omega)
end
end Bd
section
open Go.RowKit
theorem qa(n lo hi:Int)(w:World):zC 108 #[n,lo,hi] w fun e w'=>e=.returned (.bool (decide (lo<=n/\n<=hi)))/\w=w':=by
 by_cases h1:lo<=n
 ·by_cases h2:n<=hi
  ·rw[show decide (lo<=n/\n<=hi)=true by simp[h1,h2]];go_enter Tryz.func108,Tryz.ntmps108;go_wp2;go_ret;exact⟨rfl,rfl⟩
  ·rw[show decide (lo<=n/\n<=hi)=false by simp[h2]];go_enter Tryz.func108,Tryz.ntmps108;go_wp2;go_ret;exact⟨rfl,rfl⟩
 ·rw[show decide (lo<=n/\n<=hi)=false by simp[h1]];go_enter Tryz.func108,Tryz.ntmps108;go_wp2;go_ret;exact⟨rfl,rfl⟩
theorem ze6(vals t:Nat):yq vals ((t:Int)+1)=vals.testBit t:=by
 unfold yq;rw[zA2 (by omega)];congr 1
theorem zfs(vals t:Nat):yq vals (-((t:Int)+1))=!vals.testBit t:=by
 unfold yq;rw[zA1 (by omega),show (- -((t:Int)+1)).toNat-1=t by omega]
theorem zbJ{α:Type}{p:α->Bool}{xs:List α}{k:Nat}{d:α}(hk:k<xs.length)(h1:p (xs.getD k d)=true):xs.any p=true:=List.any_eq_true.2 ⟨_,xR hk,h1⟩
theorem zet{α:Type}{p:α->Bool}{xs:List α}{d:α}(h0:∀j,j<xs.length->p (xs.getD j d)=false):xs.any p=false:=by
 rw[List.any_eq_false];intro x hx;obtain⟨j,hj,rfl⟩:=List.getElem_of_mem hx;have:=h0 j hj;rw[List.getD_eq_getElem?_getD,List.getElem?_eq_getElem hj] at this;simpa using this
end
section
open Go.RowKit
theorem zld(c:List Int)(a:Option Addr)(cap:Nat)(vals:Nat)(hv:vals<18446744073709551616)(w:World)(hI:qe w a c)(hm:c.length<=9223372036854775807)(hr:∀x∈c,yj 24 x=true) :
  zC 62 #[.slice a c.length cap,.int .u64 vals] w fun e w'=>e=.returned (.bool (c.any (yq vals)))/\w=w':=by
 have HI:=zH hI;have HR:=zH hr;clear hI hr;go_enter Tryz.func62,Tryz.ntmps62;go_wp2_with fail;go_loop [9] (fun kV=>∃k:Nat,k<=c.length/\kV=.int .i64 k/\(∀j,j<k->yq vals (c.getD j 0)=false)) (fun kV=>c.length-(intOf kV).toNat)
 case atStart=>exact⟨0,Nat.zero_le _,rfl,fun j h=>by omega⟩
 case round =>
  obtain⟨k,hk,rfl,h1⟩:=hrel;have H1:=zH h1;clear h1
  by_cases hlt:k<c.length
  ·obtain⟨ad,rfl,hl,hc⟩:=HI.out k hlt;have u:=HR.out _ (xR (d:=0) hlt);generalize hx:c.getD k 0=x at *;have q:x≠0/\-24<=x/\x<=24:=by simpa[yj] using u
   have HX:=zH hx;clear hx u
   by_cases hp:0<x
   ·obtain⟨t,rfl⟩:∃t:Nat,x=(t:Int)+1:=⟨x.toNat-1,by omega⟩;have ht:t<24:=by omega
    have hs:=XB vals t hv;cases hb:vals.testBit t with
    |true =>rw[hb] at hs;have o:Hid (c.any (yq vals)=true):=zbJ (d:=0) hlt (by rw[HX.out,ze6];exact hb);clear hb q;go_wp2;go_ret;exact⟨by rw[o.out];rfl,rfl⟩
    |false =>
     rw[hb] at hs;have o:Hid (yq vals ((t:Int)+1)=false):=by show _=false;rw[ze6];exact hb
     clear hb q;go_wp2;go_round
     case rel=>exact ⟨k + 1,hlt,by go_num,fun j hj=>(by
      rcases Nat.lt_succ_iff_lt_or_eq.1 hj with e|e
      ·exact H1.out j e
      ·rw [e,HX.out];exact o.out)⟩
     case measure=>simp[intOf];omega
   ·obtain⟨t,rfl⟩:∃t:Nat,x=-((t:Int)+1):=⟨(-x).toNat-1,by omega⟩;have ht:t<24:=by omega
    have hs:=zkA vals t hv;cases hb:vals.testBit t with
    |false =>rw[hb] at hs;have o:Hid (c.any (yq vals)=true):=zbJ (d:=0) hlt (by rw[HX.out,zfs,hb];rfl);clear hb q;go_wp2;go_ret;exact⟨by rw[o.out];rfl,rfl⟩
    |true =>
     rw[hb] at hs;have o:Hid (yq vals (-((t:Int)+1))=false):=by show _=false;rw[zfs,hb];rfl
     clear hb q;go_wp2;go_round
     case rel=>exact ⟨k + 1,hlt,by go_num,fun j hj=>(by
      rcases Nat.lt_succ_iff_lt_or_eq.1 hj with e|e
      ·exact H1.out j e
      ·rw [e,HX.out];exact o.out)⟩
     case measure=>simp[intOf];omega
  ·obtain rfl:k=c.length:=by omega
   have o:Hid (c.any (yq vals)=false):=zet H1.out;go_wp2;go_ret;exact⟨by rw[o.out];rfl,rfl⟩
theorem zlD{vals:Nat}{c:List Int}(hr:∀x∈c,yj 24 x=true):ZE vals c=c.any (yq vals):=by
 unfold ZE;rw[Bool.eq_iff_iff,List.any_eq_true,List.any_eq_true];constructor
 ·rintro⟨x,hx,h⟩;exact⟨x,hx,by unfold QR at h;rw[hr x hx] at h;simpa using h⟩
 ·rintro⟨x,hx,h⟩;exact⟨x,hx,by unfold QR;rw[hr x hx,h];rfl⟩
theorem zlS(l:List (List Int))(a:Option Addr)(cap:Nat)(vals:Nat)(hv:vals<18446744073709551616)(w:World)(hI:xJ w a l)(hm:l.length<=9223372036854775807)(hr:∀c∈l,∀x∈c,yj 24 x=true) :
  zC 24 #[.slice a l.length cap,.int .u64 vals] w fun e w'=>e=.returned (.bool (yF vals l))/\w=w':=by
 have HI:=zH hI;have HR:=zH hr;clear hI hr;rw[zj9];go_enter Tryz.func24,Tryz.ntmps24;go_wp2_with fail;go_loop [9] (fun kV=>∃k:Nat,k<=l.length/\kV=.int .i64 k/\(∀j,j<k->(!ZE vals (l.getD j []))=false)) (fun kV=>l.length-(intOf kV).toNat)
 case atStart=>exact⟨0,Nat.zero_le _,rfl,fun j h=>by omega⟩
 case round =>
  obtain⟨k,hk,rfl,h1⟩:=hrel;have H1:=zH h1;clear h1
  by_cases hlt:k<l.length
  ·obtain⟨ad,a',q,rfl,hl,hc,g1,g2,g3⟩:=HI.out k hlt;have u:=HR.out _ (xR (d:=[]) hlt);have HC:=zH (zld (l.getD k []) a' q vals hv w g3 (by omega) u);rw[<-zlD u] at HC;generalize hx:l.getD k []=c at *;have HX:=zH hx;clear hx u g3;cases hb:ZE vals c with
   |true =>
    rw[hb] at HC;have HB:=zH hb;clear hb;go_wp2_with fail;refine HC.out.mono ?_;rintro e w1 ⟨rfl,rfl⟩;clear HC;go_wp2;go_round
    case rel=>exact ⟨k + 1,hlt,by go_num,fun j hj=>(by
     rcases Nat.lt_succ_iff_lt_or_eq.1 hj with e|e
     ·exact H1.out j e
     ·rw [e,HX.out,HB.out];rfl)⟩
    case measure=>simp[intOf];omega
   |false =>rw[hb] at HC;have o:Hid (l.any (fun c=>!ZE vals c)=true):=zbJ (d:=[]) hlt (by rw[HX.out,hb];rfl);clear hb;go_wp2_with fail;refine HC.out.mono ?_;rintro e w1 ⟨rfl,rfl⟩;clear HC;go_wp2;go_ret;exact⟨by rw[o.out];rfl,rfl⟩
  ·obtain rfl:k=l.length:=by omega
   have o:Hid (l.any (fun c=>!ZE vals c)=false):=zet H1.out;go_wp2;go_ret;exact⟨by rw[o.out];rfl,rfl⟩
end
end Go.Proofs.YthifnefkdjkicaaGreatDoor
