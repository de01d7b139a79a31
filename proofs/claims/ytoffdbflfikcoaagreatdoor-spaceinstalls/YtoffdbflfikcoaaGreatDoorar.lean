import Derived.Test.YtoffdbflfikcoaaGreatDooraq
import Derived.Shelf.Strconv.AppendInt10
open Go.Proofs.Tryz
open Go.Proofs.YtoffdbflfikcoaaGreatDoor
set_option maxHeartbeats 4000000
set_option maxRecDepth 100000
namespace Go.Proofs.YtoffdbflfikcoaaGreatDoor.Bd
open Go.RowKit
section
open Go.Maps Go.Deep
def Wy.best(x:Wy):Value:=.tuple (if x.can then #[.int .u64 x.items,.nilIface] else #[.int .u64 0,.iface 53 (.int .i64 8)])
section
variable {B p s b:Nat} {O:Nat->Prop} {vars:Nat} {room:Int} {st:List Nd × Int} {F:FuncId} {cb:Array Value} {C:qx} {w:World}
theorem Ys.new{W0 W1:World}(h:Ys W0 F cb C vars)(hb:zB W0 W1):Ys W1 F cb C vars:=fun W i bb hW hi=>h W i bb (zT hb hW) hi
end
end
section
def Qp(C:qx):Nat->Nat->(Nat->Bool)->Int
 |0,_,_=>0
 |k+1,v,f=>C v (f v)+Qp C k (v+1) f
def Agr(k v:Nat)(f f':Nat->Bool):Prop:=∀i,(i<v\/v+k<=i)->f' i=f i
def Jw(k v:Nat)(f' f'':Nat->Bool):Prop:=(∀i,v<=i->i<v+k->f' i=f'' i)\/∃j,v<=j/\j<v+k/\f' j=true/\f'' j=false/\∀i,v<=i->i<j->f' i=f'' i
theorem Agr.down{k v:Nat}{f f':Nat->Bool}(h:Agr (k+1) v f f'){b:Bool}(hb:f' v=b):Agr k (v+1) (turn f v b) f':=fun i hi=>by
 by_cases e:i=v
 ·rw[e,xL,hb]
 ·rw[yl _ _ e];exact h i (by omega)
theorem Agr.up{k v:Nat}{f f':Nat->Bool}{b:Bool}(h:Agr k (v+1) (turn f v b) f'):Agr (k+1) v f f':=fun i hi=>by
 rw[h i (by omega),yl _ _ (by omega)]
theorem Agr.at{k v:Nat}{f f':Nat->Bool}{b:Bool}(h:Agr k (v+1) (turn f v b) f'):f' v=b:=by rw[h v (by omega),xL]
theorem Jw.up{k v:Nat}{f' f'':Nat->Bool}(h:Jw k (v+1) f' f'')(e:f' v=f'' v):Jw (k+1) v f' f'':=by
 rcases h with h|⟨j,h1,h2,h3,h4,h5⟩
 ·left;intro i h1 h2
  by_cases ei:i=v
  ·rw[ei,e]
  ·exact h i (by omega) (by omega)
 ·right;refine⟨j,by omega,by omega,h3,h4,fun i i1 i2=>?_⟩
  by_cases ei:i=v
  ·rw[ei,e]
  ·exact h5 i (by omega) i2
structure zqm(C:qx)(k v:Nat)(g:Fn')(f:Nat->Bool)(x:Wy):Prop where
 no:x.can=false->∀f',Agr k v f f'->g f'=false
 yes:x.can=true->∃f',Agr k v f f'/\g f'=true/\x.cost=Qp C k v f'/\(∀i,x.items.testBit i=(decide (v<=i/\i<v+k)&&f' i))/\∀f'',Agr k v f f''->g f''=true->x.cost<Qp C k v f''\/x.cost=Qp C k v f''/\Jw k v f' f''
theorem zbN(C:qx):∀(k v:Nat) (g:Fn') (f:Nat->Bool),zqm C k v g f (qt C k v g f)
 |0,v,g,f=>by
  have K:∀f',Agr 0 v f f'->f'=f:=fun f' h=>funext fun i=>h i (by omega);unfold qt;refine⟨fun h f' hf=>by rw[K f' hf];exact h,fun h=>⟨f,fun _ _=>rfl,h,rfl,fun i=>?_,fun j hf _=>Or.inr ⟨rfl,Or.inl fun i h1 h2=>by omega⟩⟩⟩;have:decide (v<=i/\i<v+0)=false:=zf5 (by omega);rw[this];simp
 |k+1,v,g,f=>by
  have ho:=zbN C k (v+1) g (turn f v false);have hi:=zbN C k (v+1) g (turn f v true);unfold qt;generalize qt C k (v+1) g (turn f v false)=wo at ho;generalize qt C k (v+1) g (turn f v true)=wi at hi
  by_cases hc:wi.can=true/\(wo.can=false\/(wiF C v wi).cost<=(woF C v wo).cost)
  ·have hB:xR C v wo wi=wiF C v wi:=by unfold xR;rw[zc3 hc]
   rw[hB];obtain⟨f',a1,a2,a3,a4,a5⟩:=hi.yes hc.1;have hv:=a1.at
   refine⟨fun h=>absurd (h.symm.trans hc.1) (by simp),fun _=>⟨f',a1.up,a2,?_,fun i=>?_,fun j hf hg=>?_⟩⟩
   ·show wi.cost+C v true=C v (f' v)+_;rw[hv,a3];omega
   ·show (wi.items|||2^v).testBit i=_;rw[zvp,ztU,a4 i]
    by_cases e:v=i
    ·subst e;rw[hv];have:decide (v<=v/\v<v+(k+1))=true:=zq9 (by omega);rw[this];simp
    ·have:decide (v+1<=i/\i<v+1+k)=decide (v<=i/\i<v+(k+1)):=by
      by_cases q:v+1<=i/\i<v+1+k
      ·rw[zq9 q,zq9 (by omega)]
      ·rw[zf5 q,zf5 (by omega)]
     rw[this];simp[e]
   ·show wi.cost+C v true<C v (j v)+_\/wi.cost+C v true=C v (j v)+_/\_;cases hq:j v with
    |true =>
     rcases a5 j (hf.down hq) hg with h|⟨h,hl⟩
     ·left;omega
     ·right;exact⟨by omega,hl.up (hv.trans hq.symm)⟩
    |false =>
     have o:wo.can=true:=by
      cases e:wo.can with
      |true=>rfl
      |false=>exact absurd (hg.symm.trans (ho.no e j (hf.down hq))) (by simp)
     have M:wi.cost+C v true<=wo.cost+C v false:=by
      rcases hc.2 with h|h
      ·exact absurd (h.symm.trans o) (by simp)
      ·exact h
     obtain⟨fo,b1,b2,b3,b4,b5⟩:=ho.yes o;have J:wo.cost<=Qp C k (v+1) j:=by rcases b5 j (hf.down hq) hg with h|⟨h,_⟩<;>omega
     by_cases e:wi.cost+C v true<C v false+Qp C k (v+1) j
     ·left;exact e
     ·right;exact⟨by omega,Or.inr ⟨v,zri _,by omega,hv,hq,fun i h1 h2=>by omega⟩⟩
  ·have hB:xR C v wo wi=woF C v wo:=by unfold xR;rw[zc2 hc]
   rw[hB];refine⟨fun h f' hf=>?_,fun h=>?_⟩
   ·have y:wo.can=false:=h;have u:wi.can=false:=by
     cases e:wi.can with
     |false=>rfl
     |true=>exact absurd ⟨e,Or.inl y⟩ hc
    cases hq:f' v with
    |true=>exact hi.no u f' (hf.down hq)
    |false=>exact ho.no y f' (hf.down hq)
   ·have y:wo.can=true:=h;obtain⟨f',a1,a2,a3,a4,a5⟩:=ho.yes y;have hv:=a1.at
    refine⟨f',a1.up,a2,?_,fun i=>?_,fun j hf hg=>?_⟩
    ·show wo.cost+C v false=C v (f' v)+_;rw[hv,a3];omega
    ·show wo.items.testBit i=_;rw[a4 i]
     by_cases e:v=i
     ·subst e;rw[hv];simp
     ·have:decide (v+1<=i/\i<v+1+k)=decide (v<=i/\i<v+(k+1)):=by
       by_cases q:v+1<=i/\i<v+1+k
       ·rw[zq9 q,zq9 (by omega)]
       ·rw[zf5 q,zf5 (by omega)]
      rw[this]
    ·show wo.cost+C v false<C v (j v)+_\/wo.cost+C v false=C v (j v)+_/\_;cases hq:j v with
     |false =>
      rcases a5 j (hf.down hq) hg with h|⟨h,hl⟩
      ·left;omega
      ·right;exact⟨by omega,hl.up (hv.trans hq.symm)⟩
     |true =>
      left;have u:wi.can=true:=by
       cases e:wi.can with
       |true=>rfl
       |false=>exact absurd (hg.symm.trans (hi.no e j (hf.down hq))) (by simp)
      obtain⟨fi,b1,b2,b3,b4,b5⟩:=hi.yes u;have J:wi.cost<=Qp C k (v+1) j:=by rcases b5 j (hf.down hq) hg with h|⟨h,_⟩<;>omega
      have R:¬(wi.cost+C v true<=wo.cost+C v false):=fun e=>hc ⟨u,Or.inr e⟩;omega
end
section
open Go.Maps Go.Deep
theorem zgP(item:Nat)(is:Bool):∀(k v:Nat) (f:Nat->Bool),Qp (y9 item is) k v f=if v<=item/\item<v+k then Zx (f item==is) else 0
 |0,v,f=>by rw[zc2 (by omega)];rfl
 |k+1,v,f=>by
  show y9 item is v (f v)+Qp (y9 item is) k (v+1) f=_;rw[zgP item is k (v+1) f];unfold y9
  by_cases e:v=item
  ·subst e;rw[zc2 (by omega),zc3 (by omega)];simp
  ·have h0:Zx (decide (v=item)&&(f v==is))=0:=by rw[zf5 e];rfl
   rw[h0]
   by_cases q:v<=item/\item<v+(k+1)
   ·rw[zc3 q,zc3 (by omega)];omega
   ·rw[zc2 q,zc2 (by omega)];rfl
theorem ziD{vars:Nat}{ns:List Nd}{h:Int}{is:Bool}{i:Nat}(hi:i<vars):ZT vars ns h is i=true↔∀f:Nat->Bool,(∀j,vars<=j->f j=false)->sem ns h f=true->f i=is:=by
 have hb:=zbN (y9 i is) (vars-0) 0 (sem ns h) (fun _=>false);have u:∀f,Qp (y9 i is) (vars-0) 0 f=Zx (f i==is):=fun f=>by rw[zgP,zc3 (by omega)]
 unfold ZT qd;generalize qt (y9 i is) (vars-0) 0 (sem ns h) (fun _=>false)=x at hb;cases hc:x.can with
 |false =>refine⟨fun _ f hf hs=>?_,fun _=>by simp⟩;exact absurd (hs.symm.trans (hb.no hc f (fun j hj=>hf j (by omega)))) (by simp)
 |true =>
  obtain⟨f',a1,a2,a3,-,a5⟩:=hb.yes hc;rw[u f'] at a3;simp only[Bool.not_true,zt0,zrz];constructor
  ·intro h0 f hf hs;have h1:=a5 f (fun j hj=>hf j (by omega)) hs;rw[u f] at h1;have h2:0<Zx (f i==is):=by rcases h1 with h|⟨h,_⟩<;>omega
   unfold Zx at h2;cases q:(f i==is) with
   |true=>exact eq_of_beq q
   |false=>rw[q] at h2;simp at h2
  ·intro o;have:=o f' (fun j hj=>a1 j (by omega)) a2;rw[a3,this];unfold Zx;simp
section
variable {B p s b:Nat} {O:Nat->Prop} {vars:Nat} {room:Int} {st:List Nd × Int} {w:World}
theorem zqs(hsol:Zo B w p s b O vars room st)(hg:zG vars st.1)(hl:st.1.length<=90000)(h24:vars<=24)(hh:zh st.1 st.2=true) :
  zC 12 #[.pointer (some p)] w fun e w'=>∃v,e=.returned (.tuple #[v,.nilIface])/\w'.ownsRow w 3 1 v (qF vars st.1 st.2 true vars).length (Go.Proofs.YtoffdbflfikcoaaGreatDoor.icells (qF vars st.1 st.2 true vars))/\zB w w':=by
 have HS:=zH (ze3 hsol hg hl h24 hh true);clear hsol hg hh;go_enter func12,ntmps12;go_wp2_with fail;refine HS.out.mono ?_;rintro e w1 ⟨v,rfl,j,hb⟩;have HR:Hid (_/\_):=⟨j,hb⟩;clear j hb HS;go_wp2;go_ret2;exact⟨v,rfl,HR.out.1,HR.out.2⟩
theorem ziN(hsol:Zo B w p s b O vars room st)(hg:zG vars st.1)(hl:st.1.length<=90000)(h24:vars<=24)(hh:zh st.1 st.2=true) :
  zC 13 #[.pointer (some p)] w fun e w'=>∃v,e=.returned (.tuple #[v,.nilIface])/\w'.ownsRow w 3 1 v (qF vars st.1 st.2 false vars).length (Go.Proofs.YtoffdbflfikcoaaGreatDoor.icells (qF vars st.1 st.2 false vars))/\zB w w':=by
 have HS:=zH (ze3 hsol hg hl h24 hh false);clear hsol hg hh;go_enter func13,ntmps13;go_wp2_with fail;refine HS.out.mono ?_;rintro e w1 ⟨v,rfl,j,hb⟩;have HR:Hid (_/\_):=⟨j,hb⟩;clear j hb HS;go_wp2;go_ret2;exact⟨v,rfl,HR.out.1,HR.out.2⟩
end
end
section
open Go.Maps Num
section
variable {B s b dk:Nat} {O:Nat->Prop} {vars:Nat} {room:Int} {ns:List Nd}
theorem zfu(hl:ns.length<=90000)(hv:vars<=24)(h:Int)(L:List (Int × NV))(w:World)(hS:zt B w s b O vars room ns)(hD:qS w dk vars ns L)(hh:zh ns h=true)(ht:za ns h=24) :
  zC 61 #[.pointer (some s),h,.map (some dk)] w (ZU dk vars ns (yJ vars ns h) w):=by
 have hi:=y7 hh (by omega);have J:=below_new w (.cells #[.slice none 0 0] 42);have c0:=(hS.new J).c0;have HG:=YF (hS.new J) h hi hl;rw[show decide (za ns h≠24)=false by simp[ht],show zo ns h=⟨0,0,0⟩ by unfold zo;rw[zc3 ht]] at HG;unfold Nd.val at HG;have a1:=zH HG;have a6:=zql (vars:=vars) hh ht hv;have af:=hD.lt;have M:w.heap.size<(w.alloc (.cells #[.slice none 0 0] 42)).heap.size:=by simp
 have bc:(w.alloc (.cells #[.slice none 0 0] 42)).cell? w.heap.size=some (.slice none 0 0):=by simp
 have bf:(w.alloc (.cells #[.slice none 0 0] 42)).frozen? w.heap.size=false:=by simp
 have BO:=zH (KE w);have Y:=zH J;have HD:=zH hD;have a0:=zH a6;obtain⟨ab,ac⟩:=hi;clear HG hS hD hh ht J a6;go_enter func61,ntmps61;go_wp2_with fail;refine a1.out.mono ?_;rintro e w2 ⟨rfl,R⟩;generalize (w.alloc (.cells #[.slice none 0 0] 42))=W1 at *;have a3:=R.alloc R.size (.cells #[(0:Int),(0:Int),(0:Int)] 200);have a2:=zH (zkX h (w2.alloc (.cells #[(0:Int),(0:Int),(0:Int)] 200)) ab ac);have Z:=zH a3;clear R a3 a1 c0;go_wp2_with fail;refine a2.out.mono ?_;rintro e w4 ⟨v4,rfl,u,V,a7,a8,a5⟩;have y:=zT Z.out a5;have q:=zbR V a7 a8;rw[<-a0.out] at q;obtain⟨a4,c4,e4,-⟩:=id V;subst e4;have a9:=(y.cell (p:=w) M).trans bc;have ae:=(y.frozen (p:=w) M).trans bf;have aa:(w4.setCell w (.slice a4 u.length c4)).cell? w.heap.size=some (.slice a4 u.length c4):=zrD _ _ _ a9;have X:∀o n,w4.cell? ⟨w.heap.size,o,none⟩≠some (.int .u64 n):=fun o n=>by
  rw[y.cell (p:=⟨w.heap.size,o,none⟩) M];exact BO.out o n
 have U:zB w w4:=zT Y.out y;have ad:w.heap.size≠dk:=by omega
 have hk:zc (fun j=>j=dk) w (w4.setCell w (.slice a4 u.length c4)):=(zc.of_below U _).andThen (zc.setCell (S:=fun j=>j=w.heap.size) _ _ _ rfl) (fun i hi ag=>by omega);have K:Hid (ZU dk vars ns (yJ vars ns h) w (.returned (.agg #[.slice a4 u.length c4])) (w4.setCell w (.slice a4 u.length c4))):=⟨_,L,rfl,q.box X _,(HD.out.new U).box X ad _,hk⟩;clear V a7 a8 q X hk a5 y U a2 Z Y HD BO a0 bc bf;go_wp2;refine zc4 (v:=.agg #[.slice a4 u.length c4]) (by simp[results,results61,go_sem,aa]) rfl K.out
theorem zhv(hl:ns.length<=90000)(L:List (Int × NV))(w:World)(hS:zt B w s b O vars room ns)(hD:qS w dk vars ns L)(p:Int × NV)(hp:p∈L)(hh:zh ns p.1=true) :
  zC 61 #[.pointer (some s),p.1,.map (some dk)] w (ZU dk vars ns (yJ vars ns p.1) w):=by
 have hi:=y7 hh (by omega);have ht:=hD.keys p hp;have u:=hD.nums p hp;have y:=below_new w (.cells #[.slice none 0 0] 42);have c0:=(hS.new y).c0;have HG:=YF (hS.new y) p.1 hi hl;rw[show decide (za ns p.1≠24)=true by simp[ht]] at HG;unfold Nd.val at HG;have U:=zH HG;have HL:Hid (∀W,zB w W->(Instr.lookup 78 (.map (some dk)) (.int .i64 p.1) true).run prog W=.ok (.tuple #[.agg #[.slice p.2.a p.2.n p.2.c],true]) W):=fun W hW=>by
  obtain⟨D,a1,hR⟩:=(hD.new hW).hmap;exact zhC a1 hR hp
 have a6:=hD.lt;have V:w.heap.size<(w.alloc (.cells #[.slice none 0 0] 42)).heap.size:=by simp
 have bc:(w.alloc (.cells #[.slice none 0 0] 42)).cell? w.heap.size=some (.slice none 0 0):=by simp
 have bf:(w.alloc (.cells #[.slice none 0 0] 42)).frozen? w.heap.size=false:=by simp
 have BO:=zH (KE w);have M:=zH y;have HD:=zH hD;have HN:Hid (qg w (.agg #[.slice p.2.a p.2.n p.2.c]) (yJ vars ns p.1)):=u;clear HG hS hD hh ht y u hp;generalize p.2.a=xa at *;generalize p.2.n=xn at *;generalize p.2.c=xc at *;generalize p.1=h at *;generalize zo ns h=gn at *;generalize yJ vars ns h=m at *;obtain⟨gv,gl,gh⟩:=gn;simp only at U;go_enter func61,ntmps61;go_wp2_with fail;refine U.out.mono ?_;rintro e w2 ⟨rfl,X⟩;generalize (w.alloc (.cells #[.slice none 0 0] 42))=W1 at *;have J:=X.alloc X.size (.cells #[gv,gl,gh] 200);have Z:=zT M.out J;have a4:=HL.out _ Z;have q:=J.alloc J.size (.cells #[.slice xa xn xc] 42);have a0:=(q.cell (p:=w) V).trans bc;have a5:=(q.frozen (p:=w) V).trans bf;have Y:∀o n,((w2.alloc (.cells #[gv,gl,gh] 200)).alloc (.cells #[.slice xa xn xc] 42)).cell? ⟨w.heap.size,o,none⟩≠some (.int .u64 n):=fun o n=>by
  rw[q.cell (p:=⟨w.heap.size,o,none⟩) V];exact BO.out o n
 have K:zB w ((w2.alloc (.cells #[gv,gl,gh] 200)).alloc (.cells #[.slice xa xn xc] 42)):=zT M.out q;have a2:(((w2.alloc (.cells #[gv,gl,gh] 200)).alloc (.cells #[.slice xa xn xc] 42)).setCell w (.slice xa xn xc)).cell? w.heap.size=some (.slice xa xn xc):=zrD _ _ _ a0;have a3:w.heap.size≠dk:=by omega
 have hk:zc (fun j=>j=dk) w (((w2.alloc (.cells #[gv,gl,gh] 200)).alloc (.cells #[.slice xa xn xc] 42)).setCell w (.slice xa xn xc)):=(zc.of_below K _).andThen (zc.setCell (S:=fun j=>j=w.heap.size) _ _ _ rfl) (fun i hi a7=>by omega);have R:Hid (ZU dk vars ns m w (.returned (.agg #[.slice xa xn xc])) (((w2.alloc (.cells #[gv,gl,gh] 200)).alloc (.cells #[.slice xa xn xc] 42)).setCell w (.slice xa xn xc))):=⟨_,L,rfl,(HN.out.new K).box Y _,(HD.out.new K).box Y a3 _,hk⟩;clear X J Z q K Y hk U HL M HD HN BO c0 bc bf;go_wp2;refine zc4 (v:=.agg #[.slice xa xn xc]) (by simp[results,results61,go_sem,a2]) rfl R.out
end
end
section
open Go.Maps Num
section
variable {w w':World} {dk vars:Nat} {ns:List Nd} {L:List (Int × NV)}
theorem ziq(hD:qS w dk vars ns L){a:Int}(ha:I64 a)(ht:za ns a≠24)(x:NV)(hx:qg w x.val (yJ vars ns a))(hl:ns.length<=90000) :
  ∃w' L',(Instr.mapUpdate 78 (.map (some dk)) (.int .i64 a) x.val).run prog w=.ok () w'/\qS w' dk vars ns L'/\zc (fun j=>j=dk) w w':=by
 have K:=hD.len;obtain⟨D,J,hR⟩:=hD.hmap;obtain⟨w',u,h1,h2⟩:=J.update Ya underlying78 (by unfold maxLen;omega) (YD ha) (zbs x);have hk:zc (fun k=>k=dk) w w':=zc.of_grown h2 (fun i h=>by cases h;rfl);have y:∀b o n,b=dk->w.cell? ⟨b,o,Option.none⟩≠some (.int .u64 n):=fun b o n e=>hD.no b o n e
 by_cases hm:a∈L.map Prod.fst
 ·have hR':XG (D.put (.int .i64 a) x.dat) (L.map fun q=>if q.1=a then (q.1,x) else q):=Rep.put_over hR (fun a b _ _ e=>by injection e) (fun _=>trivial) x hm;refine⟨w',_,u,⟨⟨_,hR'.size▸Z1 h1,hR'⟩,fun p hp=>?_,fun p hp=>?_⟩,hk⟩
  ·obtain⟨q,hq,rfl⟩:=zrA.1 hp;split
   ·exact hD.keys q hq
   ·exact hD.keys q hq
  ·obtain⟨q,hq,rfl⟩:=zrA.1 hp;split
   ·rename_i e;show qg w' x.val (yJ vars ns q.1);rw[e];exact hx.kept hk y
   ·exact(hD.nums q hq).kept hk y
 ·have hR':XG (D.put (.int .i64 a) x.dat) (L++[(a,x)]):=Rep.put hR (fun a b _ _ e=>by injection e) (fun _=>trivial) ha hm x;refine⟨w',_,u,⟨⟨_,hR'.size▸Z1 h1,hR'⟩,fun p hp=>?_,fun p hp=>?_⟩,hk⟩
  ·rcases zro.1 hp with h|h
   ·exact hD.keys p h
   ·rw[zra] at h;subst h;exact ht
  ·rcases zro.1 hp with h|h
   ·exact(hD.nums p h).kept hk y
   ·rw[zra] at h;subst h;exact hx.kept hk y
end
structure Zn(w:World)(bx:Nat):Prop where
 lt:bx<w.heap.size
 c:w.cell? bx=some (.slice none 0 0)
 f:w.frozen? bx=false
 no:∀o n,w.cell? ⟨bx,o,none⟩≠some (.int .u64 n)
theorem Zn.kept{S:Nat->Prop}{w w':World}{bx:Nat}(h:Zn w bx)(hk:zc S w w')(hn:¬S bx):Zn w' bx :=
 ⟨zc6 h.lt hk.size,(hk.cell (a:=bx) h.lt hn).trans h.c,(hk.frozen (a:=bx) h.lt hn).trans h.f,fun o n=>by rw[hk.cell (a:=⟨bx,o,none⟩) h.lt hn];exact h.no o n⟩
theorem Zn.new{w w':World}{bx:Nat}(h:Zn w bx)(hb:zB w w'):Zn w' bx:=h.kept (zc.of_below hb (fun _=>False)) (fun h=>h)
theorem XO(w:World):Zn (w.alloc (.cells #[.slice none 0 0] 42)) w.heap.size:=⟨by simp,by simp,by simp,KE w⟩
structure CS(B s b dk:Nat)(O:Nat->Prop)(vars:Nat)(room:Int)(ns:List Nd)(W0 w:World)(nb bx:Nat)(gv gl gh:Int)(L:List (Int × NV)):Prop where
 space:zt B w s b O vars room ns
 done:qS w dk vars ns L
 tri:Tri w nb gv gl gh
 box:Zn w bx
 kept:zc (fun j=>j=dk) W0 w
section
variable {B s b dk:Nat} {O:Nat->Prop} {vars:Nat} {room:Int} {ns:List Nd} {W0 w w':World} {nb bx:Nat} {gv gl gh:Int} {L:List (Int × NV)}
theorem CS.new(h:CS B s b dk O vars room ns W0 w nb bx gv gl gh L)(hb:zB w w'):CS B s b dk O vars room ns W0 w' nb bx gv gl gh L :=
 ⟨h.space.new hb,h.done.new hb,h.tri.new hb,h.box.new hb,h.kept.trans (zc.of_below hb _)⟩
theorem CS.ways{d:Nat}(hW:JZ B s b dk O vars room ns d)(ho:¬O dk)(hs:s≠dk)(hn:nb≠dk)(hx:bx≠dk)(h:CS B s b dk O vars room ns W0 w nb bx gv gl gh L)(g:Int)(v:Nat)(hh:zh ns g=true)(hd:24<=za ns g+d)(hv:v<=zV vars ns g) :
  zC 24 #[.pointer (some s),g,v,.map (some dk)] w fun e w'=>∃r L',e=.returned r/\qg w' r (yo vars ns g v)/\CS B s b dk O vars room ns W0 w' nb bx gv gl gh L'/\zc (fun j=>j=dk) w w':=by
 refine(hW g v L w h.space h.done hh hd hv).mono ?_;rintro e w2 ⟨r,L',he,hr,hD,hk⟩;exact⟨r,L',he,hr,⟨h.space.kept hk (fun j hj e=>ho (e▸hj)) hs,hD,h.tri.kept hk hn,h.box.kept hk hx,h.kept.trans hk⟩,hk⟩
theorem CS.add(h:CS B s b dk O vars room ns W0 w nb bx gv gl gh L){r1 r2:Value}{m1 m2:Nat}(h1:qg w r1 m1)(h2:qg w r2 m2)(l1:m1<=100000000)(l2:m2<=100000000) :
  zC 105 #[r1,r2] w fun e w'=>∃a n c,e=.returned (.agg #[.slice a n c])/\qg w' (.agg #[.slice a n c]) (m1+m2)/\CS B s b dk O vars room ns W0 w' nb bx gv gl gh L/\zB w w':=by
 obtain⟨s1,d1,rfl,g1,n1,v1,k1⟩:=h1.open l1;obtain⟨s2,d2,rfl,g2,n2,v2,k2⟩:=h2.open l2;refine(zg5 s1 s2 d1 d2 w g1 g2 n1.small n2.small (by omega) (by omega)).mono ?_;rintro e w2 ⟨s3,he,d3,g3,n3,v3,-,hb⟩;have hn:=zbR g3 n3 v3;rw[v1,v2] at hn;obtain⟨a,c,e3,-⟩:=id g3;subst e3;exact⟨a,_,c,he,hn,h.new hb,hb⟩
end
end
section
open Go.Maps Num
section
variable {B s b dk:Nat} {O:Nat->Prop} {vars:Nat} {room:Int} {ns:List Nd} {W0 w w':World} {nb bx:Nat} {gv gl gh:Int} {L:List (Int × NV)}
def XZ(B s b dk:Nat)(O:Nat->Prop)(vars:Nat)(room:Int)(ns:List Nd)(W0:World)(nb bx:Nat)(gv gl gh:Int)(m:Nat)(pv:Value)(wx:World):Prop :=
 ∃j a n c L3,pv=.pointer (some ⟨j,0,none⟩)/\wx.cell? ⟨j,0,none⟩=some (.slice a n c)/\j<wx.heap.size/\j≠dk/\j≠bx/\qg wx (.agg #[.slice a n c]) m/\CS B s b dk O vars room ns W0 wx nb bx gv gl gh L3
theorem CS.sum(h:CS B s b dk O vars room ns W0 w nb bx gv gl gh L){bx2:Nat}(hb:Zn w bx2)(h0:W0.heap.size<=bx2)(hO:∀k,O k->k<W0.heap.size)(hs:s<W0.heap.size)(hd:dk<W0.heap.size)(hn:bx2≠nb)(hx:bx2≠bx){a:Option Addr}{n c m:Nat}(hm:qg w (.agg #[.slice a n c]) m) :
  XZ B s b dk O vars room ns W0 nb bx gv gl gh m (.pointer (some bx2)) (w.setCell bx2 (.slice a n c)):=by
 have hk:zc (fun j=>j=bx2) w (w.setCell bx2 (.slice a n c)):=zc.setCell _ _ _ rfl;refine⟨bx2,a,n,c,L,rfl,zrD _ _ _ hb.c,zc6 hb.lt hk.size,by omega,hx,hm.box hb.no _,⟨h.space.kept hk (fun j hj e=>by have:=hO j hj;omega) (by omega),h.done.box hb.no (by omega) _,h.tri.kept hk (fun e=>hn e.symm),h.box.kept hk (fun e=>hx e.symm),h.kept.andThen hk (fun i hi o=>by omega)⟩⟩
theorem CS.sum_new(h:CS B s b dk O vars room ns W0 w nb bx gv gl gh L)(hd:dk<w.heap.size){a:Option Addr}{n c m:Nat}(hm:qg w (.agg #[.slice a n c]) m) :
  XZ B s b dk O vars room ns W0 nb bx gv gl gh m (.pointer (some w)) (w.alloc (.cells #[.slice a n c] 42)) :=
 ⟨w.heap.size,a,n,c,L,rfl,by simp,by simp,by omega,by have:=h.box.lt;omega,hm.new (below_new _ _),h.new (below_new _ _)⟩
theorem XZ.tri3{m:Nat}{pv:Value}(h:XZ B s b dk O vars room ns W0 nb bx gv gl gh m pv w):w.cell? nb=some (.int .i64 gv)/\w.cell? ⟨nb,1,none⟩=some (.int .i64 gl)/\w.cell? ⟨nb,2,none⟩=some (.int .i64 gh):=by
 obtain⟨_,_,_,_,_,-,-,-,-,-,-,hc⟩:=h;exact⟨hc.tri.c0,hc.tri.c1,hc.tri.c2⟩
theorem ziu(hg:zG vars ns)(hl:ns.length<=90000)(hv:vars<=24)(ho:¬O dk)(hs:s≠dk){d:Nat}(hW:JZ B s b dk O vars room ns d)(h:Int)(L:List (Int × NV))(w:World)(hS:zt B w s b O vars room ns)(hD:qS w dk vars ns L)(hh:zh ns h=true)(ht:za ns h≠24)(hd:24<=za ns h+((d+1:Nat):Int))(hnk:h∉L.map Prod.fst) :
  zC 61 #[.pointer (some s),h,.map (some dk)] w (ZU dk vars ns (yJ vars ns h) w):=by
 have hi:=y7 hh (by omega);have ad:=below_new w (.cells #[.slice none 0 0] 42);have c0:=(hS.new ad).c0;have HG:=YF (hS.new ad) h hi hl;have h0:=(qe hg.ranked h).1;have aJ:=Xb hg ht;have ar:=YW hg.ranked ht;obtain⟨k1,k2,k3,k4⟩:=Zh hg.ranked ht;have y:=zqN hg ht;have an:(zo ns h).v=za ns h:=by rw[zce ht];exact(xo ht).2.2.1.symm
 have ay:=zce ht;rw[show decide (za ns h≠24)=true by simp[ht]] at HG;unfold Nd.val at HG;rw[<-ay] at k1 k2 k3 k4 y;have HL:Hid (∀W,zB w W->(Instr.lookup 78 (.map (some dk)) (.int .i64 h) true).run prog W=.ok (.tuple #[.agg #[.slice none 0 0],false]) W):=fun W hW=>by
  obtain⟨D,aE,hR⟩:=(hD.new hW).hmap;exact zo5 aE hR hi hnk
 obtain⟨t,et⟩:∃t:Nat,za ns h=(t:Int):=⟨(za ns h).toNat,by omega⟩;have a2:Hid (∀W L' x,qS W dk vars ns L'->qg W (NV.val x) (yJ vars ns h)->∃w' aB,(Instr.mapUpdate 78 (.map (some dk)) (.int .i64 h) x.val).run prog W=.ok () w'/\qS w' dk vars ns aB/\zc (fun j=>j=dk) W w'):=fun W L' x h1 h2=>ziq h1 hi ht x h2 hl;rw[et] at an aJ ar k1 k3 y hd;rw[zrh] at y;generalize zo ns h=gn at *;obtain⟨gv,gl,gh⟩:=gn;simp only at an k1 k2 k3 k4 y HG;subst an;have tl:t+1<=zV vars ns gl:=by unfold zV;omega
 have th:t+1<=zV vars ns gh:=by unfold zV;omega
 have aj:Hid (∀X L' nb bx,nb≠dk->bx≠dk->CS B s b dk O vars room ns w X nb bx (t:Int) gl gh L'->zC 24 #[.pointer (some s),gl,.int .i64 ((t:Int)+1),.map (some dk)] X fun e w'=>∃r L',e=.returned r/\qg w' r (yo vars ns gl (t+1))/\CS B s b dk O vars room ns w w' nb bx (t:Int) gl gh L'/\zc (fun j=>j=dk) X w'):=fun X L' nb bx h1 h2 hc =>
  hc.ways hW ho hs h1 h2 gl (t+1) k2 (by omega) tl
 have ak:Hid (∀X L' nb bx,nb≠dk->bx≠dk->CS B s b dk O vars room ns w X nb bx (t:Int) gl gh L'->zC 24 #[.pointer (some s),gh,.int .i64 ((t:Int)+1),.map (some dk)] X fun e w'=>∃r L',e=.returned r/\qg w' r (yo vars ns gh (t+1))/\CS B s b dk O vars room ns w w' nb bx (t:Int) gl gh L'/\zc (fun j=>j=dk) X w'):=fun X L' nb bx h1 h2 hc =>
  hc.ways hW ho hs h1 h2 gh (t+1) k4 (by omega) th
 have l1:yo vars ns gl (t+1)<=100000000:=by have:=zbg vars ns gl (t+1) hv;omega
 have l2:yo vars ns gh (t+1)<=100000000:=by have:=zbg vars ns gh (t+1) hv;omega
 have aw:∀k,O k->k<w.heap.size:=fun k hk=>(hS.own k hk).2;have aq:=hS.slt;have af:=hD.lt;have au:=zH HG;have HS:=zH hS;have HD:=zH hD;have aA:=zH ad;have R:=zH y;have ac:=zH aw;have BX:=zH (XO w);have aP:IntKind.i64.wrap ((t:Int)+1)=(t:Int)+1:=IntWalk.i64_in _ ⟨by omega,by omega⟩;have aQ:wrap64 ((t:Int)+1)=(t:Int)+1:=by unfold wrap64;omega
 clear HG hS hD hh ht ad y aw hW hg k1 k2 k3 k4 tl th hnk ay et;generalize yJ vars ns h=m at *;generalize yo vars ns gl (t+1)=m1 at *;generalize yo vars ns gh (t+1)=m2 at *;have aL:=BX.out.lt;go_enter func61,ntmps61;go_wp2_with fail;refine au.out.mono ?_;rintro e w2 ⟨rfl,ae⟩;generalize (w.alloc (.cells #[.slice none 0 0] 42))=W1 at *;have am:=ae.alloc ae.size (.cells #[t,gl,gh] 200);have a3:=zT aA.out am;have U:=HL.out _ a3;have aO:=ae.size;have ax:=below_new (w2.alloc (.cells #[t,gl,gh] 200)) (.cells #[.slice none 0 0] 42);have cs:CS B s b dk O vars room ns w ((w2.alloc (.cells #[t,gl,gh] 200)).alloc (.cells #[.slice none 0 0] 42)) w2.heap.size w.heap.size (t:Int) gl gh L :=
  CS.new ⟨HS.out.new a3,HD.out.new a3,Jh w2 (t:Int) gl gh 200,BX.out.new am,zc.of_below a3 _⟩ ax
 have aa:=zH cs;clear ae am a3 ax cs au HL HS HD BX c0;go_wp2_with fail;generalize ((w2.alloc (.cells #[t,gl,gh] 200)).alloc (.cells #[.slice none 0 0] 42))=W4 at *;have a0:=aa.out.new zF.drew;have a1:=(aa.out.new (below_new W4 (.cells #[.slice none 0 0] 42))).new zF.drew;have ah:w2.heap.size≠dk:=by omega
 have Z:w.heap.size≠dk:=by omega
 have aS:w.heap.size<w2.heap.size:=by omega
 have aT:w2.heap.size<W4.heap.size:=aa.out.tri.lt;have ab:Hid (∀X L',CS B s b dk O vars room ns w X w2.heap.size w.heap.size (t:Int) gl gh L'->∀b o n,b=dk->X.cell? ⟨b,o,none⟩≠some (.int .u64 n)):=fun X L' hc b o n e=>hc.done.no b o n e;have nA:W4.heap.size≠dk:=by omega
 have nB:w.heap.size<=W4.heap.size:=by omega
 have nC:W4.heap.size≠w2.heap.size:=by omega
 have nD:W4.heap.size≠w.heap.size:=by omega
 clear U;go_cut [11] (fun pv wx=>XZ B s b dk O vars room ns w w2.heap.size w.heap.size (t:Int) gl gh m pv wx)
 case first =>
  go_region_held3 (fun X=>X.cell? w2.heap.size=some (.int .i64 t)/\X.cell? ⟨w2.heap.size,1,none⟩=some (.int .i64 gl)/\X.cell? ⟨w2.heap.size,2,none⟩=some (.int .i64 gh))
   (first
    |exact⟨a0.tri.c0,a0.tri.c1,a0.tri.c2⟩
    |exact⟨a1.tri.c0,a1.tri.c1,a1.tri.c2⟩
    |exact⟨J.tri.c0,J.tri.c1,J.tri.c2⟩
    |exact⟨(J.new (below_new _ _)).tri.c0,(J.new (below_new _ _)).tri.c1,(J.new (below_new _ _)).tri.c2⟩
    |exact⟨q.tri.c0,q.tri.c1,q.tri.c2⟩
    |exact⟨(q.new (below_new _ _)).tri.c0,(q.new (below_new _ _)).tri.c1,(q.new (below_new _ _)).tri.c2⟩
    |exact a9.tri3
    |exact⟨u.tri.c0,u.tri.c1,u.tri.c2⟩
    | exact ⟨(u.new (below_new _ _)).tri.c0,(u.new (below_new _ _)).tri.c1,(u.new (below_new _ _)).tri.c2⟩)
   (first
    |(go_at_call 24;with_reducible refine(aj.out _ _ _ _ ah Z a0).mono ?_;rintro e w5 ⟨r1,L1,rfl,ao,J,ag⟩)
    |(go_at_call 24;with_reducible refine(aj.out _ _ _ _ ah Z a1).mono ?_;rintro e w5 ⟨r1,L1,rfl,ao,J,ag⟩)
    |(go_at_call 24;with_reducible refine(ak.out _ _ _ _ ah Z J).mono ?_;rintro e w6 ⟨r2,L2,rfl,a6,q,Y⟩;have a8:=ao.kept Y (ab.out _ _ J))
    |(go_at_call 24;with_reducible refine(ak.out _ _ _ _ ah Z (J.new (below_new _ _))).mono ?_;rintro e w6 ⟨r2,L2,rfl,a6,q,Y⟩;have a8:=(ao.new (below_new _ _)).kept Y (ab.out _ _ (J.new (below_new _ _))))
    |(go_at_call 105;(with_reducible refine(q.add a8 a6 l1 l2).mono ?_);rintro e w7 ⟨a7,n7,c7,rfl,M,u,V⟩;rw[<-R.out] at M;have K:Zn w7 W4.heap.size:=((((XO W4).new zF.drew).kept ag nA).kept Y nA).new V;have a9:=u.sum K nB ac.out aq af nC nD M;have q1:=K.c;have q2:=K.f)
    |(go_at_call 105;(with_reducible refine(q.add a8 a6 l1 l2).mono ?_);rintro e w7 ⟨a7,n7,c7,rfl,M,u,V⟩;rw[<-R.out] at M;have z1:W4.heap.size<=w5.heap.size:=ag.size;have K:Zn w7 w5.heap.size:=((XO w5).kept Y (show w5.heap.size≠dk by omega)).new V;have a9:=u.sum K (by omega) ac.out aq af (by omega) (by omega) M;have q1:=K.c;have q2:=K.f)
    |(go_at_call 105;(with_reducible refine((q.new (below_new _ _)).add (a8.new (below_new _ _)) (a6.new (below_new _ _)) l1 l2).mono ?_);rintro e w7 ⟨a7,n7,c7,rfl,M,u,V⟩;rw[<-R.out] at M;have z1:W4.heap.size<=w5.heap.size:=ag.size;have z2:w5.heap.size<=w6.heap.size:=Y.size;have K:Zn w7 w6.heap.size:=(XO w6).new V;have a9:=u.sum K (by omega) ac.out aq af (by omega) (by omega) M;have q1:=K.c;have q2:=K.f)
    | (go_at_call 105;(with_reducible refine (q.add a8 a6 l1 l2).mono ?_);rintro e w7 ⟨a7,n7,c7,rfl,M,u,V⟩;rw [<- R.out] at M;have a9:=u.sum_new (zc6 af u.kept.size) M))
  all_goals
   go_wp2_with fail;go_meet
   case rel=>exact a9
 case rest =>obtain⟨aD,a,n,c,L3,rfl,aF,aI,aH,aR,hn,q⟩:=hcut;obtain⟨w8,L4,U,av,a5⟩:=a2.out wc L3 ⟨a,n,c⟩ q.done hn;unfold NV.val at U;have aM:=(a5.cell (a:=aD) aI aH).trans aF;have a4:=q.box.kept a5 Z;have aC:=a4.c;have aK:=a4.f;have az:=hn.kept a5 (ab.out _ _ q);have aG:(w8.setCell w (.slice a n c)).cell? w.heap.size=some (.slice a n c):=zrD _ _ _ aC;have hk:zc (fun j=>j=dk) w (w8.setCell w (.slice a n c)):=(q.kept.trans a5).andThen (zc.setCell (S:=fun j=>j=w.heap.size) _ _ _ rfl) (fun i hi aN=>by omega);have ai:Hid (ZU dk vars ns m w (.returned (.agg #[.slice a n c])) (w8.setCell w (.slice a n c))):=⟨_,L4,rfl,az.box a4.no _,av.box a4.no Z _,hk⟩;clear hn q av a5 a4 az hk aj ak ab a2 aa a0 a1 ac;go_wp2;refine zc4 (v:=.agg #[.slice a n c]) (by simp[results,results61,go_sem,aG]) rfl ai.out
theorem zeY(hg:zG vars ns)(hl:ns.length<=90000)(hv:vars<=24)(ho:¬O dk)(hs:s≠dk):∀d,zgy B s b dk O vars room ns d
 |0=>fun h L w hS hD hh hd=>zfu hl hv h L w hS hD hh (by have:=(qe hg.ranked h).2;omega)
 |d+1=>fun h L w hS hD hh hd=>by
  by_cases ht:za ns h=24
  ·exact zfu hl hv h L w hS hD hh ht
  ·by_cases hk:h∈L.map Prod.fst
   ·obtain⟨p,hp,rfl⟩:=zrA.1 hk;exact zhv hl L w hS hD p hp hh
   ·exact ziu hg hl hv ho hs (zdd hg hl hv (zeY hg hl hv ho hs d)) h L w hS hD hh ht hd hk
theorem zh7(hg:zG vars ns)(hl:ns.length<=90000)(hv:vars<=24)(ho:¬O dk)(hs:s≠dk):JZ B s b dk O vars room ns 24:=zdd hg hl hv (zeY hg hl hv ho hs 24)
end
end
section
open Go.Maps Num
section
variable {B s b:Nat} {O:Nat->Prop} {vars:Nat} {room:Int} {ns:List Nd}
theorem zqc(w:World)(hS:zt B w s b O vars room ns)(hg:zG vars ns)(hl:ns.length<=90000)(hv:vars<=24)(h:Int)(hh:zh ns h=true) :
  zC 9 #[.pointer (some s),h] w fun e w'=>∃v,e=.returned (.tuple #[v,.nilIface])/\qg w' v (yo vars ns h 0)/\zB w w':=by
 have hi:=y7 hh (by omega);have q:=below_new w (.cells #[.slice none 0 0] 42);have s1:(w.alloc (.cells #[.slice none 0 0] 42)).heap.size=w.heap.size+1:=by simp
 have HP:=zgb (cp:=1) ((hS.new q).new (below_new (w.alloc (.cells #[.slice none 0 0] 42)) (.cells #[h] 3))) (by omega) (w.alloc (.cells #[.slice none 0 0] 42)).heap.size [h] (zhP (w.alloc (.cells #[.slice none 0 0] 42)) h hi) (by simp) (fun y hy=>by rw[zra] at hy;subst hy;exact hh);rw[show [h].length=1 from rfl,s1] at HP;have V:=zH HP;have M:=q.alloc q.size (.cells #[h] 3);have s2:((w.alloc (.cells #[.slice none 0 0] 42)).alloc (.cells #[h] 3)).heap.size=w.heap.size+1+1:=by rw[zc1,s1]
 have R:=M.alloc M.size (.map #[] 0);have o:=World.ownsMap_made ((w.alloc (.cells #[.slice none 0 0] 42)).alloc (.cells #[h] 3)) prog 3 Yo;rw[s2] at o;have hD:qS (((w.alloc (.cells #[.slice none 0 0] 42)).alloc (.cells #[h] 3)).alloc (.map #[] 0)) (w.heap.size+1+1) vars ns []:=⟨⟨_,o,Rep.empty⟩,(fun p hp=>by cases hp),(fun p hp=>by cases hp)⟩;have a2:=hS.slt;have X:=zh7 (B:=B) (s:=s) (b:=b) (dk:=w.heap.size+1+1) (O:=O) (vars:=vars) (room:=room) (ns:=ns) hg hl hv (fun ho=>by have:=(hS.own _ ho).2;omega) (by omega) h 0 [] _ (hS.new R) hD hh (by have:=(qe hg.ranked h).1;omega) (zf6 _);have Y:Hid (zC 24 #[.pointer (some s),h,(0:Int),.map (some (w.heap.size+1+1))] (((w.alloc (.cells #[.slice none 0 0] 42)).alloc (.cells #[h] 3)).alloc (.map #[] 0)) (ZU (w.heap.size+1+1) vars ns (yo vars ns h 0) (((w.alloc (.cells #[.slice none 0 0] 42)).alloc (.cells #[h] 3)).alloc (.map #[] 0)))):=X;have U:Hid (Zn (((w.alloc (.cells #[.slice none 0 0] 42)).alloc (.cells #[h] 3)).alloc (.map #[] 0)) w.heap.size):=((XO w).new (below_new _ _)).new (below_new _ _);have J:=zH R;have a3:=@run_makeMap prog;clear HP X hS hg hh q M R o hD;generalize yo vars ns h 0=m at *;go_enter func9,ntmps9;go_wp2_with fail;refine V.out.mono ?_;rintro e w1 ⟨rfl,rfl⟩;clear V;go_wp2_with fail;refine Y.out.mono ?_;rintro e w4 ⟨v4,L4,rfl,hn,a0,hk⟩;generalize (((w.alloc (.cells #[.slice none 0 0] 42)).alloc (.cells #[h] 3)).alloc (.map #[] 0))=W3 at *;obtain⟨x,rfl,hx⟩:=hn;obtain⟨xa,xn,xc⟩:=x;have hn:qg w4 (NV.val ⟨xa,xn,xc⟩) m:=⟨_,rfl,hx⟩;have u:=U.out.kept hk (show w.heap.size≠w.heap.size+1+1 by omega);have bc:=u.c;have bf:=u.f;have a1:(w4.setCell w (.slice xa xn xc)).cell? w.heap.size=some (.slice xa xn xc):=zrD _ _ _ bc;have Z:zB w (w4.setCell w (.slice xa xn xc)):=(J.out.trans (hk.below J.out.size (fun j e=>by omega))).setCell zN _;have K:Hid (∃v,Ending.returned (.tuple #[.agg #[.slice xa xn xc],.nilIface])=.returned (.tuple #[v,.nilIface])/\qg (w4.setCell w (.slice xa xn xc)) v m/\zB w (w4.setCell w (.slice xa xn xc))):=⟨_,rfl,hn.box u.no _,Z⟩;clear hn hx a0 hk u Z Y U J;unfold NV.val;go_wp2;refine zc4 (v:=.tuple #[.agg #[.slice xa xn xc],.nilIface]) (by simp[results,results9,go_sem,a1]) rfl K.out
end
end
end Go.Proofs.YtoffdbflfikcoaaGreatDoor.Bd
namespace Go.Proofs
open Go.Shelf
def Tryz.laysM288_ren:Go.Shelf.Ren:=⟨fun|288=>63|283=>108|284=>109|285=>110|286=>111|129=>161|317=>160|318=>162|319=>163|320=>164|337=>206|338=>207|n=>n,fun|37=>80|53=>82|3=>3|4=>4|9=>9|171=>206|0=>0|173=>209|212=>270|51=>271|5=>5|20=>20|213=>272|46=>48|232=>342|233=>343|n=>n,fun|17=>4|18=>6|19=>7|n=>n⟩
theorem Tryz.laysM288:Go.Proofs.LaysM.n288 prog Tryz.laysM288_ren:=by constructor;constructor;all_goals(intros;kernel_rfl)
open Go.RowKit Go.Sort Go.Lib in
theorem Tryz.internal_strconv_AppendUint_10(B n u:Nat)(hu64:u<18446744073709551616)(sv:Value)(xs:List Value)(w:World)(hown:w.ownsRow B 5 1 sv n xs)(hBw:B<=w.heap.size)(hlim:n+20<=140737488355328)(htab:Lib.TabIs prog w "internal/strconv.uint64pow10" .u64 Lib.pow10Tab) :
  zC 63 #[sv,.int .u64 u,(10:Int)] w fun e w'=>∃v',e=.returned v'/\w'.ownsRow B 5 1 v' (n+(Lib.decDigits u).length) (xs++Lib.byteCells (Lib.decDigits u))/\Below B w w'/\Lib.OthersKept 5 none w w':=Any.internal_strconv_AppendUint_10 Tryz.laysM288 B n u hu64 sv xs w hown hBw hlim htab
