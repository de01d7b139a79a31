import Derived.Test.YtoffdbflfikcoaaGreatDoorAb
import Derived.WalkSpells
import Derived.WalkLawsBesides
import Derived.Deep.DeepCutAuto
import Derived.Deep.RegionHeld3
import Derived.Deep.Light
import Derived.Lib.QuietBelow
import Derived.Lib.MinMax
import Derived.BigQuiet
import Derived.DeepKeys4
import Derived.Maps.RangeWalk
open Go.Proofs.Tryz Go.RowKit
namespace Go.Proofs.YtoffdbflfikcoaaGreatDoor
set_option maxHeartbeats 2000000
set_option maxRecDepth 100000
namespace Bd
open Go.Maps
structure Nd where
 v:Int
 l:Int
 h:Int
 deriving DecidableEq
def Nd.val(n:Nd):Value:=.agg #[n.v,n.l,n.h]
def I64(x:Int):Prop:=-9223372036854775808<=x/\x<=9223372036854775807
def Nd.Ok(n:Nd):Prop:=I64 n.v/\I64 n.l/\I64 n.h
theorem KS{x:Int}(h:I64 x):(Lit.int .i64 x).wf=true:=by
 obtain⟨h0,h1⟩:=h;simp[Lit.wf,IntKind.min,IntKind.max,IntKind.signed,IntKind.bits];omega
theorem zgp:laidOutB prog=true:=by kernel_rfl
theorem zeu:(200:TypeId)<prog.types.size:=zrZ (by kernel_rfl)
theorem znn:(match prog.underlying 200 with|some (.array _ _)|some (.struct _)=>true|_=>false)=true:=by rw[zua]
theorem Y3:Keyed prog 200:=Keyed.of_law (deep_law_laid zgp (m:=2) (by omega) zeu (by kernel_rfl) znn)
theorem zno:prog.keyType 200=true:=by kernel_rfl
def Nd.lit(n:Nd):Lit:=.string (keyBytes [.int .i64 n.v,.int .i64 n.l,.int .i64 n.h])
theorem zgg:prog.cellsOf 200=3:=by kernel_rfl
theorem zdO:prog.cellsOf 3=1:=by kernel_rfl
theorem Xn(d:Nat){x:Int}(h:I64 x):prog.keyLits (d+1) 3 [.int .i64 x]=some [.int .i64 x]:=by
 unfold Program.keyLits;rw[zrn];simp[KS h]
theorem Yk(n:Nd)(h:n.Ok):keyOf prog 200 n.val=some n.lit:=by
 have hf:n.val.formed prog 200=true:=by simp[Value.formed,underlying200,zgg,Nd.val]
 unfold keyOf;rw[zua];simp only[zno,hf,Bool.and_self,ztL];obtain⟨d,hd⟩:∃d,prog.types.size+1=d+2:=⟨prog.types.size-1,by have:0<prog.types.size:=Nat.lt_of_le_of_lt (zf6 _) zeu;omega⟩;rw[hd];unfold Program.keyLits;rw[zua];have hc:n.val.cells.toList=[.int .i64 n.v,.int .i64 n.l,.int .i64 n.h]:=rfl;rw[hc];simp[zgg,zdO,Xn d h.1,Xn d h.2.1,Xn d h.2.2,Nd.lit]
theorem zaK(n:Nd):WideAt.IsKeyLit n.lit:=trivial
theorem K9{n m:Nd}(hn:n.Ok)(hm:m.Ok)(h:n.lit=m.lit):n=m:=by
 have:=Y3.inj (Yk n hn) (h▸Yk m hm);cases n;cases m;simpa[Nd.val] using this
structure Rep{α β:Type}(ok:α->Prop)(kl:α->Lit)(el:β->DataW Unit)(D:DataW Unit)(L:List (α × β)):Prop where
 tidy:Tidy D
 size:Maps.size D=L.length
 oks:∀p∈L,ok p.1
 has:∀a,ok a->(Maps.has D (kl a)=true↔a∈L.map Prod.fst)
 all:∀x,Maps.has D x=true->∃p∈L,x=kl p.1
 at':∀p∈L,∀z,D.atKey (kl p.1) z=el p.2
 nodup:(L.map Prod.fst).Nodup
section
variable {α β:Type} {ok:α->Prop} {kl:α->Lit} {el:β->DataW Unit} {D:DataW Unit} {L:List (α × β)}
theorem Rep.empty:Rep ok kl el (.map []) ([]:List (α × β)) :=
 ⟨tidy_empty,rfl,fun p h=>(by cases h),fun a _=>(by simp[Maps.has]),fun x h=>(by simp[Maps.has] at h),fun p h=>(by cases h),List.nodup_nil⟩
theorem Rep.not(h:Rep ok kl el D L){a:α}(ha:ok a)(hn:a∉L.map Prod.fst):Maps.has D (kl a)=false:=by
 cases e:Maps.has D (kl a) with
 |false=>rfl
 |true=>exact absurd ((h.has a ha).1 e) hn
theorem Rep.put(h:Rep ok kl el D L)(inj:∀a b,ok a->ok b->kl a=kl b->a=b)(key:∀a,WideAt.IsKeyLit (kl a)){a:α}(ha:ok a)(hn:a∉L.map Prod.fst)(b:β) :
  Rep ok kl el (D.put (kl a) (el b)) (L++[(a,b)]):=by
 have j:∀c,ok c->c≠a->kl c≠kl a:=fun c hc o e=>o (inj c a hc ha e);refine⟨h.tidy.put (key a) _,?_,?_,?_,?_,?_,?_⟩
 ·rw[size_put h.tidy,h.not ha hn];simp[h.size]
 ·intro p hp;rcases zro.1 hp with hp|hp
  ·exact h.oks p hp
  ·rw[zra] at hp;subst hp;exact ha
 ·intro c hc;rw[zrv,zro]
  by_cases e:c=a
  ·subst e;simp[has_put_same h.tidy.isMap (key c)]
  ·rw[has_put_other (j c hc e)];simp[h.has c hc,e]
 ·intro x hx
  by_cases e:x=kl a
  ·exact⟨(a,b),by simp,e⟩
  ·rw[has_put_other e] at hx;obtain⟨p,hp,hx⟩:=h.all x hx;exact⟨p,by simp[hp],hx⟩
 ·intro p hp z;rcases zro.1 hp with hp|hp
  ·rw[atKey_put_other (j p.1 (h.oks p hp) (fun e=>hn (e▸zsy hp)))];exact h.at' p hp z
  ·rw[zra] at hp;subst hp;exact atKey_put_same h.tidy.isMap (key a) _ _
 ·rw[zrv,zts];refine⟨h.nodup,by simp,fun x hx y hy=>?_⟩;simp at hy;subst hy;exact fun e=>hn (e▸hx)
theorem Rep.del[DecidableEq α](h:Rep ok kl el D L)(inj:∀a b,ok a->ok b->kl a=kl b->a=b){p:α × β}(hp:p∈L):Rep ok kl el (D.del (kl p.1)) (L.filter fun q=>decide (q.1≠p.1)):=by
 have ha:=h.oks p hp;have y:∀c,ok c->c≠p.1->kl c≠kl p.1:=fun c hc C e=>C (inj c p.1 hc ha e);have hm:p.1∈L.map Prod.fst:=zsy hp;have o:∀(M:List (α × β)),(M.map Prod.fst).Nodup->p.1∈M.map Prod.fst->(M.filter fun q=>decide (q.1≠p.1)).length+1=M.length:=by
  intro M
  induction M with
  |nil=>intro _ h;simp at h
  |cons q M ih =>
   intro hn j;rw[ztf,List.nodup_cons] at hn
   by_cases e:q.1=p.1
   ·rw[List.filter_cons_of_neg (by simp[e])];have:M.filter (fun q=>decide (q.1 ≠ p.1))=M:=zu7.2 (fun r hr=>by
     simp only [zrz];intro e2;exact hn.1 (e ▸ e2 ▸ zsy hr))
    rw[this];rfl
   ·rw [List.filter_cons_of_pos (by simp [e]),zrb,zrb,ih hn.2 (by
     rw[ztf,zrw] at j;rcases j with j|j
     ·exact absurd j.symm e
     ·exact j)]
 refine⟨h.tidy.del _,?_,?_,?_,?_,?_,?_⟩
 ·have h1:=size_del (k:=kl p.1) h.tidy;rw[(h.has p.1 ha).2 hm] at h1;have h2:=o L h.nodup hm;rw[h.size] at h1;simp only[ztL] at h1;omega
 ·intro q hq;exact h.oks q (zr8.1 hq).1
 ·intro c hc
  by_cases e:c=p.1
  ·rw[e,has_del_same];simp only[zsu,false_iff,zrA,zr8,not_exists,not_and];intro q hq e2;simp[e2] at hq
  ·rw[has_del_other (y c hc e),h.has c hc];simp only[zrA,zr8];constructor
   ·rintro⟨q,hq,rfl⟩;exact⟨q,⟨hq,by simpa using e⟩,rfl⟩
   ·rintro⟨q,⟨hq,-⟩,rfl⟩;exact⟨q,hq,rfl⟩
 ·intro x hx
  by_cases e:x=kl p.1
  ·rw[e,has_del_same] at hx;cases hx
  ·rw[has_del_other e] at hx;obtain⟨q,hq,u⟩:=h.all x hx;refine⟨q,zr8.2 ⟨hq,?_⟩,u⟩;simp only[zrz];intro e2;rw[e2] at u;exact e u
 ·intro q hq z;obtain⟨hq,J⟩:=zr8.1 hq;rw[atKey_del_other (y q.1 (h.oks q hq) (by simpa using J))];exact h.at' q hq z
 ·exact List.Nodup.sublist (List.Sublist.map _ List.filter_sublist) h.nodup
end
structure zc(S:Nat->Prop)(w w':World):Prop where
 os:w'.os=w.os
 tape:w'.tape=w.tape
 output:w'.output=w.output
 size:w.heap.size<=w'.heap.size
 block:∀k,k<w.heap.size->¬S k->w'.heap[k]?=w.heap[k]?
section
variable {S T:Nat->Prop} {w w' w'':World}
theorem zc.refl(S:Nat->Prop)(w:World):zc S w w:=⟨rfl,rfl,rfl,zri _,fun _ _ _=>rfl⟩
theorem zc.trans(h:zc S w w')(k:zc S w' w''):zc S w w'' :=
 ⟨k.os.trans h.os,k.tape.trans h.tape,k.output.trans h.output,zf1 h.size k.size,fun i hi hs=>(k.block i (zc6 hi h.size) hs).trans (h.block i hi hs)⟩
theorem zc.andThen(h:zc S w w')(k:zc T w' w'')(ht:∀i,T i->i<w.heap.size->S i):zc S w w'' :=
 ⟨k.os.trans h.os,k.tape.trans h.tape,k.output.trans h.output,zf1 h.size k.size,fun i hi hs=>(k.block i (zc6 hi h.size) (fun hT=>hs (ht i hT hi))).trans (h.block i hi hs)⟩
theorem zc.mono(h:zc S w w')(hs:∀i,S i->T i):zc T w w':=⟨h.os,h.tape,h.output,h.size,fun k hk hn=>h.block k hk (fun hS=>hn (hs k hS))⟩
theorem zc.drew(h:zc S w w'):zc S w w'.drew:=⟨h.os,h.tape,h.output,h.size,h.block⟩
theorem zc.of_below(h:zB w w')(S:Nat->Prop):zc S w w':=⟨h.os,h.tape,h.output,h.size,fun k hk _=>h.block k hk⟩
theorem zc.below(h:zc S w w'){B:Nat}(hB:B<=w.heap.size)(hs:∀i,S i->B<=i):Below B w w':=⟨h.os,h.tape,h.output,h.size,fun k hk=>h.block k (zc6 hk hB) (fun hS=>by have:=hs k hS;omega)⟩
theorem zc.of_grown{row:Option Nat}(h:w.grownBy w' row)(hs:∀i,row=some i->S i):zc S w w':=⟨h.os,h.tape,h.output,h.size,fun k hk hn=>h.block k hk (fun e=>hn (hs k e.symm))⟩
theorem zc.alloc(S:Nat->Prop)(w:World)(o:Obj):zc S w (w.alloc o):=zc.of_below (zF.alloc zN o) S
theorem zc.setCell(w:World)(a:Addr)(u:Value)(h:S a.block):zc S w (w.setCell a u) :=
 ⟨rfl,rfl,rfl,by simp[World.setCell],fun k _ hn=>zrF w a u k (fun e=>hn (e▸h))⟩
theorem zc.cell(h:zc S w w'){a:Addr}(hlt:a.block<w.heap.size)(hn:¬S a.block):w'.cell? a=w.cell? a:=zuS (h.block a.block hlt hn)
theorem zc.frozen(h:zc S w w'){a:Addr}(hlt:a.block<w.heap.size)(hn:¬S a.block):w'.frozen? a=w.frozen? a:=World.frozen?_of_block (h.block a.block hlt hn)
theorem zc.grown(h:zc S w w'){r:Nat}(hs:∀i,S i->i=r):w.grownBy w' (some r):=⟨h.os,h.tape,h.output,h.size,fun k hk hn=>h.block k hk (fun hS=>hn (by rw[hs k hS]))⟩
end
end Bd
namespace Bd
open Go.Maps
def zw(ns:List Nd):List Value:=ns.flatMap fun n=>[.int .i64 n.v,.int .i64 n.l,.int .i64 n.h]
def nd(ns:List Nd)(i:Nat):Nd:=ns.getD i ⟨0,0,0⟩
theorem Qn(ns:List Nd)(i:Nat)(h:i<ns.length):nd ns i=ns[i]:=by unfold nd;simp[List.getD_eq_getElem?_getD,List.getElem?_eq_getElem h]
theorem Z9(ns:List Nd):(zw ns).length=ns.length*3:=by
 induction ns with
 |nil=>rfl
 |cons n ns ih=>unfold zw at *;rw[List.flatMap_cons,zf4,ih];simp;omega
theorem Kq(a b:List Nd):zw (a++b)=zw a++zw b:=by simp[zw]
theorem Yf:∀(ns:List Nd) (i:Nat),i<ns.length->(zw ns)[i*3]?=some (.int .i64 (nd ns i).v)/\(zw ns)[i*3+1]?=some (.int .i64 (nd ns i).l)/\(zw ns)[i*3+2]?=some (.int .i64 (nd ns i).h)
 |[],i,h=>by simp at h
 |n :: ns,0,_=>by simp[zw,nd]
 |n :: ns,i+1,h=>by
  have ih:=Yf ns i (by simpa using h);have e:nd (n :: ns) (i+1)=nd ns i:=by simp[nd]
  rw[e];have e2:∀j,(zw (n :: ns))[j+3]?=(zw ns)[j]?:=fun j=>by
   show ([Value.int .i64 n.v,.int .i64 n.l,.int .i64 n.h]++zw ns)[j+3]?=_;rw[zrG (by simp)];simp
  rw[show (i+1)*3=i*3+3 by omega,show i*3+3+1=(i*3+1)+3 by omega,show i*3+3+2=(i*3+2)+3 by omega,e2,e2,e2];exact ih
def Own(b bm:Nat)(v:Value)(k:Nat):Prop:=k=b\/k=bm\/v.ownBlock=some k
structure zM(B:Nat)(w:World)(b bm:Nat)(v:Value)(ns:List Nd)(L:List (Nd × Int))(room next:Int):Prop where
 lt:b<w.heap.size
 croom:w.cell? b=some (.int .i64 room)
 cnodes:w.cell? ⟨b,1,none⟩=some v
 cmap:w.cell? ⟨b,2,none⟩=some (.map (some bm))
 cnext:w.cell? ⟨b,3,none⟩=some (.int .i64 next)
 froz:∀i,w.frozen? ⟨b,i,none⟩=false
 row:w.ownsRow B 200 3 v ns.length (zw ns)
 hmap:∃D,w.ownsMap prog 200 (plainElem prog 3) bm L.length D/\Rep Nd.Ok Nd.lit (fun x:Int=>.lit (.int .i64 x)) D L
 d1:v.ownBlock≠some b
 d2:bm≠b
 d3:v.ownBlock≠some bm
 B1:B<=b
 B2:B<=bm
section
variable {B b bm:Nat} {w w':World} {v:Value} {ns:List Nd} {L:List (Nd × Int)} {room next:Int}
theorem Y4{S:Nat->Prop}{e:TypeId}{size n:Nat}{xs:List Value}(h:w.ownsRow B e size v n xs)(hk:zc S w w')(hn:∀k,v.ownBlock=some k->¬S k):w'.ownsRow B e size v n xs:=by
 refine⟨h.1,?_⟩;rcases h.2 with h1|⟨g,j,o,h1,h2,h3,h4⟩
 ·exact .inl h1
 ·refine .inr ⟨g,j,o,h1,h2,?_,h4⟩;have p:g<w.heap.size:=by
   by_cases hl:g<w.heap.size
   ·exact hl
   ·rw[zrO (by omega)] at h3;simp at h3
  rw[hk.block g p (hn g (by rw[h1];rfl))];exact h3
theorem Ql{S:Nat->Prop}{k:TypeId}{R:Value->Option (DataW Unit × List MemPlace)}{n:Nat}{D:DataW Unit}(h:w.ownsMap prog k R bm n D)(hk:zc S w w')(hn:¬S bm):w'.ownsMap prog k R bm n D:=by
 have o:=h.lt;obtain⟨es,j,h1,h2⟩:=h;exact⟨es,j,(hk.block bm o hn).trans h1,h2⟩
theorem zM.kept{S:Nat->Prop}(h:zM B w b bm v ns L room next)(hk:zc S w w')(hn:∀k,Own b bm v k->¬S k):zM B w' b bm v ns L room next:=by
 have hb:=hn b (.inl rfl);obtain⟨D,hD,hR⟩:=h.hmap;exact ⟨zc6 h.lt hk.size,(hk.cell (a:=b) h.lt hb).trans h.croom,(hk.cell (a:=⟨b,1,none⟩) h.lt hb).trans h.cnodes,(hk.cell (a:=⟨b,2,none⟩) h.lt hb).trans h.cmap,(hk.cell (a:=⟨b,3,none⟩) h.lt hb).trans h.cnext,fun i=>(hk.frozen (a:=⟨b,i,none⟩) h.lt hb).trans (h.froz i),
  Y4 h.row hk (fun k hv=>hn k (.inr (.inr hv))),⟨D,Ql hD hk (hn bm (.inr (.inl rfl))),hR⟩,h.d1,h.d2,h.d3,h.B1,h.B2⟩
theorem zM.form(h:zM B w b bm v ns L room next):∃a j,v=.slice a ns.length j/\(ns.length≠0->∃g,a=some ⟨g,0,none⟩/\B<=g/\g<w.heap.size):=by
 rcases h.row.2 with ⟨h1,h2⟩|⟨g,j,o,h1,hB,_,h2,_⟩
 ·exact⟨none,0,by rw[h1,h2],fun h=>absurd h2 h⟩
 ·exact⟨_,j,h1,fun _=>⟨g,rfl,hB,(h.row.lt g (by rw[h1];rfl)).2⟩⟩
end
def za(ns:List Nd)(h:Int):Int:=if 2<=h/\h<2+(ns.length:Int) then (nd ns (h-2).toNat).v else 24
theorem Kf{B b bm:Nat}{w:World}{v:Value}{ns:List Nd}{L:List (Nd × Int)}{room next:Int}(hA:zM B w b bm v ns L room next)(h:Int)(hi:I64 h)(hl:ns.length<=1000000) :
  zC 60 #[.pointer (some b),h] w fun e w'=>e=.returned (.int .i64 (za ns h))/\w=w':=by
 obtain⟨p,q⟩:=hi;obtain⟨a,o,rfl,hg⟩:=hA.form;have cn:=hA.cnodes;have HR:=zH hA.row;have HG:=zH hg;clear hA hg;unfold za
 by_cases hc:2<=h/\h<2+(ns.length:Int)
 ·rw[zc3 hc];obtain⟨h2,h3⟩:=hc;obtain⟨i,e2⟩:∃i:Nat,h-2=(i:Int):=⟨(h-2).toNat,by omega⟩;obtain⟨g,rfl,-⟩:=HG.out (by omega);have e1:(h-2).toNat=i:=by omega
  rw[e1];have j:i<ns.length:=by omega
  have ci:=HR.out.cellAt (i*3) (by omega);rw[(Yf ns i j).1] at ci;generalize (nd ns i).v=x at *;clear e1 HR HG;go_enter func60,ntmps60;go_wp2;go_ret;exact⟨rfl,rfl⟩
 ·rw[zc2 hc]
  by_cases h2:h<2
  ·clear hc HR HG;go_enter func60,ntmps60;go_wp2;go_ret;exact⟨rfl,rfl⟩
  ·have h3:2+(ns.length:Int)<=h:=by omega
   clear hc HR HG;go_enter func60,ntmps60;go_wp2;go_ret;exact⟨rfl,rfl⟩
end Bd
namespace Bd
open Go.Maps
def zh(ns:List Nd)(h:Int):Bool:=decide (h=0)||decide (h=1)||decide (za ns h<24)
section
variable {B b bm:Nat} {w:World} {v:Value} {ns:List Nd} {L:List (Nd × Int)} {room next:Int}
theorem Kz(hA:zM B w b bm v ns L room next)(h:Int)(hi:I64 h)(hl:ns.length<=1000000) :
  zC 59 #[.pointer (some b),h] w fun e w'=>e=.returned (zh ns h)/\w=w':=by
 have HT:=zH (Kf hA h hi hl);clear hA hl;unfold zh;generalize za ns h=t at *
 by_cases h0:h=0
 ·subst h0;go_enter func59,ntmps59;go_wp2;go_ret;exact⟨rfl,rfl⟩
 ·by_cases h1:h=1
  ·subst h1;go_enter func59,ntmps59;go_wp2;go_ret;exact⟨rfl,rfl⟩
  ·have e0:(h==0)=false:=by rw[zf2];exact h0
   have e1:(h==1)=false:=by rw[zf2];exact h1
   have d0:decide (h=0)=false:=zf5 h0;have d1:decide (h=1)=false:=zf5 h1;rw[d0,d1,zt0,zt0];clear h0 h1 d0 d1;go_enter func59,ntmps59;go_wp2_with fail;refine HT.out.mono ?_;rintro e w1 ⟨rfl,rfl⟩;go_wp2;go_ret;exact⟨rfl,rfl⟩
def zo(ns:List Nd)(h:Int):Nd:=if za ns h=24 then ⟨0,0,0⟩ else nd ns (h-2).toNat
theorem xA(w:World)(A B C:Value)(t:TypeId):(w.alloc (.cells #[A,B,C] t)).cell? w.heap.size=some A/\(w.alloc (.cells #[A,B,C] t)).cell? ⟨w.heap.size,1,none⟩=some B/\(w.alloc (.cells #[A,B,C] t)).cell? ⟨w.heap.size,2,none⟩=some C/\(∀i,(w.alloc (.cells #[A,B,C] t)).frozen? ⟨w.heap.size,i,none⟩=false):=⟨by simp,by simp,by simp,fun i=>by simp⟩
theorem below_new(w:World)(o:Obj):zB w (w.alloc o):=zF.alloc zN _
theorem X7(hA:zM B w b bm v ns L room next)(h:Int)(hi:I64 h)(hl:ns.length<=1000000) :
  zR 103 #[.pointer (some b),.int .i64 h] w (.tuple #[(zo ns h).val,.bool (decide (za ns h≠24))]):=by
 have j:=hA.kept (zc.alloc (fun _=>False) w (.cells #[(0:Int),(0:Int),(0:Int)] 200)) (fun _ _ h=>h);have HT:=zH (Kf j h hi hl);have K:=hA.lt;clear hA;obtain⟨C,J⟩:=hi;obtain⟨c0,c1,c2,fz⟩:=xA w (.int .i64 0) (.int .i64 0) (.int .i64 0) 200;have f0:=fz 0;have f1:=fz 1;have f2:=fz 2;have u:=below_new w (.cells #[(0:Int),(0:Int),(0:Int)] 200);clear fz;unfold zo
 by_cases ht:za ns h=24
 ·rw[zc3 ht,zf5 (by simp[ht])];rw[ht] at HT;clear ht j;go_enter func103,ntmps103;go_wp2_with fail;refine HT.out.mono ?_;rintro e w1 ⟨rfl,rfl⟩;clear HT;go_wp2;refine zc4 (v:=.tuple #[.agg #[(0:Int),(0:Int),(0:Int)],false]) (by simp[results,results103,go_sem]) rfl ?_;refine⟨rfl,?_⟩;exact below_new w _
 ·rw[zc2 ht,zq9 (by simp[ht])];have hc:2<=h/\h<2+(ns.length:Int):=by
   unfold za at ht
   by_cases hc:2<=h/\h<2+(ns.length:Int)
   ·exact hc
   ·rw[zc2 hc] at ht;exact absurd rfl ht
  obtain⟨h2,h3⟩:=hc;obtain⟨i,e2⟩:∃i:Nat,h-2=(i:Int):=⟨(h-2).toNat,by omega⟩;have e1:(h-2).toNat=i:=by omega
  obtain⟨a,p,rfl,hg⟩:=j.form;obtain⟨g,rfl,q,y⟩:=hg (by omega);have o:i<ns.length:=by omega
  have ca:=j.row.cellAt (i*3) (by omega);have cb:=j.row.cellAt (i*3+1) (by omega);have cc:=j.row.cellAt (i*3+2) (by omega);have cn:=j.cnodes;obtain⟨n1,n2,n3⟩:=Yf ns i o;rw[n1] at ca;rw[n2] at cb;rw[n3] at cc;rw[e1];have et:(za ns h==24)=false:=by rw[zf2];exact ht
  generalize za ns h=tt at *;generalize nd ns i=n at *;clear n1 n2 n3 j e1 ht;go_enter func103,ntmps103;go_wp2_with fail;refine HT.out.mono ?_;rintro e w1 ⟨rfl,rfl⟩;clear HT;go_wp2;refine zc4 (v:=.tuple #[n.val,true]) (by simp[results,results103,go_sem,Nd.val]) rfl ?_;refine⟨rfl,?_⟩;exact below_new w _
theorem KC(hA:zM B w b bm v ns L room next) :
  zC 99 #[.pointer (some b)] w fun e w'=>e=.returned (.int .i64 L.length)/\w=w':=by
 obtain⟨D,hD,hR⟩:=hA.hmap;have cm:=hA.cmap;have hs:(Maps.size D:Int)=(L.length:Int):=by rw[hR.size]
 clear hA hR;go_enter func99,ntmps99;go_wp2_with (at_len;refine wpList_len_own _ rfl _ 191 rfl 200 3 ztg _ bm _ D rfl hD ?_);go_ret;exact⟨by rw[<-hs];rfl,rfl⟩
end
end Bd
namespace Bd
open Go.Maps
section
variable {B b bm:Nat} {w:World} {v:Value} {ns:List Nd} {L:List (Nd × Int)} {room next:Int}
theorem zM.setNext(h:zM B w b bm v ns L room next)(n:Int):zM B (w.setCell ⟨b,3,none⟩ (.int .i64 n)) b bm v ns L room n:=by
 obtain⟨D,hD,hR⟩:=h.hmap;have hk:zc (fun k=>k=b) w (w.setCell ⟨b,3,none⟩ (.int .i64 n)):=zc.setCell _ _ _ rfl;refine⟨by simpa[World.setCell] using h.lt,?_,?_,?_,?_,fun i=>by rw[zrE];exact h.froz i,Y4 h.row hk (fun k hv e=>h.d1 (e▸hv)),⟨D,Ql hD hk h.d2,hR⟩,h.d1,h.d2,h.d3,h.B1,h.B2⟩
 ·rw[zrc _ _ _ _ (by simp)];exact h.croom
 ·rw[zrc _ _ _ _ (by simp)];exact h.cnodes
 ·rw[zrc _ _ _ _ (by simp)];exact h.cmap
 ·exact zrx _ _ _ (by simp[h.cnext])
theorem zM.setNodes{w':World}{v':Value}{ns':List Nd}(h:zM B w b bm v ns L room next)(hk:zc (fun k=>v.ownBlock=some k) w w')(hr:w'.ownsRow B 200 3 v' ns'.length (zw ns'))(hv:v'.ownBlock=v.ownBlock\/∃g,v'.ownBlock=some g/\w.heap.size<=g):zM B (w'.setCell ⟨b,1,none⟩ v') b bm v' ns' L room next:=by
 obtain⟨D,hD,hR⟩:=h.hmap;have j:zc (fun k=>k=b) w' (w'.setCell ⟨b,1,none⟩ v'):=zc.setCell _ _ _ rfl;have hlt':b<w'.heap.size:=zc6 h.lt hk.size;have p:=hD.lt;have d1:v'.ownBlock≠some b:=by
  rcases hv with hv|⟨g,hg,o⟩
  ·rw[hv];exact h.d1
  ·rw[hg];intro e;cases e;have:=h.lt;omega
 have d3:v'.ownBlock≠some bm:=by
  rcases hv with hv|⟨g,hg,o⟩
  ·rw[hv];exact h.d3
  ·rw[hg];intro e;cases e;omega
 have e:∀i,w'.cell? ⟨b,i,none⟩=w.cell? ⟨b,i,none⟩:=fun i=>hk.cell (a:=⟨b,i,none⟩) h.lt h.d1;refine⟨by simpa[World.setCell] using hlt',?_,?_,?_,?_,fun i=>by rw[zrE];exact(hk.frozen (a:=⟨b,i,none⟩) h.lt h.d1).trans (h.froz i),Y4 hr j (fun k hv e=>d1 (e▸hv)),⟨D,Ql (Ql hD hk h.d3) j h.d2,hR⟩,d1,h.d2,d3,h.B1,h.B2⟩
 ·rw[zrc _ _ _ _ (by simp),e];exact h.croom
 ·exact zrx _ _ _ (by rw[e];simp[h.cnodes])
 ·rw[zrc _ _ _ _ (by simp),e];exact h.cmap
 ·rw[zrc _ _ _ _ (by simp),e];exact h.cnext
theorem zis:(prog.info? 200).map (fun i=>(i.zero,i.size,i.bytes))=some (some (.agg #[(0:Int),(0:Int),(0:Int)]),3,24):=by kernel_rfl
theorem Yq{i:Nat}(h:i<ns.length):za ns (2+(i:Int))=(nd ns i).v:=by
 unfold za;rw[zc3 (by omega),show (2+(i:Int)-2).toNat=i by omega]
theorem zj4:za ns (2+(ns.length:Int))=24:=by
 unfold za;rw[zc2 (by omega)]
theorem zoP(w:World)(x y z:Value)(t:TypeId):∀j u,[x,y,z][j]?=some u->(w.alloc (.cells #[x,y,z] t)).cell? ((w.heap.size:Addr).add j)=some u:=by
 intro j u h
 match j,h with
 |0,h=>simp at h;subst h;simp[Addr.add]
 |1,h=>simp at h;subst h;simp[Addr.add]
 |2,h=>simp at h;subst h;simp[Addr.add]
 |j+3,h=>simp at h
def Y5(w:World)(b:Nat):Int:=match w.cell? ⟨b,3,none⟩ with|some (.int _ n)=>n|_=>0
theorem QV(S:Nat->Prop)(w:World)(n:Nat):zc S w (w.drewN n):=⟨rfl,rfl,rfl,zri _,fun _ _ _=>rfl⟩
def zl6(B:Nat)(w:World)(b bm:Nat)(v:Value)(ns:List Nd)(L:List (Nd × Int))(room:Int)(i:Nat)(e:Ending)(w':World):Prop:=∃(k:Nat) (v':Value),e=.returned (.int .i64 (2+(k:Int)))/\k<=ns.length/\(∀j,i<=j->j<k->(nd ns j).v<24)/\(k<ns.length->¬(nd ns k).v<24) /\
   zM B w' b bm v' (if k=ns.length then ns++[⟨24,0,0⟩] else ns) L room (2+(k:Int))/\zc (Own b bm v) w w'/\(v'.ownBlock=v.ownBlock\/∃g,v'.ownBlock=some g/\w.heap.size<=g)
theorem zjG(hA:zM B w b bm v ns L room next)(hl:ns.length<=100000)(i:Nat)(hn:next=2+(i:Int))(hi:i<=ns.length)(hB:B<=w.heap.size) :
  zC 251 #[.pointer (some b)] w (zl6 B w b bm v ns L room i):=by
 subst hn;obtain⟨i0,ae,ag,ah,ai⟩:=info_parts zis;have HA:=zH hA;clear hA;go_enter func251,ntmps251;go_wp2_with fail;go_loopw [7] (fun _ wr=>∃k:Nat,i<=k/\k<=ns.length/\(∀j,i<=j->j<k->(nd ns j).v<24)/\zM B wr b bm v ns L room (2+(k:Int))/\zc (Own b bm v) w wr/\Y5 wr b=2+(k:Int))
  (fun _ wr=>(2+(ns.length:Int)-Y5 wr b).toNat)
 case atStart=>exact⟨i,zri _,hi,fun j h1 h2=>by omega,HA.out,zc.refl _ _,by unfold Y5;rw[HA.out.cnext]⟩
 case round =>
  obtain⟨k,an,hk,R,q,X,a4⟩:=hrel;have HO:=zH R;have a8:=zH a4;have aj:=q.cnext;have am:=q.froz 3;have HT:=zH (Kf q (2+(k:Int)) ⟨by omega,by omega⟩ (by omega));clear R a4 HA
  by_cases hend:k=ns.length\/¬(nd ns k).v<24
  ·have ht:¬za ns (2+(k:Int))<24:=by
    by_cases e:k=ns.length
    ·rw[e,zj4];omega
    ·rw[Yq (by omega)];rcases hend with h|h
     ·exact absurd h e
     ·exact h
   have a9:=q.cnodes;have aa:=q.froz 1;obtain⟨a,y,a7,-⟩:=q.form;have HE:=zH hend;have C:=zH q;have V:=zH X;generalize za ns (2+(k:Int))=t at *;clear hend q X
   by_cases en:k=ns.length
   ·subst en;subst a7;go_wp2_with fail;refine HT.out.mono ?_;rintro e w1 ⟨rfl,rfl⟩;clear HT;go_wp2_with fail;go_quiet (fail);have U:wr.drew.ownsRow B 200 3 (.slice a ns.length y) ns.length (zw ns):=C.out.row;go_wp2_with (at_builtin;refine wpList_append_own_at _ rfl _ _ 192 rfl B 200 i0 (.agg #[(0:Int),(0:Int),(0:Int)]) 3 24 underlying192 ae ag ah ai rfl (by decide) _ _ _ rfl (U.alloc _) wr.heap.size 1 1 [.int .i64 24,.int .i64 0,.int .i64 0] rfl rfl (zoP _ _ _ _ _) ?c2 ?c3 ?c4 ?c5 ?_)
    case c2=>intro u hu;simp at hu;rcases hu with rfl|rfl<;>rfl
    case c3=>unfold maxLen;omega
    case c4=>omega
    case c5=>have:=V.out.size;show B<=(World.alloc _ _).heap.size;simp;omega
    intro v' w4 p o Z M;have K:zc (fun k=>(Value.slice a ns.length y).ownBlock=some k) wr w4:=(zc.alloc _ wr _).andThen (zc.of_grown (w:=wr.alloc (.cells #[(24:Int),(0:Int),(0:Int)] 200)) (S:=fun k=>(Value.slice a ns.length y).ownBlock=some k) ⟨o.os,o.tape,o.output,o.size,o.block⟩ (fun i h=>h)) (fun i h _=>h);have a5:w4.ownsRow B 200 3 v' (ns++[(⟨24,0,0⟩:Nd)]).length (zw (ns++[(⟨24,0,0⟩:Nd)])):=by
     rw[Kq,zf4];exact p
    have a0:v'.ownBlock=(Value.slice a ns.length y).ownBlock\/∃g,v'.ownBlock=some g/\wr.heap.size<=g:=M.imp id (fun h=>⟨_,h,by first|omega|simp⟩);have a1:=C.out.setNodes K a5 a0;have a3:=C.out.lt;have a2:=C.out.d1;have c1:w4.cell? ⟨b,1,none⟩=some (.slice a ns.length y):=(K.cell (a:=⟨b,1,none⟩) a3 a2).trans a9;have f1:w4.frozen? ⟨b,1,none⟩=false:=(K.frozen (a:=⟨b,1,none⟩) a3 a2).trans aa;have c3:=a1.cnext;have ab:zc (Own b bm (.slice a ns.length y)) w (w4.setCell ⟨b,1,none⟩ v'):=(V.out.trans (K.mono (fun i h=>.inr (.inr h)))).trans (zc.setCell _ _ _ (.inl rfl));have ad:v'.ownBlock=(Value.slice a ns.length y).ownBlock\/∃g,v'.ownBlock=some g/\w.heap.size<=g:=a0.imp id (fun⟨g,h1,h2⟩=>⟨g,h1,zf1 V.out.size h2⟩);obtain⟨a',n',J,rfl⟩:∃a' n' J,v'=.slice a' n' J:=by
     rcases p.2 with ⟨h1,-⟩|⟨g,cp,ak,h1,-⟩
     ·exact⟨_,_,_,h1⟩
     ·exact⟨_,_,_,h1⟩
    clear p o Z M U K a5 a0;go_wp2;go_ret;exact⟨ns.length,_,rfl,zri _,HO.out,fun h=>absurd h (Nat.lt_irrefl _),by rw[zc3 rfl];exact a1,ab,ad⟩
   ·have e5:(2+(k:Int)==2+(ns.length:Int))=false:=by rw[zf2];omega
    have e6:((k:Int)==(ns.length:Int))=false:=by rw[zf2];omega
    subst a7;go_wp2_with fail;refine HT.out.mono ?_;rintro e w1 ⟨rfl,rfl⟩;clear HT;go_wp2_with fail;go_quiet (fail);go_wp2;go_ret;refine⟨k,_,rfl,hk,HO.out,fun h=>?_,by rw[zc2 en];exact C.out.kept (QV _ _ _) (fun _ _ h=>h),V.out.trans (QV _ _ _),.inl rfl⟩;rcases HE.out with h2|h2
    ·exact absurd h2 en
    ·omega
  ·have af:k<ns.length:=by omega
   have hv:(nd ns k).v<24:=by
    rcases not_or.1 hend with ⟨-,h⟩;exact Classical.not_not.1 h
   rw[Yq af] at HT;have HV:=zH hv;have Y:=q.setNext (2+((k:Int)+1));have ac:=X.trans (zc.setCell (S:=Own b bm v) wr ⟨b,3,none⟩ (.int .i64 (2+((k:Int)+1))) (.inl rfl));have e1:2+(k:Int)+1=2+((k:Int)+1):=by omega
   obtain⟨t,a6⟩:∃t,t=(nd ns k).v:=⟨_,rfl⟩;rw[<-a6] at HT hv;clear a6 hend q X;go_wp2_with fail;refine HT.out.mono ?_;rintro e w1 ⟨rfl,rfl⟩;clear HT;go_wp2;go_roundw
   case rel =>
    refine⟨k+1,by omega,by omega,fun j h1 h2=>?_,Y,ac,by unfold Y5;rw[Y.cnext];rfl⟩
    by_cases e:j=k
    ·subst e;exact HV.out
    ·exact HO.out j h1 (by omega)
   case measure =>
    have e3:Y5 (wr.setCell ⟨b,3,none⟩ (.int .i64 (2+((k:Int)+1)))) b=2+((k:Int)+1):=by unfold Y5;rw[Y.cnext]
    rw[a8.out,e3];omega
end
end Bd
namespace Bd
def mk(m:List Bool)(i:Nat):Bool:=m.getD i false
theorem zgC(m:List Bool)(i:Nat)(h:i<m.length):mk m i=m[i]:=by unfold mk;simp[List.getD_eq_getElem?_getD,List.getElem?_eq_getElem h]
theorem KD(m:List Bool)(k i:Nat)(h:k<m.length):mk (m.set k true) i=(decide (i=k)||mk m i):=by
 unfold mk;simp only[zc0,ztI]
 by_cases e:k=i
 ·subst e;simp[h]
 ·rw[zc2 e,zf5 (fun h=>e h.symm),zt0]
theorem zel(n i:Nat):mk (List.replicate n false) i=false:=by
 unfold mk;simp only[zc0,List.getElem?_replicate];split<;>rfl
def zS:Nat->List Nd->Int->List Bool->List Bool
 |0,_,_,m=>m
 |d+1,ns,h,m =>
  if za ns h=24\/mk m (h-2).toNat=true then m
  else zS d ns (nd ns (h-2).toNat).h (zS d ns (nd ns (h-2).toNat).l (m.set (h-2).toNat true))
theorem QY{ns:List Nd}{h:Int}(ht:za ns h≠24):2<=h/\(h-2).toNat<ns.length/\za ns h=(nd ns (h-2).toNat).v:=by
 unfold za at *
 by_cases hc:2<=h/\h<2+(ns.length:Int)
 ·rw[zc3 hc];exact⟨hc.1,by omega,rfl⟩
 ·rw[zc2 hc] at ht;exact absurd rfl ht
theorem Qh:∀(d:Nat) (ns:List Nd) (h:Int) (m:List Bool),(zS d ns h m).length=m.length
 |0,_,_,_=>rfl
 |d+1,ns,h,m=>by
  unfold zS;split
  ·rfl
  ·rw[Qh d,Qh d,zr3]
theorem Kd:∀(d:Nat) (ns:List Nd) (h:Int) (m:List Bool),m.length=ns.length->∀i,mk m i=true->mk (zS d ns h m) i=true
 |0,_,_,_,_,_,hi=>hi
 |d+1,ns,h,m,hl,i,hi=>by
  unfold zS;split
  ·exact hi
  ·rename_i hn;have hb:=QY (not_or.1 hn).1;refine Kd d ns _ _ (by rw[Qh,zr3,hl]) i (Kd d ns _ _ (by rw[zr3,hl]) i ?_);rw[KD _ _ _ (by omega),hi,Bool.or_true]
structure zZ(ns:List Nd):Prop where
 v0:∀j,j<ns.length->0<=(nd ns j).v/\(nd ns j).v<=24
 l:∀j,j<ns.length->(nd ns j).v<24->(nd ns j).v<za ns (nd ns j).l/\zh ns (nd ns j).l=true
 h:∀j,j<ns.length->(nd ns j).v<24->(nd ns j).v<za ns (nd ns j).h/\zh ns (nd ns j).h=true
 ok:∀j,j<ns.length->(nd ns j).Ok
theorem qe{ns:List Nd}(hr:zZ ns)(h:Int):0<=za ns h/\za ns h<=24:=by
 by_cases ht:za ns h=24
 ·rw[ht];omega
 ·obtain⟨h1,h2,h3⟩:=QY ht;rw[h3];exact hr.v0 _ h2
def xk(ns:List Nd)(m:List Bool)(h:Int):Prop:=za ns h=24\/mk m (h-2).toNat=true
theorem xk.grow{ns:List Nd}{m:List Bool}{h:Int}(hm:xk ns m h)(hl:m.length=ns.length)(d:Nat)(h':Int):xk ns (zS d ns h' m) h:=hm.imp id (Kd d ns h' m hl _)
theorem Jt{ns:List Nd}(hr:zZ ns):∀(d:Nat) (h:Int) (m:List Bool),m.length=ns.length->24<=za ns h+d ->
  xk ns (zS d ns h m) h/\∀i,i<ns.length->mk (zS d ns h m) i=true->mk m i=false->xk ns (zS d ns h m) (nd ns i).l/\xk ns (zS d ns h m) (nd ns i).h
 |0,h,m,_,hd=>by
  have:=(qe hr h).2;refine⟨.inl (by omega),fun i _ h1 h2=>?_⟩;unfold zS at h1;rw[h1] at h2;cases h2
 |d+1,h,m,hl,hd=>by
  unfold zS;split
  ·rename_i hc;exact⟨hc,fun i _ h1 h2=>by rw[h1] at h2;cases h2⟩
  ·rename_i hn;obtain⟨b1,b2,b3⟩:=QY (not_or.1 hn).1;have hv:(nd ns (h-2).toNat).v<24:=by have:=(qe hr h).2;have:=(not_or.1 hn).1;omega
   generalize hk:(h-2).toNat=k at *;have o:(m.set k true).length=ns.length:=by rw[zr3,hl]
   have j:(zS d ns (nd ns k).l (m.set k true)).length=ns.length:=by rw[Qh,o]
   have A:=Jt hr d (nd ns k).l (m.set k true) o (by have:=(hr.l k b2 hv).1;omega);have C:=Jt hr d (nd ns k).h (zS d ns (nd ns k).l (m.set k true)) j (by have:=(hr.h k b2 hv).1;omega);have p:mk (m.set k true) k=true:=by rw[KD _ _ _ (by omega)];simp
   refine⟨.inr (by rw[hk];exact Kd d ns _ _ j _ (Kd d ns _ _ o _ p)),fun i hi h1 h2=>?_⟩
   by_cases e:i=k
   ·subst e;exact⟨A.1.grow j d _,C.1⟩
   ·by_cases h3:mk (zS d ns (nd ns k).l (m.set k true)) i=true
    ·have:=A.2 i hi h3 (by rw[KD _ _ _ (by omega),h2,zf5 e];rfl);exact⟨this.1.grow j d _,this.2.grow j d _⟩
    ·exact C.2 i hi h1 (by simpa using h3)
def qw(ns:List Nd)(M:List Bool):List Nd:=(List.range ns.length).map fun i=>if mk M i=true then nd ns i else ⟨24,0,0⟩
theorem ZM(ns:List Nd)(M:List Bool):(qw ns M).length=ns.length:=by simp[qw]
theorem QF(ns:List Nd)(M:List Bool)(i:Nat)(h:i<ns.length):nd (qw ns M) i=if mk M i=true then nd ns i else ⟨24,0,0⟩:=by
 rw[Qn _ i (by rw[ZM];exact h)];simp[qw]
theorem zfd{ns:List Nd}{M:List Bool}{h:Int}:za (qw ns M) h=if mk M (h-2).toNat=true then za ns h else 24:=by
 unfold za;rw[ZM]
 by_cases hc:2<=h/\h<2+(ns.length:Int)
 ·rw[zc3 hc,zc3 hc,QF ns M _ (by omega)];split<;>rfl
 ·rw[zc2 hc,zc2 hc];split<;>rfl
end Bd
namespace Bd
open Go.Maps
theorem JR(w:World):(zeroValue 3).run prog w=.ok (.int .i64 0) w:=by kernel_rfl
theorem Xj{x:Int}(h:I64 x):plainElem (H:=Unit) prog 3 (.int .i64 x)=some (.lit (.int .i64 x),[]):=plainElem_int zrn (KS h)
theorem Z1{P:Program}{k:TypeId}{R:Value->Option (DataW Unit × List MemPlace)}{w:World}{b n:Nat}{D:DataW Unit}(h:w.ownsMap P k R b n D):w.ownsMap P k R b (Maps.size D) D:=by
 obtain⟨es,j,h1,h2,h3,rfl⟩:=h;exact⟨es,j,h1,h2,by simp[Maps.size,length_sorted],rfl⟩
section
variable {w:World} {bm n:Nat} {D:DataW Unit} {L:List (Nd × Int)}
theorem zlt(hD:w.ownsMap prog 200 (plainElem prog 3) bm n D)(hR:Rep Nd.Ok Nd.lit (fun x:Int=>.lit (.int .i64 x)) D L){p:Nd × Int}(hp:p∈L) :
  (Instr.lookup 191 (.map (some bm)) (.agg #[p.1.v,p.1.l,p.1.h]) true).run prog w=.ok (.tuple #[p.2,true]) w:=by
 obtain⟨v,ps,j,hv⟩:=hD.look_ok Y3 ztg (JR w) (zd:=.lit (.int .i64 0)) (zp:=[]) (Xj ⟨by omega,by omega⟩) (Yk p.1 (hR.oks p hp));rw[hR.at' p hp] at hv;obtain⟨a,rfl,hz,-⟩:=plainElem_int_inv zrn hv;rw[(hR.has p.1 (hR.oks p hp)).2 (zsy hp)] at j;simp at hz;rw[<-hz.1] at j;exact j
theorem zmt(hD:w.ownsMap prog 200 (plainElem prog 3) bm n D)(hR:Rep Nd.Ok Nd.lit (fun x:Int=>.lit (.int .i64 x)) D L){a:Nd}(ha:a.Ok)(hn:a∉L.map Prod.fst) :
  (Instr.lookup 191 (.map (some bm)) (.agg #[a.v,a.l,a.h]) true).run prog w=.ok (.tuple #[(0:Int),false]) w:=by
 obtain⟨v,ps,j,hv⟩:=hD.look_ok Y3 ztg (JR w) (zd:=.lit (.int .i64 0)) (zp:=[]) (Xj ⟨by omega,by omega⟩) (Yk a ha);have hh:=hR.not ha hn;rw[atKey_of_not_has hh] at hv;obtain⟨c,rfl,hz,-⟩:=plainElem_int_inv zrn hv;rw[hh] at j;simp at hz;rw[<-hz.1] at j;exact j
theorem zhQ(hD:w.ownsMap prog 200 (plainElem prog 3) bm L.length D)(hR:Rep Nd.Ok Nd.lit (fun x:Int=>.lit (.int .i64 x)) D L)(hl:L.length<1000000){a:Nd}(ha:a.Ok)(hn:a∉L.map Prod.fst){x:Int}(hx:I64 x) :
  ∃w' D',(Instr.mapUpdate 191 (.map (some bm)) (.agg #[a.v,a.l,a.h]) (.int .i64 x)).run prog w=.ok () w'/\w'.ownsMap prog 200 (plainElem prog 3) bm (L++[(a,x)]).length D'/\Rep Nd.Ok Nd.lit (fun x:Int=>.lit (.int .i64 x)) D' (L++[(a,x)])/\zc (fun k=>k=bm) w w':=by
 obtain⟨w',j,h1,h2⟩:=hD.update Y3 ztg (by unfold maxLen;omega) (Yk a ha) (Xj hx);refine⟨w',_,j,?_,hR.put (fun _ _=>K9) zaK ha hn x,zc.of_grown h2 (fun i h=>by cases h;rfl)⟩;rw[zf4];exact h1
end
section
variable {B b bm:Nat} {w:World} {v:Value} {ns:List Nd} {L:List (Nd × Int)} {room next:Int}
structure Fit(ns:List Nd)(n:Nd):Prop where
 v0:0<=n.v
 v1:n.v<24
 l:zh ns n.l=true
 h:zh ns n.h=true
 tl:n.v<za ns n.l
 th:n.v<za ns n.h
theorem xp(B:Nat)(w:World)(n:Nat):Below B w (w.drewN n):=⟨rfl,rfl,rfl,zri _,fun _ _=>rfl⟩
theorem KP(hA:zM B w b bm v ns L room next)(o:Obj)(h:Int)(hi:I64 h)(hl:ns.length<=1000000) :
  zC 59 #[.pointer (some b),.int .i64 h] (w.alloc o) fun e w'=>e=.returned (zh ns h)/\w.alloc o=w' :=
 Kz (hA.kept (zc.alloc (fun _=>False) w o) (fun _ _ h=>h)) h hi hl
theorem K5(hA:zM B w b bm v ns L room next)(o:Obj)(h:Int)(hi:I64 h)(hl:ns.length<=1000000)(m:Nat) :
  zC 60 #[.pointer (some b),.int .i64 h] ((w.alloc o).drewN m) fun e w'=>e=.returned (.int .i64 (za ns h))/\∃m',w'=(w.alloc o).drewN m' :=
 (Kf ((hA.kept (zc.alloc (fun _=>False) w o) (fun _ _ h=>h)).kept (QV _ _ m) (fun _ _ h=>h)) h hi hl).mono fun _ _ ⟨h1,h2⟩=>⟨h1,m,h2.symm⟩
end
end Bd
namespace Bd
open Go.Maps
section
variable {B b bm:Nat} {w:World} {v:Value} {ns:List Nd} {L:List (Nd × Int)} {room next:Int}
theorem zk5(hA:zM B w b bm v ns L room next)(hl:ns.length<=1000000)(n:Nd)(hn:n.Ok)(hf:Fit ns n)(h:Int)(hin:(n,h)∈L) :
  zR 233 #[.pointer (some b),n.val] w (.tuple #[.int .i64 h,.nilIface]):=by
 obtain⟨x,lo,hi⟩:=n;obtain⟨h0,h1,h2,h3,h4,h5⟩:=hf;simp only at h0 h1 h2 h3 h4 h5;have q:=below_new w (.cells #[x,lo,hi] 200);have HL:=zH (KP hA (.cells #[x,lo,hi] 200) lo hn.2.1 hl);have HH:=zH (KP hA (.cells #[x,lo,hi] 200) hi hn.2.2 hl);have TL:=zH (K5 hA (.cells #[x,lo,hi] 200) lo hn.2.1 hl);have TH:=zH (K5 hA (.cells #[x,lo,hi] 200) hi hn.2.2 hl);have j:=hA.kept (zc.alloc (fun _=>False) w (.cells #[x,lo,hi] 200)) (fun _ _ h=>h);obtain⟨D,hD,hR⟩:=j.hmap;have o:Hid (∀W:World,zc (fun _=>False) (w.alloc (.cells #[x,lo,hi] 200)) W->(Instr.lookup 191 (.map (some bm)) (.agg #[x,lo,hi]) true).run prog W=.ok (.tuple #[.int .i64 h,true]) W):=fun W hW=>zlt (p:=(⟨x,lo,hi⟩,h)) (Ql hD hW (fun h=>h)) hR hin;have cm:=j.cmap;obtain⟨c0,c1,c2,-⟩:=xA w (.int .i64 x) (.int .i64 lo) (.int .i64 hi) 200;rw[h2] at HL;rw[h3] at HH;clear hA hn hl h2 h3 j hD hR hin;unfold Nd.val;generalize za ns lo=tl at *;generalize za ns hi=th at *;have d1:decide (tl<=x)=false:=zf5 (by omega);have d2:decide (th<=x)=false:=zf5 (by omega);go_enter func233,ntmps233;go_wp2_with fail;refine HL.out.mono ?_;rintro e w1 ⟨rfl,rfl⟩;go_wp2_with fail;refine HH.out.mono ?_;rintro e w1 ⟨rfl,rfl⟩;clear HL HH;go_wp2_with fail;go_quiet (first|(go_at_call 60;with_reducible exact TL.out _)|(go_at_call 60;with_reducible exact TH.out _));clear TL TH;go_wp2_with fail;have hk:=QV (fun _=>False) (w.alloc (.cells #[x,lo,hi] 200)) nq;have K:=q.trans (xp w.heap.size _ nq);have J:((w.alloc (.cells #[x,lo,hi] 200)).drewN nq).cell? ⟨b,2,none⟩=some (.map (some bm)):=cm;have u:((w.alloc (.cells #[x,lo,hi] 200)).drewN nq).cell? w.heap.size=some (.int .i64 x):=c0;have y:((w.alloc (.cells #[x,lo,hi] 200)).drewN nq).cell? ⟨w.heap.size,1,none⟩=some (.int .i64 lo):=c1;have C:((w.alloc (.cells #[x,lo,hi] 200)).drewN nq).cell? ⟨w.heap.size,2,none⟩=some (.int .i64 hi):=c2;have M:=o.out _ hk.drew;clear hk o q cm c0 c1 c2 d1 d2 h4 h5;generalize (w.alloc (.cells #[x,lo,hi] 200)).drewN nq=W at *;go_region_held3 (fun w'=>w'.cell? ⟨b,2,none⟩=some (.map (some bm))/\w'.cell? w.heap.size=some (.int .i64 x)/\w'.cell? ⟨w.heap.size,1,none⟩=some (.int .i64 lo)/\w'.cell? ⟨w.heap.size,2,none⟩=some (.int .i64 hi)) (exact⟨J,u,y,C⟩) (first|fail);go_wp2;go_ret2;exact⟨rfl,K.drew⟩
end
end Bd
