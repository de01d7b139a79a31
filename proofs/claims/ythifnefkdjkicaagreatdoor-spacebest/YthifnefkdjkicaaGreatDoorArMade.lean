import Derived.Test.YthifnefkdjkicaaGreatDoorAb
import Derived.WalkSpells
import Derived.WalkLawsBesides
import Derived.Deep.DeepCutAuto
import Derived.Deep.RegionHeld3
import Derived.Deep.Light
import Derived.Lib.QuietBelow
import Derived.Lib.MinMax
import Derived.BigQuiet
import Derived.DeepKeys4
import Derived.Maps.RangeWalk
namespace Go.Proofs.YthifnefkdjkicaaGreatDoor
set_option maxHeartbeats 2000000
set_option maxRecDepth 100000
namespace Bd
open Go.RowKit Go.Maps
structure Nd where
 v:Int
 l:Int
 h:Int
 deriving DecidableEq
def Nd.val(n:Nd):Value:=.agg #[n.v,n.l,n.h]
def I64(x:Int):Prop:=-9223372036854775808<=x/\x<=9223372036854775807
def Nd.Ok(n:Nd):Prop:=I64 n.v/\I64 n.l/\I64 n.h
theorem Kz{x:Int}(h:I64 x):(Lit.int .i64 x).wf=true:=by
 obtain⟨h0,h1⟩:=h;simp[Lit.wf,IntKind.min,IntKind.max,IntKind.signed,IntKind.bits];omega
theorem JJ:laidOutB Tryz.prog=true:=by kernel_rfl
theorem zeY:(250:TypeId)<Tryz.prog.types.size:=of_decide_eq_true (by kernel_rfl)
theorem znv:(match Tryz.prog.underlying 250 with|some (.array _ _)|some (.struct _)=>true|_=>false)=true:=by rw[Tryz.underlying250]
theorem YI:Keyed Tryz.prog 250:=Keyed.of_law (deep_law_laid JJ (m:=2) (by omega) zeY (by kernel_rfl) znv)
theorem zhR:Tryz.prog.keyType 250=true:=by kernel_rfl
def Nd.lit(n:Nd):Lit:=.string (keyBytes [.int .i64 n.v,.int .i64 n.l,.int .i64 n.h])
theorem zdS:Tryz.prog.cellsOf 250=3:=by kernel_rfl
theorem JE:Tryz.prog.cellsOf 3=1:=by kernel_rfl
theorem YX(d:Nat){x:Int}(h:I64 x):Tryz.prog.keyLits (d+1) 3 [.int .i64 x]=some [.int .i64 x]:=by
 unfold Program.keyLits;rw[Tryz.underlying3];simp[Kz h]
theorem Q6(n:Nd)(h:n.Ok):keyOf Tryz.prog 250 n.val=some n.lit:=by
 have hf:n.val.formed Tryz.prog 250=true:=by simp[Value.formed,Tryz.underlying250,zdS,Nd.val]
 unfold keyOf;rw[Tryz.underlying250];simp only[zhR,hf,Bool.and_self,if_true];obtain⟨d,hd⟩:∃d,Tryz.prog.types.size+1=d+2:=⟨Tryz.prog.types.size-1,by have:0<Tryz.prog.types.size:=Nat.lt_of_le_of_lt (Nat.zero_le _) zeY;omega⟩;rw[hd];unfold Program.keyLits;rw[Tryz.underlying250];have hc:n.val.cells.toList=[.int .i64 n.v,.int .i64 n.l,.int .i64 n.h]:=rfl;rw[hc];simp[zdS,JE,YX d h.1,YX d h.2.1,YX d h.2.2,Nd.lit]
theorem zaf(n:Nd):WideAt.IsKeyLit n.lit:=trivial
theorem K4{n m:Nd}(hn:n.Ok)(hm:m.Ok)(h:n.lit=m.lit):n=m:=by
 have:=YI.inj (Q6 n hn) (h▸Q6 m hm);cases n;cases m;simpa[Nd.val] using this
structure Rep{α β:Type}(ok:α->Prop)(kl:α->Lit)(el:β->DataW Unit)(D:DataW Unit)(L:List (α × β)):Prop where
 tidy:Tidy D
 size:Maps.size D=L.length
 oks:∀p∈L,ok p.1
 has:∀a,ok a->(Maps.has D (kl a)=true↔a∈L.map Prod.fst)
 all:∀x,Maps.has D x=true->∃p∈L,x=kl p.1
 at':∀p∈L,∀z,D.atKey (kl p.1) z=el p.2
 nodup:(L.map Prod.fst).Nodup
section
variable {α β:Type} {ok:α->Prop} {kl:α->Lit} {el:β->DataW Unit} {D:DataW Unit} {L:List (α × β)}
theorem Rep.empty:Rep ok kl el (.map []) ([]:List (α × β)) :=
 ⟨tidy_empty,rfl,fun p h=>(by cases h),fun a _=>(by simp[Maps.has]),fun x h=>(by simp[Maps.has] at h),fun p h=>(by cases h),List.nodup_nil⟩
theorem Rep.not(h:Rep ok kl el D L){a:α}(ha:ok a)(hn:a∉L.map Prod.fst):Maps.has D (kl a)=false:=by
 cases e:Maps.has D (kl a) with
 |false=>rfl
 |true=>exact absurd ((h.has a ha).1 e) hn
theorem Rep.put(h:Rep ok kl el D L)(inj:∀a b,ok a->ok b->kl a=kl b->a=b)(key:∀a,WideAt.IsKeyLit (kl a)){a:α}(ha:ok a)(hn:a∉L.map Prod.fst)(b:β) :
  Rep ok kl el (D.put (kl a) (el b)) (L++[(a,b)]):=by
 have j:∀c,ok c->c≠a->kl c≠kl a:=fun c hc o e=>o (inj c a hc ha e);refine⟨h.tidy.put (key a) _,?_,?_,?_,?_,?_,?_⟩
 ·rw[size_put h.tidy,h.not ha hn];simp[h.size]
 ·intro p hp;rcases List.mem_append.1 hp with hp|hp
  ·exact h.oks p hp
  ·rw[List.mem_singleton] at hp;subst hp;exact ha
 ·intro c hc;rw[List.map_append,List.mem_append]
  by_cases e:c=a
  ·subst e;simp[has_put_same h.tidy.isMap (key c)]
  ·rw[has_put_other (j c hc e)];simp[h.has c hc,e]
 ·intro x hx
  by_cases e:x=kl a
  ·exact⟨(a,b),by simp,e⟩
  ·rw[has_put_other e] at hx;obtain⟨p,hp,hx⟩:=h.all x hx;exact⟨p,by simp[hp],hx⟩
 ·intro p hp z;rcases List.mem_append.1 hp with hp|hp
  ·rw[atKey_put_other (j p.1 (h.oks p hp) (fun e=>hn (e▸List.mem_map_of_mem hp)))];exact h.at' p hp z
  ·rw[List.mem_singleton] at hp;subst hp;exact atKey_put_same h.tidy.isMap (key a) _ _
 ·rw[List.map_append,List.nodup_append];refine⟨h.nodup,by simp,fun x hx y hy=>?_⟩;simp at hy;subst hy;exact fun e=>hn (e▸hx)
theorem Rep.del[DecidableEq α](h:Rep ok kl el D L)(inj:∀a b,ok a->ok b->kl a=kl b->a=b){p:α × β}(hp:p∈L):Rep ok kl el (D.del (kl p.1)) (L.filter fun q=>decide (q.1≠p.1)):=by
 have ha:=h.oks p hp;have y:∀c,ok c->c≠p.1->kl c≠kl p.1:=fun c hc C e=>C (inj c p.1 hc ha e);have hm:p.1∈L.map Prod.fst:=List.mem_map_of_mem hp;have o:∀(M:List (α × β)),(M.map Prod.fst).Nodup->p.1∈M.map Prod.fst->(M.filter fun q=>decide (q.1≠p.1)).length+1=M.length:=by
  intro M
  induction M with
  |nil=>intro _ h;simp at h
  |cons q M ih =>
   intro hn j;rw[List.map_cons,List.nodup_cons] at hn
   by_cases e:q.1=p.1
   ·rw[List.filter_cons_of_neg (by simp[e])];have:M.filter (fun q=>decide (q.1 ≠ p.1))=M:=List.filter_eq_self.2 (fun r hr=>by
     simp only [decide_eq_true_eq];intro e2;exact hn.1 (e ▸ e2 ▸ List.mem_map_of_mem hr))
    rw[this];rfl
   ·rw [List.filter_cons_of_pos (by simp [e]),List.length_cons,List.length_cons,ih hn.2 (by
     rw[List.map_cons,List.mem_cons] at j;rcases j with j|j
     ·exact absurd j.symm e
     ·exact j)]
 refine⟨h.tidy.del _,?_,?_,?_,?_,?_,?_⟩
 ·have h1:=size_del (k:=kl p.1) h.tidy;rw[(h.has p.1 ha).2 hm] at h1;have h2:=o L h.nodup hm;rw[h.size] at h1;simp only[if_true] at h1;omega
 ·intro q hq;exact h.oks q (List.mem_filter.1 hq).1
 ·intro c hc
  by_cases e:c=p.1
  ·rw[e,has_del_same];simp only[Bool.false_eq_true,false_iff,List.mem_map,List.mem_filter,not_exists,not_and];intro q hq e2;simp[e2] at hq
  ·rw[has_del_other (y c hc e),h.has c hc];simp only[List.mem_map,List.mem_filter];constructor
   ·rintro⟨q,hq,rfl⟩;exact⟨q,⟨hq,by simpa using e⟩,rfl⟩
   ·rintro⟨q,⟨hq,-⟩,rfl⟩;exact⟨q,hq,rfl⟩
 ·intro x hx
  by_cases e:x=kl p.1
  ·rw[e,has_del_same] at hx;cases hx
  ·rw[has_del_other e] at hx;obtain⟨q,hq,u⟩:=h.all x hx;refine⟨q,List.mem_filter.2 ⟨hq,?_⟩,u⟩;simp only[decide_eq_true_eq];intro e2;rw[e2] at u;exact e u
 ·intro q hq z;obtain⟨hq,J⟩:=List.mem_filter.1 hq;rw[atKey_del_other (y q.1 (h.oks q hq) (by simpa using J))];exact h.at' q hq z
 ·exact List.Nodup.sublist (List.Sublist.map _ List.filter_sublist) h.nodup
end
structure zc(S:Nat->Prop)(w w':World):Prop where
 os:w'.os=w.os
 tape:w'.tape=w.tape
 output:w'.output=w.output
 size:w.heap.size<=w'.heap.size
 block:∀k,k<w.heap.size->¬S k->w'.heap[k]?=w.heap[k]?
section
variable {S T:Nat->Prop} {w w' w'':World}
theorem zc.refl(S:Nat->Prop)(w:World):zc S w w:=⟨rfl,rfl,rfl,Nat.le_refl _,fun _ _ _=>rfl⟩
theorem zc.trans(h:zc S w w')(k:zc S w' w''):zc S w w'' :=
 ⟨k.os.trans h.os,k.tape.trans h.tape,k.output.trans h.output,Nat.le_trans h.size k.size,fun i hi hs=>(k.block i (Nat.lt_of_lt_of_le hi h.size) hs).trans (h.block i hi hs)⟩
theorem zc.andThen(h:zc S w w')(k:zc T w' w'')(ht:∀i,T i->i<w.heap.size->S i):zc S w w'' :=
 ⟨k.os.trans h.os,k.tape.trans h.tape,k.output.trans h.output,Nat.le_trans h.size k.size,fun i hi hs=>(k.block i (Nat.lt_of_lt_of_le hi h.size) (fun hT=>hs (ht i hT hi))).trans (h.block i hi hs)⟩
theorem zc.mono(h:zc S w w')(hs:∀i,S i->T i):zc T w w':=⟨h.os,h.tape,h.output,h.size,fun k hk hn=>h.block k hk (fun hS=>hn (hs k hS))⟩
theorem zc.drew(h:zc S w w'):zc S w w'.drew:=⟨h.os,h.tape,h.output,h.size,h.block⟩
theorem zc.of_below(h:zB w w')(S:Nat->Prop):zc S w w':=⟨h.os,h.tape,h.output,h.size,fun k hk _=>h.block k hk⟩
theorem zc.below(h:zc S w w'){B:Nat}(hB:B<=w.heap.size)(hs:∀i,S i->B<=i):Below B w w':=⟨h.os,h.tape,h.output,h.size,fun k hk=>h.block k (Nat.lt_of_lt_of_le hk hB) (fun hS=>by have:=hs k hS;omega)⟩
theorem zc.of_grown{row:Option Nat}(h:w.grownBy w' row)(hs:∀i,row=some i->S i):zc S w w':=⟨h.os,h.tape,h.output,h.size,fun k hk hn=>h.block k hk (fun e=>hn (hs k e.symm))⟩
theorem zc.alloc(S:Nat->Prop)(w:World)(o:Obj):zc S w (w.alloc o):=zc.of_below (zF.alloc zN o) S
theorem zc.setCell(w:World)(a:Addr)(u:Value)(h:S a.block):zc S w (w.setCell a u) :=
 ⟨rfl,rfl,rfl,by simp[World.setCell],fun k _ hn=>Below.heap_setCell w a u k (fun e=>hn (e▸h))⟩
theorem zc.cell(h:zc S w w'){a:Addr}(hlt:a.block<w.heap.size)(hn:¬S a.block):w'.cell? a=w.cell? a:=World.cell?_of_block (h.block a.block hlt hn)
theorem zc.frozen(h:zc S w w'){a:Addr}(hlt:a.block<w.heap.size)(hn:¬S a.block):w'.frozen? a=w.frozen? a:=World.frozen?_of_block (h.block a.block hlt hn)
theorem zc.grown(h:zc S w w'){r:Nat}(hs:∀i,S i->i=r):w.grownBy w' (some r):=⟨h.os,h.tape,h.output,h.size,fun k hk hn=>h.block k hk (fun hS=>hn (by rw[hs k hS]))⟩
end
end Bd
namespace Bd
open Go.RowKit Go.Maps
def zA(ns:List Nd):List Value:=ns.flatMap fun n=>[.int .i64 n.v,.int .i64 n.l,.int .i64 n.h]
def nd(ns:List Nd)(i:Nat):Nd:=ns.getD i ⟨0,0,0⟩
theorem ZY(ns:List Nd)(i:Nat)(h:i<ns.length):nd ns i=ns[i]:=by unfold nd;simp[List.getD_eq_getElem?_getD,List.getElem?_eq_getElem h]
theorem Z4(ns:List Nd):(zA ns).length=ns.length*3:=by
 induction ns with
 |nil=>rfl
 |cons n ns ih=>unfold zA at *;rw[List.flatMap_cons,List.length_append,ih];simp;omega
theorem XP(a b:List Nd):zA (a++b)=zA a++zA b:=by simp[zA]
theorem Yx:∀(ns:List Nd) (i:Nat),i<ns.length->(zA ns)[i*3]?=some (.int .i64 (nd ns i).v)/\(zA ns)[i*3+1]?=some (.int .i64 (nd ns i).l)/\(zA ns)[i*3+2]?=some (.int .i64 (nd ns i).h)
 |[],i,h=>by simp at h
 |n :: ns,0,_=>by simp[zA,nd]
 |n :: ns,i+1,h=>by
  have ih:=Yx ns i (by simpa using h);have e:nd (n :: ns) (i+1)=nd ns i:=by simp[nd]
  rw[e];have e2:∀j,(zA (n :: ns))[j+3]?=(zA ns)[j]?:=fun j=>by
   show ([Value.int .i64 n.v,.int .i64 n.l,.int .i64 n.h]++zA ns)[j+3]?=_;rw[List.getElem?_append_right (by simp)];simp
  rw[show (i+1)*3=i*3+3 by omega,show i*3+3+1=(i*3+1)+3 by omega,show i*3+3+2=(i*3+2)+3 by omega,e2,e2,e2];exact ih
def Own(b bm:Nat)(v:Value)(k:Nat):Prop:=k=b\/k=bm\/v.ownBlock=some k
structure zP(B:Nat)(w:World)(b bm:Nat)(v:Value)(ns:List Nd)(L:List (Nd × Int))(room next:Int):Prop where
 lt:b<w.heap.size
 croom:w.cell? b=some (.int .i64 room)
 cnodes:w.cell? ⟨b,1,none⟩=some v
 cmap:w.cell? ⟨b,2,none⟩=some (.map (some bm))
 cnext:w.cell? ⟨b,3,none⟩=some (.int .i64 next)
 froz:∀i,w.frozen? ⟨b,i,none⟩=false
 row:w.ownsRow B 250 3 v ns.length (zA ns)
 hmap:∃D,w.ownsMap Tryz.prog 250 (plainElem Tryz.prog 3) bm L.length D/\Rep Nd.Ok Nd.lit (fun x:Int=>.lit (.int .i64 x)) D L
 d1:v.ownBlock≠some b
 d2:bm≠b
 d3:v.ownBlock≠some bm
 B1:B<=b
 B2:B<=bm
section
variable {B b bm:Nat} {w w':World} {v:Value} {ns:List Nd} {L:List (Nd × Int)} {room next:Int}
theorem YV{S:Nat->Prop}{e:TypeId}{size n:Nat}{xs:List Value}(h:w.ownsRow B e size v n xs)(hk:zc S w w')(hn:∀k,v.ownBlock=some k->¬S k):w'.ownsRow B e size v n xs:=by
 refine⟨h.1,?_⟩;rcases h.2 with h1|⟨g,j,o,h1,h2,h3,h4⟩
 ·exact .inl h1
 ·refine .inr ⟨g,j,o,h1,h2,?_,h4⟩;have p:g<w.heap.size:=by
   by_cases hl:g<w.heap.size
   ·exact hl
   ·rw[Array.getElem?_eq_none (by omega)] at h3;simp at h3
  rw[hk.block g p (hn g (by rw[h1];rfl))];exact h3
theorem Z6{S:Nat->Prop}{k:TypeId}{R:Value->Option (DataW Unit × List MemPlace)}{n:Nat}{D:DataW Unit}(h:w.ownsMap Tryz.prog k R bm n D)(hk:zc S w w')(hn:¬S bm):w'.ownsMap Tryz.prog k R bm n D:=by
 have o:=h.lt;obtain⟨es,j,h1,h2⟩:=h;exact⟨es,j,(hk.block bm o hn).trans h1,h2⟩
theorem zP.kept{S:Nat->Prop}(h:zP B w b bm v ns L room next)(hk:zc S w w')(hn:∀k,Own b bm v k->¬S k):zP B w' b bm v ns L room next:=by
 have hb:=hn b (.inl rfl);obtain⟨D,hD,hR⟩:=h.hmap;exact ⟨Nat.lt_of_lt_of_le h.lt hk.size,(hk.cell (a:=b) h.lt hb).trans h.croom,(hk.cell (a:=⟨b,1,none⟩) h.lt hb).trans h.cnodes,(hk.cell (a:=⟨b,2,none⟩) h.lt hb).trans h.cmap,(hk.cell (a:=⟨b,3,none⟩) h.lt hb).trans h.cnext,fun i=>(hk.frozen (a:=⟨b,i,none⟩) h.lt hb).trans (h.froz i),
  YV h.row hk (fun k hv=>hn k (.inr (.inr hv))),⟨D,Z6 hD hk (hn bm (.inr (.inl rfl))),hR⟩,h.d1,h.d2,h.d3,h.B1,h.B2⟩
theorem zP.form(h:zP B w b bm v ns L room next):∃a j,v=.slice a ns.length j/\(ns.length≠0->∃g,a=some ⟨g,0,none⟩/\B<=g/\g<w.heap.size):=by
 rcases h.row.2 with ⟨h1,h2⟩|⟨g,j,o,h1,hB,_,h2,_⟩
 ·exact⟨none,0,by rw[h1,h2],fun h=>absurd h2 h⟩
 ·exact⟨_,j,h1,fun _=>⟨g,rfl,hB,(h.row.lt g (by rw[h1];rfl)).2⟩⟩
end
def za(ns:List Nd)(h:Int):Int:=if 2<=h/\h<2+(ns.length:Int) then (nd ns (h-2).toNat).v else 24
theorem Xr{B b bm:Nat}{w:World}{v:Value}{ns:List Nd}{L:List (Nd × Int)}{room next:Int}(hA:zP B w b bm v ns L room next)(h:Int)(hi:I64 h)(hl:ns.length<=1000000) :
  zC 98 #[.pointer (some b),h] w fun e w'=>e=.returned (.int .i64 (za ns h))/\w=w':=by
 obtain⟨p,q⟩:=hi;obtain⟨a,o,rfl,hg⟩:=hA.form;have cn:=hA.cnodes;have HR:=zH hA.row;have HG:=zH hg;clear hA hg;unfold za
 by_cases hc:2<=h/\h<2+(ns.length:Int)
 ·rw[zA2 hc];obtain⟨h2,h3⟩:=hc;obtain⟨i,e2⟩:∃i:Nat,h-2=(i:Int):=⟨(h-2).toNat,by omega⟩;obtain⟨g,rfl,-⟩:=HG.out (by omega);have e1:(h-2).toNat=i:=by omega
  rw[e1];have j:i<ns.length:=by omega
  have ci:=HR.out.cellAt (i*3) (by omega);rw[(Yx ns i j).1] at ci;generalize (nd ns i).v=x at *;clear e1 HR HG;go_enter Tryz.func98,Tryz.ntmps98;go_wp2;go_ret;exact⟨rfl,rfl⟩
 ·rw[zA1 hc]
  by_cases h2:h<2
  ·clear hc HR HG;go_enter Tryz.func98,Tryz.ntmps98;go_wp2;go_ret;exact⟨rfl,rfl⟩
  ·have h3:2+(ns.length:Int)<=h:=by omega
   clear hc HR HG;go_enter Tryz.func98,Tryz.ntmps98;go_wp2;go_ret;exact⟨rfl,rfl⟩
end Bd
namespace Bd
open Go.RowKit Go.Maps
def zj(ns:List Nd)(h:Int):Bool:=decide (h=0)||decide (h=1)||decide (za ns h<24)
section
variable {B b bm:Nat} {w:World} {v:Value} {ns:List Nd} {L:List (Nd × Int)} {room next:Int}
theorem KK(hA:zP B w b bm v ns L room next)(h:Int)(hi:I64 h)(hl:ns.length<=1000000) :
  zC 65 #[.pointer (some b),h] w fun e w'=>e=.returned (.bool (zj ns h))/\w=w':=by
 have HT:=zH (Xr hA h hi hl);clear hA hl;unfold zj;generalize za ns h=t at *
 by_cases h0:h=0
 ·subst h0;go_enter Tryz.func65,Tryz.ntmps65;go_wp2;go_ret;exact⟨rfl,rfl⟩
 ·by_cases h1:h=1
  ·subst h1;go_enter Tryz.func65,Tryz.ntmps65;go_wp2;go_ret;exact⟨rfl,rfl⟩
  ·have e0:(h==0)=false:=by rw[beq_eq_false_iff_ne];exact h0
   have e1:(h==1)=false:=by rw[beq_eq_false_iff_ne];exact h1
   have d0:decide (h=0)=false:=decide_eq_false h0;have d1:decide (h=1)=false:=decide_eq_false h1;rw[d0,d1,Bool.false_or,Bool.false_or];clear h0 h1 d0 d1;go_enter Tryz.func65,Tryz.ntmps65;go_wp2_with fail;refine HT.out.mono ?_;rintro e w1 ⟨rfl,rfl⟩;go_wp2;go_ret;exact⟨rfl,rfl⟩
def zt(ns:List Nd)(h:Int):Nd:=if za ns h=24 then ⟨0,0,0⟩ else nd ns (h-2).toNat
theorem xr(w:World)(A B C:Value)(t:TypeId):(w.alloc (.cells #[A,B,C] t)).cell? w.heap.size=some A/\(w.alloc (.cells #[A,B,C] t)).cell? ⟨w.heap.size,1,none⟩=some B/\(w.alloc (.cells #[A,B,C] t)).cell? ⟨w.heap.size,2,none⟩=some C/\(∀i,(w.alloc (.cells #[A,B,C] t)).frozen? ⟨w.heap.size,i,none⟩=false):=⟨by simp,by simp,by simp,fun i=>by simp⟩
theorem below_new(w:World)(o:Obj):zB w (w.alloc o):=zF.alloc zN _
theorem XV(hA:zP B w b bm v ns L room next)(h:Int)(hi:I64 h)(hl:ns.length<=1000000) :
  zR 181 #[.pointer (some b),.int .i64 h] w (.tuple #[(zt ns h).val,.bool (decide (za ns h≠24))]):=by
 have j:=hA.kept (zc.alloc (fun _=>False) w (.cells #[(0:Int),(0:Int),(0:Int)] 250)) (fun _ _ h=>h);have HT:=zH (Xr j h hi hl);have K:=hA.lt;clear hA;obtain⟨C,J⟩:=hi;obtain⟨c0,c1,c2,fz⟩:=xr w (.int .i64 0) (.int .i64 0) (.int .i64 0) 250;have f0:=fz 0;have f1:=fz 1;have f2:=fz 2;have u:=below_new w (.cells #[(0:Int),(0:Int),(0:Int)] 250);clear fz;unfold zt
 by_cases ht:za ns h=24
 ·rw[zA2 ht,decide_eq_false (by simp[ht])];rw[ht] at HT;clear ht j;go_enter Tryz.func181,Tryz.ntmps181;go_wp2_with fail;refine HT.out.mono ?_;rintro e w1 ⟨rfl,rfl⟩;clear HT;go_wp2;refine bodyPost_ret (v:=.tuple #[.agg #[(0:Int),(0:Int),(0:Int)],false]) (by simp[results,Tryz.results181,go_sem]) rfl ?_;refine⟨rfl,?_⟩;exact below_new w _
 ·rw[zA1 ht,decide_eq_true (by simp[ht])];have hc:2<=h/\h<2+(ns.length:Int):=by
   unfold za at ht
   by_cases hc:2<=h/\h<2+(ns.length:Int)
   ·exact hc
   ·rw[zA1 hc] at ht;exact absurd rfl ht
  obtain⟨h2,h3⟩:=hc;obtain⟨i,e2⟩:∃i:Nat,h-2=(i:Int):=⟨(h-2).toNat,by omega⟩;have e1:(h-2).toNat=i:=by omega
  obtain⟨a,p,rfl,hg⟩:=j.form;obtain⟨g,rfl,q,y⟩:=hg (by omega);have o:i<ns.length:=by omega
  have ca:=j.row.cellAt (i*3) (by omega);have cb:=j.row.cellAt (i*3+1) (by omega);have cc:=j.row.cellAt (i*3+2) (by omega);have cn:=j.cnodes;obtain⟨n1,n2,n3⟩:=Yx ns i o;rw[n1] at ca;rw[n2] at cb;rw[n3] at cc;rw[e1];have et:(za ns h==24)=false:=by rw[beq_eq_false_iff_ne];exact ht
  generalize za ns h=tt at *;generalize nd ns i=n at *;clear n1 n2 n3 j e1 ht;go_enter Tryz.func181,Tryz.ntmps181;go_wp2_with fail;refine HT.out.mono ?_;rintro e w1 ⟨rfl,rfl⟩;clear HT;go_wp2;refine bodyPost_ret (v:=.tuple #[n.val,true]) (by simp[results,Tryz.results181,go_sem,Nd.val]) rfl ?_;refine⟨rfl,?_⟩;exact below_new w _
theorem JI(hA:zP B w b bm v ns L room next) :
  zC 93 #[.pointer (some b)] w fun e w'=>e=.returned (.int .i64 L.length)/\w=w':=by
 obtain⟨D,hD,hR⟩:=hA.hmap;have cm:=hA.cmap;have hs:(Maps.size D:Int)=(L.length:Int):=by rw[hR.size]
 clear hA hR;go_enter Tryz.func93,Tryz.ntmps93;go_wp2_with (at_len;refine wpList_len_own _ rfl _ 179 rfl 250 3 Tryz.underlying179 _ bm _ D rfl hD ?_);go_ret;exact⟨by rw[<-hs];rfl,rfl⟩
end
end Bd
namespace Bd
open Go.RowKit Go.Maps
section
variable {B b bm:Nat} {w:World} {v:Value} {ns:List Nd} {L:List (Nd × Int)} {room next:Int}
theorem zP.setNext(h:zP B w b bm v ns L room next)(n:Int):zP B (w.setCell ⟨b,3,none⟩ (.int .i64 n)) b bm v ns L room n:=by
 obtain⟨D,hD,hR⟩:=h.hmap;have hk:zc (fun k=>k=b) w (w.setCell ⟨b,3,none⟩ (.int .i64 n)):=zc.setCell _ _ _ rfl;refine⟨by simpa[World.setCell] using h.lt,?_,?_,?_,?_,fun i=>by rw[World.frozen?_setCell];exact h.froz i,YV h.row hk (fun k hv e=>h.d1 (e▸hv)),⟨D,Z6 hD hk h.d2,hR⟩,h.d1,h.d2,h.d3,h.B1,h.B2⟩
 ·rw[World.cell?_setCell_other _ _ _ _ (by simp)];exact h.croom
 ·rw[World.cell?_setCell_other _ _ _ _ (by simp)];exact h.cnodes
 ·rw[World.cell?_setCell_other _ _ _ _ (by simp)];exact h.cmap
 ·exact World.cell?_setCell_same' _ _ _ (by simp[h.cnext])
theorem zP.setNodes{w':World}{v':Value}{ns':List Nd}(h:zP B w b bm v ns L room next)(hk:zc (fun k=>v.ownBlock=some k) w w')(hr:w'.ownsRow B 250 3 v' ns'.length (zA ns'))(hv:v'.ownBlock=v.ownBlock\/∃g,v'.ownBlock=some g/\w.heap.size<=g):zP B (w'.setCell ⟨b,1,none⟩ v') b bm v' ns' L room next:=by
 obtain⟨D,hD,hR⟩:=h.hmap;have j:zc (fun k=>k=b) w' (w'.setCell ⟨b,1,none⟩ v'):=zc.setCell _ _ _ rfl;have hlt':b<w'.heap.size:=Nat.lt_of_lt_of_le h.lt hk.size;have p:=hD.lt;have d1:v'.ownBlock≠some b:=by
  rcases hv with hv|⟨g,hg,o⟩
  ·rw[hv];exact h.d1
  ·rw[hg];intro e;cases e;have:=h.lt;omega
 have d3:v'.ownBlock≠some bm:=by
  rcases hv with hv|⟨g,hg,o⟩
  ·rw[hv];exact h.d3
  ·rw[hg];intro e;cases e;omega
 have e:∀i,w'.cell? ⟨b,i,none⟩=w.cell? ⟨b,i,none⟩:=fun i=>hk.cell (a:=⟨b,i,none⟩) h.lt h.d1;refine⟨by simpa[World.setCell] using hlt',?_,?_,?_,?_,fun i=>by rw[World.frozen?_setCell];exact(hk.frozen (a:=⟨b,i,none⟩) h.lt h.d1).trans (h.froz i),YV hr j (fun k hv e=>d1 (e▸hv)),⟨D,Z6 (Z6 hD hk h.d3) j h.d2,hR⟩,d1,h.d2,d3,h.B1,h.B2⟩
 ·rw[World.cell?_setCell_other _ _ _ _ (by simp),e];exact h.croom
 ·exact World.cell?_setCell_same' _ _ _ (by rw[e];simp[h.cnodes])
 ·rw[World.cell?_setCell_other _ _ _ _ (by simp),e];exact h.cmap
 ·rw[World.cell?_setCell_other _ _ _ _ (by simp),e];exact h.cnext
theorem zmr:(Tryz.prog.info? 250).map (fun i=>(i.zero,i.size,i.bytes))=some (some (.agg #[(0:Int),(0:Int),(0:Int)]),3,24):=by kernel_rfl
theorem Ya{i:Nat}(h:i<ns.length):za ns (2+(i:Int))=(nd ns i).v:=by
 unfold za;rw[zA2 (by omega),show (2+(i:Int)-2).toNat=i by omega]
theorem zjg:za ns (2+(ns.length:Int))=24:=by
 unfold za;rw[zA1 (by omega)]
theorem zoq(w:World)(x y z:Value)(t:TypeId):∀j u,[x,y,z][j]?=some u->(w.alloc (.cells #[x,y,z] t)).cell? ((w.heap.size:Addr).add j)=some u:=by
 intro j u h
 match j,h with
 |0,h=>simp at h;subst h;simp[Addr.add]
 |1,h=>simp at h;subst h;simp[Addr.add]
 |2,h=>simp at h;subst h;simp[Addr.add]
 |j+3,h=>simp at h
def YN(w:World)(b:Nat):Int:=match w.cell? ⟨b,3,none⟩ with|some (.int _ n)=>n|_=>0
theorem Qx(S:Nat->Prop)(w:World)(n:Nat):zc S w (w.drewN n):=⟨rfl,rfl,rfl,Nat.le_refl _,fun _ _ _=>rfl⟩
def znV(B:Nat)(w:World)(b bm:Nat)(v:Value)(ns:List Nd)(L:List (Nd × Int))(room:Int)(i:Nat)(e:Ending)(w':World):Prop:=∃(k:Nat) (v':Value),e=.returned (.int .i64 (2+(k:Int)))/\k<=ns.length/\(∀j,i<=j->j<k->(nd ns j).v<24)/\(k<ns.length->¬(nd ns k).v<24) /\
   zP B w' b bm v' (if k=ns.length then ns++[⟨24,0,0⟩] else ns) L room (2+(k:Int))/\zc (Own b bm v) w w'/\(v'.ownBlock=v.ownBlock\/∃g,v'.ownBlock=some g/\w.heap.size<=g)
theorem zoh(hA:zP B w b bm v ns L room next)(hl:ns.length<=100000)(i:Nat)(hn:next=2+(i:Int))(hi:i<=ns.length)(hB:B<=w.heap.size) :
  zC 231 #[.pointer (some b)] w (znV B w b bm v ns L room i):=by
 subst hn;obtain⟨i0,ae,ag,ah,ai⟩:=info_parts zmr;have HA:=zH hA;clear hA;go_enter Tryz.func231,Tryz.ntmps231;go_wp2_with fail;go_loopw [7] (fun _ wr=>∃k:Nat,i<=k/\k<=ns.length/\(∀j,i<=j->j<k->(nd ns j).v<24)/\zP B wr b bm v ns L room (2+(k:Int))/\zc (Own b bm v) w wr/\YN wr b=2+(k:Int))
  (fun _ wr=>(2+(ns.length:Int)-YN wr b).toNat)
 case atStart=>exact⟨i,Nat.le_refl _,hi,fun j h1 h2=>by omega,HA.out,zc.refl _ _,by unfold YN;rw[HA.out.cnext]⟩
 case round =>
  obtain⟨k,an,hk,R,q,X,a4⟩:=hrel;have HO:=zH R;have a8:=zH a4;have aj:=q.cnext;have am:=q.froz 3;have HT:=zH (Xr q (2+(k:Int)) ⟨by omega,by omega⟩ (by omega));clear R a4 HA
  by_cases hend:k=ns.length\/¬(nd ns k).v<24
  ·have ht:¬za ns (2+(k:Int))<24:=by
    by_cases e:k=ns.length
    ·rw[e,zjg];omega
    ·rw[Ya (by omega)];rcases hend with h|h
     ·exact absurd h e
     ·exact h
   have a9:=q.cnodes;have aa:=q.froz 1;obtain⟨a,y,a7,-⟩:=q.form;have HE:=zH hend;have C:=zH q;have V:=zH X;generalize za ns (2+(k:Int))=t at *;clear hend q X
   by_cases en:k=ns.length
   ·subst en;subst a7;go_wp2_with fail;refine HT.out.mono ?_;rintro e w1 ⟨rfl,rfl⟩;clear HT;go_wp2_with fail;go_quiet (fail);have U:wr.drew.ownsRow B 250 3 (.slice a ns.length y) ns.length (zA ns):=C.out.row;go_wp2_with (at_builtin;refine wpList_append_own_at _ rfl _ _ 180 rfl B 250 i0 (.agg #[(0:Int),(0:Int),(0:Int)]) 3 24 Tryz.underlying180 ae ag ah ai rfl (by decide) _ _ _ rfl (U.alloc _) wr.heap.size 1 1 [.int .i64 24,.int .i64 0,.int .i64 0] rfl rfl (zoq _ _ _ _ _) ?c2 ?c3 ?c4 ?c5 ?_)
    case c2=>intro u hu;simp at hu;rcases hu with rfl|rfl<;>rfl
    case c3=>unfold maxLen;omega
    case c4=>omega
    case c5=>have:=V.out.size;show B<=(World.alloc _ _).heap.size;simp;omega
    intro v' w4 p o Z M;have K:zc (fun k=>(Value.slice a ns.length y).ownBlock=some k) wr w4:=(zc.alloc _ wr _).andThen (zc.of_grown (w:=wr.alloc (.cells #[(24:Int),(0:Int),(0:Int)] 250)) (S:=fun k=>(Value.slice a ns.length y).ownBlock=some k) ⟨o.os,o.tape,o.output,o.size,o.block⟩ (fun i h=>h)) (fun i h _=>h);have a5:w4.ownsRow B 250 3 v' (ns++[(⟨24,0,0⟩:Nd)]).length (zA (ns++[(⟨24,0,0⟩:Nd)])):=by
     rw[XP,List.length_append];exact p
    have a0:v'.ownBlock=(Value.slice a ns.length y).ownBlock\/∃g,v'.ownBlock=some g/\wr.heap.size<=g:=M.imp id (fun h=>⟨_,h,by first|omega|simp⟩);have a1:=C.out.setNodes K a5 a0;have a3:=C.out.lt;have a2:=C.out.d1;have c1:w4.cell? ⟨b,1,none⟩=some (.slice a ns.length y):=(K.cell (a:=⟨b,1,none⟩) a3 a2).trans a9;have f1:w4.frozen? ⟨b,1,none⟩=false:=(K.frozen (a:=⟨b,1,none⟩) a3 a2).trans aa;have c3:=a1.cnext;have ab:zc (Own b bm (.slice a ns.length y)) w (w4.setCell ⟨b,1,none⟩ v'):=(V.out.trans (K.mono (fun i h=>.inr (.inr h)))).trans (zc.setCell _ _ _ (.inl rfl));have ad:v'.ownBlock=(Value.slice a ns.length y).ownBlock\/∃g,v'.ownBlock=some g/\w.heap.size<=g:=a0.imp id (fun⟨g,h1,h2⟩=>⟨g,h1,Nat.le_trans V.out.size h2⟩);obtain⟨a',n',J,rfl⟩:∃a' n' J,v'=.slice a' n' J:=by
     rcases p.2 with ⟨h1,-⟩|⟨g,cp,ak,h1,-⟩
     ·exact⟨_,_,_,h1⟩
     ·exact⟨_,_,_,h1⟩
    clear p o Z M U K a5 a0;go_wp2;go_ret;exact⟨ns.length,_,rfl,Nat.le_refl _,HO.out,fun h=>absurd h (Nat.lt_irrefl _),by rw[zA2 rfl];exact a1,ab,ad⟩
   ·have e5:(2+(k:Int)==2+(ns.length:Int))=false:=by rw[beq_eq_false_iff_ne];omega
    have e6:((k:Int)==(ns.length:Int))=false:=by rw[beq_eq_false_iff_ne];omega
    subst a7;go_wp2_with fail;refine HT.out.mono ?_;rintro e w1 ⟨rfl,rfl⟩;clear HT;go_wp2_with fail;go_quiet (fail);go_wp2;go_ret;refine⟨k,_,rfl,hk,HO.out,fun h=>?_,by rw[zA1 en];exact C.out.kept (Qx _ _ _) (fun _ _ h=>h),V.out.trans (Qx _ _ _),.inl rfl⟩;rcases HE.out with h2|h2
    ·exact absurd h2 en
    ·omega
  ·have af:k<ns.length:=by omega
   have hv:(nd ns k).v<24:=by
    rcases not_or.1 hend with ⟨-,h⟩;exact Classical.not_not.1 h
   rw[Ya af] at HT;have HV:=zH hv;have Y:=q.setNext (2+((k:Int)+1));have ac:=X.trans (zc.setCell (S:=Own b bm v) wr ⟨b,3,none⟩ (.int .i64 (2+((k:Int)+1))) (.inl rfl));have e1:2+(k:Int)+1=2+((k:Int)+1):=by omega
   obtain⟨t,a6⟩:∃t,t=(nd ns k).v:=⟨_,rfl⟩;rw[<-a6] at HT hv;clear a6 hend q X;go_wp2_with fail;refine HT.out.mono ?_;rintro e w1 ⟨rfl,rfl⟩;clear HT;go_wp2;go_roundw
   case rel =>
    refine⟨k+1,by omega,by omega,fun j h1 h2=>?_,Y,ac,by unfold YN;rw[Y.cnext];rfl⟩
    by_cases e:j=k
    ·subst e;exact HV.out
    ·exact HO.out j h1 (by omega)
   case measure =>
    have e3:YN (wr.setCell ⟨b,3,none⟩ (.int .i64 (2+((k:Int)+1)))) b=2+((k:Int)+1):=by unfold YN;rw[Y.cnext]
    rw[a8.out,e3];omega
end
end Bd
namespace Bd
def mk(m:List Bool)(i:Nat):Bool:=m.getD i false
theorem zdW(m:List Bool)(i:Nat)(h:i<m.length):mk m i=m[i]:=by unfold mk;simp[List.getD_eq_getElem?_getD,List.getElem?_eq_getElem h]
theorem KM(m:List Bool)(k i:Nat)(h:k<m.length):mk (m.set k true) i=(decide (i=k)||mk m i):=by
 unfold mk;simp only[List.getD_eq_getElem?_getD,List.getElem?_set]
 by_cases e:k=i
 ·subst e;simp[h]
 ·rw[zA1 e,decide_eq_false (fun h=>e h.symm),Bool.false_or]
theorem zfg(n i:Nat):mk (List.replicate n false) i=false:=by
 unfold mk;simp only[List.getD_eq_getElem?_getD,List.getElem?_replicate];split<;>rfl
def zY:Nat->List Nd->Int->List Bool->List Bool
 |0,_,_,m=>m
 |d+1,ns,h,m =>
  if za ns h=24\/mk m (h-2).toNat=true then m
  else zY d ns (nd ns (h-2).toNat).h (zY d ns (nd ns (h-2).toNat).l (m.set (h-2).toNat true))
theorem Qz{ns:List Nd}{h:Int}(ht:za ns h≠24):2<=h/\(h-2).toNat<ns.length/\za ns h=(nd ns (h-2).toNat).v:=by
 unfold za at *
 by_cases hc:2<=h/\h<2+(ns.length:Int)
 ·rw[zA2 hc];exact⟨hc.1,by omega,rfl⟩
 ·rw[zA1 hc] at ht;exact absurd rfl ht
theorem Z5:∀(d:Nat) (ns:List Nd) (h:Int) (m:List Bool),(zY d ns h m).length=m.length
 |0,_,_,_=>rfl
 |d+1,ns,h,m=>by
  unfold zY;split
  ·rfl
  ·rw[Z5 d,Z5 d,List.length_set]
theorem XY:∀(d:Nat) (ns:List Nd) (h:Int) (m:List Bool),m.length=ns.length->∀i,mk m i=true->mk (zY d ns h m) i=true
 |0,_,_,_,_,_,hi=>hi
 |d+1,ns,h,m,hl,i,hi=>by
  unfold zY;split
  ·exact hi
  ·rename_i hn;have hb:=Qz (not_or.1 hn).1;refine XY d ns _ _ (by rw[Z5,List.length_set,hl]) i (XY d ns _ _ (by rw[List.length_set,hl]) i ?_);rw[KM _ _ _ (by omega),hi,Bool.or_true]
structure qd(ns:List Nd):Prop where
 v0:∀j,j<ns.length->0<=(nd ns j).v/\(nd ns j).v<=24
 l:∀j,j<ns.length->(nd ns j).v<24->(nd ns j).v<za ns (nd ns j).l/\zj ns (nd ns j).l=true
 h:∀j,j<ns.length->(nd ns j).v<24->(nd ns j).v<za ns (nd ns j).h/\zj ns (nd ns j).h=true
 ok:∀j,j<ns.length->(nd ns j).Ok
theorem qx{ns:List Nd}(hr:qd ns)(h:Int):0<=za ns h/\za ns h<=24:=by
 by_cases ht:za ns h=24
 ·rw[ht];omega
 ·obtain⟨h1,h2,h3⟩:=Qz ht;rw[h3];exact hr.v0 _ h2
def yW(ns:List Nd)(m:List Bool)(h:Int):Prop:=za ns h=24\/mk m (h-2).toNat=true
theorem yW.grow{ns:List Nd}{m:List Bool}{h:Int}(hm:yW ns m h)(hl:m.length=ns.length)(d:Nat)(h':Int):yW ns (zY d ns h' m) h:=hm.imp id (XY d ns h' m hl _)
theorem Ja{ns:List Nd}(hr:qd ns):∀(d:Nat) (h:Int) (m:List Bool),m.length=ns.length->24<=za ns h+d ->
  yW ns (zY d ns h m) h/\∀i,i<ns.length->mk (zY d ns h m) i=true->mk m i=false->yW ns (zY d ns h m) (nd ns i).l/\yW ns (zY d ns h m) (nd ns i).h
 |0,h,m,_,hd=>by
  have:=(qx hr h).2;refine⟨.inl (by omega),fun i _ h1 h2=>?_⟩;unfold zY at h1;rw[h1] at h2;cases h2
 |d+1,h,m,hl,hd=>by
  unfold zY;split
  ·rename_i hc;exact⟨hc,fun i _ h1 h2=>by rw[h1] at h2;cases h2⟩
  ·rename_i hn;obtain⟨b1,b2,b3⟩:=Qz (not_or.1 hn).1;have hv:(nd ns (h-2).toNat).v<24:=by have:=(qx hr h).2;have:=(not_or.1 hn).1;omega
   generalize hk:(h-2).toNat=k at *;have o:(m.set k true).length=ns.length:=by rw[List.length_set,hl]
   have j:(zY d ns (nd ns k).l (m.set k true)).length=ns.length:=by rw[Z5,o]
   have A:=Ja hr d (nd ns k).l (m.set k true) o (by have:=(hr.l k b2 hv).1;omega);have C:=Ja hr d (nd ns k).h (zY d ns (nd ns k).l (m.set k true)) j (by have:=(hr.h k b2 hv).1;omega);have p:mk (m.set k true) k=true:=by rw[KM _ _ _ (by omega)];simp
   refine⟨.inr (by rw[hk];exact XY d ns _ _ j _ (XY d ns _ _ o _ p)),fun i hi h1 h2=>?_⟩
   by_cases e:i=k
   ·subst e;exact⟨A.1.grow j d _,C.1⟩
   ·by_cases h3:mk (zY d ns (nd ns k).l (m.set k true)) i=true
    ·have:=A.2 i hi h3 (by rw[KM _ _ _ (by omega),h2,decide_eq_false e];rfl);exact⟨this.1.grow j d _,this.2.grow j d _⟩
    ·exact C.2 i hi h1 (by simpa using h3)
def qy(ns:List Nd)(M:List Bool):List Nd:=(List.range ns.length).map fun i=>if mk M i=true then nd ns i else ⟨24,0,0⟩
theorem Zv(ns:List Nd)(M:List Bool):(qy ns M).length=ns.length:=by simp[qy]
theorem QE(ns:List Nd)(M:List Bool)(i:Nat)(h:i<ns.length):nd (qy ns M) i=if mk M i=true then nd ns i else ⟨24,0,0⟩:=by
 rw[ZY _ i (by rw[Zv];exact h)];simp[qy]
theorem zdz{ns:List Nd}{M:List Bool}{h:Int}:za (qy ns M) h=if mk M (h-2).toNat=true then za ns h else 24:=by
 unfold za;rw[Zv]
 by_cases hc:2<=h/\h<2+(ns.length:Int)
 ·rw[zA2 hc,zA2 hc,QE ns M _ (by omega)];split<;>rfl
 ·rw[zA1 hc,zA1 hc];split<;>rfl
end Bd
namespace Bd
open Go.RowKit Go.Maps
theorem K8(w:World):(zeroValue 3).run Tryz.prog w=.ok (.int .i64 0) w:=by kernel_rfl
theorem YH{x:Int}(h:I64 x):plainElem (H:=Unit) Tryz.prog 3 (.int .i64 x)=some (.lit (.int .i64 x),[]):=plainElem_int Tryz.underlying3 (Kz h)
theorem Qh{P:Program}{k:TypeId}{R:Value->Option (DataW Unit × List MemPlace)}{w:World}{b n:Nat}{D:DataW Unit}(h:w.ownsMap P k R b n D):w.ownsMap P k R b (Maps.size D) D:=by
 obtain⟨es,j,h1,h2,h3,rfl⟩:=h;exact⟨es,j,h1,h2,by simp[Maps.size,length_sorted],rfl⟩
section
variable {w:World} {bm n:Nat} {D:DataW Unit} {L:List (Nd × Int)}
theorem zl4(hD:w.ownsMap Tryz.prog 250 (plainElem Tryz.prog 3) bm n D)(hR:Rep Nd.Ok Nd.lit (fun x:Int=>.lit (.int .i64 x)) D L){p:Nd × Int}(hp:p∈L) :
  (Instr.lookup 179 (.map (some bm)) (.agg #[p.1.v,p.1.l,p.1.h]) true).run Tryz.prog w=.ok (.tuple #[p.2,true]) w:=by
 obtain⟨v,ps,j,hv⟩:=hD.look_ok YI Tryz.underlying179 (K8 w) (zd:=.lit (.int .i64 0)) (zp:=[]) (YH ⟨by omega,by omega⟩) (Q6 p.1 (hR.oks p hp));rw[hR.at' p hp] at hv;obtain⟨a,rfl,hz,-⟩:=plainElem_int_inv Tryz.underlying3 hv;rw[(hR.has p.1 (hR.oks p hp)).2 (List.mem_map_of_mem hp)] at j;simp at hz;rw[<-hz.1] at j;exact j
theorem zkM(hD:w.ownsMap Tryz.prog 250 (plainElem Tryz.prog 3) bm n D)(hR:Rep Nd.Ok Nd.lit (fun x:Int=>.lit (.int .i64 x)) D L){a:Nd}(ha:a.Ok)(hn:a∉L.map Prod.fst) :
  (Instr.lookup 179 (.map (some bm)) (.agg #[a.v,a.l,a.h]) true).run Tryz.prog w=.ok (.tuple #[(0:Int),false]) w:=by
 obtain⟨v,ps,j,hv⟩:=hD.look_ok YI Tryz.underlying179 (K8 w) (zd:=.lit (.int .i64 0)) (zp:=[]) (YH ⟨by omega,by omega⟩) (Q6 a ha);have hh:=hR.not ha hn;rw[atKey_of_not_has hh] at hv;obtain⟨c,rfl,hz,-⟩:=plainElem_int_inv Tryz.underlying3 hv;rw[hh] at j;simp at hz;rw[<-hz.1] at j;exact j
theorem zie(hD:w.ownsMap Tryz.prog 250 (plainElem Tryz.prog 3) bm L.length D)(hR:Rep Nd.Ok Nd.lit (fun x:Int=>.lit (.int .i64 x)) D L)(hl:L.length<1000000){a:Nd}(ha:a.Ok)(hn:a∉L.map Prod.fst){x:Int}(hx:I64 x) :
  ∃w' D',(Instr.mapUpdate 179 (.map (some bm)) (.agg #[a.v,a.l,a.h]) (.int .i64 x)).run Tryz.prog w=.ok () w'/\w'.ownsMap Tryz.prog 250 (plainElem Tryz.prog 3) bm (L++[(a,x)]).length D'/\Rep Nd.Ok Nd.lit (fun x:Int=>.lit (.int .i64 x)) D' (L++[(a,x)])/\zc (fun k=>k=bm) w w':=by
 obtain⟨w',j,h1,h2⟩:=hD.update YI Tryz.underlying179 (by unfold maxLen;omega) (Q6 a ha) (YH hx);refine⟨w',_,j,?_,hR.put (fun _ _=>K4) zaf ha hn x,zc.of_grown h2 (fun i h=>by cases h;rfl)⟩;rw[List.length_append];exact h1
end
section
variable {B b bm:Nat} {w:World} {v:Value} {ns:List Nd} {L:List (Nd × Int)} {room next:Int}
structure Fit(ns:List Nd)(n:Nd):Prop where
 v0:0<=n.v
 v1:n.v<24
 l:zj ns n.l=true
 h:zj ns n.h=true
 tl:n.v<za ns n.l
 th:n.v<za ns n.h
theorem yV(B:Nat)(w:World)(n:Nat):Below B w (w.drewN n):=⟨rfl,rfl,rfl,Nat.le_refl _,fun _ _=>rfl⟩
theorem Jh(hA:zP B w b bm v ns L room next)(o:Obj)(h:Int)(hi:I64 h)(hl:ns.length<=1000000) :
  zC 65 #[.pointer (some b),.int .i64 h] (w.alloc o) fun e w'=>e=.returned (.bool (zj ns h))/\w.alloc o=w' :=
 KK (hA.kept (zc.alloc (fun _=>False) w o) (fun _ _ h=>h)) h hi hl
theorem Ju(hA:zP B w b bm v ns L room next)(o:Obj)(h:Int)(hi:I64 h)(hl:ns.length<=1000000)(m:Nat) :
  zC 98 #[.pointer (some b),.int .i64 h] ((w.alloc o).drewN m) fun e w'=>e=.returned (.int .i64 (za ns h))/\∃m',w'=(w.alloc o).drewN m' :=
 (Xr ((hA.kept (zc.alloc (fun _=>False) w o) (fun _ _ h=>h)).kept (Qx _ _ m) (fun _ _ h=>h)) h hi hl).mono fun _ _ ⟨h1,h2⟩=>⟨h1,m,h2.symm⟩
end
end Bd
namespace Bd
open Go.RowKit Go.Maps
section
variable {B b bm:Nat} {w:World} {v:Value} {ns:List Nd} {L:List (Nd × Int)} {room next:Int}
theorem zhU(hA:zP B w b bm v ns L room next)(hl:ns.length<=1000000)(n:Nd)(hn:n.Ok)(hf:Fit ns n)(h:Int)(hin:(n,h)∈L) :
  zR 209 #[.pointer (some b),n.val] w (.tuple #[.int .i64 h,.nilIface]):=by
 obtain⟨x,lo,hi⟩:=n;obtain⟨h0,h1,h2,h3,h4,h5⟩:=hf;simp only at h0 h1 h2 h3 h4 h5;have q:=below_new w (.cells #[x,lo,hi] 250);have HL:=zH (Jh hA (.cells #[x,lo,hi] 250) lo hn.2.1 hl);have HH:=zH (Jh hA (.cells #[x,lo,hi] 250) hi hn.2.2 hl);have TL:=zH (Ju hA (.cells #[x,lo,hi] 250) lo hn.2.1 hl);have TH:=zH (Ju hA (.cells #[x,lo,hi] 250) hi hn.2.2 hl);have j:=hA.kept (zc.alloc (fun _=>False) w (.cells #[x,lo,hi] 250)) (fun _ _ h=>h);obtain⟨D,hD,hR⟩:=j.hmap;have o:Hid (∀W:World,zc (fun _=>False) (w.alloc (.cells #[x,lo,hi] 250)) W->(Instr.lookup 179 (.map (some bm)) (.agg #[x,lo,hi]) true).run Tryz.prog W=.ok (.tuple #[.int .i64 h,true]) W):=fun W hW=>zl4 (p:=(⟨x,lo,hi⟩,h)) (Z6 hD hW (fun h=>h)) hR hin;have cm:=j.cmap;obtain⟨c0,c1,c2,-⟩:=xr w (.int .i64 x) (.int .i64 lo) (.int .i64 hi) 250;rw[h2] at HL;rw[h3] at HH;clear hA hn hl h2 h3 j hD hR hin;unfold Nd.val;generalize za ns lo=tl at *;generalize za ns hi=th at *;have d1:decide (tl<=x)=false:=decide_eq_false (by omega);have d2:decide (th<=x)=false:=decide_eq_false (by omega);go_enter Tryz.func209,Tryz.ntmps209;go_wp2_with fail;refine HL.out.mono ?_;rintro e w1 ⟨rfl,rfl⟩;go_wp2_with fail;refine HH.out.mono ?_;rintro e w1 ⟨rfl,rfl⟩;clear HL HH;go_wp2_with fail;go_quiet (first|(go_at_call 98;with_reducible exact TL.out _)|(go_at_call 98;with_reducible exact TH.out _));clear TL TH;go_wp2_with fail;have hk:=Qx (fun _=>False) (w.alloc (.cells #[x,lo,hi] 250)) nq;have K:=q.trans (yV w.heap.size _ nq);have J:((w.alloc (.cells #[x,lo,hi] 250)).drewN nq).cell? ⟨b,2,none⟩=some (.map (some bm)):=cm;have u:((w.alloc (.cells #[x,lo,hi] 250)).drewN nq).cell? w.heap.size=some (.int .i64 x):=c0;have y:((w.alloc (.cells #[x,lo,hi] 250)).drewN nq).cell? ⟨w.heap.size,1,none⟩=some (.int .i64 lo):=c1;have C:((w.alloc (.cells #[x,lo,hi] 250)).drewN nq).cell? ⟨w.heap.size,2,none⟩=some (.int .i64 hi):=c2;have M:=o.out _ hk.drew;clear hk o q cm c0 c1 c2 d1 d2 h4 h5;generalize (w.alloc (.cells #[x,lo,hi] 250)).drewN nq=W at *;go_region_held3 (fun w'=>w'.cell? ⟨b,2,none⟩=some (.map (some bm))/\w'.cell? w.heap.size=some (.int .i64 x)/\w'.cell? ⟨w.heap.size,1,none⟩=some (.int .i64 lo)/\w'.cell? ⟨w.heap.size,2,none⟩=some (.int .i64 hi)) (exact⟨J,u,y,C⟩) (first|fail);go_wp2;go_ret2;exact⟨rfl,K.drew⟩
end
end Bd
end Go.Proofs.YthifnefkdjkicaaGreatDoor
