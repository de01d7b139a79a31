/- Make: what it refuses, and what is there already. -/
import Derived.Test.YtapobpgbcbplbaaGreatDoorAb
import Derived.WalkSpells
import Derived.WalkLawsBesides
import Derived.Deep.DeepCutAuto
import Derived.Deep.RegionHeld3
import Derived.Deep.Light
import Derived.Lib.QuietBelow
import Derived.Lib.MinMax
import Derived.BigQuiet
import Derived.DeepKeys4
import Derived.Maps.RangeWalk
namespace Go.Proofs.YtapobpgbcbplbaaGreatDoor
set_option maxHeartbeats 2000000
set_option maxRecDepth 100000
namespace Bd
open Go.RowKit Go.Maps
structure Nd where
 v:Int
 l:Int
 h:Int
 deriving DecidableEq
def Nd.val(n:Nd):Value:=.agg #[.int .i64 n.v,.int .i64 n.l,.int .i64 n.h]
def I64(x:Int):Prop:=-9223372036854775808<=x/\x<=9223372036854775807
def Nd.Ok(n:Nd):Prop:=I64 n.v/\I64 n.l/\I64 n.h
theorem Ky{x:Int}(h:I64 x):(Lit.int .i64 x).wf=true:=by
 obtain⟨h0,h1⟩:=h;simp[Lit.wf,IntKind.min,IntKind.max,IntKind.signed,IntKind.bits];omega
theorem zci:laidOutB Tryz.prog=true:=by kernel_rfl
theorem zc8:(166:TypeId)<Tryz.prog.types.size:=of_decide_eq_true (by kernel_rfl)
theorem zih:(match Tryz.prog.underlying 166 with|some (.array _ _)|some (.struct _)=>true|_=>false)=true:=by rw[Tryz.underlying166]
theorem QY:Keyed Tryz.prog 166:=Keyed.of_law (deep_law_laid zci (m:=2) (by omega) zc8 (by kernel_rfl) zih)
theorem zkE:Tryz.prog.keyType 166=true:=by kernel_rfl
def Nd.lit(n:Nd):Lit:=.string (keyBytes [.int .i64 n.v,.int .i64 n.l,.int .i64 n.h])
theorem zfj:Tryz.prog.cellsOf 166=3:=by kernel_rfl
theorem zdT:Tryz.prog.cellsOf 3=1:=by kernel_rfl
theorem Xf(d:Nat){x:Int}(h:I64 x):Tryz.prog.keyLits (d+1) 3 [.int .i64 x]=some [.int .i64 x]:=by
 unfold Program.keyLits;rw[Tryz.underlying3];simp[Ky h]
theorem QB(n:Nd)(h:n.Ok):keyOf Tryz.prog 166 n.val=some n.lit:=by
 have hf:n.val.formed Tryz.prog 166=true:=by simp[Value.formed,Tryz.underlying166,zfj,Nd.val]
 unfold keyOf;rw[Tryz.underlying166];simp only[zkE,hf,Bool.and_self,if_true];obtain⟨d,hd⟩:∃d,Tryz.prog.types.size+1=d+2:=⟨Tryz.prog.types.size-1,by have:0<Tryz.prog.types.size:=Nat.lt_of_le_of_lt (Nat.zero_le _) zc8;omega⟩;rw[hd];unfold Program.keyLits;rw[Tryz.underlying166];have hc:n.val.cells.toList=[.int .i64 n.v,.int .i64 n.l,.int .i64 n.h]:=rfl;rw[hc];simp[zfj,zdT,Xf d h.1,Xf d h.2.1,Xf d h.2.2,Nd.lit]
theorem zks(n:Nd):WideAt.IsKeyLit n.lit:=trivial
theorem zbM{n m:Nd}(hn:n.Ok)(hm:m.Ok)(h:n.lit=m.lit):n=m:=by
 have:=QY.inj (QB n hn) (h▸QB m hm);cases n;cases m;simpa[Nd.val] using this
structure Rep{α β:Type}(ok:α->Prop)(kl:α->Lit)(el:β->DataW Unit)(D:DataW Unit)(L:List (α × β)):Prop where
 tidy:Tidy D
 size:Maps.size D=L.length
 oks:∀p∈L,ok p.1
 has:∀a,ok a->(Maps.has D (kl a)=true↔a∈L.map Prod.fst)
 all:∀x,Maps.has D x=true->∃p∈L,x=kl p.1
 at':∀p∈L,∀z,D.atKey (kl p.1) z=el p.2
 nodup:(L.map Prod.fst).Nodup
section
variable {α β:Type} {ok:α->Prop} {kl:α->Lit} {el:β->DataW Unit} {D:DataW Unit} {L:List (α × β)}
theorem Rep.empty:Rep ok kl el (.map []) ([]:List (α × β)) :=
 ⟨tidy_empty,rfl,fun p h=>(by cases h),fun a _=>(by simp[Maps.has]),fun x h=>(by simp[Maps.has] at h),fun p h=>(by cases h),List.nodup_nil⟩
theorem Rep.not(h:Rep ok kl el D L){a:α}(ha:ok a)(hn:a∉L.map Prod.fst):Maps.has D (kl a)=false:=by
 cases e:Maps.has D (kl a) with
 |false=>rfl
 |true=>exact absurd ((h.has a ha).1 e) hn
theorem Rep.put(h:Rep ok kl el D L)(inj:∀a b,ok a->ok b->kl a=kl b->a=b)(key:∀a,WideAt.IsKeyLit (kl a)){a:α}(ha:ok a)(hn:a∉L.map Prod.fst)(b:β) :
  Rep ok kl el (D.put (kl a) (el b)) (L++[(a,b)]):=by
 have hne:∀c,ok c->c≠a->kl c≠kl a:=fun c hc hca e=>hca (inj c a hc ha e);refine⟨h.tidy.put (key a) _,?_,?_,?_,?_,?_,?_⟩
 ·rw[size_put h.tidy,h.not ha hn];simp[h.size]
 ·intro p hp;rcases List.mem_append.1 hp with hp|hp
  ·exact h.oks p hp
  ·rw[List.mem_singleton] at hp;subst hp;exact ha
 ·intro c hc;rw[List.map_append,List.mem_append]
  by_cases e:c=a
  ·subst e;simp[has_put_same h.tidy.isMap (key c)]
  ·rw[has_put_other (hne c hc e)];simp[h.has c hc,e]
 ·intro x hx
  by_cases e:x=kl a
  ·exact⟨(a,b),by simp,e⟩
  ·rw[has_put_other e] at hx;obtain⟨p,hp,hx⟩:=h.all x hx;exact⟨p,by simp[hp],hx⟩
 ·intro p hp z;rcases List.mem_append.1 hp with hp|hp
  ·rw[atKey_put_other (hne p.1 (h.oks p hp) (fun e=>hn (e▸List.mem_map_of_mem hp)))];exact h.at' p hp z
  ·rw[List.mem_singleton] at hp;subst hp;exact atKey_put_same h.tidy.isMap (key a) _ _
 ·rw[List.map_append,List.nodup_append];refine⟨h.nodup,by simp,fun x hx y hy=>?_⟩;simp at hy;subst hy;exact fun e=>hn (e▸hx)
theorem Rep.del[DecidableEq α](h:Rep ok kl el D L)(inj:∀a b,ok a->ok b->kl a=kl b->a=b){p:α × β}(hp:p∈L):Rep ok kl el (D.del (kl p.1)) (L.filter fun q=>decide (q.1≠p.1)):=by
 have ha:=h.oks p hp;have hne:∀c,ok c->c≠p.1->kl c≠kl p.1:=fun c hc hca e=>hca (inj c p.1 hc ha e);have hm:p.1∈L.map Prod.fst:=List.mem_map_of_mem hp;have hlen:∀(M:List (α × β)),(M.map Prod.fst).Nodup->p.1∈M.map Prod.fst->(M.filter fun q=>decide (q.1≠p.1)).length+1=M.length:=by
  intro M
  induction M with
  |nil=>intro _ h;simp at h
  |cons q M ih =>
   intro hn hin;rw[List.map_cons,List.nodup_cons] at hn
   by_cases e:q.1=p.1
   ·rw[List.filter_cons_of_neg (by simp[e])];have:M.filter (fun q=>decide (q.1 ≠ p.1))=M:=List.filter_eq_self.2 (fun r hr=>by
     simp only [decide_eq_true_eq];intro e2;exact hn.1 (e ▸ e2 ▸ List.mem_map_of_mem hr))
    rw[this];rfl
   ·rw [List.filter_cons_of_pos (by simp [e]),List.length_cons,List.length_cons,ih hn.2 (by
     rw[List.map_cons,List.mem_cons] at hin;rcases hin with hin|hin
     ·exact absurd hin.symm e
     ·exact hin)]
 refine⟨h.tidy.del _,?_,?_,?_,?_,?_,?_⟩
 ·have h1:=size_del (k:=kl p.1) h.tidy;rw[(h.has p.1 ha).2 hm] at h1;have h2:=hlen L h.nodup hm;rw[h.size] at h1;simp only[if_true] at h1;omega
 ·intro q hq;exact h.oks q (List.mem_filter.1 hq).1
 ·intro c hc
  by_cases e:c=p.1
  ·rw[e,has_del_same];simp only[Bool.false_eq_true,false_iff,List.mem_map,List.mem_filter,not_exists,not_and];intro q hq e2;simp[e2] at hq
  ·rw[has_del_other (hne c hc e),h.has c hc];simp only[List.mem_map,List.mem_filter];constructor
   ·rintro⟨q,hq,rfl⟩;exact⟨q,⟨hq,by simpa using e⟩,rfl⟩
   ·rintro⟨q,⟨hq,-⟩,rfl⟩;exact⟨q,hq,rfl⟩
 ·intro x hx
  by_cases e:x=kl p.1
  ·rw[e,has_del_same] at hx;cases hx
  ·rw[has_del_other e] at hx;obtain⟨q,hq,hxq⟩:=h.all x hx;refine⟨q,List.mem_filter.2 ⟨hq,?_⟩,hxq⟩;simp only[decide_eq_true_eq];intro e2;rw[e2] at hxq;exact e hxq
 ·intro q hq z;obtain⟨hq,hqn⟩:=List.mem_filter.1 hq;rw[atKey_del_other (hne q.1 (h.oks q hq) (by simpa using hqn))];exact h.at' q hq z
 ·exact List.Nodup.sublist (List.Sublist.map _ List.filter_sublist) h.nodup
end
structure zc(S:Nat->Prop)(w w':World):Prop where
 os:w'.os=w.os
 tape:w'.tape=w.tape
 output:w'.output=w.output
 size:w.heap.size<=w'.heap.size
 block:∀k,k<w.heap.size->¬S k->w'.heap[k]?=w.heap[k]?
section
variable {S T:Nat->Prop} {w w' w'':World}
theorem zc.refl(S:Nat->Prop)(w:World):zc S w w:=⟨rfl,rfl,rfl,Nat.le_refl _,fun _ _ _=>rfl⟩
theorem zc.trans(h:zc S w w')(k:zc S w' w''):zc S w w'' :=
 ⟨k.os.trans h.os,k.tape.trans h.tape,k.output.trans h.output,Nat.le_trans h.size k.size,fun i hi hs=>(k.block i (Nat.lt_of_lt_of_le hi h.size) hs).trans (h.block i hi hs)⟩
theorem zc.andThen(h:zc S w w')(k:zc T w' w'')(ht:∀i,T i->i<w.heap.size->S i):zc S w w'' :=
 ⟨k.os.trans h.os,k.tape.trans h.tape,k.output.trans h.output,Nat.le_trans h.size k.size,fun i hi hs=>(k.block i (Nat.lt_of_lt_of_le hi h.size) (fun hT=>hs (ht i hT hi))).trans (h.block i hi hs)⟩
theorem zc.mono(h:zc S w w')(hs:∀i,S i->T i):zc T w w':=⟨h.os,h.tape,h.output,h.size,fun k hk hn=>h.block k hk (fun hS=>hn (hs k hS))⟩
theorem zc.drew(h:zc S w w'):zc S w w'.drew:=⟨h.os,h.tape,h.output,h.size,h.block⟩
theorem zc.of_below(h:zB w w')(S:Nat->Prop):zc S w w':=⟨h.os,h.tape,h.output,h.size,fun k hk _=>h.block k hk⟩
theorem zc.below(h:zc S w w'){B:Nat}(hB:B<=w.heap.size)(hs:∀i,S i->B<=i):Below B w w':=⟨h.os,h.tape,h.output,h.size,fun k hk=>h.block k (Nat.lt_of_lt_of_le hk hB) (fun hS=>by have:=hs k hS;omega)⟩
theorem zc.of_grown{row:Option Nat}(h:w.grownBy w' row)(hs:∀i,row=some i->S i):zc S w w':=⟨h.os,h.tape,h.output,h.size,fun k hk hn=>h.block k hk (fun e=>hn (hs k e.symm))⟩
theorem zc.alloc(S:Nat->Prop)(w:World)(o:Obj):zc S w (w.alloc o):=zc.of_below (zF.alloc zN o) S
theorem zc.setCell(w:World)(a:Addr)(u:Value)(h:S a.block):zc S w (w.setCell a u) :=
 ⟨rfl,rfl,rfl,by simp[World.setCell],fun k _ hn=>Below.heap_setCell w a u k (fun e=>hn (e▸h))⟩
theorem zc.cell(h:zc S w w'){a:Addr}(hlt:a.block<w.heap.size)(hn:¬S a.block):w'.cell? a=w.cell? a:=World.cell?_of_block (h.block a.block hlt hn)
theorem zc.frozen(h:zc S w w'){a:Addr}(hlt:a.block<w.heap.size)(hn:¬S a.block):w'.frozen? a=w.frozen? a:=World.frozen?_of_block (h.block a.block hlt hn)
theorem zc.grown(h:zc S w w'){r:Nat}(hs:∀i,S i->i=r):w.grownBy w' (some r):=⟨h.os,h.tape,h.output,h.size,fun k hk hn=>h.block k hk (fun hS=>hn (by rw[hs k hS]))⟩
end
end Bd
namespace Bd
open Go.RowKit Go.Maps
def ym(ns:List Nd):List Value:=ns.flatMap fun n=>[.int .i64 n.v,.int .i64 n.l,.int .i64 n.h]
def nd(ns:List Nd)(i:Nat):Nd:=ns.getD i ⟨0,0,0⟩
theorem xS(ns:List Nd)(i:Nat)(h:i<ns.length):nd ns i=ns[i]:=by unfold nd;simp[List.getD_eq_getElem?_getD,List.getElem?_eq_getElem h]
theorem zia(a b:List Nd):ym (a++b)=ym a++ym b:=by simp[ym]
theorem Yp:∀(ns:List Nd) (i:Nat),i<ns.length->(ym ns)[i*3]?=some (.int .i64 (nd ns i).v)/\(ym ns)[i*3+1]?=some (.int .i64 (nd ns i).l)/\(ym ns)[i*3+2]?=some (.int .i64 (nd ns i).h)
 |[],i,h=>by simp at h
 |n :: ns,0,_=>by simp[ym,nd]
 |n :: ns,i+1,h=>by
  have ih:=Yp ns i (by simpa using h);have e:nd (n :: ns) (i+1)=nd ns i:=by simp[nd]
  rw[e];have e2:∀j,(ym (n :: ns))[j+3]?=(ym ns)[j]?:=fun j=>by
   show ([Value.int .i64 n.v,.int .i64 n.l,.int .i64 n.h]++ym ns)[j+3]?=_;rw[List.getElem?_append_right (by simp)];simp
  rw[show (i+1)*3=i*3+3 by omega,show i*3+3+1=(i*3+1)+3 by omega,show i*3+3+2=(i*3+2)+3 by omega,e2,e2,e2];exact ih
def Own(b bm:Nat)(v:Value)(k:Nat):Prop:=k=b\/k=bm\/v.ownBlock=some k
structure zM(B:Nat)(w:World)(b bm:Nat)(v:Value)(ns:List Nd)(L:List (Nd × Int))(room next:Int):Prop where
 lt:b<w.heap.size
 croom:w.cell? ⟨b,0,none⟩=some (.int .i64 room)
 cnodes:w.cell? ⟨b,1,none⟩=some v
 cmap:w.cell? ⟨b,2,none⟩=some (.map (some bm))
 cnext:w.cell? ⟨b,3,none⟩=some (.int .i64 next)
 froz:∀i,w.frozen? ⟨b,i,none⟩=false
 row:w.ownsRow B 166 3 v ns.length (ym ns)
 hmap:∃D,w.ownsMap Tryz.prog 166 (plainElem Tryz.prog 3) bm L.length D/\Rep Nd.Ok Nd.lit (fun x:Int=>.lit (.int .i64 x)) D L
 d1:v.ownBlock≠some b
 d2:bm≠b
 d3:v.ownBlock≠some bm
 B1:B<=b
 B2:B<=bm
section
variable {B b bm:Nat} {w w':World} {v:Value} {ns:List Nd} {L:List (Nd × Int)} {room next:Int}
theorem Zp{S:Nat->Prop}{e:TypeId}{size n:Nat}{xs:List Value}(h:w.ownsRow B e size v n xs)(hk:zc S w w')(hn:∀k,v.ownBlock=some k->¬S k):w'.ownsRow B e size v n xs:=by
 refine⟨h.1,?_⟩;rcases h.2 with h1|⟨g,cap,cur,h1,h2,h3,h4⟩
 ·exact .inl h1
 ·refine .inr ⟨g,cap,cur,h1,h2,?_,h4⟩;have hlt:g<w.heap.size:=by
   by_cases hl:g<w.heap.size
   ·exact hl
   ·rw[Array.getElem?_eq_none (by omega)] at h3;simp at h3
  rw[hk.block g hlt (hn g (by rw[h1];rfl))];exact h3
theorem xX{S:Nat->Prop}{k:TypeId}{R:Value->Option (DataW Unit × List MemPlace)}{n:Nat}{D:DataW Unit}(h:w.ownsMap Tryz.prog k R bm n D)(hk:zc S w w')(hn:¬S bm):w'.ownsMap Tryz.prog k R bm n D:=by
 have hlt:=h.lt;obtain⟨es,clock,h1,h2⟩:=h;exact⟨es,clock,(hk.block bm hlt hn).trans h1,h2⟩
theorem zM.kept{S:Nat->Prop}(h:zM B w b bm v ns L room next)(hk:zc S w w')(hn:∀k,Own b bm v k->¬S k):zM B w' b bm v ns L room next:=by
 have hb:=hn b (.inl rfl);obtain⟨D,hD,hR⟩:=h.hmap;exact ⟨Nat.lt_of_lt_of_le h.lt hk.size,(hk.cell (a:=⟨b,0,none⟩) h.lt hb).trans h.croom,(hk.cell (a:=⟨b,1,none⟩) h.lt hb).trans h.cnodes,(hk.cell (a:=⟨b,2,none⟩) h.lt hb).trans h.cmap,(hk.cell (a:=⟨b,3,none⟩) h.lt hb).trans h.cnext,fun i=>(hk.frozen (a:=⟨b,i,none⟩) h.lt hb).trans (h.froz i),
  Zp h.row hk (fun k hv=>hn k (.inr (.inr hv))),⟨D,xX hD hk (hn bm (.inr (.inl rfl))),hR⟩,h.d1,h.d2,h.d3,h.B1,h.B2⟩
theorem zM.form(h:zM B w b bm v ns L room next):∃a cap,v=.slice a ns.length cap/\(ns.length≠0->∃g,a=some ⟨g,0,none⟩/\B<=g/\g<w.heap.size):=by
 rcases h.row.2 with ⟨h1,h2⟩|⟨g,cap,cur,h1,hB,_,h2,_⟩
 ·exact⟨none,0,by rw[h1,h2],fun h=>absurd h2 h⟩
 ·exact⟨_,cap,h1,fun _=>⟨g,rfl,hB,(h.row.lt g (by rw[h1];rfl)).2⟩⟩
end
def zb(ns:List Nd)(h:Int):Int:=if 2<=h/\h<2+(ns.length:Int) then (nd ns (h-2).toNat).v else 24
theorem Yn{B b bm:Nat}{w:World}{v:Value}{ns:List Nd}{L:List (Nd × Int)}{room next:Int}(hA:zM B w b bm v ns L room next)(h:Int)(hi:I64 h)(hl:ns.length<=1000000) :
  zC 125 #[.pointer (some ⟨b,0,none⟩),.int .i64 h] w fun e w'=>e=.returned (.int .i64 (zb ns h))/\w=w':=by
 obtain⟨hi0,hi1⟩:=hi;obtain⟨a,cap,rfl,hg⟩:=hA.form;have cn:=hA.cnodes;have HR:=zH hA.row;have HG:=zH hg;clear hA hg;unfold zb
 by_cases hc:2<=h/\h<2+(ns.length:Int)
 ·rw[if_pos hc];obtain⟨h2,h3⟩:=hc;obtain⟨i,e2⟩:∃i:Nat,h-2=(i:Int):=⟨(h-2).toNat,by omega⟩;obtain⟨g,rfl,-⟩:=HG.out (by omega);have e1:(h-2).toNat=i:=by omega
  rw[e1];have hil:i<ns.length:=by omega
  have ci:=HR.out.cellAt (i*3) (by omega);rw[(Yp ns i hil).1] at ci;generalize (nd ns i).v=x at *;clear e1 HR HG;go_enter Tryz.func125,Tryz.ntmps125;go_wp2;go_ret;exact⟨rfl,rfl⟩
 ·rw[if_neg hc]
  by_cases h2:h<2
  ·clear hc HR HG;go_enter Tryz.func125,Tryz.ntmps125;go_wp2;go_ret;exact⟨rfl,rfl⟩
  ·have h3:2+(ns.length:Int)<=h:=by omega
   clear hc HR HG;go_enter Tryz.func125,Tryz.ntmps125;go_wp2;go_ret;exact⟨rfl,rfl⟩
end Bd
namespace Bd
open Go.RowKit Go.Maps
def ze(ns:List Nd)(h:Int):Bool:=decide (h=0)||decide (h=1)||decide (zb ns h<24)
section
variable {B b bm:Nat} {w:World} {v:Value} {ns:List Nd} {L:List (Nd × Int)} {room next:Int}
theorem X6(hA:zM B w b bm v ns L room next)(h:Int)(hi:I64 h)(hl:ns.length<=1000000) :
  zC 121 #[.pointer (some ⟨b,0,none⟩),.int .i64 h] w fun e w'=>e=.returned (.bool (ze ns h))/\w=w':=by
 have HT:=zH (Yn hA h hi hl);clear hA hl;unfold ze;generalize zb ns h=t at *
 by_cases h0:h=0
 ·subst h0;go_enter Tryz.func121,Tryz.ntmps121;go_wp2;go_ret;exact⟨rfl,rfl⟩
 ·by_cases h1:h=1
  ·subst h1;go_enter Tryz.func121,Tryz.ntmps121;go_wp2;go_ret;exact⟨rfl,rfl⟩
  ·have e0:(h==0)=false:=by rw[beq_eq_false_iff_ne];exact h0
   have e1:(h==1)=false:=by rw[beq_eq_false_iff_ne];exact h1
   have d0:decide (h=0)=false:=decide_eq_false h0;have d1:decide (h=1)=false:=decide_eq_false h1;rw[d0,d1,Bool.false_or,Bool.false_or];clear h0 h1 d0 d1;go_enter Tryz.func121,Tryz.ntmps121;go_wp2_with fail;refine HT.out.mono ?_;rintro e w1 ⟨rfl,rfl⟩;go_wp2;go_ret;exact⟨rfl,rfl⟩
def qm(ns:List Nd)(h:Int):Nd:=if zb ns h=24 then ⟨0,0,0⟩ else nd ns (h-2).toNat
theorem Zj(w:World)(A B C:Value)(t:TypeId):(w.alloc (.cells #[A,B,C] t)).cell? ⟨w.heap.size,0,none⟩=some A/\(w.alloc (.cells #[A,B,C] t)).cell? ⟨w.heap.size,1,none⟩=some B/\(w.alloc (.cells #[A,B,C] t)).cell? ⟨w.heap.size,2,none⟩=some C/\(∀i,(w.alloc (.cells #[A,B,C] t)).frozen? ⟨w.heap.size,i,none⟩=false):=⟨by simp,by simp,by simp,fun i=>by simp⟩
theorem zf(w:World)(o:Obj):zB w (w.alloc o):=zF.alloc zN _
theorem Xb(hA:zM B w b bm v ns L room next)(h:Int)(hi:I64 h)(hl:ns.length<=1000000) :
  zR 78 #[.pointer (some ⟨b,0,none⟩),.int .i64 h] w (.tuple #[(qm ns h).val,.bool (decide (zb ns h≠24))]):=by
 have hA1:=hA.kept (zc.alloc (fun _=>False) w (.cells #[.int .i64 0,.int .i64 0,.int .i64 0] 166)) (fun _ _ h=>h);have HT:=zH (Yn hA1 h hi hl);have hlt:=hA.lt;clear hA;obtain⟨hi0,hi1⟩:=hi;obtain⟨c0,c1,c2,fz⟩:=Zj w (.int .i64 0) (.int .i64 0) (.int .i64 0) 166;have f0:=fz 0;have f1:=fz 1;have f2:=fz 2;have hbn:=zf w (.cells #[.int .i64 0,.int .i64 0,.int .i64 0] 166);clear fz;unfold qm
 by_cases ht:zb ns h=24
 ·rw[if_pos ht,decide_eq_false (by simp[ht])];rw[ht] at HT;clear ht hA1;go_enter Tryz.func78,Tryz.ntmps78;go_wp2_with fail;refine HT.out.mono ?_;rintro e w1 ⟨rfl,rfl⟩;clear HT;go_wp2;refine bodyPost_ret (v:=.tuple #[.agg #[.int .i64 0,.int .i64 0,.int .i64 0],.bool false]) (by simp[results,Tryz.results78,go_sem]) rfl ?_;refine⟨rfl,?_⟩;exact zf w _
 ·rw[if_neg ht,decide_eq_true (by simp[ht])];have hc:2<=h/\h<2+(ns.length:Int):=by
   unfold zb at ht
   by_cases hc:2<=h/\h<2+(ns.length:Int)
   ·exact hc
   ·rw[if_neg hc] at ht;exact absurd rfl ht
  obtain⟨h2,h3⟩:=hc;obtain⟨i,e2⟩:∃i:Nat,h-2=(i:Int):=⟨(h-2).toNat,by omega⟩;have e1:(h-2).toNat=i:=by omega
  obtain⟨a,cap,rfl,hg⟩:=hA1.form;obtain⟨g,rfl,hBg,hgl⟩:=hg (by omega);have hil:i<ns.length:=by omega
  have ca:=hA1.row.cellAt (i*3) (by omega);have cb:=hA1.row.cellAt (i*3+1) (by omega);have cc:=hA1.row.cellAt (i*3+2) (by omega);have cn:=hA1.cnodes;obtain⟨n1,n2,n3⟩:=Yp ns i hil;rw[n1] at ca;rw[n2] at cb;rw[n3] at cc;rw[e1];have et:(zb ns h==24)=false:=by rw[beq_eq_false_iff_ne];exact ht
  generalize zb ns h=tt at *;generalize nd ns i=n at *;clear n1 n2 n3 hA1 e1 ht;go_enter Tryz.func78,Tryz.ntmps78;go_wp2_with fail;refine HT.out.mono ?_;rintro e w1 ⟨rfl,rfl⟩;clear HT;go_wp2;refine bodyPost_ret (v:=.tuple #[n.val,.bool true]) (by simp[results,Tryz.results78,go_sem,Nd.val]) rfl ?_;refine⟨rfl,?_⟩;exact zf w _
theorem KW(hA:zM B w b bm v ns L room next) :
  zC 115 #[.pointer (some ⟨b,0,none⟩)] w fun e w'=>e=.returned (.int .i64 L.length)/\w=w':=by
 obtain⟨D,hD,hR⟩:=hA.hmap;have cm:=hA.cmap;have hs:(Maps.size D:Int)=(L.length:Int):=by rw[hR.size]
 clear hA hR;go_enter Tryz.func115,Tryz.ntmps115;go_wp2_with (at_len;refine wpList_len_own _ rfl _ 141 rfl 166 3 Tryz.underlying141 _ bm _ D rfl hD ?_);go_ret;exact⟨by rw[<-hs];rfl,rfl⟩
end
end Bd
namespace Bd
open Go.RowKit Go.Maps
section
variable {B b bm:Nat} {w:World} {v:Value} {ns:List Nd} {L:List (Nd × Int)} {room next:Int}
theorem zM.setNext(h:zM B w b bm v ns L room next)(n:Int):zM B (w.setCell ⟨b,3,none⟩ (.int .i64 n)) b bm v ns L room n:=by
 obtain⟨D,hD,hR⟩:=h.hmap;have hk:zc (fun k=>k=b) w (w.setCell ⟨b,3,none⟩ (.int .i64 n)):=zc.setCell _ _ _ rfl;refine⟨by simpa[World.setCell] using h.lt,?_,?_,?_,?_,fun i=>by rw[World.frozen?_setCell];exact h.froz i,Zp h.row hk (fun k hv e=>h.d1 (e▸hv)),⟨D,xX hD hk h.d2,hR⟩,h.d1,h.d2,h.d3,h.B1,h.B2⟩
 ·rw[World.cell?_setCell_other _ _ _ _ (by simp)];exact h.croom
 ·rw[World.cell?_setCell_other _ _ _ _ (by simp)];exact h.cnodes
 ·rw[World.cell?_setCell_other _ _ _ _ (by simp)];exact h.cmap
 ·exact World.cell?_setCell_same' _ _ _ (by simp[h.cnext])
theorem zM.setNodes{w':World}{v':Value}{ns':List Nd}(h:zM B w b bm v ns L room next)(hk:zc (fun k=>v.ownBlock=some k) w w')(hr:w'.ownsRow B 166 3 v' ns'.length (ym ns'))(hv:v'.ownBlock=v.ownBlock\/∃g,v'.ownBlock=some g/\w.heap.size<=g):zM B (w'.setCell ⟨b,1,none⟩ v') b bm v' ns' L room next:=by
 obtain⟨D,hD,hR⟩:=h.hmap;have hk2:zc (fun k=>k=b) w' (w'.setCell ⟨b,1,none⟩ v'):=zc.setCell _ _ _ rfl;have hlt':b<w'.heap.size:=Nat.lt_of_lt_of_le h.lt hk.size;have hbm:=hD.lt;have d1:v'.ownBlock≠some b:=by
  rcases hv with hv|⟨g,hg,hgl⟩
  ·rw[hv];exact h.d1
  ·rw[hg];intro e;cases e;have:=h.lt;omega
 have d3:v'.ownBlock≠some bm:=by
  rcases hv with hv|⟨g,hg,hgl⟩
  ·rw[hv];exact h.d3
  ·rw[hg];intro e;cases e;omega
 have e:∀i,w'.cell? ⟨b,i,none⟩=w.cell? ⟨b,i,none⟩:=fun i=>hk.cell (a:=⟨b,i,none⟩) h.lt h.d1;refine⟨by simpa[World.setCell] using hlt',?_,?_,?_,?_,fun i=>by rw[World.frozen?_setCell];exact(hk.frozen (a:=⟨b,i,none⟩) h.lt h.d1).trans (h.froz i),Zp hr hk2 (fun k hv e=>d1 (e▸hv)),⟨D,xX (xX hD hk h.d3) hk2 h.d2,hR⟩,d1,h.d2,d3,h.B1,h.B2⟩
 ·rw[World.cell?_setCell_other _ _ _ _ (by simp),e];exact h.croom
 ·exact World.cell?_setCell_same' _ _ _ (by rw[e];simp[h.cnodes])
 ·rw[World.cell?_setCell_other _ _ _ _ (by simp),e];exact h.cmap
 ·rw[World.cell?_setCell_other _ _ _ _ (by simp),e];exact h.cnext
theorem znF:(Tryz.prog.info? 166).map (fun i=>(i.zero,i.size,i.bytes))=some (some (.agg #[.int .i64 0,.int .i64 0,.int .i64 0]),3,24):=by kernel_rfl
theorem QI{i:Nat}(h:i<ns.length):zb ns (2+(i:Int))=(nd ns i).v:=by
 unfold zb;rw[if_pos (by omega),show (2+(i:Int)-2).toNat=i by omega]
theorem ziZ:zb ns (2+(ns.length:Int))=24:=by
 unfold zb;rw[if_neg (by omega)]
theorem zoQ(w:World)(x y z:Value)(t:TypeId):∀j u,[x,y,z][j]?=some u->(w.alloc (.cells #[x,y,z] t)).cell? ((⟨w.heap.size,0,none⟩:Addr).add j)=some u:=by
 intro j u h
 match j,h with
 |0,h=>simp at h;subst h;simp[Addr.add]
 |1,h=>simp at h;subst h;simp[Addr.add]
 |2,h=>simp at h;subst h;simp[Addr.add]
 |j+3,h=>simp at h
def QM(w:World)(b:Nat):Int:=match w.cell? ⟨b,3,none⟩ with|some (.int _ n)=>n|_=>0
theorem Z0(S:Nat->Prop)(w:World)(n:Nat):zc S w (w.drewN n):=⟨rfl,rfl,rfl,Nat.le_refl _,fun _ _ _=>rfl⟩
def zan(B:Nat)(w:World)(b bm:Nat)(v:Value)(ns:List Nd)(L:List (Nd × Int))(room:Int)(i:Nat)(e:Ending)(w':World):Prop:=∃(k:Nat) (v':Value),e=.returned (.int .i64 (2+(k:Int)))/\k<=ns.length/\(∀j,i<=j->j<k->(nd ns j).v<24)/\(k<ns.length->¬(nd ns k).v<24) /\
   zM B w' b bm v' (if k=ns.length then ns++[⟨24,0,0⟩] else ns) L room (2+(k:Int))/\zc (Own b bm v) w w'/\(v'.ownBlock=v.ownBlock\/∃g,v'.ownBlock=some g/\w.heap.size<=g)
theorem KX(hA:zM B w b bm v ns L room next)(hl:ns.length<=100000)(i:Nat)(hn:next=2+(i:Int))(hi:i<=ns.length)(hB:B<=w.heap.size) :
  zC 196 #[.pointer (some ⟨b,0,none⟩)] w (zan B w b bm v ns L room i):=by
 subst hn;obtain⟨i0,hin,hz0,hz1,hz2⟩:=info_parts znF;have HA:=zH hA;clear hA;go_enter Tryz.func196,Tryz.ntmps196;go_wp2_with fail;go_loopw [7] (fun _ wr=>∃k:Nat,i<=k/\k<=ns.length/\(∀j,i<=j->j<k->(nd ns j).v<24)/\zM B wr b bm v ns L room (2+(k:Int))/\zc (Own b bm v) w wr/\QM wr b=2+(k:Int))
  (fun _ wr=>(2+(ns.length:Int)-QM wr b).toNat)
 case atStart=>exact⟨i,Nat.le_refl _,hi,fun j h1 h2=>by omega,HA.out,zc.refl _ _,by unfold QM;rw[HA.out.cnext]⟩
 case round =>
  obtain⟨k,hik,hk,hocc,hAr,hKr,hnx⟩:=hrel;have HO:=zH hocc;have HNX:=zH hnx;have cnx:=hAr.cnext;have fnx:=hAr.froz 3;have HT:=zH (Yn hAr (2+(k:Int)) ⟨by omega,by omega⟩ (by omega));clear hocc hnx HA
  by_cases hend:k=ns.length\/¬(nd ns k).v<24
  ·have ht:¬zb ns (2+(k:Int))<24:=by
    by_cases e:k=ns.length
    ·rw[e,ziZ];omega
    ·rw[QI (by omega)];rcases hend with h|h
     ·exact absurd h e
     ·exact h
   have cnd:=hAr.cnodes;have fnd:=hAr.froz 1;obtain⟨a,cap,hve,-⟩:=hAr.form;have HE:=zH hend;have HAr:=zH hAr;have HKr:=zH hKr;generalize zb ns (2+(k:Int))=t at *;clear hend hAr hKr
   by_cases en:k=ns.length
   ·subst en;subst hve;go_wp2_with fail;refine HT.out.mono ?_;rintro e w1 ⟨rfl,rfl⟩;clear HT;go_wp2_with fail;go_quiet (fail);have hrow:wr.drew.ownsRow B 166 3 (.slice a ns.length cap) ns.length (ym ns):=HAr.out.row;go_wp2_with (at_builtin;refine wpList_append_own_at _ rfl _ _ 142 rfl B 166 i0 (.agg #[.int .i64 0,.int .i64 0,.int .i64 0]) 3 24 Tryz.underlying142 hin hz0 hz1 hz2 rfl (by decide) _ _ _ rfl (hrow.alloc _) ⟨wr.heap.size,0,none⟩ 1 1 [.int .i64 24,.int .i64 0,.int .i64 0] rfl rfl (zoQ _ _ _ _ _) ?c2 ?c3 ?c4 ?c5 ?_)
    case c2=>intro u hu;simp at hu;rcases hu with rfl|rfl<;>rfl
    case c3=>unfold maxLen;omega
    case c4=>omega
    case c5=>have:=HKr.out.size;show B<=(World.alloc _ _).heap.size;simp;omega
    intro v' w4 hown' hgrow hnil hloc;have hk4:zc (fun k=>(Value.slice a ns.length cap).ownBlock=some k) wr w4:=(zc.alloc _ wr _).andThen (zc.of_grown (w:=wr.alloc (.cells #[.int .i64 24,.int .i64 0,.int .i64 0] 166)) (S:=fun k=>(Value.slice a ns.length cap).ownBlock=some k) ⟨hgrow.os,hgrow.tape,hgrow.output,hgrow.size,hgrow.block⟩ (fun i h=>h)) (fun i h _=>h);have hr4:w4.ownsRow B 166 3 v' (ns++[(⟨24,0,0⟩:Nd)]).length (ym (ns++[(⟨24,0,0⟩:Nd)])):=by
     rw[zia,List.length_append];exact hown'
    have hv4:v'.ownBlock=(Value.slice a ns.length cap).ownBlock\/∃g,v'.ownBlock=some g/\wr.heap.size<=g:=hloc.imp id (fun h=>⟨_,h,by first|omega|simp⟩);have hA4:=HAr.out.setNodes hk4 hr4 hv4;have hlt:=HAr.out.lt;have hd1:=HAr.out.d1;have c1:w4.cell? ⟨b,1,none⟩=some (.slice a ns.length cap):=(hk4.cell (a:=⟨b,1,none⟩) hlt hd1).trans cnd;have f1:w4.frozen? ⟨b,1,none⟩=false:=(hk4.frozen (a:=⟨b,1,none⟩) hlt hd1).trans fnd;have c3:=hA4.cnext;have hKF:zc (Own b bm (.slice a ns.length cap)) w (w4.setCell ⟨b,1,none⟩ v'):=(HKr.out.trans (hk4.mono (fun i h=>.inr (.inr h)))).trans (zc.setCell _ _ _ (.inl rfl));have hVF:v'.ownBlock=(Value.slice a ns.length cap).ownBlock\/∃g,v'.ownBlock=some g/\w.heap.size<=g:=hv4.imp id (fun⟨g,h1,h2⟩=>⟨g,h1,Nat.le_trans HKr.out.size h2⟩);obtain⟨a',n',cap',rfl⟩:∃a' n' cap',v'=.slice a' n' cap':=by
     rcases hown'.2 with ⟨h1,-⟩|⟨g,cp,cur,h1,-⟩
     ·exact⟨_,_,_,h1⟩
     ·exact⟨_,_,_,h1⟩
    clear hown' hgrow hnil hloc hrow hk4 hr4 hv4;go_wp2;go_ret;exact⟨ns.length,_,rfl,Nat.le_refl _,HO.out,fun h=>absurd h (Nat.lt_irrefl _),by rw[if_pos rfl];exact hA4,hKF,hVF⟩
   ·have e5:(2+(k:Int)==2+(ns.length:Int))=false:=by rw[beq_eq_false_iff_ne];omega
    have e6:((k:Int)==(ns.length:Int))=false:=by rw[beq_eq_false_iff_ne];omega
    subst hve;go_wp2_with fail;refine HT.out.mono ?_;rintro e w1 ⟨rfl,rfl⟩;clear HT;go_wp2_with fail;go_quiet (fail);go_wp2;go_ret;refine⟨k,_,rfl,hk,HO.out,fun h=>?_,by rw[if_neg en];exact HAr.out.kept (Z0 _ _ _) (fun _ _ h=>h),HKr.out.trans (Z0 _ _ _),.inl rfl⟩;rcases HE.out with h2|h2
    ·exact absurd h2 en
    ·omega
  ·have hkl:k<ns.length:=by omega
   have hv:(nd ns k).v<24:=by
    rcases not_or.1 hend with ⟨-,h⟩;exact Classical.not_not.1 h
   rw[QI hkl] at HT;have HV:=zH hv;have hAn:=hAr.setNext (2+((k:Int)+1));have hKn:=hKr.trans (zc.setCell (S:=Own b bm v) wr ⟨b,3,none⟩ (.int .i64 (2+((k:Int)+1))) (.inl rfl));have e1:2+(k:Int)+1=2+((k:Int)+1):=by omega
   obtain⟨t,htd⟩:∃t,t=(nd ns k).v:=⟨_,rfl⟩;rw[<-htd] at HT hv;clear htd hend hAr hKr;go_wp2_with fail;refine HT.out.mono ?_;rintro e w1 ⟨rfl,rfl⟩;clear HT;go_wp2;go_roundw
   case rel =>
    refine⟨k+1,by omega,by omega,fun j h1 h2=>?_,hAn,hKn,by unfold QM;rw[hAn.cnext];rfl⟩
    by_cases e:j=k
    ·subst e;exact HV.out
    ·exact HO.out j h1 (by omega)
   case measure =>
    have e3:QM (wr.setCell ⟨b,3,none⟩ (.int .i64 (2+((k:Int)+1)))) b=2+((k:Int)+1):=by unfold QM;rw[hAn.cnext]
    rw[HNX.out,e3];omega
end
end Bd
namespace Bd
def mk(m:List Bool)(i:Nat):Bool:=m.getD i false
theorem zgu(m:List Bool)(i:Nat)(h:i<m.length):mk m i=m[i]:=by unfold mk;simp[List.getD_eq_getElem?_getD,List.getElem?_eq_getElem h]
theorem XB(m:List Bool)(k i:Nat)(h:k<m.length):mk (m.set k true) i=(decide (i=k)||mk m i):=by
 unfold mk;simp only[List.getD_eq_getElem?_getD,List.getElem?_set]
 by_cases e:k=i
 ·subst e;simp[h]
 ·rw[if_neg e,decide_eq_false (fun h=>e h.symm),Bool.false_or]
theorem zbh(n i:Nat):mk (List.replicate n false) i=false:=by
 unfold mk;simp only[List.getD_eq_getElem?_getD,List.getElem?_replicate];split<;>rfl
def qa:Nat->List Nd->Int->List Bool->List Bool
 |0,_,_,m=>m
 |d+1,ns,h,m =>
  if zb ns h=24\/mk m (h-2).toNat=true then m
  else qa d ns (nd ns (h-2).toNat).h (qa d ns (nd ns (h-2).toNat).l (m.set (h-2).toNat true))
theorem Z2{ns:List Nd}{h:Int}(ht:zb ns h≠24):2<=h/\(h-2).toNat<ns.length/\zb ns h=(nd ns (h-2).toNat).v:=by
 unfold zb at *
 by_cases hc:2<=h/\h<2+(ns.length:Int)
 ·rw[if_pos hc];exact⟨hc.1,by omega,rfl⟩
 ·rw[if_neg hc] at ht;exact absurd rfl ht
theorem Zx:∀(d:Nat) (ns:List Nd) (h:Int) (m:List Bool),(qa d ns h m).length=m.length
 |0,_,_,_=>rfl
 |d+1,ns,h,m=>by
  unfold qa;split
  ·rfl
  ·rw[Zx d,Zx d,List.length_set]
theorem YY:∀(d:Nat) (ns:List Nd) (h:Int) (m:List Bool),m.length=ns.length->∀i,mk m i=true->mk (qa d ns h m) i=true
 |0,_,_,_,_,_,hi=>hi
 |d+1,ns,h,m,hl,i,hi=>by
  unfold qa;split
  ·exact hi
  ·rename_i hn;have hb:=Z2 (not_or.1 hn).1;refine YY d ns _ _ (by rw[Zx,List.length_set,hl]) i (YY d ns _ _ (by rw[List.length_set,hl]) i ?_);rw[XB _ _ _ (by omega),hi,Bool.or_true]
structure zw(ns:List Nd):Prop where
 v0:∀j,j<ns.length->0<=(nd ns j).v/\(nd ns j).v<=24
 l:∀j,j<ns.length->(nd ns j).v<24->(nd ns j).v<zb ns (nd ns j).l/\ze ns (nd ns j).l=true
 h:∀j,j<ns.length->(nd ns j).v<24->(nd ns j).v<zb ns (nd ns j).h/\ze ns (nd ns j).h=true
 ok:∀j,j<ns.length->(nd ns j).Ok
theorem qh{ns:List Nd}(hr:zw ns)(h:Int):0<=zb ns h/\zb ns h<=24:=by
 by_cases ht:zb ns h=24
 ·rw[ht];omega
 ·obtain⟨h1,h2,h3⟩:=Z2 ht;rw[h3];exact hr.v0 _ h2
def yh(ns:List Nd)(m:List Bool)(h:Int):Prop:=zb ns h=24\/mk m (h-2).toNat=true
theorem yh.grow{ns:List Nd}{m:List Bool}{h:Int}(hm:yh ns m h)(hl:m.length=ns.length)(d:Nat)(h':Int):yh ns (qa d ns h' m) h:=hm.imp id (YY d ns h' m hl _)
theorem Kd{ns:List Nd}(hr:zw ns):∀(d:Nat) (h:Int) (m:List Bool),m.length=ns.length->24<=zb ns h+d ->
  yh ns (qa d ns h m) h/\∀i,i<ns.length->mk (qa d ns h m) i=true->mk m i=false->yh ns (qa d ns h m) (nd ns i).l/\yh ns (qa d ns h m) (nd ns i).h
 |0,h,m,_,hd=>by
  have:=(qh hr h).2;refine⟨.inl (by omega),fun i _ h1 h2=>?_⟩;unfold qa at h1;rw[h1] at h2;cases h2
 |d+1,h,m,hl,hd=>by
  unfold qa;split
  ·rename_i hc;exact⟨hc,fun i _ h1 h2=>by rw[h1] at h2;cases h2⟩
  ·rename_i hn;obtain⟨b1,b2,b3⟩:=Z2 (not_or.1 hn).1;have hv:(nd ns (h-2).toNat).v<24:=by have:=(qh hr h).2;have:=(not_or.1 hn).1;omega
   generalize hk:(h-2).toNat=k at *;have hl1:(m.set k true).length=ns.length:=by rw[List.length_set,hl]
   have hl2:(qa d ns (nd ns k).l (m.set k true)).length=ns.length:=by rw[Zx,hl1]
   have A:=Kd hr d (nd ns k).l (m.set k true) hl1 (by have:=(hr.l k b2 hv).1;omega);have C:=Kd hr d (nd ns k).h (qa d ns (nd ns k).l (m.set k true)) hl2 (by have:=(hr.h k b2 hv).1;omega);have hin:mk (m.set k true) k=true:=by rw[XB _ _ _ (by omega)];simp
   refine⟨.inr (by rw[hk];exact YY d ns _ _ hl2 _ (YY d ns _ _ hl1 _ hin)),fun i hi h1 h2=>?_⟩
   by_cases e:i=k
   ·subst e;exact⟨A.1.grow hl2 d _,C.1⟩
   ·by_cases h3:mk (qa d ns (nd ns k).l (m.set k true)) i=true
    ·have:=A.2 i hi h3 (by rw[XB _ _ _ (by omega),h2,decide_eq_false e];rfl);exact⟨this.1.grow hl2 d _,this.2.grow hl2 d _⟩
    ·exact C.2 i hi h1 (by simpa using h3)
def swept(ns:List Nd)(M:List Bool):List Nd:=(List.range ns.length).map fun i=>if mk M i=true then nd ns i else ⟨24,0,0⟩
theorem xR(ns:List Nd)(M:List Bool):(swept ns M).length=ns.length:=by simp[swept]
theorem Z4(ns:List Nd)(M:List Bool)(i:Nat)(h:i<ns.length):nd (swept ns M) i=if mk M i=true then nd ns i else ⟨24,0,0⟩:=by
 rw[xS _ i (by rw[xR];exact h)];simp[swept]
theorem zdO{ns:List Nd}{M:List Bool}{h:Int}:zb (swept ns M) h=if mk M (h-2).toNat=true then zb ns h else 24:=by
 unfold zb;rw[xR]
 by_cases hc:2<=h/\h<2+(ns.length:Int)
 ·rw[if_pos hc,if_pos hc,Z4 ns M _ (by omega)];split<;>rfl
 ·rw[if_neg hc,if_neg hc];split<;>rfl
end Bd
namespace Bd
open Go.RowKit Go.Maps
theorem Kw(w:World):(zeroValue 3).run Tryz.prog w=.ok (.int .i64 0) w:=by kernel_rfl
theorem QX{x:Int}(h:I64 x):plainElem (H:=Unit) Tryz.prog 3 (.int .i64 x)=some (.lit (.int .i64 x),[]):=plainElem_int Tryz.underlying3 (Ky h)
theorem Qt{P:Program}{k:TypeId}{R:Value->Option (DataW Unit × List MemPlace)}{w:World}{b n:Nat}{D:DataW Unit}(h:w.ownsMap P k R b n D):w.ownsMap P k R b (Maps.size D) D:=by
 obtain⟨es,clock,h1,h2,h3,rfl⟩:=h;exact⟨es,clock,h1,h2,by simp[Maps.size,length_sorted],rfl⟩
section
variable {w:World} {bm n:Nat} {D:DataW Unit} {L:List (Nd × Int)}
theorem zoi(hD:w.ownsMap Tryz.prog 166 (plainElem Tryz.prog 3) bm n D)(hR:Rep Nd.Ok Nd.lit (fun x:Int=>.lit (.int .i64 x)) D L){p:Nd × Int}(hp:p∈L) :
  (Instr.lookup 141 (.map (some bm)) (.agg #[.int .i64 p.1.v,.int .i64 p.1.l,.int .i64 p.1.h]) true).run Tryz.prog w=.ok (.tuple #[.int .i64 p.2,.bool true]) w:=by
 obtain⟨v,ps,hrun,hv⟩:=hD.look_ok QY Tryz.underlying141 (Kw w) (zd:=.lit (.int .i64 0)) (zp:=[]) (QX ⟨by omega,by omega⟩) (QB p.1 (hR.oks p hp));rw[hR.at' p hp] at hv;obtain⟨a,rfl,hz,-⟩:=plainElem_int_inv Tryz.underlying3 hv;rw[(hR.has p.1 (hR.oks p hp)).2 (List.mem_map_of_mem hp)] at hrun;simp at hz;rw[<-hz.1] at hrun;exact hrun
theorem ziS(hD:w.ownsMap Tryz.prog 166 (plainElem Tryz.prog 3) bm n D)(hR:Rep Nd.Ok Nd.lit (fun x:Int=>.lit (.int .i64 x)) D L){a:Nd}(ha:a.Ok)(hn:a∉L.map Prod.fst) :
  (Instr.lookup 141 (.map (some bm)) (.agg #[.int .i64 a.v,.int .i64 a.l,.int .i64 a.h]) true).run Tryz.prog w=.ok (.tuple #[.int .i64 0,.bool false]) w:=by
 obtain⟨v,ps,hrun,hv⟩:=hD.look_ok QY Tryz.underlying141 (Kw w) (zd:=.lit (.int .i64 0)) (zp:=[]) (QX ⟨by omega,by omega⟩) (QB a ha);have hh:=hR.not ha hn;rw[atKey_of_not_has hh] at hv;obtain⟨c,rfl,hz,-⟩:=plainElem_int_inv Tryz.underlying3 hv;rw[hh] at hrun;simp at hz;rw[<-hz.1] at hrun;exact hrun
theorem zlv(hD:w.ownsMap Tryz.prog 166 (plainElem Tryz.prog 3) bm L.length D)(hR:Rep Nd.Ok Nd.lit (fun x:Int=>.lit (.int .i64 x)) D L)(hl:L.length<1000000){a:Nd}(ha:a.Ok)(hn:a∉L.map Prod.fst){x:Int}(hx:I64 x) :
  ∃w' D',(Instr.mapUpdate 141 (.map (some bm)) (.agg #[.int .i64 a.v,.int .i64 a.l,.int .i64 a.h]) (.int .i64 x)).run Tryz.prog w=.ok () w'/\w'.ownsMap Tryz.prog 166 (plainElem Tryz.prog 3) bm (L++[(a,x)]).length D'/\Rep Nd.Ok Nd.lit (fun x:Int=>.lit (.int .i64 x)) D' (L++[(a,x)])/\zc (fun k=>k=bm) w w':=by
 obtain⟨w',hrun,h1,h2⟩:=hD.update QY Tryz.underlying141 (by unfold maxLen;omega) (QB a ha) (QX hx);refine⟨w',_,hrun,?_,hR.put (fun _ _=>zbM) zks ha hn x,zc.of_grown h2 (fun i h=>by cases h;rfl)⟩;rw[List.length_append];exact h1
end
section
variable {B b bm:Nat} {w:World} {v:Value} {ns:List Nd} {L:List (Nd × Int)} {room next:Int}
structure Fit(ns:List Nd)(n:Nd):Prop where
 v0:0<=n.v
 v1:n.v<24
 l:ze ns n.l=true
 h:ze ns n.h=true
 tl:n.v<zb ns n.l
 th:n.v<zb ns n.h
theorem Qi(B:Nat)(w:World)(n:Nat):Below B w (w.drewN n):=⟨rfl,rfl,rfl,Nat.le_refl _,fun _ _=>rfl⟩
theorem Kb(hA:zM B w b bm v ns L room next)(o:Obj)(h:Int)(hi:I64 h)(hl:ns.length<=1000000) :
  zC 121 #[.pointer (some ⟨b,0,none⟩),.int .i64 h] (w.alloc o) fun e w'=>e=.returned (.bool (ze ns h))/\w.alloc o=w' :=
 X6 (hA.kept (zc.alloc (fun _=>False) w o) (fun _ _ h=>h)) h hi hl
theorem KC(hA:zM B w b bm v ns L room next)(o:Obj)(h:Int)(hi:I64 h)(hl:ns.length<=1000000)(m:Nat) :
  zC 125 #[.pointer (some ⟨b,0,none⟩),.int .i64 h] ((w.alloc o).drewN m) fun e w'=>e=.returned (.int .i64 (zb ns h))/\∃m',w'=(w.alloc o).drewN m' :=
 (Yn ((hA.kept (zc.alloc (fun _=>False) w o) (fun _ _ h=>h)).kept (Z0 _ _ m) (fun _ _ h=>h)) h hi hl).mono fun _ _ ⟨h1,h2⟩=>⟨h1,m,h2.symm⟩
end
end Bd
end Go.Proofs.YtapobpgbcbplbaaGreatDoor
