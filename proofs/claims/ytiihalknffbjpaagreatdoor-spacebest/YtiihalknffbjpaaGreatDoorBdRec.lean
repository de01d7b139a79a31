/- makes: by the least variable. -/
import Derived.Test.YtiihalknffbjpaaGreatDoorBdSmall
namespace Go.Proofs.YtiihalknffbjpaaGreatDoor
set_option maxHeartbeats 4000000
set_option maxRecDepth 100000
namespace Bd
open Go.RowKit Go.Maps
theorem zsK:(412:TypeId)<Tryz.prog.types.size:=of_decide_eq_true (by kernel_rfl)
theorem zt2:(match Tryz.prog.underlying 412 with|some (.array _ _)|some (.struct _)=>true|_=>false)=true:=by rw[Tryz.underlying412]
theorem zpc:Keyed Tryz.prog 412:=Keyed.of_law (deep_law_laid zhY (m:=2) (by omega) zsK (by kernel_rfl) zt2)
theorem zmM:Tryz.prog.keyType 412=true:=by kernel_rfl
theorem zlq:Tryz.prog.cellsOf 412=3:=by kernel_rfl
theorem zpm(n:Nd)(h:n.Ok):keyOf Tryz.prog 412 n.val=some n.lit:=by
 have hf:n.val.formed Tryz.prog 412=true:=by simp[Value.formed,Tryz.underlying412,zlq,Nd.val]
 unfold keyOf;rw[Tryz.underlying412];simp only[zmM,hf,Bool.and_self,if_true];obtain⟨d,hd⟩:∃d,Tryz.prog.types.size+1=d+2:=⟨Tryz.prog.types.size-1,by have:0<Tryz.prog.types.size:=Nat.lt_of_le_of_lt (Nat.zero_le _) zsK;omega⟩;rw[hd];unfold Program.keyLits;rw[Tryz.underlying412];have hc:n.val.cells.toList=[.int .i64 n.v,.int .i64 n.l,.int .i64 n.h]:=rfl;rw[hc];simp[zlq,zfV,List.range,List.range.loop,zfe d h.1,zfe d h.2.1,zfe d h.2.2,Nd.lit]
theorem Rep.put_over{α β:Type}[DecidableEq α]{ok:α->Prop}{kl:α->Lit}{el:β->DataW Unit}{D:DataW Unit}{L:List (α × β)}(h:Rep ok kl el D L)(inj:∀a b,ok a->ok b->kl a=kl b->a=b)(key:∀a,WideAt.IsKeyLit (kl a)){a:α}(b:β)(hm:a∈L.map Prod.fst) :
  Rep ok kl el (D.put (kl a) (el b)) (L.map fun q=>if q.1=a then (q.1,b) else q):=by
 have hk:(L.map fun q=>if q.1=a then (q.1,b) else q).map Prod.fst=L.map Prod.fst:=by
  rw[List.map_map];apply List.map_congr_left;intro q _;simp only[Function.comp];split<;>rfl
 obtain⟨p0,hp0,rfl⟩:=List.mem_map.1 hm;have ha:=h.oks p0 hp0;have hne:∀c,ok c->c≠p0.1->kl c≠kl p0.1:=fun c hc hca e=>hca (inj c p0.1 hc ha e);refine⟨h.tidy.put (key _) _,?_,?_,?_,?_,?_,by rw[hk];exact h.nodup⟩
 ·rw[size_put h.tidy,(h.has p0.1 ha).2 hm];simp[h.size]
 ·intro q hq;obtain⟨r,hr,rfl⟩:=List.mem_map.1 hq;have:=h.oks r hr;split<;>exact this
 ·intro c hc;rw[hk]
  by_cases e:c=p0.1
  ·rw[e,has_put_same h.tidy.isMap (key _)];simp only[true_iff];exact hm
  ·rw[has_put_other (hne c hc e)];exact h.has c hc
 ·intro x hx;have hex:∃r∈L,x=kl r.1:=by
   by_cases e:x=kl p0.1
   ·exact⟨p0,hp0,e⟩
   ·rw[has_put_other e] at hx;exact h.all x hx
  obtain⟨r,hr,e⟩:=hex;exact⟨_,List.mem_map_of_mem hr,by rw[e];split<;>rfl⟩
 ·intro q hq z;obtain⟨r,hr,rfl⟩:=List.mem_map.1 hq
  by_cases e:r.1=p0.1
  ·rw[if_pos e];show (D.put (kl p0.1) (el b)).atKey (kl r.1) z=el b;rw[e];exact atKey_put_same h.tidy.isMap (key _) _ _
  ·rw[if_neg e,atKey_put_other (hne r.1 (h.oks r hr) e)];exact h.at' r hr z
section
variable {w:World} {bm n:Nat} {D:DataW Unit} {L:List (Nd × Int)}
theorem zkU(hD:w.ownsMap Tryz.prog 412 (plainElem Tryz.prog 3) bm n D)(hR:Rep Nd.Ok Nd.lit (fun x:Int=>.lit (.int .i64 x)) D L){p:Nd × Int}(hp:p∈L) :
  (Instr.lookup 464 (.map (some bm)) (.agg #[.int .i64 p.1.v,.int .i64 p.1.l,.int .i64 p.1.h]) true).run Tryz.prog w=.ok (.tuple #[.int .i64 p.2,.bool true]) w:=by
 obtain⟨v,ps,hrun,hv⟩:=hD.look_ok zpc Tryz.underlying464 (zim w) (zd:=.lit (.int .i64 0)) (zp:=[]) (znA ⟨by omega,by omega⟩) (zpm p.1 (hR.oks p hp));rw[hR.at' p hp] at hv;obtain⟨a,rfl,hz,-⟩:=plainElem_int_inv Tryz.underlying3 hv;rw[(hR.has p.1 (hR.oks p hp)).2 (List.mem_map_of_mem hp)] at hrun;simp at hz;rw[<-hz.1] at hrun;exact hrun
theorem zmk(hD:w.ownsMap Tryz.prog 412 (plainElem Tryz.prog 3) bm n D)(hR:Rep Nd.Ok Nd.lit (fun x:Int=>.lit (.int .i64 x)) D L){a:Nd}(ha:a.Ok)(hn:a∉L.map Prod.fst) :
  (Instr.lookup 464 (.map (some bm)) (.agg #[.int .i64 a.v,.int .i64 a.l,.int .i64 a.h]) true).run Tryz.prog w=.ok (.tuple #[.int .i64 0,.bool false]) w:=by
 obtain⟨v,ps,hrun,hv⟩:=hD.look_ok zpc Tryz.underlying464 (zim w) (zd:=.lit (.int .i64 0)) (zp:=[]) (znA ⟨by omega,by omega⟩) (zpm a ha);have hh:=hR.not ha hn;rw[atKey_of_not_has hh] at hv;obtain⟨c,rfl,hz,-⟩:=plainElem_int_inv Tryz.underlying3 hv;rw[hh] at hrun;simp at hz;rw[<-hz.1] at hrun;exact hrun
theorem zv4(hD:w.ownsMap Tryz.prog 412 (plainElem Tryz.prog 3) bm L.length D)(hR:Rep Nd.Ok Nd.lit (fun x:Int=>.lit (.int .i64 x)) D L)(hl:L.length<1000000){a:Nd}(ha:a.Ok){x:Int}(hx:I64 x) :
  ∃w' D',(Instr.mapUpdate 464 (.map (some bm)) (.agg #[.int .i64 a.v,.int .i64 a.l,.int .i64 a.h]) (.int .i64 x)).run Tryz.prog w=.ok () w'/\w'.ownsMap Tryz.prog 412 (plainElem Tryz.prog 3) bm (zcl L a x).length D'/\Rep Nd.Ok Nd.lit (fun x:Int=>.lit (.int .i64 x)) D' (zcl L a x)/\zan (fun k=>k=bm) w w':=by
 obtain⟨w',hrun,h1,h2⟩:=hD.update zpc Tryz.underlying464 (by unfold maxLen;omega) (zpm a ha) (znA hx);have hR':Rep Nd.Ok Nd.lit (fun x:Int=>.lit (.int .i64 x)) (D.put a.lit (.lit (.int .i64 x))) (zcl L a x):=by
  unfold zcl
  by_cases hm:a∈L.map Prod.fst
  ·rw[if_pos hm];exact hR.put_over (fun _ _=>zdi) zen x hm
  ·rw[if_neg hm];exact hR.put (fun _ _=>zdi) zen ha hm x
 exact⟨w',_,hrun,hR'.size▸za5 h1,hR',zan.of_grown h2 (fun i h=>by cases h;rfl)⟩
end
structure zcN(B:Nat)(w:World)(wk dm s:Nat)(F:FuncId)(m:List (Nd × Int)):Prop where
 lt:wk<w.heap.size
 c0:w.cell? ⟨wk,0,none⟩=some (.pointer (some ⟨s,0,none⟩))
 c1:w.cell? ⟨wk,1,none⟩=some (.func (.func F) #[] #[])
 c2:w.cell? ⟨wk,2,none⟩=some (.map (some dm))
 hmap:∃D,w.ownsMap Tryz.prog 412 (plainElem Tryz.prog 3) dm m.length D/\Rep Nd.Ok Nd.lit (fun x:Int=>.lit (.int .i64 x)) D m
 d:dm≠wk
 Bd:B<=dm
 Bw:B<=wk
section
variable {B wk dm s:Nat} {F:FuncId} {m m':List (Nd × Int)} {w w':World}
theorem zcN.kept{S:Nat->Prop}(h:zcN B w wk dm s F m)(hk:zan S w w')(h1:¬S wk)(h2:¬S dm):zcN B w' wk dm s F m:=by
 obtain⟨D,hD,hR⟩:=h.hmap;exact⟨Nat.lt_of_lt_of_le h.lt hk.size,(hk.cell (a:=⟨wk,0,none⟩) h.lt h1).trans h.c0,(hk.cell (a:=⟨wk,1,none⟩) h.lt h1).trans h.c1,(hk.cell (a:=⟨wk,2,none⟩) h.lt h1).trans h.c2,⟨D,za4 hD hk h2,hR⟩,h.d,h.Bd,h.Bw⟩
theorem zcN.new(h:zcN B w wk dm s F m)(hb:zB w w'):zcN B w' wk dm s F m:=h.kept (zan.of_below hb (fun _=>False)) (fun h=>h) (fun h=>h)
theorem zcN.dlt(h:zcN B w wk dm s F m):dm<w.heap.size:=by obtain⟨D,hD,-⟩:=h.hmap;exact hD.lt
theorem zcN.turned{D':DataW Unit}(h:zcN B w wk dm s F m)(hk:zan (fun j=>j=dm) w w')(hD:w'.ownsMap Tryz.prog 412 (plainElem Tryz.prog 3) dm m'.length D')(hR:Rep Nd.Ok Nd.lit (fun x:Int=>.lit (.int .i64 x)) D' m'):zcN B w' wk dm s F m':=by
 have hn:wk≠dm:=fun e=>h.d e.symm;exact⟨Nat.lt_of_lt_of_le h.lt hk.size,(hk.cell (a:=⟨wk,0,none⟩) h.lt hn).trans h.c0,(hk.cell (a:=⟨wk,1,none⟩) h.lt hn).trans h.c1,(hk.cell (a:=⟨wk,2,none⟩) h.lt hn).trans h.c2,⟨D',hD,hR⟩,h.d,h.Bd,h.Bw⟩
end
theorem zoM(s:Nat)(F:FuncId)(w:World)(B:Nat)(hB:B<=w.heap.size) :
  zC 325 #[.pointer (some ⟨s,0,none⟩),.func (.func F) #[] #[]] w fun e w'=>e=.returned (.pointer (some ⟨w.heap.size+1,0,none⟩))/\zcN B w' (w.heap.size+1) w.heap.size s F []/\zB w w':=by
 have hmm:=@run_makeMap Tryz.prog;have hE:zcN B ((w.alloc (.map #[] 0)).alloc (.cells #[.pointer (some ⟨s,0,none⟩),.func (.func F) #[] #[],.map (some w.heap.size)] 466)) (w.heap.size+1) w.heap.size s F []:=by
  have e1:(w.alloc (.map #[] 0)).heap.size=w.heap.size+1:=by simp
  have hm:((w.alloc (.map #[] 0)).alloc (.cells #[.pointer (some ⟨s,0,none⟩),.func (.func F) #[] #[],.map (some w.heap.size)] 466)).ownsMap Tryz.prog 412 (plainElem (H:=Unit) Tryz.prog 3) w.heap.size 0 (.map []):=(World.ownsMap_made w _ _ _).alloc _;refine⟨by simp,?_,?_,?_,⟨_,hm,Rep.empty⟩,by omega,hB,by omega⟩
  ·rw[<-e1];simp
  ·rw[<-e1];simp
  ·rw[<-e1];simp
 have hb:zB w ((w.alloc (.map #[] 0)).alloc (.cells #[.pointer (some ⟨s,0,none⟩),.func (.func F) #[] #[],.map (some w.heap.size)] 466)):=(below_new w _).alloc (below_new w _).size _;have HE:=zH hE;clear hE;go_enter Tryz.func325,Tryz.ntmps325;go_wp2;go_ret;exact⟨rfl,HE.out,hb⟩
theorem zu1(k:Nd)(w:World):zR 287 #[k.val] w (.tuple #[.int .i64 ((za1 true k).getD 0),.bool (za1 true k).isSome]):=by
 obtain⟨a,b,c⟩:=k;have hb:=below_new w (.cells #[.int .i64 a,.int .i64 b,.int .i64 c] 412);obtain⟨x0,x1,x2,-⟩:=zd6 w (.int .i64 a) (.int .i64 b) (.int .i64 c) 412;unfold Nd.val;show Calls _ _ _ _ fun e w'=>e=.returned (.tuple #[.int .i64 ((zha ⟨a,b,c⟩).getD 0),.bool (zha ⟨a,b,c⟩).isSome])/\_
 by_cases c1:a=1
 ·have hk:zha ⟨a,b,c⟩=some b:=by unfold zha;rw[if_pos (.inl c1)]
  rw[hk];clear hk;subst c1;go_enter Tryz.func287,Tryz.ntmps287;go_wp2;go_ret2;exact⟨rfl,hb⟩
 by_cases c2:b=c
 ·have hk:zha ⟨a,b,c⟩=some b:=by unfold zha;rw[if_pos (.inr c2)]
  rw[hk];clear hk;subst c2;go_enter Tryz.func287,Tryz.ntmps287;go_wp2;go_ret2;exact⟨rfl,hb⟩
 have q1:(a==1)=false:=by simpa using c1
 have q2:(b==c)=false:=by simpa using c2
 by_cases c3:a=0
 ·have hk:zha ⟨a,b,c⟩=some c:=by unfold zha;rw[if_neg (by simp[c1,c2]),if_pos c3]
  rw[hk];clear hk;subst c3;go_enter Tryz.func287,Tryz.ntmps287;go_wp2;go_ret2;exact⟨rfl,hb⟩
 have q3:(a==0)=false:=by simpa using c3
 by_cases c4:b=1
 ·by_cases c5:c=0
  ·have hk:zha ⟨a,b,c⟩=some a:=by unfold zha;rw[if_neg (by simp[c1,c2]),if_neg c3,if_pos ⟨c4,c5⟩]
   rw[hk];clear hk;subst c4 c5;go_enter Tryz.func287,Tryz.ntmps287;go_wp2;go_ret2;exact⟨rfl,hb⟩
  ·have hk:zha ⟨a,b,c⟩=none:=by unfold zha;rw[if_neg (by simp[c1,c2]),if_neg c3,if_neg (by simp[c5])]
   rw[hk];clear hk;subst c4;have q5:(c==0)=false:=by simpa using c5
   go_enter Tryz.func287,Tryz.ntmps287;go_wp2;go_ret2;exact⟨rfl,hb⟩
 ·have hk:zha ⟨a,b,c⟩=none:=by unfold zha;rw[if_neg (by simp[c1,c2]),if_neg c3,if_neg (by simp[c4])]
  rw[hk];clear hk;have q4:(b==1)=false:=by simpa using c4
  go_enter Tryz.func287,Tryz.ntmps287;go_wp2;go_ret2;exact⟨rfl,hb⟩
end Bd
namespace Bd
open Go.RowKit Go.Maps
structure WS(B:Nat)(w:World)(s b wk dm:Nat)(O:Nat->Prop)(F:FuncId)(op:Bool)(vars:Nat)(room:Int)(ns:List Nd)(m:List (Nd × Int)):Prop where
 space:zag B w s b O vars room ns
 work:zcN B w wk dm s F m
 good:zcI vars ns
 memo:zeP op ns m
 o1:¬O wk
 o2:¬O dm
 sd:s≠dm
 hB:B<=w.heap.size
structure MM(O O':Nat->Prop)(dm:Nat)(w w':World):Prop where
 kept:zan (fun j=>O j\/j=dm) w w'
 own:∀k,O' k->O k\/w.heap.size<=k
 map:∀k,O' k->zaw w' k\/(O k/\¬zaw w k)
structure zmP(F:FuncId)(op:Bool):Prop where
 enters:∀(args:Array Value) (w:World),(callFunc F args).run Tryz.prog w=.ok (.enter F args) w
 does:∀(k:Nd) (w:World),zR F #[k.val] w (.tuple #[.int .i64 ((za1 op k).getD 0),.bool (za1 op k).isSome])
theorem ziN:zmP 287 true:=⟨fun _ _=>by kernel_rfl,zu1⟩
section
variable {B s b wk dm:Nat} {O O' O'':Nat->Prop} {F:FuncId} {op:Bool} {vars:Nat} {room:Int} {ns:List Nd} {m:List (Nd × Int)} {w w' w'':World} {k:Nd}
theorem WS.new(h:WS B w s b wk dm O F op vars room ns m)(hb:zB w w'):WS B w' s b wk dm O F op vars room ns m :=
 ⟨h.space.new hb,h.work.new hb,h.good,h.memo,h.o1,h.o2,h.sd,Nat.le_trans h.hB hb.size⟩
theorem MM.of_below(hb:zB w w'):MM O O dm w w':=⟨zan.of_below hb _,fun _ h=>.inl h,(za2.of_below O hb).map⟩
theorem MM.of_moves(h:za2 O O' w w'):MM O O' dm w w':=⟨h.kept.mono (fun _ h=>.inl h),h.own,h.map⟩
theorem MM.trans(h:MM O O' dm w w')(k:MM O' O'' dm w' w''):MM O O'' dm w w'' :=
 ⟨h.kept.andThen k.kept (fun i hi hlt=>by
   rcases hi with hi|hi
   ·rcases h.own i hi with h1|h1
    ·exact .inl h1
    ·omega
   ·exact .inr hi),fun i hi=>by
  rcases k.own i hi with h1|h1
  ·exact h.own i h1
  ·exact .inr (Nat.le_trans h.kept.size h1),fun i hi=>by
  rcases k.map i hi with h1|⟨h1,h2⟩
  ·exact .inl h1
  ·rcases h.map i h1 with h3|h3
   ·exact absurd h3 h2
   ·exact .inr h3⟩
theorem MM.size(h:MM O O' dm w w'):w.heap.size<=w'.heap.size:=h.kept.size
theorem MM.beside(h:MM O O' dm w w'){j:Nat}(hlt:j<w.heap.size)(hn:¬O j):¬O' j:=fun ho=>by
 rcases h.own j ho with h1|h1
 ·exact hn h1
 ·omega
theorem MM.cell(h:MM O O' dm w w'){a:Addr}(hlt:a.block<w.heap.size)(hn:¬O a.block)(hd:a.block≠dm):w'.cell? a=w.cell? a:=h.kept.cell hlt (fun ho=>ho.elim hn hd)
theorem MM.frozen(h:MM O O' dm w w'){a:Addr}(hlt:a.block<w.heap.size)(hn:¬O a.block)(hd:a.block≠dm):w'.frozen? a=w.frozen? a:=h.kept.frozen hlt (fun ho=>ho.elim hn hd)
theorem WS.moved(h:WS B w s b wk dm O F op vars room ns m){ns':List Nd}(hS:zag B w' s b O' vars room ns')(hm:za2 O O' w w')(hg:zcI vars ns')(hx:Ext ns ns'):WS B w' s b wk dm O' F op vars room ns' m :=
 ⟨hS,h.work.kept hm.kept h.o1 h.o2,hg,h.memo.ext h.good.ranked hx,hm.beside h.work.lt h.o1,hm.beside h.work.dlt h.o2,h.sd,Nat.le_trans h.hB hm.size⟩
theorem zsN(h3:zhM ns k)(hl:ns.length<=90000):k.Ok:=⟨zbY h3.a (by omega),zbY h3.b (by omega),zbY h3.c (by omega)⟩
def zd5(B s b wk dm:Nat)(O:Nat->Prop)(F:FuncId)(op:Bool)(vars:Nat)(room:Int)(r:List Nd × List (Nd × Int) × Int)(w:World)(e:Ending)(w':World):Prop :=
 e=.returned (.tuple #[.int .i64 r.2.2,.nilIface])/\∃O',WS B w' s b wk dm O' F op vars room r.1 r.2.1/\MM O O' dm w w'
theorem zgK(h:WS B w s b wk dm O F op vars room ns m)(hF:zmP F op)(x:Int)(hk:za1 op k=some x) :
  zC 326 #[.pointer (some ⟨wk,0,none⟩),k.val] w (zd5 B s b wk dm O F op vars room (ns,m,x) w):=by
 have HW:=zH h;have c1:=h.work.c1;have wl:=h.work.lt;have HK:Hid (∀W,zR F #[k.val] W (.tuple #[.int .i64 x,.bool true])):=fun W=>by
  have:=hF.does k W;rw[hk] at this;exact this
 have hent:=hF.enters;clear h hF hk;obtain⟨ka,kb,kc⟩:=k;have hb:=below_new w (.cells #[.int .i64 ka,.int .i64 kb,.int .i64 kc] 412);obtain⟨x0,x1,x2,-⟩:=zd6 w (.int .i64 ka) (.int .i64 kb) (.int .i64 kc) 412;have d1:=(hb.cell (p:=⟨wk,1,none⟩) wl).trans c1;have bl:w.heap.size<(w.alloc (.cells #[.int .i64 ka,.int .i64 kb,.int .i64 kc] 412)).heap.size:=by simp
 have hbs:=hb.size;have wl1:wk<(w.alloc (.cells #[.int .i64 ka,.int .i64 kb,.int .i64 kc] 412)).heap.size:=by omega
 unfold Nd.val at HK ⊢;go_enter Tryz.func326,Tryz.ntmps326;go_wp2_with fail;have HB:=zH hb;clear hb c1;generalize (w.alloc (.cells #[.int .i64 ka,.int .i64 kb,.int .i64 kc] 412))=W1 at *;have e0:W1.drew.cell? ⟨wk,1,none⟩=some (.func (.func F) #[] #[]):=d1;have f0:W1.drew.cell? ⟨w.heap.size,0,none⟩=some (.int .i64 ka):=x0;have f1:W1.drew.cell? ⟨w.heap.size,1,none⟩=some (.int .i64 kb):=x1;have f2:W1.drew.cell? ⟨w.heap.size,2,none⟩=some (.int .i64 kc):=x2;go_region_held3 (fun w'=>w'.cell? ⟨wk,1,none⟩=some (.func (.func F) #[] #[])/\w'.cell? ⟨w.heap.size,0,none⟩=some (.int .i64 ka)/\w'.cell? ⟨w.heap.size,1,none⟩=some (.int .i64 kb)/\w'.cell? ⟨w.heap.size,2,none⟩=some (.int .i64 kc)) (first|exact⟨e0,f0,f1,f2⟩|exact⟨(hb2.cell (p:=⟨wk,1,none⟩) wl1).trans e0,(hb2.cell (p:=⟨w.heap.size,0,none⟩) bl).trans f0,(hb2.cell (p:=⟨w.heap.size,1,none⟩) bl).trans f1,(hb2.cell (p:=⟨w.heap.size,2,none⟩) bl).trans f2⟩)
  (first|(with_reducible refine(HK.out _).mono ?_;rintro e w2 ⟨rfl,hb2⟩))
 go_wp2;go_ret2;have hb3:zB w w2:=(HB.out.drew).trans (hb2.mono HB.out.size);exact⟨rfl,O,HW.out.new hb3,MM.of_below hb3⟩
theorem zmE(h:WS B w s b wk dm O F op vars room ns m)(hF:zmP F op)(x:Int)(hk:za1 op k=none)(hx:(k,x)∈m) :
  zC 326 #[.pointer (some ⟨wk,0,none⟩),k.val] w (zd5 B s b wk dm O F op vars room (ns,m,x) w):=by
 have HW:=zH h;have c1:=h.work.c1;have c2:=h.work.c2;have wl:=h.work.lt;have HL:Hid (∀W,zB w W->(Instr.lookup 464 (.map (some dm)) (.agg #[.int .i64 k.v,.int .i64 k.l,.int .i64 k.h]) true).run Tryz.prog W=.ok (.tuple #[.int .i64 x,.bool true]) W):=fun W hW=>by
  obtain⟨D,hD,hR⟩:=(h.work.new hW).hmap;exact zkU hD hR hx
 have HK:Hid (∀W,zR F #[k.val] W (.tuple #[.int .i64 0,.bool false])):=fun W=>by
  have:=hF.does k W;rw[hk] at this;exact this
 have hent:=hF.enters;clear h hF hk hx;obtain⟨ka,kb,kc⟩:=k;have hb:=below_new w (.cells #[.int .i64 ka,.int .i64 kb,.int .i64 kc] 412);obtain⟨x0,x1,x2,-⟩:=zd6 w (.int .i64 ka) (.int .i64 kb) (.int .i64 kc) 412;have d1:=(hb.cell (p:=⟨wk,1,none⟩) wl).trans c1;have d2:=(hb.cell (p:=⟨wk,2,none⟩) wl).trans c2;have bl:w.heap.size<(w.alloc (.cells #[.int .i64 ka,.int .i64 kb,.int .i64 kc] 412)).heap.size:=by simp
 have hbs:=hb.size;have wl1:wk<(w.alloc (.cells #[.int .i64 ka,.int .i64 kb,.int .i64 kc] 412)).heap.size:=by omega
 unfold Nd.val at HK ⊢;simp only at HL;go_enter Tryz.func326,Tryz.ntmps326;go_wp2_with fail;have HB:=zH hb;clear hb c1 c2;generalize (w.alloc (.cells #[.int .i64 ka,.int .i64 kb,.int .i64 kc] 412))=W1 at *;have e0:W1.drew.cell? ⟨wk,1,none⟩=some (.func (.func F) #[] #[]):=d1;have f0:W1.drew.cell? ⟨w.heap.size,0,none⟩=some (.int .i64 ka):=x0;have f1:W1.drew.cell? ⟨w.heap.size,1,none⟩=some (.int .i64 kb):=x1;have f2:W1.drew.cell? ⟨w.heap.size,2,none⟩=some (.int .i64 kc):=x2;go_region_held3 (fun w'=>w'.cell? ⟨wk,1,none⟩=some (.func (.func F) #[] #[])/\w'.cell? ⟨w.heap.size,0,none⟩=some (.int .i64 ka)/\w'.cell? ⟨w.heap.size,1,none⟩=some (.int .i64 kb)/\w'.cell? ⟨w.heap.size,2,none⟩=some (.int .i64 kc)) (first|exact⟨e0,f0,f1,f2⟩|exact⟨(hb2.cell (p:=⟨wk,1,none⟩) wl1).trans e0,(hb2.cell (p:=⟨w.heap.size,0,none⟩) bl).trans f0,(hb2.cell (p:=⟨w.heap.size,1,none⟩) bl).trans f1,(hb2.cell (p:=⟨w.heap.size,2,none⟩) bl).trans f2⟩)
  (first|(with_reducible refine(HK.out _).mono ?_;rintro e w2 ⟨rfl,hb2⟩))
 have hb3:zB w w2:=(HB.out.drew).trans (hb2.mono HB.out.size);have g0:w2.drew.cell? ⟨w.heap.size,0,none⟩=some (.int .i64 ka):=(hb2.cell (p:=⟨w.heap.size,0,none⟩) bl).trans f0;have g1:w2.drew.cell? ⟨w.heap.size,1,none⟩=some (.int .i64 kb):=(hb2.cell (p:=⟨w.heap.size,1,none⟩) bl).trans f1;have g2:w2.drew.cell? ⟨w.heap.size,2,none⟩=some (.int .i64 kc):=(hb2.cell (p:=⟨w.heap.size,2,none⟩) bl).trans f2;have gm:w2.drew.cell? ⟨wk,2,none⟩=some (.map (some dm)):=(hb2.cell (p:=⟨wk,2,none⟩) wl1).trans d2;have hrun:=HL.out _ hb3.drew;clear e0 f0 f1 f2 HK HL d1 d2 x0 x1 x2;go_wp2_with fail;go_region_held3 (fun w'=>w'.cell? ⟨wk,2,none⟩=some (.map (some dm))/\w'.cell? ⟨w.heap.size,0,none⟩=some (.int .i64 ka)/\w'.cell? ⟨w.heap.size,1,none⟩=some (.int .i64 kb)/\w'.cell? ⟨w.heap.size,2,none⟩=some (.int .i64 kc)) (exact⟨gm,g0,g1,g2⟩) (first|fail);go_wp2;go_ret2;exact⟨rfl,O,HW.out.new hb3.drew,MM.of_below hb3.drew⟩
end
end Bd
namespace Bd
open Go.RowKit Go.Maps
theorem zqV{P:Program}(w:World)(ts:Array TypeId)(t:TypeId)(k:IntKind)(x y z:Int) :
  (Builtin.min_ ts t #[.int k x,.int k y,.int k z]).run P w=.ok (.int k (min (min x y) z)) w:=by
 have e:∀x y:Int,(if y<x then y else x)=min x y:=fun x y=>by
  rw[Int.min_def];split<;>split<;>omega
 simp[Builtin.min_,Builtin.min2,e]
structure Tri(w:World)(bk:Nat)(a b c:Int):Prop where
 lt:bk<w.heap.size
 c0:w.cell? ⟨bk,0,none⟩=some (.int .i64 a)
 c1:w.cell? ⟨bk,1,none⟩=some (.int .i64 b)
 c2:w.cell? ⟨bk,2,none⟩=some (.int .i64 c)
 fz:∀i,w.frozen? ⟨bk,i,none⟩=false
section
variable {w w':World} {bk bk' i:Nat} {a b c:Int}
theorem Tri.kept{S:Nat->Prop}(h:Tri w bk a b c)(hk:zan S w w')(hn:¬S bk):Tri w' bk a b c :=
 ⟨Nat.lt_of_lt_of_le h.lt hk.size,(hk.cell (a:=⟨bk,0,none⟩) h.lt hn).trans h.c0,(hk.cell (a:=⟨bk,1,none⟩) h.lt hn).trans h.c1,(hk.cell (a:=⟨bk,2,none⟩) h.lt hn).trans h.c2,fun i=>(hk.frozen (a:=⟨bk,i,none⟩) h.lt hn).trans (h.fz i)⟩
theorem Tri.new(h:Tri w bk a b c)(hb:zB w w'):Tri w' bk a b c:=h.kept (zan.of_below hb (fun _=>False)) (fun h=>h)
theorem Tri.other(h:Tri w bk a b c)(u:Value)(hne:bk≠bk'):Tri (w.setCell ⟨bk',i,none⟩ u) bk a b c:=h.kept (zan.setCell (S:=fun j=>j=bk') w ⟨bk',i,none⟩ u rfl) hne
theorem zdK(w:World)(x:Addr)(u:Value):(w.setCell x u).heap.size=w.heap.size:=by simp[World.setCell]
theorem Tri.set0(h:Tri w bk a b c)(x:Int):Tri (w.setCell ⟨bk,0,none⟩ (.int .i64 x)) bk x b c :=
 ⟨by rw[zdK];exact h.lt,World.cell?_setCell_same _ _ _ h.c0,by rw[World.cell?_setCell_other _ _ _ _ (by simp)];exact h.c1,by rw[World.cell?_setCell_other _ _ _ _ (by simp)];exact h.c2,fun i=>by rw[World.frozen?_setCell];exact h.fz i⟩
theorem Tri.set1(h:Tri w bk a b c)(x:Int):Tri (w.setCell ⟨bk,1,none⟩ (.int .i64 x)) bk a x c :=
 ⟨by rw[zdK];exact h.lt,by rw[World.cell?_setCell_other _ _ _ _ (by simp)];exact h.c0,World.cell?_setCell_same _ _ _ h.c1,by rw[World.cell?_setCell_other _ _ _ _ (by simp)];exact h.c2,fun i=>by rw[World.frozen?_setCell];exact h.fz i⟩
theorem Tri.set2(h:Tri w bk a b c)(x:Int):Tri (w.setCell ⟨bk,2,none⟩ (.int .i64 x)) bk a b x :=
 ⟨by rw[zdK];exact h.lt,by rw[World.cell?_setCell_other _ _ _ _ (by simp)];exact h.c0,by rw[World.cell?_setCell_other _ _ _ _ (by simp)];exact h.c1,World.cell?_setCell_same _ _ _ h.c2,fun i=>by rw[World.frozen?_setCell];exact h.fz i⟩
theorem zkk(w:World)(a b c:Int)(t:TypeId):Tri (w.alloc (.cells #[.int .i64 a,.int .i64 b,.int .i64 c] t)) w.heap.size a b c:=by
 obtain⟨x0,x1,x2,x3⟩:=zd6 w (.int .i64 a) (.int .i64 b) (.int .i64 c) t;exact⟨by simp,x0,x1,x2,x3⟩
end
theorem zuk(a b c:Value)(w:World):(Instr.index 412 (.agg #[a,b,c]) (.int .i64 0)).run Tryz.prog w=.ok a w:=by kernel_rfl
theorem ztf(a b c:Value)(w:World):(Instr.index 412 (.agg #[a,b,c]) (.int .i64 1)).run Tryz.prog w=.ok b w:=by kernel_rfl
theorem zs7(a b c:Value)(w:World):(Instr.index 412 (.agg #[a,b,c]) (.int .i64 2)).run Tryz.prog w=.ok c w:=by kernel_rfl
def zoK(B s b wk dm:Nat)(F:FuncId)(op:Bool)(vars:Nat)(room:Int)(d:Nat):Prop :=
 ∀(ns:List Nd) (m:List (Nd × Int)) (k:Nd) (O:Nat->Prop) (w:World),WS B w s b wk dm O F op vars room ns m->zhM ns k->24<=zaz ns k+d->((cnt ns+2^rk vars ns k:Nat):Int)<=room+1->ns.length+2^rk vars ns k<=90000->m.length+2^rk vars ns k<=90000 ->
  zC 326 #[.pointer (some ⟨wk,0,none⟩),k.val] w (zd5 B s b wk dm O F op vars room (zak d op ns m k) w)
theorem zmv{d:Nat}{op:Bool}{ns:List Nd}{m:List (Nd × Int)}{k:Nd}(hk:za1 op k=none)(hn:look m k=none) :
  zak (d + 1) op ns m k=((zcE (zak d op (zak d op ns m (loK ns k (zaz ns k))).1 (zak d op ns m (loK ns k (zaz ns k))).2.1 (hiK ns k (zaz ns k))).1 (zaz ns k) (zak d op ns m (loK ns k (zaz ns k))).2.2 (zak d op (zak d op ns m (loK ns k (zaz ns k))).1 (zak d op ns m (loK ns k (zaz ns k))).2.1 (hiK ns k (zaz ns k))).2.2).1,
   zcl (zak d op (zak d op ns m (loK ns k (zaz ns k))).1 (zak d op ns m (loK ns k (zaz ns k))).2.1 (hiK ns k (zaz ns k))).2.1 k (zcE (zak d op (zak d op ns m (loK ns k (zaz ns k))).1 (zak d op ns m (loK ns k (zaz ns k))).2.1 (hiK ns k (zaz ns k))).1 (zaz ns k) (zak d op ns m (loK ns k (zaz ns k))).2.2 (zak d op (zak d op ns m (loK ns k (zaz ns k))).1 (zak d op ns m (loK ns k (zaz ns k))).2.1 (hiK ns k (zaz ns k))).2.2).2,
   (zcE (zak d op (zak d op ns m (loK ns k (zaz ns k))).1 (zak d op ns m (loK ns k (zaz ns k))).2.1 (hiK ns k (zaz ns k))).1 (zaz ns k) (zak d op ns m (loK ns k (zaz ns k))).2.2 (zak d op (zak d op ns m (loK ns k (zaz ns k))).1 (zak d op ns m (loK ns k (zaz ns k))).2.1 (hiK ns k (zaz ns k))).2.2).2):=by
 conv=>lhs;unfold zak
 rw[hk];simp only;rw[hn]
section
variable {B s b wk dm:Nat} {O:Nat->Prop} {F:FuncId} {op:Bool} {vars:Nat} {room:Int} {ns:List Nd} {m:List (Nd × Int)} {w:World} {k:Nd}
theorem zo5(hroom:room<=4000)(hF:zmP F op)(d:Nat)(ih:zoK B s b wk dm F op vars room d)(h:WS B w s b wk dm O F op vars room ns m)(h3:zhM ns k)(hd:24<=zaz ns k+(d+1:Nat))(hlc:((cnt ns+2^rk vars ns k:Nat):Int)<=room+1)(hl:ns.length+2^rk vars ns k<=90000)(hm:m.length+2^rk vars ns k<=90000)
  (hk:za1 op k=none) (hn:look m k=none) :
  zC 326 #[.pointer (some ⟨wk,0,none⟩),k.val] w (zd5 B s b wk dm O F op vars room (zak (d+1) op ns m k) w):=by
 have pge:=Nat.one_le_two_pow (n:=rk vars ns k);have hlen:ns.length<=90000:=by omega
 have hr:=h.good.ranked;have hv:=zcY hr h3 hk;have hv0:=(zdQ hr k).1;have hok:=zsN h3 (by omega);have hnk:=ztq hn;have hvv:=zge h.good hv;obtain⟨l3,lt⟩:=zkI hr h3 hv;obtain⟨g3,gt⟩:=zj4 hr h3 hv;have hpow:2^rk vars ns k=2^(rk vars ns k-1)+2^(rk vars ns k-1):=by
  have:1<=rk vars ns k:=by unfold rk;omega
  obtain⟨q,hq⟩:∃q,rk vars ns k=q+1:=⟨rk vars ns k-1,by omega⟩;rw[hq,Nat.add_sub_cancel,Nat.pow_succ];omega
 have pg1:=Nat.one_le_two_pow (n:=rk vars ns k-1);have p1:2^rk vars ns (loK ns k (zaz ns k))<=2^(rk vars ns k-1):=Nat.pow_le_pow_right (by omega) (by unfold rk;omega);have i1:=zcs (op:=op) d ns m (loK ns k (zaz ns k)) h.good h.memo l3 (by omega) (by omega);have hall:=zcs (op:=op) (d+1) ns m k h.good h.memo h3 hd (by omega);rw[zmv hk hn] at hall ⊢;have C1:=ih ns m (loK ns k (zaz ns k)) O;generalize zak d op ns m (loK ns k (zaz ns k))=r1 at *;have g3':=g3.ext i1.ext;have gm:=zeL g3 i1.ext;have p2:2^rk vars r1.1 (hiK ns k (zaz ns k))<=2^(rk vars ns k-1):=Nat.pow_le_pow_right (by omega) (by unfold rk;rw[gm];omega);have l1:=i1.len;have cc1:=i1.cnt;have m1:=i1.mlen;have i2:=zcs (op:=op) d r1.1 r1.2.1 (hiK ns k (zaz ns k)) i1.good i1.memo g3' (by rw[gm];omega) (by omega);have C2:=fun O'=>ih r1.1 r1.2.1 (hiK ns k (zaz ns k)) O';generalize zak d op r1.1 r1.2.1 (hiK ns k (zaz ns k))=r2 at *;have l2:=i2.len;have cc2:=i2.cnt;have m2:=i2.mlen;have h1':=i2.ext.has _ i1.has;have t1':zaa r2.1 r1.2.2=zaa r1.1 r1.2.2:=i2.ext.top _ i1.has;have i3:=zde i2.good (v:=zaz ns k) (l:=r1.2.2) (h:=r2.2.2) (by omega) hv0 hv hvv h1' i2.has (by rw[t1'];have:=i1.top;omega) (by have:=i2.top;rw[gm] at this;omega);have HC1:Hid (∀W,zB w W->zC 326 #[.pointer (some ⟨wk,0,none⟩),(loK ns k (zaz ns k)).val] W (zd5 B s b wk dm O F op vars room r1 W)):=fun W hW=>C1 W (h.new hW) l3 (by omega) (by omega) (by omega) (by omega);have HC2:Hid (∀O' W,WS B W s b wk dm O' F op vars room r1.1 r1.2.1->zC 326 #[.pointer (some ⟨wk,0,none⟩),(hiK ns k (zaz ns k)).val] W (zd5 B s b wk dm O' F op vars room r2 W)):=fun O' W hW=>C2 O' W hW g3' (by rw[gm];omega) (by omega) (by omega) (by omega);have HC3:Hid (∀O' W,zag B W s b O' vars room r2.1->B<=W.heap.size->zC 323 #[.pointer (some ⟨s,0,none⟩),.int .i64 (zaz ns k),.int .i64 r1.2.2,.int .i64 r2.2.2] W fun e w'=>e=.returned (.tuple #[.int .i64 (zcE r2.1 (zaz ns k) r1.2.2 r2.2.2).2,.nilIface])/\∃O'',zag B w' s b O'' vars room (zcE r2.1 (zaz ns k) r1.2.2 r2.2.2).1/\za2 O' O'' W w'):=fun O' W hW hBW =>
  zin hW (by omega) (by omega) hBW (zaz ns k) r1.2.2 r2.2.2 hv0 hv h1' i2.has (by rw[t1'];have:=i1.top;omega) (by have:=i2.top;rw[gm] at this;omega)
 generalize zcE r2.1 (zaz ns k) r1.2.2 r2.2.2=r3 at *;have HI2:=zH i2;have HI3:=zH i3;have HALL:=zH hall;have hml2:r2.2.1.length<=90000:=by omega
 clear C1 C2 i1 i2 i3 hall l3 lt g3 gt hpow pg1 p1 g3' gm p2 l1 m1 l2 m2 cc1 cc2 h1' t1';have HW:=zH h;have H3:=zH h3;have c0:=h.work.c0;have c1:=h.work.c1;have c2:=h.work.c2;have wl:=h.work.lt;have sl:=h.space.slt;have s0:=h.space.c0;have HL:Hid (∀W,zB w W->(Instr.lookup 464 (.map (some dm)) (.agg #[.int .i64 k.v,.int .i64 k.l,.int .i64 k.h]) true).run Tryz.prog W=.ok (.tuple #[.int .i64 0,.bool false]) W):=fun W hW=>by
  obtain⟨D,hD,hR⟩:=(h.work.new hW).hmap;exact zmk hD hR hok hnk
 have HK:Hid (∀W,zR F #[k.val] W (.tuple #[.int .i64 0,.bool false])):=fun W=>by
  have:=hF.does k W;rw[hk] at this;exact this
 have HT:Hid (∀(x:Int) (W:World),I64 x->zB w W->zC 164 #[.pointer (some ⟨b,0,none⟩),.int .i64 x] W fun e w'=>e=.returned (.int .i64 (zaa ns x))/\W=w'):=fun x W hx hW=>zvN (h.space.new hW) x hx (by omega);have HSD:Hid (∀(x:Int) (W:World),I64 x->zB w W->zR 351 #[.pointer (some ⟨s,0,none⟩),.int .i64 x,.int .i64 (zaz ns k)] W (.tuple #[.int .i64 (loS ns x (zaz ns k)),.int .i64 (hiS ns x (zaz ns k))])):=fun x W hx hW=>zoO (h.space.new hW) (by omega) x _ hx hv;have hent:=hF.enters;have hmin:=@zqV Tryz.prog;have HOK:=zH hok;have hMT:zaz ns k=min (min (zaa ns k.v) (zaa ns k.l)) (zaa ns k.h):=rfl;have HMT:=zH hMT;clear h h3 ih hF hk hnk hn hok hMT hd;have hb:=below_new w (.cells #[.int .i64 k.v,.int .i64 k.l,.int .i64 k.h] 412);obtain⟨x0,x1,x2,-⟩:=zd6 w (.int .i64 k.v) (.int .i64 k.l) (.int .i64 k.h) 412;have d1:=(hb.cell (p:=⟨wk,1,none⟩) wl).trans c1;have bl:w.heap.size<(w.alloc (.cells #[.int .i64 k.v,.int .i64 k.l,.int .i64 k.h] 412)).heap.size:=by simp
 have hbs:=hb.size;have wl1:wk<(w.alloc (.cells #[.int .i64 k.v,.int .i64 k.l,.int .i64 k.h] 412)).heap.size:=by omega
 have TB:=zH (zkk w k.v k.l k.h 412);unfold Nd.val at HK ⊢;go_enter Tryz.func326,Tryz.ntmps326;go_wp2_with fail;have HB:=zH hb;clear hb;generalize (w.alloc (.cells #[.int .i64 k.v,.int .i64 k.l,.int .i64 k.h] 412))=W1 at *;have e0:W1.drew.cell? ⟨wk,1,none⟩=some (.func (.func F) #[] #[]):=d1;have f0:W1.drew.cell? ⟨w.heap.size,0,none⟩=some (.int .i64 k.v):=x0;have f1:W1.drew.cell? ⟨w.heap.size,1,none⟩=some (.int .i64 k.l):=x1;have f2:W1.drew.cell? ⟨w.heap.size,2,none⟩=some (.int .i64 k.h):=x2;go_region_held3 (fun w'=>w'.cell? ⟨wk,1,none⟩=some (.func (.func F) #[] #[])/\w'.cell? ⟨w.heap.size,0,none⟩=some (.int .i64 k.v)/\w'.cell? ⟨w.heap.size,1,none⟩=some (.int .i64 k.l)/\w'.cell? ⟨w.heap.size,2,none⟩=some (.int .i64 k.h)) (first|exact⟨e0,f0,f1,f2⟩|exact⟨(hb2.cell (p:=⟨wk,1,none⟩) wl1).trans e0,(hb2.cell (p:=⟨w.heap.size,0,none⟩) bl).trans f0,(hb2.cell (p:=⟨w.heap.size,1,none⟩) bl).trans f1,(hb2.cell (p:=⟨w.heap.size,2,none⟩) bl).trans f2⟩)
  (first|(with_reducible refine(HK.out _).mono ?_;rintro e w2 ⟨rfl,hb2⟩))
 have hb3:zB w w2:=(HB.out.drew).trans (hb2.mono HB.out.size);have g0:w2.drew.cell? ⟨w.heap.size,0,none⟩=some (.int .i64 k.v):=(hb2.cell (p:=⟨w.heap.size,0,none⟩) bl).trans f0;have g1:w2.drew.cell? ⟨w.heap.size,1,none⟩=some (.int .i64 k.l):=(hb2.cell (p:=⟨w.heap.size,1,none⟩) bl).trans f1;have g2:w2.drew.cell? ⟨w.heap.size,2,none⟩=some (.int .i64 k.h):=(hb2.cell (p:=⟨w.heap.size,2,none⟩) bl).trans f2;have gm:w2.drew.cell? ⟨wk,2,none⟩=some (.map (some dm)):=(hb3.cell (p:=⟨wk,2,none⟩) wl).trans c2;have hrun:=HL.out _ hb3.drew;have bl2:w.heap.size<w2.heap.size:=Nat.lt_of_lt_of_le bl hb2.size;have TB2:Hid (Tri w2.drew w.heap.size k.v k.l k.h):=((TB.out.new zF.drew).new hb2).new zF.drew;clear TB;clear e0 f0 f1 f2 HK HL d1 x0 x1 x2 hent hb2 HB;go_wp2_with fail;go_region_held3 (fun w'=>w'.cell? ⟨wk,2,none⟩=some (.map (some dm))/\w'.cell? ⟨w.heap.size,0,none⟩=some (.int .i64 k.v)/\w'.cell? ⟨w.heap.size,1,none⟩=some (.int .i64 k.l)/\w'.cell? ⟨w.heap.size,2,none⟩=some (.int .i64 k.h)) (exact⟨gm,g0,g1,g2⟩) (first|fail);clear hrun;have HB3:=zH hb3.drew;have bl3:w.heap.size<w2.drew.heap.size:=bl2;clear hb3;generalize w2.drew=W3 at *;have SC:Hid (∀X,zB W3 X->(X.cell? ⟨wk,0,none⟩=some (.pointer (some ⟨s,0,none⟩))/\X.cell? ⟨s,0,none⟩=some (.pointer (some ⟨b,0,none⟩))/\X.cell? ⟨w.heap.size,0,none⟩=some (.int .i64 k.v)/\X.cell? ⟨w.heap.size,1,none⟩=some (.int .i64 k.l)/\X.cell? ⟨w.heap.size,2,none⟩=some (.int .i64 k.h))):=fun X hX =>
  ⟨((zT HB3.out hX).cell (p:=⟨wk,0,none⟩) wl).trans c0,((zT HB3.out hX).cell (p:=⟨s,0,none⟩) sl).trans s0,(hX.cell (p:=⟨w.heap.size,0,none⟩) bl3).trans g0,(hX.cell (p:=⟨w.heap.size,1,none⟩) bl3).trans g1,(hX.cell (p:=⟨w.heap.size,2,none⟩) bl3).trans g2⟩
 have D0:zB W3 W3.drew:=zF.drew;have T0:=HOK.out.1;have T1:=HOK.out.2.1;have T2:=HOK.out.2.2;clear g0 g1 g2 gm;go_wp2_with fail;go_region_held3 (fun X=>X.cell? ⟨wk,0,none⟩=some (.pointer (some ⟨s,0,none⟩))/\X.cell? ⟨s,0,none⟩=some (.pointer (some ⟨b,0,none⟩))/\X.cell? ⟨w.heap.size,0,none⟩=some (.int .i64 k.v)/\X.cell? ⟨w.heap.size,1,none⟩=some (.int .i64 k.l)/\X.cell? ⟨w.heap.size,2,none⟩=some (.int .i64 k.h)) (exact SC.out _ D0)
  (first|(go_at_call 164;with_reducible refine(HT.out _ _ (by first|exact T0|exact T1|exact T2) HB3.out.drew).mono ?_;rintro e wz ⟨rfl,rfl⟩))
 have hmn:min (zaa ns k.v) (min (zaa ns k.l) (zaa ns k.h))=zaz ns k:=by unfold zaz;omega
 rw[hmn];clear hmn hmin HT HMT;have HB4:=zH HB3.out.drew;have SD:Hid (∀X,Below W3.drew.heap.size W3.drew X->X.cell? ⟨wk,0,none⟩=some (.pointer (some ⟨s,0,none⟩))/\Tri X w.heap.size k.v k.l k.h):=fun X hX=>⟨((zT HB4.out hX).cell (p:=⟨wk,0,none⟩) wl).trans c0,(TB2.out.new zF.drew).new hX⟩;generalize zaa ns k.v=tv at *;generalize zaa ns k.l=tl at *;generalize zaa ns k.h=th at *;have bl4:w.heap.size<W3.drew.heap.size:=bl3;clear SC D0 TB2;generalize W3.drew=W4 at *;obtain⟨g0,g1⟩:=SD.out _ (Below.refl _ W4);have q0:=g1.c0;have q1:=g1.c1;have q2:=g1.c2;have zz:(W4.alloc (.cells #[.int .i64 0,.int .i64 0,.int .i64 0] 412)).heap.size=W4.heap.size+1:=by simp
 have TL:=zH ((zkk W4 0 0 0 412).new (below_new _ (.cells #[.int .i64 0,.int .i64 0,.int .i64 0] 412)));have TH0:=zkk (W4.alloc (.cells #[.int .i64 0,.int .i64 0,.int .i64 0] 412)) 0 0 0 412;rw[zz] at TH0;have TH:=zH TH0;have B5:Hid (zB W4 ((W4.alloc (.cells #[.int .i64 0,.int .i64 0,.int .i64 0] 412)).alloc (.cells #[.int .i64 0,.int .i64 0,.int .i64 0] 412))):=(below_new W4 _).alloc (below_new W4 _).size _;clear TH0 zz;generalize zaz ns k=v at *;have KV:=zH T0;have KL:=zH T1;have KH:=zH T2;clear T0 T1 T2;go_wp2_with fail;go_loopw [73] (fun i wr=>zB W4 wr/\(
   (i=.int .i64 0/\Tri wr W4.heap.size 0 0 0/\Tri wr (W4.heap.size+1) 0 0 0) \/
   (i=.int .i64 1/\Tri wr W4.heap.size (loS ns k.v v) 0 0/\Tri wr (W4.heap.size+1) (hiS ns k.v v) 0 0) \/
   (i=.int .i64 2/\Tri wr W4.heap.size (loS ns k.v v) (loS ns k.l v) 0/\Tri wr (W4.heap.size+1) (hiS ns k.v v) (hiS ns k.l v) 0) \/
   (i=.int .i64 3/\Tri wr W4.heap.size (loS ns k.v v) (loS ns k.l v) (loS ns k.h v)/\Tri wr (W4.heap.size + 1) (hiS ns k.v v) (hiS ns k.l v) (hiS ns k.h v))))
  (fun i _=>3-(intOf i).toNat)
 case atStart=>exact⟨B5.out,.inl ⟨rfl,TL.out,TH.out⟩⟩
 case round =>
  obtain⟨hbr,hrel⟩:=hrel;obtain⟨y0,-⟩:=SD.out _ hbr;have hbw:=zT HB4.out hbr;have hbrs:=hbr.size;have HBR:=zH hbr;clear TL TH B5 hbr;rcases hrel with ⟨rfl,t1,t2⟩|⟨rfl,t1,t2⟩|⟨rfl,t1,t2⟩|⟨rfl,t1,t2⟩
  ·have HC:=zH (HSD.out k.v wr KV.out hbw);generalize loS ns k.v v=lo at *;generalize hiS ns k.v v=hi at *;have T1':=zH t1;have T2':=zH t2;clear t1 t2 hbw;have hix:=zuk;go_wp2_with fail;clear hix;refine HC.out.mono ?_;rintro e w5 ⟨rfl,hb5⟩;have u1:=T1'.out.new hb5;have u2:=T2'.out.new hb5;have z0:=u1.c0;have z1:=u1.fz 0;have u1':=u1.set0 lo;have u2':=(u2.other (bk':=W4.heap.size) (i:=0) (.int .i64 lo) (by omega));have z2:=u2'.c0;have z3:=u2'.fz 0;have hb6:=HBR.out.trans (hb5.mono hbrs);have U1:=zH (u1'.other (bk':=W4.heap.size+1) (i:=0) (.int .i64 hi) (by omega));have U2:=zH (u2'.set0 hi);have HB6:Hid (zB W4 ((w5.setCell ⟨W4.heap.size,0,none⟩ (.int .i64 lo)).setCell ⟨W4.heap.size+1,0,none⟩ (.int .i64 hi))):=(hb6.setCell zN _).setCell (Nat.le_succ _) _;clear u1 u2 u1' u2' HC hb5 hb6;go_wp2;go_roundw
   case rel=>exact⟨HB6.out,.inr (.inl ⟨rfl,U1.out,U2.out⟩)⟩
   case measure=>simp[intOf]
  ·have HC:=zH (HSD.out k.l wr KL.out hbw);generalize loS ns k.l v=lo at *;generalize hiS ns k.l v=hi at *;have T1':=zH t1;have T2':=zH t2;clear t1 t2 hbw;have hix:=ztf;go_wp2_with fail;clear hix;refine HC.out.mono ?_;rintro e w5 ⟨rfl,hb5⟩;have u1:=T1'.out.new hb5;have u2:=T2'.out.new hb5;have z0:=u1.c1;have z1:=u1.fz 1;have u1':=u1.set1 lo;have u2':=(u2.other (bk':=W4.heap.size) (i:=1) (.int .i64 lo) (by omega));have z2:=u2'.c1;have z3:=u2'.fz 1;have hb6:=HBR.out.trans (hb5.mono hbrs);have U1:=zH (u1'.other (bk':=W4.heap.size+1) (i:=1) (.int .i64 hi) (by omega));have U2:=zH (u2'.set1 hi);have HB6:Hid (zB W4 ((w5.setCell ⟨W4.heap.size,1,none⟩ (.int .i64 lo)).setCell ⟨W4.heap.size+1,1,none⟩ (.int .i64 hi))):=(hb6.setCell zN _).setCell (Nat.le_succ _) _;clear u1 u2 u1' u2' HC hb5 hb6;go_wp2;go_roundw
   case rel=>exact⟨HB6.out,.inr (.inr (.inl ⟨rfl,U1.out,U2.out⟩))⟩
   case measure=>simp[intOf]
  ·have HC:=zH (HSD.out k.h wr KH.out hbw);generalize loS ns k.h v=lo at *;generalize hiS ns k.h v=hi at *;have T1':=zH t1;have T2':=zH t2;clear t1 t2 hbw;have hix:=zs7;go_wp2_with fail;clear hix;refine HC.out.mono ?_;rintro e w5 ⟨rfl,hb5⟩;have u1:=T1'.out.new hb5;have u2:=T2'.out.new hb5;have z0:=u1.c2;have z1:=u1.fz 2;have u1':=u1.set2 lo;have u2':=(u2.other (bk':=W4.heap.size) (i:=2) (.int .i64 lo) (by omega));have z2:=u2'.c2;have z3:=u2'.fz 2;have hb6:=HBR.out.trans (hb5.mono hbrs);have U1:=zH (u1'.other (bk':=W4.heap.size+1) (i:=2) (.int .i64 hi) (by omega));have U2:=zH (u2'.set2 hi);have HB6:Hid (zB W4 ((w5.setCell ⟨W4.heap.size,2,none⟩ (.int .i64 lo)).setCell ⟨W4.heap.size+1,2,none⟩ (.int .i64 hi))):=(hb6.setCell zN _).setCell (Nat.le_succ _) _;clear u1 u2 u1' u2' HC hb5 hb6;go_wp2;go_roundw
   case rel=>exact⟨HB6.out,.inr (.inr (.inr ⟨rfl,U1.out,U2.out⟩))⟩
   case measure=>simp[intOf]
  ·have hlo:(loK ns k v).val=.agg #[.int .i64 (loS ns k.v v),.int .i64 (loS ns k.l v),.int .i64 (loS ns k.h v)]:=rfl;have hhi:(hiK ns k v).val=.agg #[.int .i64 (hiS ns k.v v),.int .i64 (hiS ns k.l v),.int .i64 (hiS ns k.h v)]:=rfl;rw[hlo] at HC1;rw[hhi] at HC2;clear hlo hhi HSD;generalize loS ns k.v v=la at *;generalize loS ns k.l v=lb at *;generalize loS ns k.h v=lc at *;generalize hiS ns k.v v=ha at *;generalize hiS ns k.l v=hb at *;generalize hiS ns k.h v=hc at *;have TK:=zH (SD.out _ HBR.out).2;have z0:=t1.c0;have z1:=t1.c1;have z2:=t1.c2;have HT2:=zH t2;have HC1':=zH (HC1.out _ hbw);have HBW:=zH hbw;have OO:=zH (fun j (ho:O j)=>(HW.out.space.own j ho).2);have dl:=HW.out.work.dlt;clear HC1 t1 t2 hbw SD;go_wp2_with fail;refine HC1'.out.mono ?_;rintro e w7 ⟨rfl,O1,hw7,mm7⟩;have hs7:=mm7.size;have t27:Tri w7 (W4.heap.size+1) ha hb hc:=HT2.out.kept mm7.kept (fun ho=>ho.elim (fun h=>by have:=OO.out _ h;omega) (fun h=>by omega));have tk7:Tri w7 w.heap.size k.v k.l k.h:=TK.out.kept mm7.kept (fun ho=>ho.elim (fun h=>by have:=OO.out _ h;omega) (fun h=>by omega));have z3:=t27.c0;have z4:=t27.c1;have z5:=t27.c2;have HC2':=zH (HC2.out O1 w7 hw7);have HTK:=zH tk7;have HM7:=zH mm7;clear HC1' HC2 HT2 TK t27 tk7 mm7 z0 z1 z2;go_wp2_with fail;refine HC2'.out.mono ?_;rintro e w8 ⟨rfl,O2,hw8,mm8⟩;have hs8:=mm8.size;have dl7:dm<w7.heap.size:=by omega
   have o17:¬O1 w.heap.size:=HM7.out.beside (by omega) (fun h=>by have:=OO.out _ h;omega);have tk8:Tri w8 w.heap.size k.v k.l k.h:=HTK.out.kept mm8.kept (fun ho=>ho.elim o17 (fun h=>by omega));have o28:¬O2 w.heap.size:=mm8.beside (by omega) o17;have y8:=hw8.work.c0;have HC3':=zH (HC3.out O2 w8 hw8.space hw8.hB);have HTK8:=zH tk8;have HM8:=zH (HM7.out.trans mm8);have HW8:=zH hw8;clear HC2' HC3 HTK HM7 tk8 mm8 hw8 z3 z4 z5;go_wp2_with fail;refine HC3'.out.mono ?_;rintro e w9 ⟨rfl,O3,hs9,mv9⟩;have hw9:=HW8.out.moved hs9 mv9 HI3.out.good HI3.out.ext;have tk9:Tri w9 w.heap.size k.v k.l k.h:=HTK8.out.kept mv9.kept o28;have mm9:=HM8.out.trans (MM.of_moves (dm:=dm) mv9);have hw9d:=hw9.new (Below.refl _ w9).drew;obtain⟨D,hD,hR⟩:=hw9d.work.hmap;obtain⟨w10,D',hrun,hD',hR',hK⟩:=zv4 hD hR (by omega) HOK.out (x:=r3.2) HI3.out.i64;have a0:w9.drew.cell? ⟨wk,2,none⟩=some (.map (some dm)):=hw9.work.c2;have tk9d:=tk9.new (Below.refl _ w9).drew;have a1:=tk9d.c0;have a2:=tk9d.c1;have a3:=tk9d.c2;have hne:wk≠dm:=fun e=>hw9.work.d e.symm;have hbne:w.heap.size≠dm:=by omega
   have hl9:=hw9d.work.lt;have b0:=(hK.cell (a:=⟨wk,2,none⟩) hl9 hne).trans a0;have tk10:=tk9d.kept hK hbne;have b1:=tk10.c0;have b2:=tk10.c1;have b3:=tk10.c2;have hfin:WS B w10 s b wk dm O3 F op vars room r3.1 (zcl r2.2.1 k r3.2) :=
    ⟨hw9d.space.kept hK (fun j ho e=>hw9.o2 (e▸ho)) hw9.sd,hw9d.work.turned hK hD' hR',HALL.out.good,HALL.out.memo,hw9.o1,hw9.o2,hw9.sd,Nat.le_trans hw9d.hB hK.size⟩
   have hmm:MM O O3 dm w w10:=by
    have h1:MM O O3 dm w w9:=(MM.of_below HBW.out).trans mm9;have h2:MM O3 O3 dm w9 w10:=⟨(zan.refl _ w9).drew.andThen (hK.mono (fun j hj=>.inr hj)) (fun j hj _=>hj),fun _ h=>.inl h,fun j hj=>(Classical.em (zaw w9 j)).imp (fun c=>zaw.kept (w:=w9.drew) c hK (fun e=>hw9.o2 (e▸hj))) (fun n=>⟨hj,n⟩)⟩;exact h1.trans h2
   have HFIN:=zH hfin;have HMM:=zH hmm;clear HC3' HTK8 HM8 HW8 hs9 mv9 hw9 tk9 mm9 hw9d hD hR hD' hR' hK tk9d tk10 hfin hmm HALL y8;go_wp2_with fail;go_region_held3 (fun X=>X.cell? ⟨wk,2,none⟩=some (.map (some dm))/\X.cell? ⟨w.heap.size,0,none⟩=some (.int .i64 k.v)/\X.cell? ⟨w.heap.size,1,none⟩=some (.int .i64 k.l)/\X.cell? ⟨w.heap.size,2,none⟩=some (.int .i64 k.h)) (first|exact⟨a0,a1,a2,a3⟩|exact⟨b0,b1,b2,b3⟩) (first|fail);go_wp2;go_ret2;exact⟨rfl,O3,HFIN.out,HMM.out⟩
theorem zjr(hroom:room<=4000)(hF:zmP F op):∀d,zoK B s b wk dm F op vars room d
 |0=>fun ns m k O w h h3 hd hlc hl hm=>by
  unfold zak;cases e:za1 op k with
  |none=>have:=zcY h.good.ranked h3 e;omega
  |some x=>exact zgK h hF x e
 |d+1=>fun ns m k O w h h3 hd hlc hl hm=>by
  cases e:za1 op k with
  |some x =>
   have:zak (d+1) op ns m k=(ns,m,x):=by unfold zak;rw[e]
   rw[this];exact zgK h hF x e
  |none =>
   cases e2:look m k with
   |some x =>
    have:zak (d+1) op ns m k=(ns,m,x):=by unfold zak;rw[e];simp only;rw[e2]
    rw[this];exact zmE h hF x e (zlT e2)
   |none=>exact zo5 hroom hF d (zjr hroom hF d) h h3 hd hlc hl hm e e2
end
end Bd
end Go.Proofs.YtiihalknffbjpaaGreatDoor
