/- makes: what is seen at once, and what was worked out. -/
import Derived.Test.YtjmfeefogikdfaaGreatDoorBdAt
namespace Go.Proofs.YtjmfeefogikdfaaGreatDoor
set_option maxHeartbeats 2000000
set_option maxRecDepth 100000
namespace Bd
open Go.RowKit Go.Maps
section
variable {B s b:Nat} {O:Nat->Prop} {vars:Nat} {room:Int} {ns:List Nd} {w:World}
theorem Jm(hS:zm B w s b O vars room ns)(hl:ns.length<=90000)(hroom:(cnt ns:Int)<room)(hB:B<=w.heap.size)(v l h:Int)(hv0:0<=v)(hv1:v<24)(hl1:zg ns l=true)(hh1:zg ns h=true)(tl:v<za ns l)(th:v<za ns h) :
  zC 169 #[.pointer (some ⟨s,0,none⟩),.int .i64 v,.int .i64 l,.int .i64 h] w fun e w'=>e=.returned (.tuple #[.int .i64 (yd ns v l h).2,.nilIface])/\∃O',zm B w' s b O' vars room (yd ns v l h).1/\zI O O' w w':=by
 have c0:=hS.c0
 by_cases e:l=h
 ·have hn:yd ns v l h=(ns,l):=by unfold yd;rw[if_pos e]
  rw[hn];subst e;have HS:=zH hS;clear hS hl1 hh1 tl th hn;go_enter Tryz.func169,Tryz.ntmps169;go_wp2;go_ret2;exact⟨rfl,O,HS.out,zI.refl _ _⟩
 ·have hn:yd ns v l h=Zj ns ⟨v,l,h⟩:=by unfold yd;rw[if_neg e]
  rw[hn];have HM:=zH (zno hS hl hroom hB ⟨v,l,h⟩ ⟨⟨by show _<=v;omega,by show v<=_;omega⟩,yo hl1 (by omega),yo hh1 (by omega)⟩ ⟨hv0,hv1,hl1,hh1,tl,th⟩);unfold Nd.val at HM;clear hS hl1 hh1 tl th hn;generalize Zj ns ⟨v,l,h⟩=r at *;go_enter Tryz.func169,Tryz.ntmps169;go_wp2_with fail;refine HM.out.mono ?_;rintro e w' ⟨rfl,hO⟩;go_wp2;go_ret2;exact⟨rfl,hO⟩
theorem zmR(hS:zm B w s b O vars room ns)(hl:ns.length<=90000)(h v:Int)(hi:I64 h)(hv1:v<24) :
  zR 198 #[.pointer (some ⟨s,0,none⟩),.int .i64 h,.int .i64 v] w (.tuple #[.int .i64 (loS ns h v),.int .i64 (hiS ns h v)]):=by
 have c0:=hS.c0;have HG:=zH (Qi hS h hi hl);have hsl:=hS.slt
 by_cases ht:za ns h=24
 ·have e1:loS ns h v=h:=by unfold loS;rw[if_neg (by omega)]
  have e2:hiS ns h v=h:=by unfold hiS;rw[if_neg (by omega)]
  rw[e1,e2];rw[show decide (za ns h≠24)=false by simp[ht]] at HG;generalize zj ns h=gn at *;obtain⟨gv,gl,gh⟩:=gn;unfold Nd.val at HG;clear hS e1 e2 ht;go_enter Tryz.func198,Tryz.ntmps198;go_wp2_with fail;refine HG.out.mono ?_;rintro e w1 ⟨rfl,hb1⟩;have hb2:=hb1.alloc hb1.size (.cells #[.int .i64 gv,.int .i64 gl,.int .i64 gh] 82);clear HG;go_wp2;go_ret2;exact⟨rfl,hb2⟩
 ·rw[show decide (za ns h≠24)=true by simp[ht]] at HG;have hgv:(zj ns h).v=za ns h:=by
   obtain⟨h1,h2,h3,h4⟩:=yE ht;unfold zj;rw[if_neg ht];exact h3.symm
  have hgn:zj ns h=nd ns (pl h):=by unfold zj;rw[if_neg ht];rfl
  by_cases ev:za ns h=v
  ·have e1:loS ns h v=(zj ns h).l:=by unfold loS;rw[if_pos ev,hgn]
   have e2:hiS ns h v=(zj ns h).h:=by unfold hiS;rw[if_pos ev,hgn]
   rw[e1,e2];rw[ev] at hgv;generalize zj ns h=gn at *;obtain⟨gv,gl,gh⟩:=gn;simp only at hgv;subst hgv;unfold Nd.val at HG;clear hS e1 e2 ht ev hgn;go_enter Tryz.func198,Tryz.ntmps198;go_wp2_with fail;refine HG.out.mono ?_;rintro e w1 ⟨rfl,hb1⟩;have hb2:=hb1.alloc hb1.size (.cells #[.int .i64 gv,.int .i64 gl,.int .i64 gh] 82);obtain⟨x0,x1,x2,-⟩:=xH w1 (.int .i64 gv) (.int .i64 gl) (.int .i64 gh) 82;clear HG;go_wp2_with fail;go_quiet (fail);go_wp2;go_ret2;exact⟨rfl,hb2.trans (x7 _ _ _)⟩
  ·have e1:loS ns h v=h:=by unfold loS;rw[if_neg ev]
   have e2:hiS ns h v=h:=by unfold hiS;rw[if_neg ev]
   rw[e1,e2];have hne:¬(zj ns h).v=v:=by rw[hgv];exact ev
   generalize zj ns h=gn at *;obtain⟨gv,gl,gh⟩:=gn;simp only at hne;unfold Nd.val at HG;clear hS e1 e2 ht ev hgn hgv;go_enter Tryz.func198,Tryz.ntmps198;go_wp2_with fail;refine HG.out.mono ?_;rintro e w1 ⟨rfl,hb1⟩;have hb2:=hb1.alloc hb1.size (.cells #[.int .i64 gv,.int .i64 gl,.int .i64 gh] 82);obtain⟨x0,x1,x2,-⟩:=xH w1 (.int .i64 gv) (.int .i64 gl) (.int .i64 gh) 82;clear HG;go_wp2;go_ret2;exact⟨rfl,hb2⟩
theorem zaC(hS:zm B w s b O vars room ns)(hl:ns.length<=90000)(bf:Nat){cp:Nat}(fs:List Int)(hF:xN w bf fs)(hfl:fs.length<=1000)(hall:∀x∈fs,zg ns x=true) :
  zC 28 #[.pointer (some ⟨s,0,none⟩),.slice (some ⟨bf,0,none⟩) fs.length cp] w fun e w'=>e=.returned .nilIface/\w=w':=by
 have c0:=hS.c0;have HS:=zH hS;have HF:=zH hF;have HA:=zH hall;clear hS hF hall;go_enter Tryz.func28,Tryz.ntmps28;go_wp2_with fail;go_loop [9] (fun i=>∃k:Nat,k<=fs.length/\i=.int .i64 k) (fun i=>fs.length-(intOf i).toNat)
 case atStart=>exact⟨0,Nat.zero_le _,rfl⟩
 case round =>
  obtain⟨k,hk,rfl⟩:=hrel
  by_cases hlt:k<fs.length
  ·have ck:=HF.out.cells k hlt;have HH:=zH (zaZ HS.out fs[k] (HF.out.ok _ (List.getElem_mem hlt)) hl);rw[HA.out _ (List.getElem_mem hlt)] at HH;generalize fs[k]=x at *;go_wp2_with fail;refine HH.out.mono ?_;rintro e w' ⟨rfl,rfl⟩;clear HH;go_wp2;go_round
   case rel=>exact⟨k+1,by omega,by go_num⟩
   case measure=>simp[intOf];omega
  ·go_wp2;go_ret;exact⟨rfl,rfl⟩
theorem zja(hS:zm B w s b O vars room ns)(v:Int)(h0:0<=v)(h1:v<(vars:Int)) :
  zC 168 #[.pointer (some ⟨s,0,none⟩),.int .i64 v] w fun e w'=>e=.returned .nilIface/\w=w':=by
 have c1:=hS.c1;clear hS;go_enter Tryz.func168,Tryz.ntmps168;go_wp2
 all_goals
  go_ret;exact⟨rfl,rfl⟩
end
end Bd
namespace Bd
open Go.RowKit Go.Maps
theorem zbK:(235:TypeId)<Tryz.prog.types.size:=of_decide_eq_true (by kernel_rfl)
theorem zfb:(match Tryz.prog.underlying 235 with|some (.array _ _)|some (.struct _)=>true|_=>false)=true:=by rw[Tryz.underlying235]
theorem JF:Keyed Tryz.prog 235:=Keyed.of_law (deep_law_laid za9 (m:=2) (by omega) zbK (by kernel_rfl) zfb)
theorem zkr:Tryz.prog.keyType 235=true:=by kernel_rfl
theorem zdU:Tryz.prog.cellsOf 235=3:=by kernel_rfl
theorem J8(n:Nd)(h:n.Ok):keyOf Tryz.prog 235 n.val=some n.lit:=by
 have hf:n.val.formed Tryz.prog 235=true:=by simp[Value.formed,Tryz.underlying235,zdU,Nd.val]
 unfold keyOf;rw[Tryz.underlying235];simp only[zkr,hf,Bool.and_self,if_true];obtain⟨d,hd⟩:∃d,Tryz.prog.types.size+1=d+2:=⟨Tryz.prog.types.size-1,by have:0<Tryz.prog.types.size:=Nat.lt_of_le_of_lt (Nat.zero_le _) zbK;omega⟩;rw[hd];unfold Program.keyLits;rw[Tryz.underlying235];have hc:n.val.cells.toList=[.int .i64 n.v,.int .i64 n.l,.int .i64 n.h]:=rfl;rw[hc];simp[zdU,zdN,List.range,List.range.loop,Ym d h.1,Ym d h.2.1,Ym d h.2.2,Nd.lit]
theorem Rep.put_over{α β:Type}[DecidableEq α]{ok:α->Prop}{kl:α->Lit}{el:β->DataW Unit}{D:DataW Unit}{L:List (α × β)}(h:Rep ok kl el D L)(inj:∀a b,ok a->ok b->kl a=kl b->a=b)(key:∀a,WideAt.IsKeyLit (kl a)){a:α}(b:β)(hm:a∈L.map Prod.fst) :
  Rep ok kl el (D.put (kl a) (el b)) (L.map fun q=>if q.1=a then (q.1,b) else q):=by
 have hk:(L.map fun q=>if q.1=a then (q.1,b) else q).map Prod.fst=L.map Prod.fst:=by
  rw[List.map_map];apply List.map_congr_left;intro q _;simp only[Function.comp];split<;>rfl
 obtain⟨p0,hp0,rfl⟩:=List.mem_map.1 hm;have ha:=h.oks p0 hp0;have hne:∀c,ok c->c≠p0.1->kl c≠kl p0.1:=fun c hc hca e=>hca (inj c p0.1 hc ha e);refine⟨h.tidy.put (key _) _,?_,?_,?_,?_,?_,by rw[hk];exact h.nodup⟩
 ·rw[size_put h.tidy,(h.has p0.1 ha).2 hm];simp[h.size]
 ·intro q hq;obtain⟨r,hr,rfl⟩:=List.mem_map.1 hq;have:=h.oks r hr;split<;>exact this
 ·intro c hc;rw[hk]
  by_cases e:c=p0.1
  ·rw[e,has_put_same h.tidy.isMap (key _)];simp only[true_iff];exact hm
  ·rw[has_put_other (hne c hc e)];exact h.has c hc
 ·intro x hx;have hex:∃r∈L,x=kl r.1:=by
   by_cases e:x=kl p0.1
   ·exact⟨p0,hp0,e⟩
   ·rw[has_put_other e] at hx;exact h.all x hx
  obtain⟨r,hr,e⟩:=hex;exact⟨_,List.mem_map_of_mem hr,by rw[e];split<;>rfl⟩
 ·intro q hq z;obtain⟨r,hr,rfl⟩:=List.mem_map.1 hq
  by_cases e:r.1=p0.1
  ·rw[if_pos e];show (D.put (kl p0.1) (el b)).atKey (kl r.1) z=el b;rw[e];exact atKey_put_same h.tidy.isMap (key _) _ _
  ·rw[if_neg e,atKey_put_other (hne r.1 (h.oks r hr) e)];exact h.at' r hr z
section
variable {w:World} {bm n:Nat} {D:DataW Unit} {L:List (Nd × Int)}
theorem zfB(hD:w.ownsMap Tryz.prog 235 (plainElem Tryz.prog 3) bm n D)(hR:Rep Nd.Ok Nd.lit (fun x:Int=>.lit (.int .i64 x)) D L){p:Nd × Int}(hp:p∈L) :
  (Instr.lookup 294 (.map (some bm)) (.agg #[.int .i64 p.1.v,.int .i64 p.1.l,.int .i64 p.1.h]) true).run Tryz.prog w=.ok (.tuple #[.int .i64 p.2,.bool true]) w:=by
 obtain⟨v,ps,hrun,hv⟩:=hD.look_ok JF Tryz.underlying294 (KI w) (zd:=.lit (.int .i64 0)) (zp:=[]) (Yx ⟨by omega,by omega⟩) (J8 p.1 (hR.oks p hp));rw[hR.at' p hp] at hv;obtain⟨a,rfl,hz,-⟩:=plainElem_int_inv Tryz.underlying3 hv;rw[(hR.has p.1 (hR.oks p hp)).2 (List.mem_map_of_mem hp)] at hrun;simp at hz;rw[<-hz.1] at hrun;exact hrun
theorem zj6(hD:w.ownsMap Tryz.prog 235 (plainElem Tryz.prog 3) bm n D)(hR:Rep Nd.Ok Nd.lit (fun x:Int=>.lit (.int .i64 x)) D L){a:Nd}(ha:a.Ok)(hn:a∉L.map Prod.fst) :
  (Instr.lookup 294 (.map (some bm)) (.agg #[.int .i64 a.v,.int .i64 a.l,.int .i64 a.h]) true).run Tryz.prog w=.ok (.tuple #[.int .i64 0,.bool false]) w:=by
 obtain⟨v,ps,hrun,hv⟩:=hD.look_ok JF Tryz.underlying294 (KI w) (zd:=.lit (.int .i64 0)) (zp:=[]) (Yx ⟨by omega,by omega⟩) (J8 a ha);have hh:=hR.not ha hn;rw[atKey_of_not_has hh] at hv;obtain⟨c,rfl,hz,-⟩:=plainElem_int_inv Tryz.underlying3 hv;rw[hh] at hrun;simp at hz;rw[<-hz.1] at hrun;exact hrun
theorem ziW(hD:w.ownsMap Tryz.prog 235 (plainElem Tryz.prog 3) bm L.length D)(hR:Rep Nd.Ok Nd.lit (fun x:Int=>.lit (.int .i64 x)) D L)(hl:L.length<1000000){a:Nd}(ha:a.Ok){x:Int}(hx:I64 x) :
  ∃w' D',(Instr.mapUpdate 294 (.map (some bm)) (.agg #[.int .i64 a.v,.int .i64 a.l,.int .i64 a.h]) (.int .i64 x)).run Tryz.prog w=.ok () w'/\w'.ownsMap Tryz.prog 235 (plainElem Tryz.prog 3) bm (Zo L a x).length D'/\Rep Nd.Ok Nd.lit (fun x:Int=>.lit (.int .i64 x)) D' (Zo L a x)/\zb (fun k=>k=bm) w w':=by
 obtain⟨w',hrun,h1,h2⟩:=hD.update JF Tryz.underlying294 (by unfold maxLen;omega) (J8 a ha) (Yx hx);have hR':Rep Nd.Ok Nd.lit (fun x:Int=>.lit (.int .i64 x)) (D.put a.lit (.lit (.int .i64 x))) (Zo L a x):=by
  unfold Zo
  by_cases hm:a∈L.map Prod.fst
  ·rw[if_pos hm];exact hR.put_over (fun _ _=>XT) JM x hm
  ·rw[if_neg hm];exact hR.put (fun _ _=>XT) JM ha hm x
 exact⟨w',_,hrun,hR'.size▸ZP h1,hR',zb.of_grown h2 (fun i h=>by cases h;rfl)⟩
end
structure xK(B:Nat)(w:World)(wk dm s:Nat)(F:FuncId)(m:List (Nd × Int)):Prop where
 lt:wk<w.heap.size
 c0:w.cell? ⟨wk,0,none⟩=some (.pointer (some ⟨s,0,none⟩))
 c1:w.cell? ⟨wk,1,none⟩=some (.func (.func F) #[] #[])
 c2:w.cell? ⟨wk,2,none⟩=some (.map (some dm))
 hmap:∃D,w.ownsMap Tryz.prog 235 (plainElem Tryz.prog 3) dm m.length D/\Rep Nd.Ok Nd.lit (fun x:Int=>.lit (.int .i64 x)) D m
 d:dm≠wk
 Bd:B<=dm
 Bw:B<=wk
section
variable {B wk dm s:Nat} {F:FuncId} {m m':List (Nd × Int)} {w w':World}
theorem xK.kept{S:Nat->Prop}(h:xK B w wk dm s F m)(hk:zb S w w')(h1:¬S wk)(h2:¬S dm):xK B w' wk dm s F m:=by
 obtain⟨D,hD,hR⟩:=h.hmap;exact⟨Nat.lt_of_lt_of_le h.lt hk.size,(hk.cell (a:=⟨wk,0,none⟩) h.lt h1).trans h.c0,(hk.cell (a:=⟨wk,1,none⟩) h.lt h1).trans h.c1,(hk.cell (a:=⟨wk,2,none⟩) h.lt h1).trans h.c2,⟨D,ZC hD hk h2,hR⟩,h.d,h.Bd,h.Bw⟩
theorem xK.new(h:xK B w wk dm s F m)(hb:zB w w'):xK B w' wk dm s F m:=h.kept (zb.of_below hb (fun _=>False)) (fun h=>h) (fun h=>h)
theorem xK.dlt(h:xK B w wk dm s F m):dm<w.heap.size:=by obtain⟨D,hD,-⟩:=h.hmap;exact hD.lt
theorem xK.turned{D':DataW Unit}(h:xK B w wk dm s F m)(hk:zb (fun j=>j=dm) w w')(hD:w'.ownsMap Tryz.prog 235 (plainElem Tryz.prog 3) dm m'.length D')(hR:Rep Nd.Ok Nd.lit (fun x:Int=>.lit (.int .i64 x)) D' m'):xK B w' wk dm s F m':=by
 have hn:wk≠dm:=fun e=>h.d e.symm;exact⟨Nat.lt_of_lt_of_le h.lt hk.size,(hk.cell (a:=⟨wk,0,none⟩) h.lt hn).trans h.c0,(hk.cell (a:=⟨wk,1,none⟩) h.lt hn).trans h.c1,(hk.cell (a:=⟨wk,2,none⟩) h.lt hn).trans h.c2,⟨D',hD,hR⟩,h.d,h.Bd,h.Bw⟩
end
theorem zni(s:Nat)(F:FuncId)(w:World)(B:Nat)(hB:B<=w.heap.size) :
  zC 171 #[.pointer (some ⟨s,0,none⟩),.func (.func F) #[] #[]] w fun e w'=>e=.returned (.pointer (some ⟨w.heap.size+1,0,none⟩))/\xK B w' (w.heap.size+1) w.heap.size s F []/\zB w w':=by
 have hmm:=@run_makeMap Tryz.prog;have hE:xK B ((w.alloc (.map #[] 0)).alloc (.cells #[.pointer (some ⟨s,0,none⟩),.func (.func F) #[] #[],.map (some w.heap.size)] 296)) (w.heap.size+1) w.heap.size s F []:=by
  have e1:(w.alloc (.map #[] 0)).heap.size=w.heap.size+1:=by simp
  have hm:((w.alloc (.map #[] 0)).alloc (.cells #[.pointer (some ⟨s,0,none⟩),.func (.func F) #[] #[],.map (some w.heap.size)] 296)).ownsMap Tryz.prog 235 (plainElem (H:=Unit) Tryz.prog 3) w.heap.size 0 (.map []):=(World.ownsMap_made w _ _ _).alloc _;refine⟨by simp,?_,?_,?_,⟨_,hm,Rep.empty⟩,by omega,hB,by omega⟩
  ·rw[<-e1];simp
  ·rw[<-e1];simp
  ·rw[<-e1];simp
 have hb:zB w ((w.alloc (.map #[] 0)).alloc (.cells #[.pointer (some ⟨s,0,none⟩),.func (.func F) #[] #[],.map (some w.heap.size)] 296)):=(below_new w _).alloc (below_new w _).size _;have HE:=zH hE;clear hE;go_enter Tryz.func171,Tryz.ntmps171;go_wp2;go_ret;exact⟨rfl,HE.out,hb⟩
theorem zlB(k:Nd)(w:World):zR 130 #[k.val] w (.tuple #[.int .i64 ((qB true k).getD 0),.bool (qB true k).isSome]):=by
 obtain⟨a,b,c⟩:=k;have hb:=below_new w (.cells #[.int .i64 a,.int .i64 b,.int .i64 c] 235);obtain⟨x0,x1,x2,-⟩:=xH w (.int .i64 a) (.int .i64 b) (.int .i64 c) 235;unfold Nd.val;show Calls _ _ _ _ fun e w'=>e=.returned (.tuple #[.int .i64 ((yu ⟨a,b,c⟩).getD 0),.bool (yu ⟨a,b,c⟩).isSome])/\_
 by_cases c1:a=1
 ·have hk:yu ⟨a,b,c⟩=some b:=by unfold yu;rw[if_pos (.inl c1)]
  rw[hk];clear hk;subst c1;go_enter Tryz.func130,Tryz.ntmps130;go_wp2;go_ret2;exact⟨rfl,hb⟩
 by_cases c2:b=c
 ·have hk:yu ⟨a,b,c⟩=some b:=by unfold yu;rw[if_pos (.inr c2)]
  rw[hk];clear hk;subst c2;go_enter Tryz.func130,Tryz.ntmps130;go_wp2;go_ret2;exact⟨rfl,hb⟩
 have q1:(a==1)=false:=by simpa using c1
 have q2:(b==c)=false:=by simpa using c2
 by_cases c3:a=0
 ·have hk:yu ⟨a,b,c⟩=some c:=by unfold yu;rw[if_neg (by simp[c1,c2]),if_pos c3]
  rw[hk];clear hk;subst c3;go_enter Tryz.func130,Tryz.ntmps130;go_wp2;go_ret2;exact⟨rfl,hb⟩
 have q3:(a==0)=false:=by simpa using c3
 by_cases c4:b=1
 ·by_cases c5:c=0
  ·have hk:yu ⟨a,b,c⟩=some a:=by unfold yu;rw[if_neg (by simp[c1,c2]),if_neg c3,if_pos ⟨c4,c5⟩]
   rw[hk];clear hk;subst c4 c5;go_enter Tryz.func130,Tryz.ntmps130;go_wp2;go_ret2;exact⟨rfl,hb⟩
  ·have hk:yu ⟨a,b,c⟩=none:=by unfold yu;rw[if_neg (by simp[c1,c2]),if_neg c3,if_neg (by simp[c5])]
   rw[hk];clear hk;subst c4;have q5:(c==0)=false:=by simpa using c5
   go_enter Tryz.func130,Tryz.ntmps130;go_wp2;go_ret2;exact⟨rfl,hb⟩
 ·have hk:yu ⟨a,b,c⟩=none:=by unfold yu;rw[if_neg (by simp[c1,c2]),if_neg c3,if_neg (by simp[c4])]
  rw[hk];clear hk;have q4:(b==1)=false:=by simpa using c4
  go_enter Tryz.func130,Tryz.ntmps130;go_wp2;go_ret2;exact⟨rfl,hb⟩
end Bd
namespace Bd
open Go.RowKit Go.Maps
structure WS(B:Nat)(w:World)(s b wk dm:Nat)(O:Nat->Prop)(F:FuncId)(op:Bool)(vars:Nat)(room:Int)(ns:List Nd)(m:List (Nd × Int)):Prop where
 space:zm B w s b O vars room ns
 work:xK B w wk dm s F m
 good:zr vars ns
 memo:Z1 op ns m
 o1:¬O wk
 o2:¬O dm
 sd:s≠dm
 hB:B<=w.heap.size
structure MM(O O':Nat->Prop)(dm:Nat)(w w':World):Prop where
 kept:zb (fun j=>O j\/j=dm) w w'
 own:∀k,O' k->O k\/w.heap.size<=k
 map:∀k,O' k->qk w' k\/(O k/\¬qk w k)
structure Q9(F:FuncId)(op:Bool):Prop where
 enters:∀(args:Array Value) (w:World),(callFunc F args).run Tryz.prog w=.ok (.enter F args) w
 does:∀(k:Nd) (w:World),zR F #[k.val] w (.tuple #[.int .i64 ((qB op k).getD 0),.bool (qB op k).isSome])
theorem zcz:Q9 130 true:=⟨fun _ _=>by kernel_rfl,zlB⟩
section
variable {B s b wk dm:Nat} {O O' O'':Nat->Prop} {F:FuncId} {op:Bool} {vars:Nat} {room:Int} {ns:List Nd} {m:List (Nd × Int)} {w w' w'':World} {k:Nd}
theorem WS.new(h:WS B w s b wk dm O F op vars room ns m)(hb:zB w w'):WS B w' s b wk dm O F op vars room ns m :=
 ⟨h.space.new hb,h.work.new hb,h.good,h.memo,h.o1,h.o2,h.sd,Nat.le_trans h.hB hb.size⟩
theorem MM.of_below(hb:zB w w'):MM O O dm w w':=⟨zb.of_below hb _,fun _ h=>.inl h,(zI.of_below O hb).map⟩
theorem MM.of_moves(h:zI O O' w w'):MM O O' dm w w':=⟨h.kept.mono (fun _ h=>.inl h),h.own,h.map⟩
theorem MM.trans(h:MM O O' dm w w')(k:MM O' O'' dm w' w''):MM O O'' dm w w'' :=
 ⟨h.kept.andThen k.kept (fun i hi hlt=>by
   rcases hi with hi|hi
   ·rcases h.own i hi with h1|h1
    ·exact .inl h1
    ·omega
   ·exact .inr hi),fun i hi=>by
  rcases k.own i hi with h1|h1
  ·exact h.own i h1
  ·exact .inr (Nat.le_trans h.kept.size h1),fun i hi=>by
  rcases k.map i hi with h1|⟨h1,h2⟩
  ·exact .inl h1
  ·rcases h.map i h1 with h3|h3
   ·exact absurd h3 h2
   ·exact .inr h3⟩
theorem MM.size(h:MM O O' dm w w'):w.heap.size<=w'.heap.size:=h.kept.size
theorem MM.beside(h:MM O O' dm w w'){j:Nat}(hlt:j<w.heap.size)(hn:¬O j):¬O' j:=fun ho=>by
 rcases h.own j ho with h1|h1
 ·exact hn h1
 ·omega
theorem MM.cell(h:MM O O' dm w w'){a:Addr}(hlt:a.block<w.heap.size)(hn:¬O a.block)(hd:a.block≠dm):w'.cell? a=w.cell? a:=h.kept.cell hlt (fun ho=>ho.elim hn hd)
theorem MM.frozen(h:MM O O' dm w w'){a:Addr}(hlt:a.block<w.heap.size)(hn:¬O a.block)(hd:a.block≠dm):w'.frozen? a=w.frozen? a:=h.kept.frozen hlt (fun ho=>ho.elim hn hd)
theorem WS.moved(h:WS B w s b wk dm O F op vars room ns m){ns':List Nd}(hS:zm B w' s b O' vars room ns')(hm:zI O O' w w')(hg:zr vars ns')(hx:Ext ns ns'):WS B w' s b wk dm O' F op vars room ns' m :=
 ⟨hS,h.work.kept hm.kept h.o1 h.o2,hg,h.memo.ext h.good.ranked hx,hm.beside h.work.lt h.o1,hm.beside h.work.dlt h.o2,h.sd,Nat.le_trans h.hB hm.size⟩
theorem zdt(h3:yJ ns k)(hl:ns.length<=90000):k.Ok:=⟨yo h3.a (by omega),yo h3.b (by omega),yo h3.c (by omega)⟩
def Yp(B s b wk dm:Nat)(O:Nat->Prop)(F:FuncId)(op:Bool)(vars:Nat)(room:Int)(r:List Nd × List (Nd × Int) × Int)(w:World)(e:Ending)(w':World):Prop :=
 e=.returned (.tuple #[.int .i64 r.2.2,.nilIface])/\∃O',WS B w' s b wk dm O' F op vars room r.1 r.2.1/\MM O O' dm w w'
theorem zcu(h:WS B w s b wk dm O F op vars room ns m)(hF:Q9 F op)(x:Int)(hk:qB op k=some x) :
  zC 172 #[.pointer (some ⟨wk,0,none⟩),k.val] w (Yp B s b wk dm O F op vars room (ns,m,x) w):=by
 have HW:=zH h;have c1:=h.work.c1;have wl:=h.work.lt;have HK:Hid (∀W,zR F #[k.val] W (.tuple #[.int .i64 x,.bool true])):=fun W=>by
  have:=hF.does k W;rw[hk] at this;exact this
 have hent:=hF.enters;clear h hF hk;obtain⟨ka,kb,kc⟩:=k;have hb:=below_new w (.cells #[.int .i64 ka,.int .i64 kb,.int .i64 kc] 235);obtain⟨x0,x1,x2,-⟩:=xH w (.int .i64 ka) (.int .i64 kb) (.int .i64 kc) 235;have d1:=(hb.cell (p:=⟨wk,1,none⟩) wl).trans c1;have bl:w.heap.size<(w.alloc (.cells #[.int .i64 ka,.int .i64 kb,.int .i64 kc] 235)).heap.size:=by simp
 have hbs:=hb.size;have wl1:wk<(w.alloc (.cells #[.int .i64 ka,.int .i64 kb,.int .i64 kc] 235)).heap.size:=by omega
 unfold Nd.val at HK ⊢;go_enter Tryz.func172,Tryz.ntmps172;go_wp2_with fail;have HB:=zH hb;clear hb c1;generalize (w.alloc (.cells #[.int .i64 ka,.int .i64 kb,.int .i64 kc] 235))=W1 at *;have e0:W1.drew.cell? ⟨wk,1,none⟩=some (.func (.func F) #[] #[]):=d1;have f0:W1.drew.cell? ⟨w.heap.size,0,none⟩=some (.int .i64 ka):=x0;have f1:W1.drew.cell? ⟨w.heap.size,1,none⟩=some (.int .i64 kb):=x1;have f2:W1.drew.cell? ⟨w.heap.size,2,none⟩=some (.int .i64 kc):=x2;go_region_held3 (fun w'=>w'.cell? ⟨wk,1,none⟩=some (.func (.func F) #[] #[])/\w'.cell? ⟨w.heap.size,0,none⟩=some (.int .i64 ka)/\w'.cell? ⟨w.heap.size,1,none⟩=some (.int .i64 kb)/\w'.cell? ⟨w.heap.size,2,none⟩=some (.int .i64 kc)) (first|exact⟨e0,f0,f1,f2⟩|exact⟨(hb2.cell (p:=⟨wk,1,none⟩) wl1).trans e0,(hb2.cell (p:=⟨w.heap.size,0,none⟩) bl).trans f0,(hb2.cell (p:=⟨w.heap.size,1,none⟩) bl).trans f1,(hb2.cell (p:=⟨w.heap.size,2,none⟩) bl).trans f2⟩)
  (first|(with_reducible refine(HK.out _).mono ?_;rintro e w2 ⟨rfl,hb2⟩))
 go_wp2;go_ret2;have hb3:zB w w2:=(HB.out.drew).trans (hb2.mono HB.out.size);exact⟨rfl,O,HW.out.new hb3,MM.of_below hb3⟩
theorem znT(h:WS B w s b wk dm O F op vars room ns m)(hF:Q9 F op)(x:Int)(hk:qB op k=none)(hx:(k,x)∈m) :
  zC 172 #[.pointer (some ⟨wk,0,none⟩),k.val] w (Yp B s b wk dm O F op vars room (ns,m,x) w):=by
 have HW:=zH h;have c1:=h.work.c1;have c2:=h.work.c2;have wl:=h.work.lt;have HL:Hid (∀W,zB w W->(Instr.lookup 294 (.map (some dm)) (.agg #[.int .i64 k.v,.int .i64 k.l,.int .i64 k.h]) true).run Tryz.prog W=.ok (.tuple #[.int .i64 x,.bool true]) W):=fun W hW=>by
  obtain⟨D,hD,hR⟩:=(h.work.new hW).hmap;exact zfB hD hR hx
 have HK:Hid (∀W,zR F #[k.val] W (.tuple #[.int .i64 0,.bool false])):=fun W=>by
  have:=hF.does k W;rw[hk] at this;exact this
 have hent:=hF.enters;clear h hF hk hx;obtain⟨ka,kb,kc⟩:=k;have hb:=below_new w (.cells #[.int .i64 ka,.int .i64 kb,.int .i64 kc] 235);obtain⟨x0,x1,x2,-⟩:=xH w (.int .i64 ka) (.int .i64 kb) (.int .i64 kc) 235;have d1:=(hb.cell (p:=⟨wk,1,none⟩) wl).trans c1;have d2:=(hb.cell (p:=⟨wk,2,none⟩) wl).trans c2;have bl:w.heap.size<(w.alloc (.cells #[.int .i64 ka,.int .i64 kb,.int .i64 kc] 235)).heap.size:=by simp
 have hbs:=hb.size;have wl1:wk<(w.alloc (.cells #[.int .i64 ka,.int .i64 kb,.int .i64 kc] 235)).heap.size:=by omega
 unfold Nd.val at HK ⊢;simp only at HL;go_enter Tryz.func172,Tryz.ntmps172;go_wp2_with fail;have HB:=zH hb;clear hb c1 c2;generalize (w.alloc (.cells #[.int .i64 ka,.int .i64 kb,.int .i64 kc] 235))=W1 at *;have e0:W1.drew.cell? ⟨wk,1,none⟩=some (.func (.func F) #[] #[]):=d1;have f0:W1.drew.cell? ⟨w.heap.size,0,none⟩=some (.int .i64 ka):=x0;have f1:W1.drew.cell? ⟨w.heap.size,1,none⟩=some (.int .i64 kb):=x1;have f2:W1.drew.cell? ⟨w.heap.size,2,none⟩=some (.int .i64 kc):=x2;go_region_held3 (fun w'=>w'.cell? ⟨wk,1,none⟩=some (.func (.func F) #[] #[])/\w'.cell? ⟨w.heap.size,0,none⟩=some (.int .i64 ka)/\w'.cell? ⟨w.heap.size,1,none⟩=some (.int .i64 kb)/\w'.cell? ⟨w.heap.size,2,none⟩=some (.int .i64 kc)) (first|exact⟨e0,f0,f1,f2⟩|exact⟨(hb2.cell (p:=⟨wk,1,none⟩) wl1).trans e0,(hb2.cell (p:=⟨w.heap.size,0,none⟩) bl).trans f0,(hb2.cell (p:=⟨w.heap.size,1,none⟩) bl).trans f1,(hb2.cell (p:=⟨w.heap.size,2,none⟩) bl).trans f2⟩)
  (first|(with_reducible refine(HK.out _).mono ?_;rintro e w2 ⟨rfl,hb2⟩))
 have hb3:zB w w2:=(HB.out.drew).trans (hb2.mono HB.out.size);have g0:w2.drew.cell? ⟨w.heap.size,0,none⟩=some (.int .i64 ka):=(hb2.cell (p:=⟨w.heap.size,0,none⟩) bl).trans f0;have g1:w2.drew.cell? ⟨w.heap.size,1,none⟩=some (.int .i64 kb):=(hb2.cell (p:=⟨w.heap.size,1,none⟩) bl).trans f1;have g2:w2.drew.cell? ⟨w.heap.size,2,none⟩=some (.int .i64 kc):=(hb2.cell (p:=⟨w.heap.size,2,none⟩) bl).trans f2;have gm:w2.drew.cell? ⟨wk,2,none⟩=some (.map (some dm)):=(hb2.cell (p:=⟨wk,2,none⟩) wl1).trans d2;have hrun:=HL.out _ hb3.drew;clear e0 f0 f1 f2 HK HL d1 d2 x0 x1 x2;go_wp2_with fail;go_region_held3 (fun w'=>w'.cell? ⟨wk,2,none⟩=some (.map (some dm))/\w'.cell? ⟨w.heap.size,0,none⟩=some (.int .i64 ka)/\w'.cell? ⟨w.heap.size,1,none⟩=some (.int .i64 kb)/\w'.cell? ⟨w.heap.size,2,none⟩=some (.int .i64 kc)) (exact⟨gm,g0,g1,g2⟩) (first|fail);go_wp2;go_ret2;exact⟨rfl,O,HW.out.new hb3.drew,MM.of_below hb3.drew⟩
end
end Bd
end Go.Proofs.YtjmfeefogikdfaaGreatDoor
