/- An operation: what is seen at once, what was worked out. -/
import Derived.Test.YtapobpgbcbplbaaGreatDoorRaCores
namespace Go.Proofs.YtapobpgbcbplbaaGreatDoor
set_option maxHeartbeats 2000000
set_option maxRecDepth 100000
section
open Go.RowKit Sv
theorem Jh{ls:List Nat}{set x:Nat}:x∈yb ls set↔∃k,k<ls.length/\set.testBit k=true/\x=ls.getD k 0:=by
  unfold yb yG;rw[List.mem_map];constructor
  · rintro⟨k,hk,rfl⟩
    obtain⟨h1,h2⟩:=List.mem_filter.1 hk;exact⟨k,List.mem_range.1 h1,h2,rfl⟩
  · rintro⟨k,h1,h2,rfl⟩
    exact⟨k,List.mem_filter.2 ⟨List.mem_range.2 h1,h2⟩,rfl⟩
theorem zlV(its:List It)(ls:List Ln)(a b:Nat)(h:Fm.Sub a b)(hb:soC its ls b=true):soC its ls a=true:=by
  unfold soC at *;refine zoa (zj6 fun x hx=>?_) hb;obtain⟨k,h1,h2,h3⟩:=Jh.1 hx;exact Jh.2 ⟨k,h1,h k h2,h3⟩
theorem zmX(its:List It)(n:Nat)(x:Ln):∀y∈qY its n x,y.1=(n:Int):=by
  intro y hy;unfold qY at hy;split at hy
  · rw[List.mem_singleton] at hy
    subst hy;rfl
  · split at hy
    · rw[List.mem_singleton] at hy
      subst hy;rfl
    · split at hy
      · obtain⟨k,_,rfl⟩:=List.mem_map.1 hy
        rfl
      · cases hy
theorem zfM(its:List It)(ls:List Ln):soC its ls 0=true:=by
  unfold soC;have h0:yb (zz ls) 0=[]:=List.eq_nil_iff_forall_not_mem.2 fun x hx=>by
    obtain⟨k,-,h2,-⟩:=Jh.1 hx;simp at h2
  rw[h0];refine Qo.2 ⟨0,fun c hc=>?_⟩;unfold qb at hc;obtain⟨x,hx,rfl⟩:=List.mem_map.1 hc;obtain⟨h1,h2⟩:=List.mem_filter.1 hx;rcases List.mem_append.1 h1 with h1|h1
  · obtain⟨k,_,h1⟩:=List.mem_flatMap.1 h1
    obtain⟨j,_,h1⟩:=List.mem_flatMap.1 h1;unfold pr0 at h1;split at h1
    · rw[List.mem_singleton] at h1
      subst h1;refine⟨qj (j:Int),by simp,?_⟩;unfold xh qj;rw[if_neg (by omega)];simp
    · cases h1
  · exfalso
    obtain⟨m,hm,h1⟩:=List.mem_flatMap.1 h1;have h3:=zmX its m _ x h1;have hm':=List.mem_range.1 hm;unfold yH at h2;rw[h3] at h2;rw[Int.toNat_natCast,QG [] hm'] at h2;simp at h2
end
section
open Go.RowKit Go.Deep Sv
theorem zdl(l:List Nat)(a1 a2:Option Addr)(c1 c2:Nat)(w:World)(h1:yc w a1 l)(h2:yc w a2 l)(hm:l.length<=100000) :
    zR 9 #[.slice a1 l.length c1,.slice a2 l.length c2] w (.bool true):=by
  have H1:=zH h1;have H2:=zH h2;clear h1 h2;go_enter Tryz.func9,Tryz.ntmps9;go_wp2_with fail;go_loopw [5] (fun kV wr=>∃k:Nat,k<=l.length/\kV=.int .i64 k/\zB w wr) (fun kV _=>l.length-(intOf kV).toNat)
  case atStart=>exact⟨0,Nat.zero_le _,rfl,Below.refl _ _⟩
  case round =>
    obtain⟨k,hk,rfl,hb⟩:=hrel
    by_cases hlt:k<l.length
    · have hk0:(0:Int)<=(k:Int):=by omega
      have hk1:(k:Int)<(l.length:Int):=by omega
      obtain⟨d1,rfl,e1,q1⟩:=H1.out.below hb k hlt;obtain⟨d2,rfl,e2,q2⟩:=H2.out.below hb k hlt;have r1:wr.drew.cell? (d1.add k)=some (.int .u64 (l.getD k 0:Nat)):=q1;have r2:wr.drew.cell? (d2.add k)=some (.int .u64 (l.getD k 0:Nat)):=q2;have HB:Hid (zB w wr.drew):=hb.drew;generalize l.getD k 0=x at *;obtain⟨b1,o1,s1⟩:=d1;obtain⟨b2,o2,s2⟩:=d2;clear hb;go_upto_region 6 with fail;go_region_held3 (fun X=>X.cell? ((⟨b1,o1,s1⟩:Addr).add k)=some (.int .u64 x)/\X.cell? ((⟨b2,o2,s2⟩:Addr).add k)=some (.int .u64 x)) (exact⟨r1,r2⟩) (fail);clear q1 q2 r1 r2;go_wp2;go_roundw
      case rel=>exact⟨k+1,hlt,by go_num,HB.out⟩
      case measure=>simp[intOf];omega
    · obtain rfl:k=l.length:=by omega
      have HB:=zH hb;clear hb H1 H2;go_wp2;go_ret;exact⟨rfl,HB.out⟩
end
namespace Fm
open Go.RowKit Go.Maps Go.Proofs.YtapobpgbcbplbaaGreatDoor.Bd
theorem ze3:(225:TypeId)<Tryz.prog.types.size:=of_decide_eq_true (by kernel_rfl)
theorem zoB:(match Tryz.prog.underlying 225 with|some (.array _ _)|some (.struct _)=>true|_=>false)=true:=by rw[Tryz.underlying225]
theorem XR:Keyed Tryz.prog 225:=Keyed.of_law (deep_law_laid zci (m:=2) (by omega) ze3 (by kernel_rfl) zoB)
theorem zi8:Tryz.prog.keyType 225=true:=by kernel_rfl
theorem zeS:Tryz.prog.cellsOf 225=2:=by kernel_rfl
def prV(p:Int × Int):Value:=.agg #[.int .i64 p.1,.int .i64 p.2]
def xv(p:Int × Int):Prop:=Bd.I64 p.1/\Bd.I64 p.2
def y8(p:Int × Int):Lit:=.string (keyBytes [.int .i64 p.1,.int .i64 p.2])
theorem Yv(p:Int × Int)(h:xv p):keyOf Tryz.prog 225 (prV p)=some (y8 p):=by
  have hf:(prV p).formed Tryz.prog 225=true:=by simp[Value.formed,Tryz.underlying225,zeS,prV]
  unfold keyOf;rw[Tryz.underlying225];simp only[zi8,hf,Bool.and_self,if_true];obtain⟨d,hd⟩:∃d,Tryz.prog.types.size+1=d+2:=⟨Tryz.prog.types.size-1,by have:0<Tryz.prog.types.size:=Nat.lt_of_le_of_lt (Nat.zero_le _) ze3;omega⟩;rw[hd];unfold Program.keyLits;rw[Tryz.underlying225];have hc:(prV p).cells.toList=[.int .i64 p.1,.int .i64 p.2]:=rfl;rw[hc];simp[zeS,zdT,List.range,List.range.loop,Xf d h.1,Xf d h.2,y8]
theorem zeW(p:Int × Int):WideAt.IsKeyLit (y8 p):=trivial
theorem zfo{p q:Int × Int}(hp:xv p)(hq:xv q)(h:y8 p=y8 q):p=q:=by
  have:=XR.inj (Yv p hp) (h▸Yv q hq);cases p;cases q;simpa[prV] using this
end Fm
namespace Bd
open Go.RowKit Go.Maps
theorem Rep.put_over{α β:Type}[DecidableEq α]{ok:α->Prop}{kl:α->Lit}{el:β->DataW Unit}{D:DataW Unit}{L:List (α × β)}(h:Rep ok kl el D L)(inj:∀a b,ok a->ok b->kl a=kl b->a=b)(key:∀a,WideAt.IsKeyLit (kl a)){a:α}(b:β)(hm:a∈L.map Prod.fst) :
    Rep ok kl el (D.put (kl a) (el b)) (L.map fun q=>if q.1=a then (q.1,b) else q):=by
  have hk:(L.map fun q=>if q.1=a then (q.1,b) else q).map Prod.fst=L.map Prod.fst:=by
    rw[List.map_map];apply List.map_congr_left;intro q _;simp only[Function.comp];split<;>rfl
  obtain⟨p0,hp0,rfl⟩:=List.mem_map.1 hm;have ha:=h.oks p0 hp0;have hne:∀c,ok c->c≠p0.1->kl c≠kl p0.1:=fun c hc hca e=>hca (inj c p0.1 hc ha e);refine⟨h.tidy.put (key _) _,?_,?_,?_,?_,?_,by rw[hk];exact h.nodup⟩
  · rw[size_put h.tidy,(h.has p0.1 ha).2 hm];simp[h.size]
  · intro q hq
    obtain⟨r,hr,rfl⟩:=List.mem_map.1 hq;have:=h.oks r hr;split<;>exact this
  · intro c hc
    rw[hk]
    by_cases e:c=p0.1
    · rw[e,has_put_same h.tidy.isMap (key _)];simp only[true_iff];exact hm
    · rw[has_put_other (hne c hc e)];exact h.has c hc
  · intro x hx
    have hex:∃r∈L,x=kl r.1:=by
      by_cases e:x=kl p0.1
      · exact⟨p0,hp0,e⟩
      · rw[has_put_other e] at hx;exact h.all x hx
    obtain⟨r,hr,e⟩:=hex;exact⟨_,List.mem_map_of_mem hr,by rw[e];split<;>rfl⟩
  · intro q hq z
    obtain⟨r,hr,rfl⟩:=List.mem_map.1 hq
    by_cases e:r.1=p0.1
    · rw[if_pos e];show (D.put (kl p0.1) (el b)).atKey (kl r.1) z=el b
      rw[e];exact atKey_put_same h.tidy.isMap (key _) _ _
    · rw[if_neg e,atKey_put_other (hne r.1 (h.oks r hr) e)];exact h.at' r hr z
end Bd
namespace Fm
open Go.RowKit Go.Maps Go.Proofs.YtapobpgbcbplbaaGreatDoor.Bd
section
variable {w:World} {bm n:Nat} {D:DataW Unit} {L:List ((Int × Int) × Int)}
theorem zgl(hD:w.ownsMap Tryz.prog 225 (plainElem Tryz.prog 3) bm n D)(hR:Bd.Rep xv y8 (fun x:Int=>.lit (.int .i64 x)) D L){p:(Int × Int) × Int}(hp:p∈L) :
    (Instr.lookup 224 (.map (some bm)) (.agg #[.int .i64 p.1.1,.int .i64 p.1.2]) true).run Tryz.prog w=.ok (.tuple #[.int .i64 p.2,.bool true]) w:=by
  obtain⟨v,ps,hrun,hv⟩:=hD.look_ok XR Tryz.underlying224 (Kw w) (zd:=.lit (.int .i64 0)) (zp:=[]) (QX ⟨by omega,by omega⟩) (Yv p.1 (hR.oks p hp));rw[hR.at' p hp] at hv;obtain⟨a,rfl,hz,-⟩:=plainElem_int_inv Tryz.underlying3 hv;rw[(hR.has p.1 (hR.oks p hp)).2 (List.mem_map_of_mem hp)] at hrun;simp at hz;rw[<-hz.1] at hrun;exact hrun
theorem zkf(hD:w.ownsMap Tryz.prog 225 (plainElem Tryz.prog 3) bm n D)(hR:Bd.Rep xv y8 (fun x:Int=>.lit (.int .i64 x)) D L){a b:Int}(ha:xv (a,b))(hn:(a,b)∉L.map Prod.fst) :
    (Instr.lookup 224 (.map (some bm)) (.agg #[.int .i64 a,.int .i64 b]) true).run Tryz.prog w=.ok (.tuple #[.int .i64 0,.bool false]) w:=by
  obtain⟨v,ps,hrun,hv⟩:=hD.look_ok XR Tryz.underlying224 (Kw w) (zd:=.lit (.int .i64 0)) (zp:=[]) (QX ⟨by omega,by omega⟩) (Yv (a,b) ha);have hh:=hR.not ha hn;rw[atKey_of_not_has hh] at hv;obtain⟨c,rfl,hz,-⟩:=plainElem_int_inv Tryz.underlying3 hv;rw[hh] at hrun;simp at hz;rw[<-hz.1] at hrun;exact hrun
theorem zjX(hD:w.ownsMap Tryz.prog 225 (plainElem Tryz.prog 3) bm L.length D)(hR:Bd.Rep xv y8 (fun x:Int=>.lit (.int .i64 x)) D L)(hl:L.length<1000000000){a b:Int}(ha:xv (a,b)){x:Int}(hx:Bd.I64 x) :
    ∃w' D',(Instr.mapUpdate 224 (.map (some bm)) (.agg #[.int .i64 a,.int .i64 b]) (.int .i64 x)).run Tryz.prog w=.ok () w'/\w'.ownsMap Tryz.prog 225 (plainElem Tryz.prog 3) bm (ZY L (a,b) x).length D'/\Bd.Rep xv y8 (fun x:Int=>.lit (.int .i64 x)) D' (ZY L (a,b) x)/\zc (fun k=>k=bm) w w':=by
  obtain⟨w',hrun,h1,h2⟩:=hD.update XR Tryz.underlying224 (by unfold maxLen;omega) (Yv (a,b) ha) (QX hx);have hR':Bd.Rep xv y8 (fun x:Int=>.lit (.int .i64 x)) (D.put (y8 (a,b)) (.lit (.int .i64 x))) (ZY L (a,b) x):=by
    unfold ZY
    by_cases hm:(a,b)∈L.map Prod.fst
    · rw[if_pos hm];exact hR.put_over (fun _ _=>zfo) zeW x hm
    · rw[if_neg hm];exact hR.put (fun _ _=>zfo) zeW ha hm x
  exact⟨w',_,hrun,hR'.size▸Bd.Qt h1,hR',zc.of_grown h2 (fun i h=>by cases h;rfl)⟩
end
end Fm
namespace Fm
open Go.RowKit Go.Maps Go.Proofs.YtapobpgbcbplbaaGreatDoor.Bd
def Zk(w:World)(dm:Nat)(k:K)(ns:List Nd):Prop :=
  ∃m D,w.ownsMap Tryz.prog 225 (plainElem Tryz.prog 3) dm m.length D/\Bd.Rep xv y8 (fun x:Int=>.lit (.int .i64 x)) D m/\yF k ns m
structure Ctx where
  s:Nat
  b:Nat
  wk:Nat
  room:Nat
  memos:List (Nat × K)
  boxes:List (Nat × Value)
def Ms(c:Ctx)(j:Nat):Prop:=∃q∈c.memos,q.1=j
structure zm(B:Nat)(w:World)(c:Ctx)(O:Nat->Prop)(vars:Nat)(ns:List Nd):Prop where
  space:zZ B w c.s c.b O vars (c.room:Int) ns
  good:zI vars ns
  v24:vars<=24
  rm:c.room<=4000
  len:ns.length<=4000
  hB:B<=w.heap.size
  wb:w.heap[c.wk]?=some (.cells #[.pointer (some ⟨c.s,0,none⟩),.nilIface] 148)
  wO:¬O c.wk
  wB:B<=c.wk
  memo:∀p∈c.memos,Zk w p.1 p.2 ns/\¬O p.1/\p.1≠c.s/\p.1≠c.wk/\B<=p.1
  nodup:(c.memos.map Prod.fst).Nodup
  box:∀p∈c.boxes,p.1<w.heap.size/\w.cell? ⟨p.1,0,none⟩=some p.2/\¬O p.1/\∀q∈c.memos,q.1≠p.1
structure MM(c:Ctx)(O O':Nat->Prop)(w w':World):Prop where
  kept:zc (fun j=>O j\/Ms c j) w w'
  own:∀k,O' k->O k\/w.heap.size<=k
section
variable {B:Nat} {c:Ctx} {O O' O'':Nat->Prop} {vars:Nat} {ns ns':List Nd} {w w' w'':World} {k:K} {dm:Nat}
theorem Zk.lt(h:Zk w dm k ns):dm<w.heap.size:=by obtain⟨m,D,hD,-⟩:=h;exact hD.lt
theorem Zk.kept{S:Nat->Prop}(h:Zk w dm k ns)(hk:zc S w w')(hn:¬S dm):Zk w' dm k ns:=by
  obtain⟨m,D,hD,hR,hm⟩:=h;exact⟨m,D,xX hD hk hn,hR,hm⟩
theorem Zk.ext(h:Zk w dm k ns)(hr:zw ns)(he:Ext ns ns'):Zk w dm k ns':=by
  obtain⟨m,D,hD,hR,hm⟩:=h;exact⟨m,D,hD,hR,hm.ext hr he⟩
theorem zm.wlt(h:zm B w c O vars ns):c.wk<w.heap.size:=(Array.getElem?_eq_some_iff.1 h.wb).1
theorem zm.w0(h:zm B w c O vars ns):w.cell? ⟨c.wk,0,none⟩=some (.pointer (some ⟨c.s,0,none⟩)):=by simp[World.cell?,h.wb]
theorem zm.w1(h:zm B w c O vars ns):w.cell? ⟨c.wk,1,none⟩=some .nilIface:=by simp[World.cell?,h.wb]
theorem zm.kept{S:Nat->Prop}(h:zm B w c O vars ns)(hk:zc S w w')(hO:∀k,O k->¬S k)(hs:¬S c.s)(hw:¬S c.wk)(hm:∀p∈c.memos,¬S p.1)(hb:∀p∈c.boxes,¬S p.1):zm B w' c O vars ns :=
  ⟨h.space.kept hk hO hs,h.good,h.v24,h.rm,h.len,Nat.le_trans h.hB hk.size,(hk.block _ h.wlt hw).trans h.wb,h.wO,h.wB,fun p hp=>⟨(h.memo p hp).1.kept hk (hm p hp),(h.memo p hp).2⟩,h.nodup,
   fun p hp=>⟨Nat.lt_of_lt_of_le (h.box p hp).1 hk.size,(hk.cell (a:=⟨p.1,0,none⟩) (h.box p hp).1 (hb p hp)).trans (h.box p hp).2.1,(h.box p hp).2.2⟩⟩
theorem zm.new(h:zm B w c O vars ns)(hb:zB w w'):zm B w' c O vars ns :=
  h.kept (zc.of_below hb (fun _=>False)) (fun _ _ h=>h) (fun h=>h) (fun h=>h) (fun _ _ h=>h) (fun _ _ h=>h)
theorem MM.refl(c:Ctx)(O:Nat->Prop)(w:World):MM c O O w w:=⟨zc.refl _ _,fun _ h=>.inl h⟩
theorem MM.of_below(hb:zB w w'):MM c O O w w':=⟨zc.of_below hb _,fun _ h=>.inl h⟩
theorem MM.of_moves(h:qA O O' w w'):MM c O O' w w':=⟨h.kept.mono (fun _ h=>.inl h),h.own⟩
theorem MM.trans(h:MM c O O' w w')(k:MM c O' O'' w' w''):MM c O O'' w w'' :=
  ⟨h.kept.andThen k.kept (fun i hi hlt=>by
      rcases hi with hi|hi
      · rcases h.own i hi with h1|h1
        · exact .inl h1
        · omega
      · exact .inr hi),fun i hi=>by
    rcases k.own i hi with h1|h1
    · exact h.own i h1
    · exact .inr (Nat.le_trans h.kept.size h1)⟩
theorem MM.size(h:MM c O O' w w'):w.heap.size<=w'.heap.size:=h.kept.size
theorem MM.beside(h:MM c O O' w w'){j:Nat}(hlt:j<w.heap.size)(hn:¬O j):¬O' j:=fun ho=>by
  rcases h.own j ho with h1|h1
  · exact hn h1
  · omega
theorem MM.cell(h:MM c O O' w w'){a:Addr}(hlt:a.block<w.heap.size)(hn:¬O a.block)(hd:¬Ms c a.block):w'.cell? a=w.cell? a:=h.kept.cell hlt (fun ho=>ho.elim hn hd)
theorem zm.moved(h:zm B w c O vars ns)(hS:zZ B w' c.s c.b O' vars (c.room:Int) ns')(hm:qA O O' w w')(hg:zI vars ns')(hx:Ext ns ns')(hl:ns'.length<=4000):zm B w' c O' vars ns' :=
  ⟨hS,hg,h.v24,h.rm,hl,Nat.le_trans h.hB hm.size,(hm.kept.block _ h.wlt h.wO).trans h.wb,hm.beside h.wlt h.wO,h.wB,
   fun p hp=>⟨((h.memo p hp).1.kept hm.kept (h.memo p hp).2.1).ext h.good.ranked hx,hm.beside (h.memo p hp).1.lt (h.memo p hp).2.1,(h.memo p hp).2.2⟩,h.nodup,
   fun p hp=>⟨Nat.lt_of_lt_of_le (h.box p hp).1 hm.size,(hm.kept.cell (a:=⟨p.1,0,none⟩) (h.box p hp).1 (h.box p hp).2.2.1).trans (h.box p hp).2.1,hm.beside (h.box p hp).1 (h.box p hp).2.2.1,(h.box p hp).2.2.2⟩⟩
theorem zni{l:List (Nat × K)}{q:Nat × K}{dm:Nat}{k:K}(hn:(l.map Prod.fst).Nodup)(hq:q∈l)(hp:(dm,k)∈l)(e:q.1=dm):q=(dm,k):=by
  induction l with
  |nil=>cases hq
  |cons x l ih =>
    rw[List.map_cons,List.nodup_cons] at hn;rcases List.mem_cons.1 hq with rfl|hq'<;>rcases List.mem_cons.1 hp with hp'|hp'
    · exact hp'.symm
    · exact absurd (List.mem_map.2 ⟨_,hp',e.symm⟩) hn.1
    · subst hp';exact absurd (List.mem_map.2 ⟨_,hq',e⟩) hn.1
    · exact ih hn.2 hq' hp'
theorem zm.noted(h:zm B w c O vars ns)(hp:(dm,k)∈c.memos)(hk:zc (fun j=>j=dm) w w')(hm:Zk w' dm k ns):zm B w' c O vars ns:=by
  obtain⟨-,m1,m2,m3,m4⟩:=h.memo _ hp;refine ⟨h.space.kept hk (fun j hj e=>m1 (e ▸ hj)) (fun e=>m2 e.symm),h.good,h.v24,h.rm,h.len,Nat.le_trans h.hB hk.size,(hk.block _ h.wlt (fun e=>m3 e.symm)).trans h.wb,h.wO,h.wB,fun q hq=>?_,h.nodup,
    fun q hq=>⟨Nat.lt_of_lt_of_le (h.box q hq).1 hk.size,(hk.cell (a:=⟨q.1,0,none⟩) (h.box q hq).1 (fun e=>(h.box q hq).2.2.2 _ hp e.symm)).trans (h.box q hq).2.1,(h.box q hq).2.2⟩⟩
  refine⟨?_,(h.memo q hq).2⟩
  by_cases e:q.1=dm
  · have:q=(dm,k):=zni h.nodup hq hp e
    rw[this];exact hm
  · exact(h.memo q hq).1.kept hk e
theorem zhB{m:List ((Int × Int) × Int)}{D:DataW Unit}(hR:Bd.Rep xv y8 (fun x:Int=>.lit (.int .i64 x)) D m)(hm:yF k ns m)(hl:ns.length<=4000):m.length<1000000000:=by
  have hh:∀{h:Int},ze ns h=true->h∈(List.range 4002).map (fun i:Nat=>(i:Int)):=fun {h} hh=>by
    rw[List.mem_map];rcases Xc hh with rfl|rfl|ht
    · exact⟨0,by simp,rfl⟩
    · exact⟨1,by simp,rfl⟩
    · obtain⟨h1,h2,-,h4⟩:=yX (ns:=ns) (h:=h) (by omega)
      exact⟨h.toNat,by rw[List.mem_range];omega,by omega⟩
  have:=XS (m.map Prod.fst) (((List.range 4002).map (fun i:Nat=>(i:Int))).flatMap fun a=>((List.range 4002).map (fun i:Nat=>(i:Int))).map fun b=>(a,b)) id hR.nodup (fun p hp=>by
    obtain⟨q,hq,rfl⟩:=List.mem_map.1 hp;rw[List.mem_flatMap];exact ⟨_,hh (hm.a q hq),List.mem_map.2 ⟨_,hh (hm.b q hq),rfl⟩⟩) (fun _ _ _ _ e=>e)
  rw[Jt,List.length_map,List.length_map,List.length_range] at this;omega
end
theorem znf{W:World}{b:Nat}{t:TypeId}{p q:Value}(h:W.heap[b]?=some (.cells #[p,q] t)):W.setCell ⟨b,1,none⟩ q=W:=by
  have hlt:=(Array.getElem?_eq_some_iff.1 h).1;have e:(W.setCell ⟨b,1,none⟩ q).heap=W.heap:=by
    apply Array.ext_getElem?;intro k
    by_cases hk:k=b
    · subst hk
      simp[World.setCell,Array.getElem?_modify,h]
    · exact Below.heap_setCell W ⟨b,1,none⟩ q k hk
  cases W;simp only[World.setCell] at e ⊢;simp only[World.mk.injEq,and_true];exact e
def YJ(B:Nat)(c:Ctx)(O:Nat->Prop)(vars:Nat)(k:K)(ns:List Nd)(a b:Int)(w:World)(e:Ending)(w':World):Prop :=
  ∃h ns' O',e=.returned (.int .i64 h)/\zm B w' c O' vars ns'/\MM c O O' w w'/\Res vars k ns a b ns' h
end Fm
namespace Fm
open Go.RowKit Go.Maps Go.Proofs.YtapobpgbcbplbaaGreatDoor.Bd
def Two(W:World)(r:Nat)(x y:Int):Prop:=W.heap[r]?=some (.cells #[.int .i64 x,.int .i64 y] 163)
theorem xY{W:World}{r:Nat}{x y:Int}(h:Two W r x y)(m n:Int) :
    (W.cell? ⟨r,0,none⟩=some (.int .i64 x)/\W.frozen? ⟨r,0,none⟩=false/\W.cell? ⟨r,1,none⟩=some (.int .i64 y)/\W.frozen? ⟨r,1,none⟩=false) /\
    ((W.setCell ⟨r,0,none⟩ (.int .i64 m)).cell? ⟨r,1,none⟩=some (.int .i64 y)/\(W.setCell ⟨r,0,none⟩ (.int .i64 m)).frozen? ⟨r,1,none⟩=false) /\
    ((W.setCell ⟨r,0,none⟩ (.int .i64 m)).setCell ⟨r,1,none⟩ (.int .i64 n)).cell? ⟨r,0,none⟩=some (.int .i64 m) /\
    ((W.setCell ⟨r,0,none⟩ (.int .i64 m)).setCell ⟨r,1,none⟩ (.int .i64 n)).cell? ⟨r,1,none⟩=some (.int .i64 n):=by
  have h0:W.cell? ⟨r,0,none⟩=some (.int .i64 x):=by unfold Two at h;simp[World.cell?,h]
  have h1:W.cell? ⟨r,1,none⟩=some (.int .i64 y):=by unfold Two at h;simp[World.cell?,h]
  have f0:W.frozen? ⟨r,0,none⟩=false:=by unfold Two at h;simp[World.frozen?,h]
  have f1:W.frozen? ⟨r,1,none⟩=false:=by unfold Two at h;simp[World.frozen?,h]
  have e1:(W.setCell ⟨r,0,none⟩ (.int .i64 m)).cell? ⟨r,1,none⟩=some (.int .i64 y):=by rw[World.cell?_setCell_other _ _ _ _ (by simp)];exact h1
  refine⟨⟨h0,f0,h1,f1⟩,⟨e1,by rw[World.frozen?_setCell];exact f1⟩,?_,World.cell?_setCell_same' _ _ _ (by rw[e1];rfl)⟩;rw[World.cell?_setCell_other _ _ _ _ (by simp)];exact World.cell?_setCell_same' _ _ _ (by rw[h0];rfl)
theorem Two.new(w:World)(x y:Int):Two (w.alloc (.cells #[.int .i64 x,.int .i64 y] 163)) w.heap.size x y:=by
  show (w.heap.push _)[w.heap.size]?=_;simp
theorem Two.below{w w':World}{r:Nat}{x y:Int}(h:Two w r x y)(hb:zB w w'):Two w' r x y:=(hb.block r (Array.getElem?_eq_some_iff.1 h).1).trans h
section
variable {B s b:Nat} {O:Nat->Prop} {vars:Nat} {ns:List Nd} {w:World} {c:Ctx}
theorem zdr{room:Int}{wk:Nat}(hS:zZ B w s b O vars room ns)(w0:w.cell? ⟨wk,0,none⟩=some (.pointer (some ⟨s,0,none⟩)))(hl:ns.length<=90000)(h v:Int)(hi:Bd.I64 h)(hv1:v<24) :
    zR 126 #[.pointer (some ⟨wk,0,none⟩),.int .i64 h,.int .i64 v] w (.agg #[.int .i64 (loZ ns h v),.int .i64 (hiZ ns h v)]):=by
  have hb0:=Bd.zf w (.cells #[.int .i64 0,.int .i64 0] 163);have wkl:wk<w.heap.size:=(Zv (a:=⟨wk,0,none⟩) w0).lt;have q0:=(hb0.cell (p:=⟨wk,0,none⟩) wkl).trans w0;have c0:=(hS.new hb0).c0;have HG:=zH (QN (hS.new hb0) h hi hl);have HR:=zH (Two.new w 0 0);have HB0:=zH hb0;clear hb0
  by_cases ht:zb ns h=24
  · have e1:loZ ns h v=h:=by unfold loZ;rw[if_neg (by omega)]
    have e2:hiZ ns h v=0:=by unfold hiZ;rw[if_neg (by omega)]
    rw[e1,e2];rw[show decide (zb ns h≠24)=false by simp[ht]] at HG;generalize qm ns h=gn at *;obtain⟨gv,gl,gh⟩:=gn;unfold Nd.val at HG;clear hS e1 e2 ht;go_enter Tryz.func126,Tryz.ntmps126;go_wp2_with fail;refine HG.out.mono ?_;rintro e w1 ⟨rfl,hb1⟩;have hb2:=hb1.alloc hb1.size (.cells #[.int .i64 gv,.int .i64 gl,.int .i64 gh] 166);obtain⟨x0,x1,x2,-⟩:=Zj w1 (.int .i64 gv) (.int .i64 gl) (.int .i64 gh) 166;have hr2:=HR.out.below hb2;have HB3:Hid (zB w (w1.alloc (.cells #[.int .i64 gv,.int .i64 gl,.int .i64 gh] 166))):=zT HB0.out hb2;clear HG hb1 hb2 HR HB0;obtain⟨⟨r0,r1,r2,r3⟩,⟨r4,r5⟩,r6,r7⟩:=xY hr2 h 0;clear hr2;have R6:=zH r6;have R7:=zH r7;clear r6 r7;go_wp2;exact bodyPost_ret (v:=.agg #[.int .i64 h,.int .i64 0]) (by simp[results,Tryz.results126,go_sem,R6.out,R7.out]) rfl ⟨rfl,(HB3.out.setCell zN _).setCell zN _⟩
  rw[show decide (zb ns h≠24)=true by simp[ht]] at HG;have hgv:(qm ns h).v=zb ns h:=by
    obtain⟨h1,h2,h3,h4⟩:=yX ht;unfold qm;rw[if_neg ht];exact h3.symm
  have hgn:qm ns h=nd ns (pl h):=by unfold qm;rw[if_neg ht];rfl
  by_cases ev:zb ns h=v
  · have e1:loZ ns h v=(qm ns h).l:=by unfold loZ;rw[if_pos ev,hgn]
    have e2:hiZ ns h v=(qm ns h).h:=by unfold hiZ;rw[if_pos ev,hgn]
    rw[e1,e2];rw[ev] at hgv;generalize qm ns h=gn at *;obtain⟨gv,gl,gh⟩:=gn;simp only at hgv;subst hgv;unfold Nd.val at HG;clear hS e1 e2 ht ev hgn;go_enter Tryz.func126,Tryz.ntmps126;go_wp2_with fail;refine HG.out.mono ?_;rintro e w1 ⟨rfl,hb1⟩;have hb2:=hb1.alloc hb1.size (.cells #[.int .i64 gv,.int .i64 gl,.int .i64 gh] 166);obtain⟨x0,x1,x2,-⟩:=Zj w1 (.int .i64 gv) (.int .i64 gl) (.int .i64 gh) 166;have hr2:=HR.out.below hb2;have HB3:Hid (zB w (w1.alloc (.cells #[.int .i64 gv,.int .i64 gl,.int .i64 gh] 166))):=zT HB0.out hb2;clear HG hb1 hb2 HR HB0;obtain⟨⟨r0,r1,r2,r3⟩,⟨r4,r5⟩,r6,r7⟩:=xY hr2 gl gh;clear hr2;have R6:=zH r6;have R7:=zH r7;clear r6 r7;go_wp2;exact bodyPost_ret (v:=.agg #[.int .i64 gl,.int .i64 gh]) (by simp[results,Tryz.results126,go_sem,R6.out,R7.out]) rfl ⟨rfl,(HB3.out.setCell zN _).setCell zN _⟩
  · have e1:loZ ns h v=h:=by unfold loZ;rw[if_neg ev]
    have e2:hiZ ns h v=0:=by unfold hiZ;rw[if_neg ev]
    rw[e1,e2];have hne:¬(qm ns h).v=v:=by rw[hgv];exact ev
    generalize qm ns h=gn at *;obtain⟨gv,gl,gh⟩:=gn;simp only at hne;unfold Nd.val at HG;clear hS e1 e2 ht ev hgn hgv;go_enter Tryz.func126,Tryz.ntmps126;go_wp2_with fail;refine HG.out.mono ?_;rintro e w1 ⟨rfl,hb1⟩;have hb2:=hb1.alloc hb1.size (.cells #[.int .i64 gv,.int .i64 gl,.int .i64 gh] 166);obtain⟨x0,x1,x2,-⟩:=Zj w1 (.int .i64 gv) (.int .i64 gl) (.int .i64 gh) 166;have hr2:=HR.out.below hb2;have HB3:Hid (zB w (w1.alloc (.cells #[.int .i64 gv,.int .i64 gl,.int .i64 gh] 166))):=zT HB0.out hb2;clear HG hb1 hb2 HR HB0;obtain⟨⟨r0,r1,r2,r3⟩,⟨r4,r5⟩,r6,r7⟩:=xY hr2 h 0;clear hr2;have R6:=zH r6;have R7:=zH r7;clear r6 r7;go_wp2;exact bodyPost_ret (v:=.agg #[.int .i64 h,.int .i64 0]) (by simp[results,Tryz.results126,go_sem,R6.out,R7.out]) rfl ⟨rfl,(HB3.out.setCell zN _).setCell zN _⟩
theorem zfm(hC:zm B w c O vars ns)(hcnt:(cnt ns:Int)<(c.room:Int))(v p q:Int)(hv0:0<=v)(hv1:v<24)(hp1:ze ns p=true)(hq1:ze ns q=true)(tp:v<zb ns p)(tq:v<zb ns q) :
    zC 112 #[.pointer (some ⟨c.wk,0,none⟩),.int .i64 v,.agg #[.int .i64 p,.int .i64 q]] w fun e w'=>e=.returned (.int .i64 (Zs ns v p q).2)/\∃O',zZ B w' c.s c.b O' vars (c.room:Int) (Zs ns v p q).1/\qA O O' w w':=by
  have hb0:=Bd.zf w (.cells #[.int .i64 p,.int .i64 q] 163);have hC0:=hC.new hb0;have w0:=hC0.w0;have w1:=hC0.w1;have c0:=hC0.space.c0;have hr:=Two.new w p q;obtain⟨⟨r0,-,r2,-⟩,-⟩:=xY hr 0 0;clear hr;have HB0:=zH hb0
  by_cases e:q=0
  · have hn:Zs ns v p q=(ns,p):=by unfold Zs;rw[if_pos e]
    rw[hn];subst e;have HS:=zH hC0.space;clear hC hC0 hp1 hq1 tp tq hn hb0;go_enter Tryz.func112,Tryz.ntmps112;go_wp2;go_ret;exact⟨rfl,O,HS.out,qA.of_below O HB0.out⟩
  · have hn:Zs ns v p q=QC ns ⟨v,p,q⟩:=by unfold Zs;rw[if_neg e]
    rw[hn];have hl:=hC.len;have hbd:Below (w.alloc (.cells #[.int .i64 p,.int .i64 q] 163)).heap.size (w.alloc (.cells #[.int .i64 p,.int .i64 q] 163)) (w.alloc (.cells #[.int .i64 p,.int .i64 q] 163)).drew:=zF.drew;have hC1:=hC0.new hbd;have hm:=zlY hC1.space (by omega) hcnt hC1.hB ⟨v,p,q⟩ ⟨⟨by show _<=v;omega,by show v<=_;omega⟩,yO hp1 (by omega),yO hq1 (by omega)⟩ ⟨hv0,hv1,hp1,hq1,tp,tq⟩;unfold Nd.val at hm;have HM:=zH hm;have HC:=zH hC1;have bl:¬O w.heap.size:=fun ho=>by have:=(hC.space.own _ ho).2;omega
    have bl2:w.heap.size<(w.alloc (.cells #[.int .i64 p,.int .i64 q] 163)).drew.heap.size:=by show _<(w.alloc _).heap.size;simp
    have wl:=hC1.wlt;have sl:=hC1.space.slt;have wO:=hC1.wO;have sO:=hC1.space.sO;clear hC hC0 hC1 hp1 hq1 tp tq hn hb0 hbd hm;generalize QC ns ⟨v,p,q⟩=r at *;have q0:(q==0)=false:=by simpa using e
    go_enter Tryz.func112,Tryz.ntmps112;go_wp2_with fail;generalize (w.alloc (.cells #[.int .i64 p,.int .i64 q] 163))=W1 at *;have e0:W1.drew.cell? ⟨c.wk,0,none⟩=some (.pointer (some ⟨c.s,0,none⟩)):=w0;have e1:W1.drew.cell? ⟨c.s,0,none⟩=some (.pointer (some ⟨c.b,0,none⟩)):=c0;have e2:W1.drew.cell? ⟨w.heap.size,0,none⟩=some (.int .i64 p):=r0;have e3:W1.drew.cell? ⟨w.heap.size,1,none⟩=some (.int .i64 q):=r2;go_region_held3 (fun w'=>w'.cell? ⟨c.wk,0,none⟩=some (.pointer (some ⟨c.s,0,none⟩))/\w'.cell? ⟨c.s,0,none⟩=some (.pointer (some ⟨c.b,0,none⟩))/\w'.cell? ⟨w.heap.size,0,none⟩=some (.int .i64 p)/\w'.cell? ⟨w.heap.size,1,none⟩=some (.int .i64 q)) (first|exact⟨e0,e1,e2,e3⟩|exact⟨(hmv.cell (a:=⟨c.wk,0,none⟩) wl wO).trans e0,(hmv.cell (a:=⟨c.s,0,none⟩) sl sO).trans e1,(hmv.cell (a:=⟨w.heap.size,0,none⟩) bl2 bl).trans e2,(hmv.cell (a:=⟨w.heap.size,1,none⟩) bl2 bl).trans e3⟩)
      (first|(with_reducible refine HM.out.mono ?_;rintro e w2 ⟨rfl,O',hSp,hmv⟩))
    have wb2:w2.heap[c.wk]?=some (.cells #[.pointer (some ⟨c.s,0,none⟩),.nilIface] 148):=(hmv.kept.block _ wl wO).trans HC.out.wb;have hset:=znf wb2;have g1:w2.cell? ⟨c.wk,1,none⟩=some .nilIface:=by simp[World.cell?,wb2]
    have f1:w2.frozen? ⟨c.wk,1,none⟩=false:=by simp[World.frozen?,wb2]
    have HSP:=zH hSp;have HMV:Hid (qA O O' w w2):=(qA.of_below O HB0.out.drew).trans hmv;clear hSp hmv HM HC wb2 HB0;go_wp2;go_ret;exact⟨rfl,O',HSP.out,HMV.out⟩
end
end Fm
namespace Fm
open Go.RowKit Go.Maps Go.Proofs.YtapobpgbcbplbaaGreatDoor.Bd
def knX(k:K)(a b:Int):Int:=(zU k a b).getD (if k=.least then a else 0)
def YK(F:FuncId)(k:K):Prop:=∀(a b:Int) (W:World),zC F #[.int .i64 a,.int .i64 b] W fun e w'=>e=.returned (.tuple #[.int .i64 (knX k a b),.bool (zU k a b).isSome])/\W=w'
theorem Zc{k:K}{a b x:Int}(h:zU k a b=some x):knX k a b=x/\(zU k a b).isSome=true:=by unfold knX;rw[h];exact⟨rfl,rfl⟩
theorem YG{k:K}{a b:Int}(h:zU k a b=none):knX k a b=(if k=.least then a else 0)/\(zU k a b).isSome=false:=by unfold knX;rw[h];exact⟨rfl,rfl⟩
theorem zoG:YK 113 .or:=by
  intro a b W
  by_cases c0:a=b
  · obtain⟨k1,k2⟩:=Zc (show zU .or a b=some a by simp only[zU];(repeat' split)<;>first|rfl|(exfalso;omega)|(congr 1;omega))
    rw[k1,k2];have q0:(a==b)=true:=by simpa using c0
    clear k1 k2;subst c0;go_enter Tryz.func113,Tryz.ntmps113;go_wp2;go_ret2;exact⟨rfl,rfl⟩
  have q0:(a==b)=false:=by simpa using c0
  by_cases c1:b=0
  · obtain⟨k1,k2⟩:=Zc (show zU .or a b=some a by simp only[zU];(repeat' split)<;>first|rfl|(exfalso;omega)|(congr 1;omega))
    rw[k1,k2];have q1:(b==0)=true:=by simpa using c1
    clear k1 k2;subst c1;go_enter Tryz.func113,Tryz.ntmps113;go_wp2;go_ret2;exact⟨rfl,rfl⟩
  have q1:(b==0)=false:=by simpa using c1
  by_cases c2:a=0
  · obtain⟨k1,k2⟩:=Zc (show zU .or a b=some b by simp only[zU];(repeat' split)<;>first|rfl|(exfalso;omega)|(congr 1;omega))
    rw[k1,k2];have q2:(a==0)=true:=by simpa using c2
    clear k1 k2;subst c2;go_enter Tryz.func113,Tryz.ntmps113;go_wp2;go_ret2;exact⟨rfl,rfl⟩
  have q2:(a==0)=false:=by simpa using c2
  obtain⟨k1,k2⟩:=YG (show zU .or a b=none by simp only[zU];(repeat' split)<;>first|rfl|(exfalso;omega)|(congr 1;omega))
  rw[k1,k2];clear k1 k2;rw[if_neg (by decide)];go_enter Tryz.func113,Tryz.ntmps113;go_wp2;go_ret2;exact⟨rfl,rfl⟩
theorem zkL:YK 122 .without:=by
  intro a b W
  by_cases c0:a=b
  · obtain⟨k1,k2⟩:=Zc (show zU .without a b=some 0 by simp only[zU];(repeat' split)<;>first|rfl|(exfalso;omega)|(congr 1;omega))
    rw[k1,k2];have q0:(a==b)=true:=by simpa using c0
    clear k1 k2;subst c0;go_enter Tryz.func122,Tryz.ntmps122;go_wp2;go_ret2;exact⟨rfl,rfl⟩
  have q0:(a==b)=false:=by simpa using c0
  by_cases c1:a=0
  · obtain⟨k1,k2⟩:=Zc (show zU .without a b=some 0 by simp only[zU];(repeat' split)<;>first|rfl|(exfalso;omega)|(congr 1;omega))
    rw[k1,k2];have q1:(a==0)=true:=by simpa using c1
    clear k1 k2;subst c1;go_enter Tryz.func122,Tryz.ntmps122;go_wp2;go_ret2;exact⟨rfl,rfl⟩
  have q1:(a==0)=false:=by simpa using c1
  by_cases c2:b=1
  · obtain⟨k1,k2⟩:=Zc (show zU .without a b=some 0 by simp only[zU];(repeat' split)<;>first|rfl|(exfalso;omega)|(congr 1;omega))
    rw[k1,k2];have q2:(b==1)=true:=by simpa using c2
    clear k1 k2;subst c2;go_enter Tryz.func122,Tryz.ntmps122;go_wp2;go_ret2;exact⟨rfl,rfl⟩
  have q2:(b==1)=false:=by simpa using c2
  by_cases c3:b=0
  · obtain⟨k1,k2⟩:=Zc (show zU .without a b=some a by simp only[zU];(repeat' split)<;>first|rfl|(exfalso;omega)|(congr 1;omega))
    rw[k1,k2];have q3:(b==0)=true:=by simpa using c3
    clear k1 k2;subst c3;go_enter Tryz.func122,Tryz.ntmps122;go_wp2;go_ret2;exact⟨rfl,rfl⟩
  have q3:(b==0)=false:=by simpa using c3
  obtain⟨k1,k2⟩:=YG (show zU .without a b=none by simp only[zU];(repeat' split)<;>first|rfl|(exfalso;omega)|(congr 1;omega))
  rw[k1,k2];clear k1 k2;rw[if_neg (by decide)];go_enter Tryz.func122,Tryz.ntmps122;go_wp2;go_ret2;exact⟨rfl,rfl⟩
theorem zhC:YK 76 .hits:=by
  intro a b W
  by_cases c0:a=0
  · obtain⟨k1,k2⟩:=Zc (show zU .hits a b=some 1 by simp only[zU];(repeat' split)<;>first|rfl|(exfalso;omega)|(congr 1;omega))
    rw[k1,k2];have q0:(a==0)=true:=by simpa using c0
    clear k1 k2;subst c0;go_enter Tryz.func76,Tryz.ntmps76;go_wp2;go_ret2;exact⟨rfl,rfl⟩
  have q0:(a==0)=false:=by simpa using c0
  by_cases c1:a=1
  · obtain⟨k1,k2⟩:=Zc (show zU .hits a b=some 0 by simp only[zU];(repeat' split)<;>first|rfl|(exfalso;omega)|(congr 1;omega))
    rw[k1,k2];have q1:(a==1)=true:=by simpa using c1
    clear k1 k2;subst c1;go_enter Tryz.func76,Tryz.ntmps76;go_wp2;go_ret2;exact⟨rfl,rfl⟩
  have q1:(a==1)=false:=by simpa using c1
  obtain⟨k1,k2⟩:=YG (show zU .hits a b=none by simp only[zU];(repeat' split)<;>first|rfl|(exfalso;omega)|(congr 1;omega))
  rw[k1,k2];clear k1 k2;rw[if_neg (by decide)];go_enter Tryz.func76,Tryz.ntmps76;go_wp2;go_ret2;exact⟨rfl,rfl⟩
end Fm
namespace Fm
open Go.RowKit Go.Maps Go.Proofs.YtapobpgbcbplbaaGreatDoor.Bd
structure xJ(c:Ctx)(F:FuncId)(k:K)(bw bk bd ba dm:Nat)(A:Value):Prop where
  iw:(bw,.pointer (some ⟨c.wk,0,none⟩))∈c.boxes
  ik:(bk,.func (.func F) #[] #[])∈c.boxes
  id:(bd,.map (some dm))∈c.boxes
  im:(dm,k)∈c.memos
  ia:(ba,A)∈c.boxes
  enters:∀(args:Array Value) (w:World),(callFunc F args).run Tryz.prog w=.ok (.enter F args) w
  knows:YK F k
section
variable {B:Nat} {c:Ctx} {O:Nat->Prop} {vars:Nat} {ns:List Nd} {w:World} {k:K} {F:FuncId} {bw bk bd ba dm:Nat} {A:Value} {a b:Int}
theorem zdM(hC:zm B w c O vars ns){h:Int}(hh:ze ns h=true)(ht:zk ns a b<=zb ns h)(hm:∀x,In ns h x↔opP k (In ns a) (In ns b) x):Res vars k ns a b ns h :=
  ⟨hC.good,Ext.refl _,hh,hm,ht,Nat.le_add_right _ _,hC.len⟩
theorem zgt(hC:zm B w c O vars ns)(hF:xJ c F k bw bk bd ba dm A)(ha:ze ns a=true)(hb:ze ns b=true)(x:Int)(hk:zU k a b=some x) :
    zC 124 #[.int .i64 a,.int .i64 b,.pointer (some ⟨bw,0,none⟩),.pointer (some ⟨bk,0,none⟩),.pointer (some ⟨bd,0,none⟩),.pointer (some ⟨ba,0,none⟩)] w (YJ B c O vars k ns a b w):=by
  have HR:=zH (zdM hC (zcS hC.good.ranked ha hb hk).1 (zcS hC.good.ranked ha hb hk).2 (fun y=>zhQ hk y));have cw:=(hC.box _ hF.iw).2.1;have ck:=(hC.box _ hF.ik).2.1;have w1:=hC.w1;have HC:=zH hC;have HK:Hid (∀W,zC F #[.int .i64 a,.int .i64 b] W fun e w'=>e=.returned (.tuple #[.int .i64 x,.bool true])/\W=w'):=fun W=>by
    have:=hF.knows a b W;rw[(Zc hk).1,(Zc hk).2] at this;exact this
  have hent:=hF.enters;clear hC hF hk ha hb;go_enter Tryz.func124,Tryz.ntmps124;go_wp2_with fail;refine(HK.out _).mono ?_;rintro e w2 ⟨rfl,rfl⟩;go_wp2;go_ret;exact⟨x,ns,O,rfl,HC.out,MM.refl _ _ _,HR.out⟩
theorem zjP(hC:zm B w c O vars ns)(hF:xJ c F k bw bk bd ba dm A)(hk:zU k a b=none){m:List ((Int × Int) × Int)}{D:DataW Unit}(hD:w.ownsMap Tryz.prog 225 (plainElem Tryz.prog 3) dm m.length D)(hRp:Bd.Rep xv y8 (fun x:Int=>.lit (.int .i64 x)) D m)(hm:yF k ns m)(x:Int)(hx:((a,b),x)∈m) :
    zC 124 #[.int .i64 a,.int .i64 b,.pointer (some ⟨bw,0,none⟩),.pointer (some ⟨bk,0,none⟩),.pointer (some ⟨bd,0,none⟩),.pointer (some ⟨ba,0,none⟩)] w (YJ B c O vars k ns a b w):=by
  have HR:=zH (zdM hC (hm.h _ hx) (hm.top _ hx) (hm.mem _ hx));have cw:=(hC.box _ hF.iw).2.1;have ck:=(hC.box _ hF.ik).2.1;have cd:=(hC.box _ hF.id).2.1;have w1:=hC.w1;have HK:Hid (∀W,zC F #[.int .i64 a,.int .i64 b] W fun e w'=>e=.returned (.tuple #[.int .i64 (knX k a b),.bool false])/\W=w'):=fun W=>by
    have:=hF.knows a b W;rw[(YG hk).2] at this;exact this
  have hent:=hF.enters;have hb1:=Bd.zf w (.cells #[.int .i64 a,.int .i64 b] 225);have dl:=(hC.box _ hF.id).1;have cd':=(hb1.cell (p:=⟨bd,0,none⟩) dl).trans cd;have hrun:=zgl (xX hD (zc.of_below hb1 (fun _=>False)) (fun h=>h)) hRp hx;have HC:=zH (hC.new hb1);have HB:=zH hb1;simp only at hrun;clear hC hF hk hD hRp hm hx hb1;generalize knX k a b=kx at *;go_enter Tryz.func124,Tryz.ntmps124;go_wp2_with fail;refine(HK.out _).mono ?_;rintro e w2 ⟨rfl,rfl⟩;go_wp2;go_ret;exact⟨x,ns,O,rfl,HC.out,MM.of_below HB.out,HR.out⟩
end
structure Kg(vars:Nat)(k:K)(ns:List Nd)(a b:Int)(ns':List Nd)(p q:Int):Prop where
  ext:Ext ns ns'
  hp:ze ns' p=true
  hq:ze ns' q=true
  tp:zk ns a b<zb ns' p
  tq:zk ns a b<zb ns' q
  mem:∀x,(if x.testBit (zk ns a b).toNat=true then In ns' q (x^^^2^(zk ns a b).toNat) else In ns' p x)↔opP k (In ns a) (In ns b) x
  cnt:zq vars ns'+(if zk ns a b+2<(vars:Int) then 1 else 0)<=zq vars ns+zj (rk vars ns a b) k
section
variable {B:Nat} {c:Ctx} {O O4:Nat->Prop} {vars:Nat} {ns ns4:List Nd} {w w4:World} {k:K} {a b p q:Int}
theorem zon(hg:zI vars ns)(hv:zk ns a b<24):zk ns a b<(vars:Int):=by
  have:zk ns a b=zb ns a\/zk ns a b=zb ns b:=by unfold zk;omega
  rcases this with e|e<;>rw[e] at hv ⊢<;>exact Q7 hg (by omega)
theorem zge(hg:zI vars ns)(h4:zm B w4 c O4 vars ns4)(hA:Kg vars k ns a b ns4 p q)(hv:zk ns a b<24)(hroom:zq vars ns+zj (rk vars ns a b) k+18<c.room) :
    zC 112 #[.pointer (some ⟨c.wk,0,none⟩),.int .i64 (zk ns a b),.agg #[.int .i64 p,.int .i64 q]] w4 fun e w'=>∃h ns5 O5,e=.returned (.int .i64 h)/\zm B w' c O5 vars ns5/\MM c O4 O5 w4 w'/\Res vars k ns a b ns5 h:=by
  have hv0:=(Yw hg.ranked a b).1;have hc4:=zar h4.good;have hA4:=hA.cnt;have hl:=h4.len;have hrm:=h4.rm;have hmd:=zdY h4.good h4.v24 (v:=zk ns a b) (l:=p) (h:=q) (by omega) hv0 hv (zon hg hv) hA.hp hA.hq hA.tp hA.tq;refine(zfm h4 (by omega) (zk ns a b) p q hv0 hv hA.hp hA.hq hA.tp hA.tq).mono ?_;rintro e w5 ⟨rfl,O5,hS5,hM5⟩;have hlen:(Zs ns4 (zk ns a b) p q).1.length<=4000:=by have:=hmd.len;omega
  refine⟨_,_,O5,rfl,h4.moved hS5 hM5 hmd.good hmd.ext hlen,MM.of_moves hM5,hmd.good,hA.ext.trans hmd.ext,hmd.has,fun x=>(hmd.mem x).trans (hA.mem x),hmd.top,?_,hlen⟩;have:=hmd.cnt;omega
end
end Fm
end Go.Proofs.YtapobpgbcbplbaaGreatDoor
