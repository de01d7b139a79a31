/- The contract of Add. -/
import Derived.Test.YtapobpgbcbplbaaGreatDoorCnNum
namespace Go.Proofs.YtapobpgbcbplbaaGreatDoor
set_option maxHeartbeats 1000000
set_option maxRecDepth 100000
namespace Bd
open Go.RowKit Num
def Dig(k:IntKind)(w:World)(v:Value)(ds:List Nat):Prop :=
 ∃a cap,v=.slice a ds.length cap/\ds.length<=cap/\∀i,i<ds.length->∃b off,a=some ⟨b,off,none⟩/\b<w.heap.size/\w.cell? ⟨b,off+i,none⟩=some (.int k ((dig ds i:Nat):Int))
theorem Dig.below{k:IntKind}{w w':World}{v:Value}{ds:List Nat}(h:Dig k w v ds)(hb:zB w w'):Dig k w' v ds:=by
 obtain⟨a,cap,hv,hc,hi⟩:=h;refine⟨a,cap,hv,hc,fun i hl=>?_⟩;obtain⟨b,off,ha,hlt,hcell⟩:=hi i hl;exact⟨b,off,ha,Nat.lt_of_lt_of_le hlt hb.size,(hb.cell (p:=⟨b,off+i,none⟩) hlt).trans hcell⟩
theorem Dig.set{k:IntKind}{w:World}{v:Value}{ds:List Nat}(h:Dig k w v ds){p:Addr}{u0:Value}(hp:w.cell? p=some u0)(hu:∀n,u0≠.int k n)(u:Value):Dig k (w.setCell p u) v ds:=by
 obtain⟨a,cap,hv,hc,hi⟩:=h;refine⟨a,cap,hv,hc,fun i hl=>?_⟩;obtain⟨b,off,ha,hb,hcell⟩:=hi i hl;refine⟨b,off,ha,by simpa[World.setCell] using hb,?_⟩;rw[World.cell?_setCell_other _ _ _ _ (fun e=>by subst e;rw[hp] at hcell;exact hu _ (Option.some.inj hcell))];exact hcell
theorem Dig.nil(k:IntKind)(w:World):Dig k w (.slice none 0 0) []:=⟨none,0,rfl,Nat.le_refl _,fun i h=>by simp at h⟩
def qe(k:IntKind)(ds:List Nat):List Value:=ds.map fun d:Nat=>Value.int k (d:Int)
theorem Yt(k:IntKind)(ds:List Nat)(x:Nat):qe k (ds++[x])=qe k ds++[Value.int k (x:Int)]:=by simp[qe]
theorem XI(k:IntKind)(ds:List Nat)(i:Nat)(h:i<ds.length):(qe k ds)[i]?=some (.int k ((dig ds i:Nat):Int)):=by
 unfold qe dig;simp[List.getD_eq_getElem?_getD,List.getElem?_eq_getElem h]
theorem zgk(k:IntKind)(ds:List Nat)(j x:Nat):(qe k ds).set j (.int k (x:Int))=qe k (ds.set j x):=by simp[qe,List.map_set]
theorem zh6(k:IntKind)(n:Nat):(madeCells #[Value.int k 0] n).toList=qe k (List.replicate n 0):=by rw[toList_madeCells_one];simp[qe]
theorem zms{w:World}{base:Nat}{e:TypeId}{v:Value}{n:Nat}{xs:List Value}(h:w.ownsRow base e 1 v n xs):∃a cap,v=.slice a n cap/\n<=cap:=by
 rcases h.2 with ⟨h1,h2⟩|⟨g,cap,cur,h1,_,_,h2,_⟩
 ·exact⟨none,0,by rw[h1,h2],by omega⟩
 ·exact⟨_,cap,h1,h2⟩
theorem ziq{k:IntKind}{w:World}{base g n cap:Nat}{e:TypeId}{ds:List Nat}(h:w.ownsRow base e 1 (.slice (some ⟨g,0,none⟩) n cap) n (qe k ds))(j x:Nat):(w.setCell ⟨g,j,none⟩ (.int k (x:Int))).ownsRow base e 1 (.slice (some ⟨g,0,none⟩) n cap) n (qe k (ds.set j x)):=by
 rw[<-zgk];exact(h.stored j _).1
theorem zi2{w w':World}{base:Nat}{e:TypeId}{size:Nat}{v:Value}{n:Nat}{xs:List Value}(h:w.ownsRow base e size v n xs)(hb:zB w w'):w'.ownsRow base e size v n xs:=by
 obtain⟨h1,h2⟩:=h;refine⟨h1,?_⟩;rcases h2 with h2|⟨g,cap,cur,hv,hg,hh,r⟩
 ·exact Or.inl h2
 ·have hlt:g<w.heap.size:=by
   by_cases hlt:g<w.heap.size
   ·exact hlt
   ·rw[Array.getElem?_eq_none (by omega)] at hh;simp at hh
  exact Or.inr ⟨g,cap,cur,hv,hg,by rw[hb.block g hlt];exact hh,r⟩
theorem Dig.of_owns{k:IntKind}{w:World}{base:Nat}{e:TypeId}{v:Value}{ds:List Nat}(h:w.ownsRow base e 1 v ds.length (qe k ds)):Dig k w v ds:=by
 rcases h.2 with ⟨h1,h2⟩|⟨g,cap,cur,h1,hb,hg,h2,_⟩
 ·obtain rfl:ds=[]:=List.length_eq_zero_iff.1 h2;rw[h1];exact Dig.nil k w
 ·subst h1;refine⟨_,cap,rfl,h2,fun i hi=>⟨g,0,rfl,?_,?_⟩⟩
  ·by_cases hlt:g<w.heap.size
   ·exact hlt
   ·rw[Array.getElem?_eq_none (by omega)] at hg;simp at hg
  ·rw[Nat.zero_add,h.cellAt i (by omega),XI k ds i hi]
theorem zaG{w:World}{b off:Nat}(o:Obj)(h:b<w.heap.size):(w.alloc o).cell? ⟨b,off,none⟩=w.cell? ⟨b,off,none⟩ :=
 ((Below.refl w.heap.size w).alloc zN o).cell (p:=⟨b,off,none⟩) h
theorem Qr(w:World)(A:Value)(t:TypeId):(w.alloc (.cells #[A] t)).cell? ⟨w.heap.size,0,none⟩=some A:=by simp
theorem KH(w:World)(A:Value)(t:TypeId):(w.alloc (.cells #[A] t)).frozen? ⟨w.heap.size,0,none⟩=false:=by simp
theorem ziJ(w:World)(A:Value)(t:TypeId)(o:Obj):((w.alloc (.cells #[A] t)).alloc o).cell? ⟨w.heap.size,0,none⟩=some A:=by
 rw[zaG o (by simp),Qr]
theorem zcO(w:World)(A:Value)(t:TypeId)(o:Obj):((w.alloc o).alloc (.cells #[A] t)).cell? ⟨w.heap.size+1,0,none⟩=some A:=by
 have:=Qr (w.alloc o) A t;rwa [World.size_alloc] at this
theorem zlL(w:World)(A:Value)(t:TypeId)(o:Obj):((w.alloc o).alloc (.cells #[A] t)).frozen? ⟨w.heap.size+1,0,none⟩=false:=by
 have:=KH (w.alloc o) A t;rwa [World.size_alloc] at this
theorem zfV(w:World)(A:Value)(t:TypeId)(o p:Obj):(((w.alloc (.cells #[A] t)).alloc o).alloc p).cell? ⟨w.heap.size,0,none⟩=some A:=by
 rw[zaG p (by simp;omega),ziJ]
theorem zgL(w:World)(A:Value)(t:TypeId)(o p:Obj):(((w.alloc o).alloc (.cells #[A] t)).alloc p).cell? ⟨w.heap.size+1,0,none⟩=some A:=by
 rw[zaG p (by simp),zcO]
theorem zlB(w:World)(A:Value)(t:TypeId)(o p:Obj):(((w.alloc o).alloc p).alloc (.cells #[A] t)).cell? ⟨w.heap.size+1+1,0,none⟩=some A:=by
 have:=zcO (w.alloc o) A t p;rwa [World.size_alloc] at this
theorem zmd(w:World)(A:Value)(t:TypeId)(o p:Obj):(((w.alloc o).alloc p).alloc (.cells #[A] t)).frozen? ⟨w.heap.size+1+1,0,none⟩=false:=by
 have:=zlL (w.alloc o) A t p;rwa [World.size_alloc] at this
theorem mixed:Tryz.prog.follows .mixedOrders=true:=by kernel_rfl
theorem w64{x:Int}(h0:-9223372036854775808<=x)(h1:x<=9223372036854775807):IntKind.i64.wrap x=x:=IntWalk.i64_in x ⟨h0,h1⟩
theorem za9{x:Int}(h0:0<=x)(h1:x<=18446744073709551615):IntKind.u64.wrap x=x:=IntWalk.u64_in x ⟨h0,h1⟩
theorem JC{k:IntKind}{a b:Int}(h:a=b):Ending.returned (.int k a)=.returned (.int k b):=by rw[h]
theorem zau(v:Value)(ds:List Nat)(i:Nat)(w:World)(hd:Dig .u64 w v ds)(_hi:i<=1000000)(_hl:ds.length<=1000000) :
  zR 165 #[.agg #[v],.int .i64 i] w (.int .u64 ((dig ds i:Nat):Int)):=by
 obtain⟨a,cap,rfl,hc,hcell⟩:=hd
 by_cases hlt:i<ds.length
 ·obtain⟨b,off,rfl,hb,hcl⟩:=hcell i hlt;have hne:¬b=w.heap.size:=by omega
  clear hcell;generalize dig ds i=d at *;go_enter Tryz.func165,Tryz.ntmps165;go_wp2;go_ret;exact⟨rfl,zF.alloc zN _⟩
 ·have hz:=Ju ds i (by omega);rw[hz];clear hcell hz;go_enter Tryz.func165,Tryz.ntmps165;go_wp2;go_ret;exact⟨rfl,zF.alloc zN _⟩
theorem zbO(v:Value)(ds:List Nat)(i:Int)(w:World)(hd:Dig .u64 w v ds)(h0:0<=i)(hi:i<=1000000)(hl:ds.length<=1000000) :
  zR 165 #[.agg #[v],.int .i64 i] w (.int .u64 ((dig ds i.toNat:Nat):Int)):=by
 obtain⟨n,rfl⟩:=Int.eq_ofNat_of_zero_le h0;rw[Int.toNat_natCast];exact zau v ds n w hd (by omega) hl
end Bd
namespace Bd
open Go.RowKit Go.Maps
structure NV where
 a:Option Addr
 n:Nat
 c:Nat
def NV.val(x:NV):Value:=.agg #[.slice x.a x.n x.c]
def NV.dat(x:NV):DataW Unit :=
 match x.a with
 |none=>.agg [.lit (.int .i64 x.n),.lit (.int .i64 x.c)]
 |some ⟨b,o,none⟩=>.agg [.lit (.int .i64 x.n),.lit (.int .i64 x.c),.lit (.int .i64 b),.lit (.int .i64 o)]
 |some ⟨b,o,some s⟩=>.agg [.lit (.int .i64 x.n),.lit (.int .i64 x.c),.lit (.int .i64 b),.lit (.int .i64 o),.lit (.int .i64 s)]
theorem NV.dat_inj{x y:NV}(h:x.dat=y.dat):x=y:=by
 obtain⟨a,n,c⟩:=x;obtain⟨b,m,d⟩:=y;rcases a with _|⟨ab,ao,_|sa⟩<;>rcases b with _|⟨bb,bo,_|sb⟩<;>simp[NV.dat] at h ⊢<;>omega
def Z7(v:Value):Option (DataW Unit × List MemPlace) :=
 match v with
 |.agg cs =>
  match cs.toList with
  |[.slice a n c]=>some (NV.dat ⟨a,n,c⟩,[])
  |_=>none
 |_=>none
theorem JH(x:NV):Z7 x.val=some (x.dat,[]):=rfl
theorem zcl{v:Value}{x:NV}{ps:List MemPlace}(h:Z7 v=some (x.dat,ps)):v=x.val:=by
 unfold Z7 at h;split at h
 ·rename_i cs;split at h
  ·rename_i a n c e;simp only[Option.some.injEq,Prod.mk.injEq] at h;rw[<-NV.dat_inj h.1];have:cs=#[.slice a n c]:=by cases cs;simp at e;rw[e]
   rw[this];rfl
  ·cases h
 ·cases h
theorem zdS(w:World):(zeroValue 152).run Tryz.prog w=.ok (.agg #[.slice none 0 0]) w:=by kernel_rfl
def Yi(D:DataW Unit)(L:List (Int × NV)):Prop:=Rep I64 (fun x=>Lit.int .i64 x) NV.dat D L
section
variable {w:World} {bm n:Nat} {D:DataW Unit} {L:List (Int × NV)}
theorem zjE(hD:w.ownsMap Tryz.prog 3 Z7 bm n D)(hR:Yi D L){p:Int × NV}(hp:p∈L) :
  (Instr.lookup 220 (.map (some bm)) (.int .i64 p.1) true).run Tryz.prog w=.ok (.tuple #[p.2.val,.bool true]) w:=by
 obtain⟨v,ps,hrun,hv⟩:=hD.look_ok zaP Tryz.underlying220 (zdS w) (JH ⟨none,0,0⟩) (zag (Rep.oks hR p hp));rw[Rep.at' hR p hp] at hv;rw[(Rep.has hR p.1 (Rep.oks hR p hp)).2 (List.mem_map_of_mem hp),zcl hv] at hrun;exact hrun
theorem zh3(hD:w.ownsMap Tryz.prog 3 Z7 bm n D)(hR:Yi D L){a:Int}(ha:I64 a)(hn:a∉L.map Prod.fst) :
  (Instr.lookup 220 (.map (some bm)) (.int .i64 a) true).run Tryz.prog w=.ok (.tuple #[.agg #[.slice none 0 0],.bool false]) w:=by
 obtain⟨v,ps,hrun,hv⟩:=hD.look_ok zaP Tryz.underlying220 (zdS w) (JH ⟨none,0,0⟩) (zag ha);have hh:=Rep.not hR ha hn;rw[atKey_of_not_has hh] at hv;rw[hh,zcl hv] at hrun;exact hrun
end
end Bd
namespace Bd
open Go.RowKit Go.Maps
theorem Xw{ns:List Nd}{x:Int}(e:zb ns x≠24):qm ns x=nd ns (pl x):=by unfold qm;rw[if_neg e];rfl
end Bd
namespace Bd
open Go.RowKit Num Go.Sort
theorem Dig.take{k:IntKind}{w:World}{a:Option Addr}{cap n:Nat}{ds:List Nat}(h:Dig k w (.slice a ds.length cap) ds)(hn:n<=ds.length):Dig k w (.slice a n cap) (ds.take n):=by
 obtain⟨a',cap',hv,hc,hi⟩:=h;cases hv;have hl:(ds.take n).length=n:=by rw[List.length_take,Nat.min_eq_left hn]
 refine⟨a,cap,by rw[hl],by omega,fun i hlt=>?_⟩;rw[hl] at hlt;obtain⟨b,off,ha,hb,hcell⟩:=hi i (by omega);exact⟨b,off,ha,hb,by rw[XA,if_pos hlt];exact hcell⟩
theorem Dig.setCell{k:IntKind}{w:World}{v:Value}{ds:List Nat}{B:Nat}(h:Dig k w v ds)(hb:w.heap.size<=B){W:World}(hW:zB w W)(u:Value):Dig k (W.setCell ⟨B,0,none⟩ u) v ds :=
 h.below (hW.setCell hb u)
theorem zfu(v:Value)(ds:List Nat)(w:World)(hd:Dig .u64 w v ds)(sm:∀i,dig ds i<1000000000)(hl:ds.length<=100000) :
  zC 197 #[v] w fun e w'=>∃v',e=.returned (.agg #[v'])/\∃ds',Dig .u64 w' v' ds'/\Zg 1000000000 ds'/\val 1000000000 ds'=val 1000000000 ds/\ds'.length<=ds.length/\zB w w':=by
 obtain⟨a,cap,hv,hc,hcell⟩:=id hd;subst hv;have HC:Hid (∀i,i<ds.length->∃b off,a=some ⟨b,off,none⟩/\b<w.heap.size/\w.cell? ⟨b,off+i,none⟩=some (.int .u64 ((dig ds i:Nat):Int))):=hcell;clear hcell;go_enter Tryz.func197,Tryz.ntmps197;go_wp2_with fail;go_loop [3] (fun n=>∃k:Nat,k<=ds.length/\n=.int .i64 k/\∀i,k<=i->dig ds i=0) (fun n=>(intOf n).toNat)
 case atStart=>exact⟨ds.length,Nat.le_refl _,rfl,fun i hi=>Ju ds i hi⟩
 case round =>
  obtain⟨k,hk,rfl,hz⟩:=hrel;have HZ:Hid (∀i,k<=i->dig ds i=0):=hz;clear hz
  by_cases h0:k=0
  ·subst h0;have hx:=zd1 (B:=1000000000) (k:=0) (by omega) sm (Nat.zero_le _) (fun h=>absurd rfl h);have hval:=zeR (B:=1000000000) (k:=0) (Nat.zero_le _) HZ.out;have hnil:ds.take 0=[]:=rfl;rw[hnil] at hx hval;go_wp2;refine bodyPost_ret (v:=.agg #[.slice none 0 0]) (by simp[results,Tryz.results197,go_sem]) rfl ?_;exact⟨_,rfl,[],Dig.nil _ _,hx,hval,Nat.zero_le _,zF.alloc zN _⟩
  ·obtain⟨j,rfl⟩:∃j,k=j+1:=⟨k-1,by omega⟩;obtain⟨b,off,ha,hb,hcl⟩:=HC.out j (by omega);subst ha;have hne:¬b=w.heap.size:=by omega
   have hj:=sm j
   by_cases hzj:dig ds j=0
   ·rw[hzj] at hcl;go_wp2;go_round
    case rel =>
     refine⟨j,by omega,by go_num,fun i hi=>?_⟩
     by_cases e:i=j
     ·rw[e];exact hzj
     ·exact HZ.out i (by omega)
    case measure=>simp[intOf]
   ·have hbq:(((dig ds j:Nat):Int)==0)=false:=by rw[beq_eq_false_iff_ne];omega
    have hx:=zd1 (B:=1000000000) (k:=j+1) (by omega) sm hk (fun _=>hzj);have hval:=zeR (B:=1000000000) hk HZ.out;have hDt:=Dig.take hd hk;clear hzj;go_wp2;refine bodyPost_ret (v:=.agg #[.slice (some ⟨b,off,none⟩) (j+1) cap]) (by simp[results,Tryz.results197,go_sem]) rfl ?_;exact⟨_,rfl,ds.take (j+1),hDt.below (zF.alloc zN _),hx,hval,by rw[List.length_take];omega,zF.alloc zN _⟩
end Bd
namespace Bd
open Go.RowKit Num Go.Sort
theorem zdz:(Tryz.prog.info? 223).map (fun i=>(i.zero,i.size,i.bytes))=some (some (.int .u64 0),1,8):=by kernel_rfl
theorem zd3(n:Int)(w:World)(h0:-9223372036854775808<=n)(h1:n<=9223372036854775807) :
  zC 120 #[.int .i64 n] w fun e w'=>∃v,e=.returned (.agg #[v])/\∃ds,Dig .u64 w' v ds/\Zg 1000000000 ds/\val 1000000000 ds=n.toNat/\zB w w':=by
 obtain⟨i0,hi,hz0,hz1,hz2⟩:=info_parts zdz;go_enter Tryz.func120,Tryz.ntmps120;go_wp2_with fail;go_loopw [0,3] (fun i v wr=>∃(ds:List Nat) (m:Int) (a:Option Addr) (cap:Nat),i=.int .i64 m/\v=.slice a ds.length cap/\-9223372036854775808<=m/\m<=9223372036854775807/\(∀i,dig ds i<1000000000)/\(m<=0->ds.length≠0->dig ds (ds.length-1)≠0)/\val 1000000000 ds+m.toNat*1000000000^ds.length=n.toNat/\wr.ownsRow (w.heap.size+1) 223 1 (.slice a ds.length cap) ds.length (qe .u64 ds)/\Below (w.heap.size+1) (w.alloc (.cells #[.slice none 0 0] 152)) wr)
   (fun i _ _=>(intOf i).toNat)
 case atStart=>exact⟨[],n,none,0,rfl,rfl,h0,h1,fun i=>by rw[zkW];omega,fun _ h=>absurd rfl h,by simp[ziO],World.ownsRow_nil _ _ _ _,Below.refl _ _⟩
 case round =>
  obtain⟨ds,m,a,cap,rfl,rfl,hm0,hm1,hsm,hlast,hval,hown,hbel⟩:=hrel;have HV:=hval
  by_cases hpos:0<m
  ·obtain⟨m,rfl⟩:=Int.eq_ofNat_of_zero_le (show 0<=m by omega);rw[Int.toNat_natCast] at hval;have hlen:=zmA (by omega) (by omega) hval;have hsz:=hbel.size;simp only[World.size_alloc] at hsz;go_wp2_with (at_builtin;refine wpList_append_own _ rfl _ _ 150 rfl (w.heap.size+1) 223 i0 (.int .u64 0) 1 8 Tryz.underlying150 hi hz0 hz1 hz2 rfl (by decide) _ _ _ rfl (hown.alloc _) ⟨wr.heap.size,0,none⟩ 1 1 [.int .u64 ((m:Int)%1000000000)] rfl rfl ?c1 ?c2 ?c3 ?c4 ?c5 ?_)
   case c1=>exact cell_one_new _ _ _
   case c2=>intro u hu;simp at hu;subst hu;rfl
   case c3=>unfold maxLen;omega
   case c4=>omega
   case c5=>simp;omega
   ·intro v' w1 hown' hgrow _;have hbel':Below (w.heap.size+1) (w.alloc (.cells #[.slice none 0 0] 152)) w1:=(hbel.alloc (by omega) _).grown hgrow (by simp;omega) (fun k hk=>(hown.lt k hk).1);obtain⟨a',cap',hv,-⟩:=zms hown';clear hown hgrow hbel;go_wp2;go_roundw
    case rel =>
     refine⟨ds++[m%1000000000],((m/1000000000:Nat):Int),a',cap',by go_num,by rw[hv];simp,by omega,by omega,zld hsm (by omega),fun h _=>?_,?_,?_,hbel'⟩
     ·rw[zll];omega
     ·rw[Int.toNat_natCast];exact zgM hval
     ·rw[hv] at hown';rw[Yt];simpa using hown'
    case measure=>simp[intOf];omega
  ·have hc:wr.cell? ⟨w.heap.size,0,none⟩=some (.slice none 0 0):=(hbel.cell (p:=⟨w.heap.size,0,none⟩) (by simp)).trans (by simp);have hf:wr.frozen? ⟨w.heap.size,0,none⟩=false:=(hbel.frozen (p:=⟨w.heap.size,0,none⟩) (by simp)).trans (by simp);have hcs:(wr.setCell ⟨w.heap.size,0,none⟩ (.slice a ds.length cap)).cell? ⟨w.heap.size,0,none⟩=some (.slice a ds.length cap):=World.cell?_setCell_same' _ _ _ (by simp[hc]);go_wp2;refine bodyPost_ret (v:=.agg #[.slice a ds.length cap]) (by simp[results,Tryz.results120,go_sem,hcs]) rfl ?_;refine⟨.slice a ds.length cap,rfl,ds,Dig.of_owns (ownsRow_setCell_below hown (Nat.lt_succ_self _) _),⟨hsm,hlast (by omega)⟩,?_,?_⟩
   ·have:m.toNat=0:=by omega
    rw[this] at hval;simpa using hval
   ·exact((zF.alloc zN _).trans (hbel.mono (by omega))).setCell zN _
end Bd
namespace Bd
open Go.RowKit Num Go.Sort
theorem zlj(va vb:Value)(a b:List Nat)(w:World)(ha:Dig .u64 w va a)(hb:Dig .u64 w vb b)(na:∀i,dig a i<1000000000)(nb:∀i,dig b i<1000000000)(la:a.length<=5000)(lb:b.length<=5000) :
  zC 164 #[.agg #[va],.agg #[vb]] w fun e w'=>∃v',e=.returned (.agg #[v'])/\∃ds',Dig .u64 w' v' ds'/\Zg 1000000000 ds'/\val 1000000000 ds'=val 1000000000 a+val 1000000000 b/\ds'.length<=max a.length b.length+1/\zB w w':=by
 obtain⟨aa,ca,eva,hca,hcella⟩:=id ha;obtain⟨ab,cb,evb,hcb,hcellb⟩:=id hb;subst eva evb;clear hcella hcellb hca hcb;obtain⟨m,hm,hmx,hma,hmb,hml⟩:∃m:Nat,max (a.length:Int) (b.length:Int)=(m:Int)/\max a.length b.length=m/\a.length<=m/\b.length<=m/\m<=5000:=⟨max a.length b.length,by omega,rfl,by omega,by omega,by omega⟩;rw[hmx];clear hmx;obtain⟨i0,hi,hz0,hz1,hz2⟩:=info_parts zdz;go_enter Tryz.func164,Tryz.ntmps164;go_wp2_with (at_make;refine wpList_make_full _ rfl _ _ 150 rfl (w.heap.size+3) 223 i0 (.int .u64 0) 1 Tryz.underlying150 hi hz0 hz1 .i64 .i64 _ _ (m+1) rfl rfl ?c1 ?c2 ?c3 ?c4 ?c5 ?_)
 case c1=>omega
 case c2=>omega
 case c3=>rw[hz2];omega
 case c4=>unfold maxLen;omega
 case c5=>simp
 intro w1 hown hgrow;rw[zh6] at hown;have hbel:Below (w.heap.size+3) (((w.alloc (.cells #[.slice aa a.length ca] 152)).alloc (.cells #[.slice ab b.length cb] 152)).alloc (.cells #[.slice none 0 0] 152)) w1:=zF.grown hgrow (by simp) (fun k hk=>by cases hk);clear hgrow hm;go_wp2_with fail;go_loopw [7,21] (fun cv i wr=>∃(k c:Nat) (out:List Nat),k<=m+1/\i=.int .i64 k/\cv=.int .u64 c/\c<=1/\out.length=m+1/\(∀i,dig out i<1000000000)/\S 1000000000 (dig out) k+c*1000000000^k=S 1000000000 (dig a) k+S 1000000000 (dig b) k/\wr.ownsRow (w.heap.size+3) 223 1 (.slice (some ⟨w.heap.size+1+1+1,0,none⟩) (m+1) (m+1)) (m+1) (qe .u64 out)/\Below (w.heap.size+3) (((w.alloc (.cells #[.slice aa a.length ca] 152)).alloc (.cells #[.slice ab b.length cb] 152)).alloc (.cells #[.slice none 0 0] 152)) wr)
  (fun _ i _=>m+1-(intOf i).toNat)
 case atStart=>exact⟨0,0,List.replicate (m+1) 0,Nat.zero_le _,rfl,rfl,Nat.zero_le _,by simp,fun i=>by rw[ziy];omega,by simp[S],hown,hbel⟩
 case round =>
  obtain⟨k,c,out,hk,rfl,rfl,hc1,hol,hsm,hS,hownr,hbelr⟩:=hrel;have HSm:Hid (∀i,dig out i<1000000000):=hsm;have HS:Hid (S 1000000000 (dig out) k+c*1000000000^k=S 1000000000 (dig a) k+S 1000000000 (dig b) k):=hS;have HO:Hid (out.length=m+1):=hol;clear hsm hS hown hbel hol;have hbw:zB w wr:=(((zF.alloc zN _).alloc (by simp) _).alloc (by simp;omega) _).trans (hbelr.mono (by omega));have hsz:=hbelr.size;simp only[World.size_alloc] at hsz
  by_cases hlt:k<m+1
  ·have c0:wr.cell? ⟨w.heap.size,0,none⟩=some (.slice aa a.length ca):=(hbelr.cell (p:=⟨w.heap.size,0,none⟩) (by show w.heap.size<_;omega)).trans (zfV _ _ _ _ _);have c1:wr.cell? ⟨w.heap.size+1,0,none⟩=some (.slice ab b.length cb):=(hbelr.cell (p:=⟨w.heap.size+1,0,none⟩) (by show w.heap.size+1<_;omega)).trans (zgL _ _ _ _ _);have k0:=cell_regrown c0;have k1:=cell_regrown c1;have cA:∀d os,zC 165 #[.agg #[.slice aa a.length ca],.int .i64 k] (grow (redrawn wr d) os) fun e w''=>e=.returned (.int .u64 ((dig a k:Nat):Int))/\∃p:Regrown,w''=grow (redrawn wr p.d) p.os:=fun d os =>
    Calls.regrown_of (zau _ a k (grow (redrawn wr d) os) (ha.below (hbw.trans ((below_regrown wr d os).mono hbw.size))) (by omega) (by omega))
   have cB:∀d os,zC 165 #[.agg #[.slice ab b.length cb],.int .i64 k] (grow (redrawn wr d) os) fun e w''=>e=.returned (.int .u64 ((dig b k:Nat):Int))/\∃p:Regrown,w''=grow (redrawn wr p.d) p.os:=fun d os =>
    Calls.regrown_of (zau _ b k (grow (redrawn wr d) os) (hb.below (hbw.trans ((below_regrown wr d os).mono hbw.size))) (by omega) (by omega))
   have hx:=na k;have hy:=nb k;have e1:IntKind.u64.wrap (((dig a k:Nat):Int)+((dig b k:Nat):Int))=((dig a k:Nat):Int)+((dig b k:Nat):Int):=za9 (by omega) (by omega);have e2:IntKind.u64.wrap (((dig a k:Nat):Int)+((dig b k:Nat):Int)+(c:Int))=((dig a k:Nat):Int)+((dig b k:Nat):Int)+(c:Int):=za9 (by omega) (by omega);go_wp2_with fail;refine wp_region_quiet_below mixed (by kernel_rfl) ?_
   repeat(quiet_step (first|(go_at_call_of 165 aa;exact cA _ _)|(go_at_call_of 165 ab;exact cB _ _)))
   refine wpQuiet_nil ?_;intro _ hw';obtain⟨⟨dq,osq⟩,hw''⟩:=hw';subst hw'';clear cA cB k0 k1 c0 c1;have hbq:=below_regrown wr dq osq;generalize grow (redrawn wr dq) osq=wq at *;have hownq:=zi2 hownr hbq;have hbelq:=hbelr.trans (hbq.mono (by omega));have HA:Hid (dig a k=dig a k):=rfl;clear hownr hbelr hbq hbw e1 e2;generalize hdx:dig a k=x at *;generalize hdy:dig b k=y at *;have HX:Hid (dig a k=x):=hdx;have HY:Hid (dig b k=y):=hdy;clear hdx hdy HA;have hcell:=hownq.cellAt k (by omega);rw[XI .u64 out k (by have:=HO.out;omega)] at hcell;have hfr:=hownq.frozenAt k;go_wp2;go_roundw
   case rel =>
    have e3:((x:Int)+y+c)%1000000000=(((x+y+c)%1000000000:Nat):Int):=by omega
    have e4:((x:Int)+y+c)/1000000000=(((x+y+c)/1000000000:Nat):Int):=by omega
    have hkl:k<out.length:=by have:=HO.out;omega
    rw[e3,e4];refine⟨k+1,(x+y+c)/1000000000,out.set k ((x+y+c)%1000000000),by omega,by go_num,rfl,by omega,by rw[List.length_set];exact HO.out,zjU hkl HSm.out (by omega),zkx hkl HS.out HX.out HY.out,ziq hownq k _,hbelq.setCell (by show _<=w.heap.size+1+1+1;omega) _⟩
   case measure=>simp[intOf];omega
  ·obtain rfl:k=m+1:=by omega
   have hva:=ZK 1000000000 a (m+1) (by omega);have hvb:=ZK 1000000000 b (m+1) (by omega);have hvo:=ZK 1000000000 out (m+1) (by have:=HO.out;omega);have hE:=HS.out;rw[hva,hvb,hvo] at hE;have b1:val 1000000000 a<1000000000^m:=by
    rw[<-ZK 1000000000 a m hma];exact Ks _ _ _ na
   have b2:val 1000000000 b<1000000000^m:=by
    rw[<-ZK 1000000000 b m hmb];exact Ks _ _ _ nb
   have hc0:=zn1 hE (by rw[Nat.pow_succ];omega);subst hc0;have HVO:Hid (val 1000000000 out=val 1000000000 a+val 1000000000 b):=by show _=_;omega
   clear hva hvb hvo hE b1 b2;rw[show m+1=out.length from HO.out.symm] at hownr;have hD:=Dig.of_owns hownr;rw[HO.out] at hD;clear hownr;go_wp2_with fail;refine(zfu _ out _ hD HSm.out (by have:=HO.out;omega)).mono ?_;rintro e w2 ⟨v2,rfl,ds2,hd2,hn2,hv2,hl2,hb2⟩;obtain⟨a2,cap2,ev2,-,-⟩:=id hd2;subst ev2;have hb3:Below (w.heap.size+3) (((w.alloc (.cells #[.slice aa a.length ca] 152)).alloc (.cells #[.slice ab b.length cb] 152)).alloc (.cells #[.slice none 0 0] 152)) w2:=hbelr.trans (hb2.mono (by omega));have hc:w2.cell? ⟨w.heap.size+1+1,0,none⟩=some (.slice none 0 0):=(hb3.cell (p:=⟨w.heap.size+1+1,0,none⟩) (by show w.heap.size+1+1<_;omega)).trans (zlB _ _ _ _ _);have hf:w2.frozen? ⟨w.heap.size+1+1,0,none⟩=false:=(hb3.frozen (p:=⟨w.heap.size+1+1,0,none⟩) (by show w.heap.size+1+1<_;omega)).trans (zmd _ _ _ _ _);have hcs:(w2.setCell ⟨w.heap.size+1+1,0,none⟩ (.slice a2 ds2.length cap2)).cell? ⟨w.heap.size+1+1,0,none⟩=some (.slice a2 ds2.length cap2):=World.cell?_setCell_same' _ _ _ (by simp[hc]);go_wp2;refine bodyPost_ret (v:=.agg #[.slice a2 ds2.length cap2]) (by simp[results,Tryz.results164,go_sem,hcs]) rfl ?_;refine⟨_,rfl,ds2,hd2.set hc (fun n h=>by cases h) _,hn2,by rw[hv2];exact HVO.out,by have:=HO.out;omega,?_⟩;exact((((zF.alloc zN _).alloc (by simp) _).alloc (by simp;omega) _).trans (hb3.mono (by omega))).setCell (by show _<=w.heap.size+1+1;omega) _
end Bd
end Go.Proofs.YtapobpgbcbplbaaGreatDoor
