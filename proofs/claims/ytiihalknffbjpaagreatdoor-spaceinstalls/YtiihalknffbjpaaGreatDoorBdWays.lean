/- ways: of how many values, from a variable on. -/
import Derived.Test.YtiihalknffbjpaaGreatDoorCnBaseB
namespace Go.Proofs.YtiihalknffbjpaaGreatDoor
set_option maxHeartbeats 2000000
set_option maxRecDepth 100000
namespace Bd
open Go.RowKit Go.Maps
structure NV where
 a:Option Addr
 n:Nat
 c:Nat
def NV.val(x:NV):Value:=.agg #[.slice x.a x.n x.c]
def NV.dat(x:NV):DataW Unit :=
 match x.a with
 |none=>.agg [.lit (.int .i64 x.n),.lit (.int .i64 x.c)]
 |some ⟨b,o,none⟩=>.agg [.lit (.int .i64 x.n),.lit (.int .i64 x.c),.lit (.int .i64 b),.lit (.int .i64 o)]
 |some ⟨b,o,some s⟩=>.agg [.lit (.int .i64 x.n),.lit (.int .i64 x.c),.lit (.int .i64 b),.lit (.int .i64 o),.lit (.int .i64 s)]
theorem NV.dat_inj{x y:NV}(h:x.dat=y.dat):x=y:=by
 obtain⟨a,n,c⟩:=x;obtain⟨b,m,d⟩:=y;rcases a with _|⟨ab,ao,_|sa⟩<;>rcases b with _|⟨bb,bo,_|sb⟩<;>simp[NV.dat] at h ⊢<;>omega
def zwg(v:Value):Option (DataW Unit × List MemPlace) :=
 match v with
 |.agg cs =>
  match cs.toList with
  |[.slice a n c]=>some (NV.dat ⟨a,n,c⟩,[])
  |_=>none
 |_=>none
theorem ziP(x:NV):zwg x.val=some (x.dat,[]):=rfl
theorem zmc{v:Value}{x:NV}{ps:List MemPlace}(h:zwg v=some (x.dat,ps)):v=x.val:=by
 unfold zwg at h;split at h
 ·rename_i cs;split at h
  ·rename_i a n c e;simp only[Option.some.injEq,Prod.mk.injEq] at h;rw[<-NV.dat_inj h.1];have:cs=#[.slice a n c]:=by cases cs;simp at e;rw[e]
   rw[this];rfl
  ·cases h
 ·cases h
theorem zoz(w:World):(zeroValue 42).run Tryz.prog w=.ok (.agg #[.slice none 0 0]) w:=by kernel_rfl
def zw8(D:DataW Unit)(L:List (Int × NV)):Prop:=Rep I64 (fun x=>Lit.int .i64 x) NV.dat D L
section
variable {w:World} {bm n:Nat} {D:DataW Unit} {L:List (Int × NV)}
theorem zkF(hD:w.ownsMap Tryz.prog 3 zwg bm n D)(hR:zw8 D L){p:Int × NV}(hp:p∈L) :
  (Instr.lookup 162 (.map (some bm)) (.int .i64 p.1) true).run Tryz.prog w=.ok (.tuple #[p.2.val,.bool true]) w:=by
 obtain⟨v,ps,hrun,hv⟩:=hD.look_ok zwk Tryz.underlying162 (zoz w) (ziP ⟨none,0,0⟩) (zvf (Rep.oks hR p hp));rw[Rep.at' hR p hp] at hv;rw[(Rep.has hR p.1 (Rep.oks hR p hp)).2 (List.mem_map_of_mem hp),zmc hv] at hrun;exact hrun
theorem zoa(hD:w.ownsMap Tryz.prog 3 zwg bm n D)(hR:zw8 D L){a:Int}(ha:I64 a)(hn:a∉L.map Prod.fst) :
  (Instr.lookup 162 (.map (some bm)) (.int .i64 a) true).run Tryz.prog w=.ok (.tuple #[.agg #[.slice none 0 0],.bool false]) w:=by
 obtain⟨v,ps,hrun,hv⟩:=hD.look_ok zwk Tryz.underlying162 (zoz w) (ziP ⟨none,0,0⟩) (zvf ha);have hh:=Rep.not hR ha hn;rw[atKey_of_not_has hh] at hv;rw[hh,zmc hv] at hrun;exact hrun
end
end Bd
namespace Bd
open Go.RowKit Num Go.Sort
theorem Dig.take{k:IntKind}{w:World}{a:Option Addr}{cap n:Nat}{ds:List Nat}(h:Dig k w (.slice a ds.length cap) ds)(hn:n<=ds.length):Dig k w (.slice a n cap) (ds.take n):=by
 obtain⟨a',cap',hv,hc,hi⟩:=h;cases hv;have hl:(ds.take n).length=n:=by rw[List.length_take,Nat.min_eq_left hn]
 refine⟨a,cap,by rw[hl],by omega,fun i hlt=>?_⟩;rw[hl] at hlt;obtain⟨b,off,ha,hb,hcell⟩:=hi i (by omega);exact⟨b,off,ha,hb,by rw[zfY,if_pos hlt];exact hcell⟩
theorem zgZ(v:Value)(ds:List Nat)(w:World)(hd:Dig .u64 w v ds)(sm:∀i,dig ds i<1000000000)(hl:ds.length<=100000) :
  zC 291 #[v] w fun e w'=>∃v',e=.returned (.agg #[v'])/\∃ds',Dig .u64 w' v' ds'/\zlX 1000000000 ds'/\val 1000000000 ds'=val 1000000000 ds/\ds'.length<=ds.length/\zB w w':=by
 obtain⟨a,cap,hv,hc,hcell⟩:=id hd;subst hv;have HC:Hid (∀i,i<ds.length->∃b off,a=some ⟨b,off,none⟩/\b<w.heap.size/\w.cell? ⟨b,off+i,none⟩=some (.int .u64 ((dig ds i:Nat):Int))):=hcell;clear hcell;go_enter Tryz.func291,Tryz.ntmps291;go_wp2_with fail;go_loop [3] (fun n=>∃k:Nat,k<=ds.length/\n=.int .i64 k/\∀i,k<=i->dig ds i=0) (fun n=>(intOf n).toNat)
 case atStart=>exact⟨ds.length,Nat.le_refl _,rfl,fun i hi=>zfo ds i hi⟩
 case round =>
  obtain⟨k,hk,rfl,hz⟩:=hrel;have HZ:Hid (∀i,k<=i->dig ds i=0):=hz;clear hz
  by_cases h0:k=0
  ·subst h0;have hx:=zjQ (B:=1000000000) (k:=0) (by omega) sm (Nat.zero_le _) (fun h=>absurd rfl h);have hval:=zlP (B:=1000000000) (k:=0) (Nat.zero_le _) HZ.out;have hnil:ds.take 0=[]:=rfl;rw[hnil] at hx hval;go_wp2;refine bodyPost_ret (v:=.agg #[.slice none 0 0]) (by simp[results,Tryz.results291,go_sem]) rfl ?_;exact⟨_,rfl,[],Dig.nil _ _,hx,hval,Nat.zero_le _,zF.alloc zN _⟩
  ·obtain⟨j,rfl⟩:∃j,k=j+1:=⟨k-1,by omega⟩;obtain⟨b,off,ha,hb,hcl⟩:=HC.out j (by omega);subst ha;have hne:¬b=w.heap.size:=by omega
   have hj:=sm j
   by_cases hzj:dig ds j=0
   ·rw[hzj] at hcl;go_wp2;go_round
    case rel =>
     refine⟨j,by omega,by go_num,fun i hi=>?_⟩
     by_cases e:i=j
     ·rw[e];exact hzj
     ·exact HZ.out i (by omega)
    case measure=>simp[intOf]
   ·have hbq:(((dig ds j:Nat):Int)==0)=false:=by rw[beq_eq_false_iff_ne];omega
    have hx:=zjQ (B:=1000000000) (k:=j+1) (by omega) sm hk (fun _=>hzj);have hval:=zlP (B:=1000000000) hk HZ.out;have hDt:=Dig.take hd hk;clear hzj;go_wp2;refine bodyPost_ret (v:=.agg #[.slice (some ⟨b,off,none⟩) (j+1) cap]) (by simp[results,Tryz.results291,go_sem]) rfl ?_;exact⟨_,rfl,ds.take (j+1),hDt.below (zF.alloc zN _),hx,hval,by rw[List.length_take];omega,zF.alloc zN _⟩
end Bd
namespace Bd
open Go.RowKit Num Go.Sort
theorem ziN:(Tryz.prog.info? 165).map (fun i=>(i.zero,i.size,i.bytes))=some (some (.int .u64 0),1,8):=by kernel_rfl
theorem zxv(n:Int)(w:World)(h0:-9223372036854775808<=n)(h1:n<=9223372036854775807) :
  zC 227 #[.int .i64 n] w fun e w'=>∃v,e=.returned (.agg #[v])/\∃ds,Dig .u64 w' v ds/\zlX 1000000000 ds/\val 1000000000 ds=n.toNat/\zB w w':=by
 obtain⟨i0,hi,hz0,hz1,hz2⟩:=info_parts ziN;go_enter Tryz.func227,Tryz.ntmps227;go_wp2_with fail;go_loopw [0,3] (fun i v wr=>∃(ds:List Nat) (m:Int) (a:Option Addr) (cap:Nat),i=.int .i64 m/\v=.slice a ds.length cap/\-9223372036854775808<=m/\m<=9223372036854775807/\(∀i,dig ds i<1000000000)/\(m<=0->ds.length≠0->dig ds (ds.length-1)≠0)/\val 1000000000 ds+m.toNat*1000000000^ds.length=n.toNat/\wr.ownsRow (w.heap.size+1) 165 1 (.slice a ds.length cap) ds.length (zbP .u64 ds)/\Below (w.heap.size+1) (w.alloc (.cells #[.slice none 0 0] 42)) wr)
   (fun i _ _=>(intOf i).toNat)
 case atStart=>exact⟨[],n,none,0,rfl,rfl,h0,h1,fun i=>by rw[zvB];omega,fun _ h=>absurd rfl h,by simp[zrt],World.ownsRow_nil _ _ _ _,Below.refl _ _⟩
 case round =>
  obtain⟨ds,m,a,cap,rfl,rfl,hm0,hm1,hsm,hlast,hval,hown,hbel⟩:=hrel;have HV:=hval
  by_cases hpos:0<m
  ·obtain⟨m,rfl⟩:=Int.eq_ofNat_of_zero_le (show 0<=m by omega);rw[Int.toNat_natCast] at hval;have hlen:=zxk (by omega) (by omega) hval;have hsz:=hbel.size;simp only[World.size_alloc] at hsz;go_wp2_with (at_builtin;refine wpList_append_own _ rfl _ _ 40 rfl (w.heap.size+1) 165 i0 (.int .u64 0) 1 8 Tryz.underlying40 hi hz0 hz1 hz2 rfl (by decide) _ _ _ rfl (hown.alloc _) ⟨wr.heap.size,0,none⟩ 1 1 [.int .u64 ((m:Int)%1000000000)] rfl rfl ?c1 ?c2 ?c3 ?c4 ?c5 ?_)
   case c1=>exact cell_one_new _ _ _
   case c2=>intro u hu;simp at hu;subst hu;rfl
   case c3=>unfold maxLen;omega
   case c4=>omega
   case c5=>simp;omega
   ·intro v' w1 hown' hgrow _;have hbel':Below (w.heap.size+1) (w.alloc (.cells #[.slice none 0 0] 42)) w1:=(hbel.alloc (by omega) _).grown hgrow (by simp;omega) (fun k hk=>(hown.lt k hk).1);obtain⟨a',cap',hv,-⟩:=zp1 hown';clear hown hgrow hbel;go_wp2;go_roundw
    case rel =>
     refine⟨ds++[m%1000000000],((m/1000000000:Nat):Int),a',cap',by go_num,by rw[hv];simp,by omega,by omega,zos hsm (by omega),fun h _=>?_,?_,?_,hbel'⟩
     ·rw[zrj];omega
     ·rw[Int.toNat_natCast];exact zva hval
     ·rw[hv] at hown';rw[zlg];simpa using hown'
    case measure=>simp[intOf];omega
  ·have hc:wr.cell? ⟨w.heap.size,0,none⟩=some (.slice none 0 0):=(hbel.cell (p:=⟨w.heap.size,0,none⟩) (by simp)).trans (by simp);have hf:wr.frozen? ⟨w.heap.size,0,none⟩=false:=(hbel.frozen (p:=⟨w.heap.size,0,none⟩) (by simp)).trans (by simp);have hcs:(wr.setCell ⟨w.heap.size,0,none⟩ (.slice a ds.length cap)).cell? ⟨w.heap.size,0,none⟩=some (.slice a ds.length cap):=World.cell?_setCell_same' _ _ _ (by simp[hc]);go_wp2;refine bodyPost_ret (v:=.agg #[.slice a ds.length cap]) (by simp[results,Tryz.results227,go_sem,hcs]) rfl ?_;refine⟨.slice a ds.length cap,rfl,ds,Dig.of_owns (ownsRow_setCell_below hown (Nat.lt_succ_self _) _),⟨hsm,hlast (by omega)⟩,?_,?_⟩
   ·have:m.toNat=0:=by omega
    rw[this] at hval;simpa using hval
   ·exact((zF.alloc zN _).trans (hbel.mono (by omega))).setCell zN _
end Bd
namespace Bd
open Go.RowKit Num Go.Sort
theorem zvA(va vb:Value)(a b:List Nat)(w:World)(ha:Dig .u64 w va a)(hb:Dig .u64 w vb b)(na:∀i,dig a i<1000000000)(nb:∀i,dig b i<1000000000)(la:a.length<=5000)(lb:b.length<=5000) :
  zC 228 #[.agg #[va],.agg #[vb]] w fun e w'=>∃v',e=.returned (.agg #[v'])/\∃ds',Dig .u64 w' v' ds'/\zlX 1000000000 ds'/\val 1000000000 ds'=val 1000000000 a+val 1000000000 b/\ds'.length<=max a.length b.length+1/\zB w w':=by
 obtain⟨aa,ca,eva,hca,hcella⟩:=id ha;obtain⟨ab,cb,evb,hcb,hcellb⟩:=id hb;subst eva evb;clear hcella hcellb hca hcb;obtain⟨m,hm,hmx,hma,hmb,hml⟩:∃m:Nat,max (a.length:Int) (b.length:Int)=(m:Int)/\max a.length b.length=m/\a.length<=m/\b.length<=m/\m<=5000:=⟨max a.length b.length,by omega,rfl,by omega,by omega,by omega⟩;rw[hmx];clear hmx;obtain⟨i0,hi,hz0,hz1,hz2⟩:=info_parts ziN;go_enter Tryz.func228,Tryz.ntmps228;go_wp2_with (at_make;refine wpList_make_full _ rfl _ _ 40 rfl (w.heap.size+3) 165 i0 (.int .u64 0) 1 Tryz.underlying40 hi hz0 hz1 .i64 .i64 _ _ (m+1) rfl rfl ?c1 ?c2 ?c3 ?c4 ?c5 ?_)
 case c1=>omega
 case c2=>omega
 case c3=>rw[hz2];omega
 case c4=>unfold maxLen;omega
 case c5=>simp
 intro w1 hown hgrow;rw[zgy] at hown;have hbel:Below (w.heap.size+3) (((w.alloc (.cells #[.slice aa a.length ca] 42)).alloc (.cells #[.slice ab b.length cb] 42)).alloc (.cells #[.slice none 0 0] 42)) w1:=zF.grown hgrow (by simp) (fun k hk=>by cases hk);clear hgrow hm;go_wp2_with fail;go_loopw [7,21] (fun cv i wr=>∃(k c:Nat) (out:List Nat),k<=m+1/\i=.int .i64 k/\cv=.int .u64 c/\c<=1/\out.length=m+1/\(∀i,dig out i<1000000000)/\S 1000000000 (dig out) k+c*1000000000^k=S 1000000000 (dig a) k+S 1000000000 (dig b) k/\wr.ownsRow (w.heap.size+3) 165 1 (.slice (some ⟨w.heap.size+1+1+1,0,none⟩) (m+1) (m+1)) (m+1) (zbP .u64 out)/\Below (w.heap.size+3) (((w.alloc (.cells #[.slice aa a.length ca] 42)).alloc (.cells #[.slice ab b.length cb] 42)).alloc (.cells #[.slice none 0 0] 42)) wr)
  (fun _ i _=>m+1-(intOf i).toNat)
 case atStart=>exact⟨0,0,List.replicate (m+1) 0,Nat.zero_le _,rfl,rfl,Nat.zero_le _,by simp,fun i=>by rw[zeW];omega,by simp[S],hown,hbel⟩
 case round =>
  obtain⟨k,c,out,hk,rfl,rfl,hc1,hol,hsm,hS,hownr,hbelr⟩:=hrel;have HSm:Hid (∀i,dig out i<1000000000):=hsm;have HS:Hid (S 1000000000 (dig out) k+c*1000000000^k=S 1000000000 (dig a) k+S 1000000000 (dig b) k):=hS;have HO:Hid (out.length=m+1):=hol;clear hsm hS hown hbel hol;have hbw:zB w wr:=(((zF.alloc zN _).alloc (by simp) _).alloc (by simp;omega) _).trans (hbelr.mono (by omega));have hsz:=hbelr.size;simp only[World.size_alloc] at hsz
  by_cases hlt:k<m+1
  ·have c0:wr.cell? ⟨w.heap.size,0,none⟩=some (.slice aa a.length ca):=(hbelr.cell (p:=⟨w.heap.size,0,none⟩) (by show w.heap.size<_;omega)).trans (zuz _ _ _ _ _);have c1:wr.cell? ⟨w.heap.size+1,0,none⟩=some (.slice ab b.length cb):=(hbelr.cell (p:=⟨w.heap.size+1,0,none⟩) (by show w.heap.size+1<_;omega)).trans (zwh _ _ _ _ _);have k0:=cell_regrown c0;have k1:=cell_regrown c1;have cA:∀d os,zC 148 #[.agg #[.slice aa a.length ca],.int .i64 k] (grow (redrawn wr d) os) fun e w''=>e=.returned (.int .u64 ((dig a k:Nat):Int))/\∃p:Regrown,w''=grow (redrawn wr p.d) p.os:=fun d os =>
    Calls.regrown_of (zgH _ a k (grow (redrawn wr d) os) (ha.below (hbw.trans ((below_regrown wr d os).mono hbw.size))) (by omega) (by omega))
   have cB:∀d os,zC 148 #[.agg #[.slice ab b.length cb],.int .i64 k] (grow (redrawn wr d) os) fun e w''=>e=.returned (.int .u64 ((dig b k:Nat):Int))/\∃p:Regrown,w''=grow (redrawn wr p.d) p.os:=fun d os =>
    Calls.regrown_of (zgH _ b k (grow (redrawn wr d) os) (hb.below (hbw.trans ((below_regrown wr d os).mono hbw.size))) (by omega) (by omega))
   have hx:=na k;have hy:=nb k;have e1:IntKind.u64.wrap (((dig a k:Nat):Int)+((dig b k:Nat):Int))=((dig a k:Nat):Int)+((dig b k:Nat):Int):=zxP (by omega) (by omega);have e2:IntKind.u64.wrap (((dig a k:Nat):Int)+((dig b k:Nat):Int)+(c:Int))=((dig a k:Nat):Int)+((dig b k:Nat):Int)+(c:Int):=zxP (by omega) (by omega);go_wp2_with fail;refine wp_region_quiet_below zdx (by kernel_rfl) ?_
   repeat(quiet_step (first|(go_at_call_of 148 aa;exact cA _ _)|(go_at_call_of 148 ab;exact cB _ _)))
   refine wpQuiet_nil ?_;intro _ hw';obtain⟨⟨dq,osq⟩,hw''⟩:=hw';subst hw'';clear cA cB k0 k1 c0 c1;have hbq:=below_regrown wr dq osq;generalize grow (redrawn wr dq) osq=wq at *;have hownq:=zhR hownr hbq;have hbelq:=hbelr.trans (hbq.mono (by omega));have HA:Hid (dig a k=dig a k):=rfl;clear hownr hbelr hbq hbw e1 e2;generalize hdx:dig a k=x at *;generalize hdy:dig b k=y at *;have HX:Hid (dig a k=x):=hdx;have HY:Hid (dig b k=y):=hdy;clear hdx hdy HA;have hcell:=hownq.cellAt k (by omega);rw[zeP .u64 out k (by have:=HO.out;omega)] at hcell;have hfr:=hownq.frozenAt k;go_wp2;go_roundw
   case rel =>
    have e3:((x:Int)+y+c)%1000000000=(((x+y+c)%1000000000:Nat):Int):=by omega
    have e4:((x:Int)+y+c)/1000000000=(((x+y+c)/1000000000:Nat):Int):=by omega
    have hkl:k<out.length:=by have:=HO.out;omega
    rw[e3,e4];refine⟨k+1,(x+y+c)/1000000000,out.set k ((x+y+c)%1000000000),by omega,by go_num,rfl,by omega,by rw[List.length_set];exact HO.out,zj5 hkl HSm.out (by omega),zrD hkl HS.out HX.out HY.out,zmm hownq k _,hbelq.setCell (by show _<=w.heap.size+1+1+1;omega) _⟩
   case measure=>simp[intOf];omega
  ·obtain rfl:k=m+1:=by omega
   have hva:=zk2 1000000000 a (m+1) (by omega);have hvb:=zk2 1000000000 b (m+1) (by omega);have hvo:=zk2 1000000000 out (m+1) (by have:=HO.out;omega);have hE:=HS.out;rw[hva,hvb,hvo] at hE;have b1:val 1000000000 a<1000000000^m:=by
    rw[<-zk2 1000000000 a m hma];exact zxw _ _ _ na
   have b2:val 1000000000 b<1000000000^m:=by
    rw[<-zk2 1000000000 b m hmb];exact zxw _ _ _ nb
   have hc0:=zmo hE (by rw[Nat.pow_succ];omega);subst hc0;have HVO:Hid (val 1000000000 out=val 1000000000 a+val 1000000000 b):=by show _=_;omega
   clear hva hvb hvo hE b1 b2;rw[show m+1=out.length from HO.out.symm] at hownr;have hD:=Dig.of_owns hownr;rw[HO.out] at hD;clear hownr;go_wp2_with fail;refine(zgZ _ out _ hD HSm.out (by have:=HO.out;omega)).mono ?_;rintro e w2 ⟨v2,rfl,ds2,hd2,hn2,hv2,hl2,hb2⟩;obtain⟨a2,cap2,ev2,-,-⟩:=id hd2;subst ev2;have hb3:Below (w.heap.size+3) (((w.alloc (.cells #[.slice aa a.length ca] 42)).alloc (.cells #[.slice ab b.length cb] 42)).alloc (.cells #[.slice none 0 0] 42)) w2:=hbelr.trans (hb2.mono (by omega));have hc:w2.cell? ⟨w.heap.size+1+1,0,none⟩=some (.slice none 0 0):=(hb3.cell (p:=⟨w.heap.size+1+1,0,none⟩) (by show w.heap.size+1+1<_;omega)).trans (zvS _ _ _ _ _);have hf:w2.frozen? ⟨w.heap.size+1+1,0,none⟩=false:=(hb3.frozen (p:=⟨w.heap.size+1+1,0,none⟩) (by show w.heap.size+1+1<_;omega)).trans (zpG _ _ _ _ _);have hcs:(w2.setCell ⟨w.heap.size+1+1,0,none⟩ (.slice a2 ds2.length cap2)).cell? ⟨w.heap.size+1+1,0,none⟩=some (.slice a2 ds2.length cap2):=World.cell?_setCell_same' _ _ _ (by simp[hc]);go_wp2;refine bodyPost_ret (v:=.agg #[.slice a2 ds2.length cap2]) (by simp[results,Tryz.results228,go_sem,hcs]) rfl ?_;refine⟨_,rfl,ds2,hd2.set hc (fun n h=>by cases h) _,hn2,by rw[hv2];exact HVO.out,by have:=HO.out;omega,?_⟩;exact((((zF.alloc zN _).alloc (by simp) _).alloc (by simp;omega) _).trans (hb3.mono (by omega))).setCell (by show _<=w.heap.size+1+1;omega) _
end Bd
namespace Bd
open Go.RowKit Num Go.Sort
theorem zq6(v:Value)(ds:List Nat)(w:World)(hd:Dig .u64 w v ds)(hl:ds.length<=100000) :
  zC 229 #[v] w fun e w'=>∃v',e=.returned v'/\Dig .u64 w' v' ds/\zB w w':=by
 obtain⟨a,cap,hv,hc,hcell⟩:=id hd;subst hv;obtain⟨i0,hi,hz0,hz1,hz2⟩:=info_parts ziN;have hq:=fun (x:Option Addr) (n c:Nat) (W:World)=>Lib.run_eql_slice_nil (P:=Tryz.prog) W 40 165 x n c 0 0 Tryz.underlying40;cases a with
 |none =>
  have h0:ds.length=0:=by
   by_cases h:ds.length=0
   ·exact h
   ·obtain⟨b,off,e,-⟩:=hcell 0 (by omega);cases e
  obtain rfl:ds=[]:=List.length_eq_zero_iff.1 h0;clear hcell hd;go_enter Tryz.func229,Tryz.ntmps229;go_wp2;go_ret;exact⟨_,rfl,Dig.nil _ _,Below.refl _ _⟩
 |some ad =>
  go_enter Tryz.func229,Tryz.ntmps229;go_wp2_with (at_builtin;refine wpList_append_own _ rfl _ _ 40 rfl w.heap.size 165 i0 (.int .u64 0) 1 8 Tryz.underlying40 hi hz0 hz1 hz2 rfl (by decide) _ _ _ rfl (World.ownsRow_lit w #[] 0 zN (by unfold maxLen;omega) rfl) ad ds.length cap (zbP .u64 ds) rfl ?c0 ?c1 ?c2 ?c3 ?c4 ?c5 ?_)
  case c0=>simp[zeZ]
  case c1 =>
   intro j u hj;have hjl:j<ds.length:=by
    have h5:=(List.getElem?_eq_some_iff.1 hj).1
    rwa [zeZ] at h5
   obtain⟨b,off,e,hb,hcl⟩:=hcell j hjl;cases e;rw[zeP .u64 ds j hjl] at hj;cases hj;rw[show (⟨b,off,none⟩:Addr).add j=⟨b,off+j,none⟩ by simp[Addr.add]];exact(zif (off:=off+j) _ hb).trans hcl
  case c2=>intro u hu;simp only[zbP,List.mem_map] at hu;obtain⟨x,_,rfl⟩:=hu;rfl
  case c3=>unfold maxLen;omega
  case c4=>omega
  case c5=>simp
  intro v' w1 hown hgrow _;have hb1:zB w w1:=(zF.alloc zN _).grown hgrow (by simp) (fun k hk=>by cases hk;exact Nat.le_refl _);have hD:Dig .u64 w1 v' ds:=Dig.of_owns (by simpa using hown);clear hown hgrow hcell;go_wp2;go_ret;exact⟨v',rfl,hD,hb1⟩
theorem zkQ(va:Value)(a:List Nat)(t:Nat)(w:World)(ha:Dig .u64 w va a)(na:∀i,dig a i<1000000000)(la:a.length<=5000)(ht:t<=30) :
  zC 230 #[.agg #[va],.int .i64 t] w fun e w'=>∃v',e=.returned (.agg #[v'])/\∃ds',Dig .u64 w' v' ds'/\zlX 1000000000 ds'/\val 1000000000 ds'=val 1000000000 a*2^t/\ds'.length<=a.length+2/\zB w w':=by
 obtain⟨aa,ca,eva,hca,hcella⟩:=id ha;subst eva;clear hcella hca;obtain⟨i0,hi,hz0,hz1,hz2⟩:=info_parts ziN;go_enter Tryz.func230,Tryz.ntmps230;go_wp2_with (at_make;refine wpList_make_full _ rfl _ _ 40 rfl (w.heap.size+2) 165 i0 (.int .u64 0) 1 Tryz.underlying40 hi hz0 hz1 .i64 .i64 _ _ (a.length+2) rfl rfl ?c1 ?c2 ?c3 ?c4 ?c5 ?_)
 case c1=>omega
 case c2=>omega
 case c3=>rw[hz2];omega
 case c4=>unfold maxLen;omega
 case c5=>simp
 intro w1 hown hgrow;rw[zgy] at hown;have hbel:Below (w.heap.size+2) ((w.alloc (.cells #[.slice aa a.length ca] 42)).alloc (.cells #[.slice none 0 0] 42)) w1:=zF.grown hgrow (by simp) (fun k hk=>by cases hk);clear hgrow;have hP:2^t<=1073741824:=Nat.pow_le_pow_right (i:=t) (j:=30) (by omega:2>0) ht;have hP1:1<=2^t:=Nat.one_le_pow _ _ (by omega);go_wp2_with fail;go_loopw [7,18] (fun cv i wr=>∃(k c:Nat) (out:List Nat),k<=a.length+2/\i=.int .i64 k/\cv=.int .u64 c/\c<=2^t/\out.length=a.length+2/\(∀i,dig out i<1000000000)/\S 1000000000 (dig out) k+c*1000000000^k=S 1000000000 (dig a) k*2^t/\wr.ownsRow (w.heap.size+2) 165 1 (.slice (some ⟨w.heap.size+1+1,0,none⟩) (a.length+2) (a.length+2)) (a.length+2) (zbP .u64 out)/\Below (w.heap.size+2) ((w.alloc (.cells #[.slice aa a.length ca] 42)).alloc (.cells #[.slice none 0 0] 42)) wr)
  (fun _ i _=>a.length+2-(intOf i).toNat)
 case atStart=>exact⟨0,0,List.replicate (a.length+2) 0,Nat.zero_le _,rfl,rfl,Nat.zero_le _,by simp,fun i=>by rw[zeW];omega,by simp[S],hown,hbel⟩
 case round =>
  obtain⟨k,c,out,hk,rfl,rfl,hc1,hol,hsm,hS,hownr,hbelr⟩:=hrel;have HSm:Hid (∀i,dig out i<1000000000):=hsm;have HS:Hid (S 1000000000 (dig out) k+c*1000000000^k=S 1000000000 (dig a) k*2^t):=hS;have HO:Hid (out.length=a.length+2):=hol;clear hsm hS hown hbel hol;have hbw:zB w wr:=((zF.alloc zN _).alloc (by simp) _).trans (hbelr.mono (by omega));have hsz:=hbelr.size;simp only[World.size_alloc] at hsz
  by_cases hlt:k<a.length+2
  ·have c0:wr.cell? ⟨w.heap.size,0,none⟩=some (.slice aa a.length ca):=(hbelr.cell (p:=⟨w.heap.size,0,none⟩) (by show w.heap.size<_;omega)).trans (zrb _ _ _ _);go_wp2_with fail;refine(zgH _ a k _ (ha.below hbw) (by omega) (by omega)).mono ?_;rintro e wq ⟨rfl,hbq⟩;have hownq:=zhR hownr hbq;have hbelq:=hbelr.trans (hbq.mono (by omega));have hkl:k<out.length:=by have:=HO.out;omega
   clear hownr hbelr hbq hbw c0;have hx:=na k;generalize hdx:dig a k=x at *;have HX:Hid (dig a k=x):=hdx;clear hdx;have hcell:=hownq.cellAt k (by omega);rw[zeP .u64 out k hkl] at hcell;have hfr:=hownq.frozenAt k;obtain⟨z,hz⟩:∃z,z=x*2^t:=⟨_,rfl⟩;have hzb:x*2^t<=999999999*2^t:=Nat.mul_le_mul_right _ (by omega);have hzc:z+c<=1000000000*2^t:=by omega
   have hz1:z<=1073741824000000000:=by omega
   have hc2:c<=1073741824:=by omega
   have e0:IntKind.u64.wrap ((x:Int)*2^t)=(z:Int):=by
    have:(x:Int)*2^t=(z:Int):=by rw[hz,Int.natCast_mul,Int.natCast_pow];rfl
    rw[this];exact zxP (by omega) (by omega)
   have HZZ:Hid (z=x*2^t):=hz;have HZC:Hid (z+c<=1000000000*2^t):=hzc;have HPP:Hid (1<=2^t):=hP1;clear hz hzb hzc hP1 hP hc1;go_wp2;go_roundw
   case rel =>
    have e3:((z:Int)+c)%1000000000=(((x*2^t+c)%1000000000:Nat):Int):=by rw[<-HZZ.out];omega
    have e4:((z:Int)+c)/1000000000=(((x*2^t+c)/1000000000:Nat):Int):=by rw[<-HZZ.out];omega
    rw[e3,e4];refine⟨k+1,(x*2^t+c)/1000000000,out.set k ((x*2^t+c)%1000000000),by omega,by go_num,rfl,?_,by rw[List.length_set];exact HO.out,zj5 hkl HSm.out (by omega),znB hkl HS.out HX.out,zmm hownq k _,hbelq.setCell (by show _<=w.heap.size+1+1;omega) _⟩;rw[<-HZZ.out];have:=HZC.out;omega
   case measure=>simp[intOf];omega
  ·obtain rfl:k=a.length+2:=by omega
   have hva:=zk2 1000000000 a (a.length+2) (by omega);have hvo:=zk2 1000000000 out (a.length+2) (by have:=HO.out;omega);have hE:=HS.out;rw[hva,hvo] at hE;have b1:val 1000000000 a*2^t<1000000000^(a.length+2):=by
    have h1:=zwP na;have h2:val 1000000000 a*2^t<=val 1000000000 a*1073741824:=Nat.mul_le_mul_left _ hP;rw[Nat.pow_add];omega
   have hc0:=zmo hE b1;subst hc0;have HVO:Hid (val 1000000000 out=val 1000000000 a*2^t):=by show _=_;omega
   clear hva hvo hE b1 hP hP1 hc1;rw[show a.length+2=out.length from HO.out.symm] at hownr;have hD:=Dig.of_owns hownr;rw[HO.out] at hD;clear hownr;go_wp2_with fail;refine(zgZ _ out _ hD HSm.out (by have:=HO.out;omega)).mono ?_;rintro e w2 ⟨v2,rfl,ds2,hd2,hn2,hv2,hl2,hb2⟩;obtain⟨a2,cap2,ev2,-,-⟩:=id hd2;subst ev2;have hb3:Below (w.heap.size+2) ((w.alloc (.cells #[.slice aa a.length ca] 42)).alloc (.cells #[.slice none 0 0] 42)) w2:=hbelr.trans (hb2.mono (by omega));have hc:w2.cell? ⟨w.heap.size+1,0,none⟩=some (.slice none 0 0):=(hb3.cell (p:=⟨w.heap.size+1,0,none⟩) (by show w.heap.size+1<_;omega)).trans (zhZ _ _ _ _);have hf:w2.frozen? ⟨w.heap.size+1,0,none⟩=false:=(hb3.frozen (p:=⟨w.heap.size+1,0,none⟩) (by show w.heap.size+1<_;omega)).trans (zgq _ _ _ _);have hcs:(w2.setCell ⟨w.heap.size+1,0,none⟩ (.slice a2 ds2.length cap2)).cell? ⟨w.heap.size+1,0,none⟩=some (.slice a2 ds2.length cap2):=World.cell?_setCell_same' _ _ _ (by simp[hc]);go_wp2;refine bodyPost_ret (v:=.agg #[.slice a2 ds2.length cap2]) (by simp[results,Tryz.results230,go_sem,hcs]) rfl ?_;refine⟨_,rfl,ds2,hd2.set hc (fun n h=>by cases h) _,hn2,by rw[hv2];exact HVO.out,by have:=HO.out;omega,?_⟩;exact(((zF.alloc zN _).alloc (by simp) _).trans (hb3.mono (by omega))).setCell (by show _<=w.heap.size+1;omega) _
theorem zk9(va:Value)(a:List Nat)(x:Int)(t:Nat)(w:World)(hx:x=(t:Int))(ha:Dig .u64 w va a)(na:∀i,dig a i<1000000000)(la:a.length<=5000)(ht:t<=30) :
  zC 230 #[.agg #[va],.int .i64 x] w fun e w'=>∃v',e=.returned (.agg #[v'])/\∃ds',Dig .u64 w' v' ds'/\zlX 1000000000 ds'/\val 1000000000 ds'=val 1000000000 a*2^t/\ds'.length<=a.length+2/\zB w w':=by
 subst hx;exact zkQ va a t w ha na la ht
theorem zm7(va:Value)(a:List Nat)(times:Int)(w:World)(ha:Dig .u64 w va a)(na:zlX 1000000000 a)(la:a.length<=2000)(h0:-9223372036854775808<=times)(h1:times<=9223372036854775807) :
  zC 166 #[.agg #[va],.int .i64 times] w fun e w'=>∃v',e=.returned (.agg #[v'])/\∃ds',Dig .u64 w' v' ds'/\zlX 1000000000 ds'/\val 1000000000 ds'=val 1000000000 a*2^(min times 1000).toNat/\ds'.length<=a.length+68/\zB w w':=by
 obtain⟨aa,ca,eva,hca,hcella⟩:=id ha;subst eva;clear hcella hca;obtain⟨T,hT,hT1,hT0⟩:∃T:Int,min times 1000=T/\T<=1000/\-9223372036854775808<=T:=⟨_,rfl,by omega,by omega⟩;rw[hT];have hb2:zB w ((w.alloc (.cells #[.slice aa a.length ca] 42)).alloc (.cells #[.slice none 0 0] 42)):=(zF.alloc zN _).alloc (by simp) _;have HC:=zq6 _ a _ (ha.below hb2) (by omega);clear hb2;go_enter Tryz.func166,Tryz.ntmps166;go_wp2_with fail;refine HC.mono ?_;rintro e w1 ⟨v1,rfl,hd1,hb1⟩;obtain⟨a1,cap1,ev1,-,-⟩:=id hd1;subst ev1;have hs1:=hb1.size;simp only[World.size_alloc] at hs1;have hb1':Below (w.heap.size+2) ((w.alloc (.cells #[.slice aa a.length ca] 42)).alloc (.cells #[.slice none 0 0] 42)) w1:=hb1.mono (by simp);clear HC hb1 ha;have hD0:Dig .u64 (w1.alloc (.cells #[.slice a1 a.length cap1] 42)) (.slice a1 a.length cap1) a:=hd1.below (zF.alloc zN _);have hB0:Below (w.heap.size+2) ((w.alloc (.cells #[.slice aa a.length ca] 42)).alloc (.cells #[.slice none 0 0] 42)) (w1.alloc (.cells #[.slice a1 a.length cap1] 42)):=hb1'.alloc (by omega) _;have hC0:=zdD w1 (.slice a1 a.length cap1) 42;have hF0:=zdM w1 (.slice a1 a.length cap1) 42;have hZ0:w1.heap.size<(w1.alloc (.cells #[.slice a1 a.length cap1] 42)).heap.size:=by simp
 have HK:Hid (Dig .u64 (w1.alloc (.cells #[.slice a1 a.length cap1] 42)) (.slice a1 a.length cap1) a/\Below (w.heap.size+2) ((w.alloc (.cells #[.slice aa a.length ca] 42)).alloc (.cells #[.slice none 0 0] 42)) (w1.alloc (.cells #[.slice a1 a.length cap1] 42))/\(w1.alloc (.cells #[.slice a1 a.length cap1] 42)).cell? ⟨w1.heap.size,0,none⟩=some (.slice a1 a.length cap1)/\(w1.alloc (.cells #[.slice a1 a.length cap1] 42)).frozen? ⟨w1.heap.size,0,none⟩=false/\w1.heap.size<(w1.alloc (.cells #[.slice a1 a.length cap1] 42)).heap.size):=⟨hD0,hB0,hC0,hF0,hZ0⟩;clear hD0 hB0 hC0 hF0 hZ0 hd1 hb1';go_wp2_with fail;go_loopw [6] (fun lv wr=>∃(r:Nat) (ds:List Nat) (a2:Option Addr) (cap2:Nat),r<=34/\lv=.int .i64 (T-30*r)/\(0<r->-30<T-30*r)/\zlX 1000000000 ds/\ds.length<=a.length+2*r/\val 1000000000 ds=val 1000000000 a*2^(min (30*r) T.toNat)/\Dig .u64 wr (.slice a2 ds.length cap2) ds/\Below (w.heap.size+2) ((w.alloc (.cells #[.slice aa a.length ca] 42)).alloc (.cells #[.slice none 0 0] 42)) wr/\wr.cell? ⟨w1.heap.size,0,none⟩=some (.slice a2 ds.length cap2)/\wr.frozen? ⟨w1.heap.size,0,none⟩=false/\w1.heap.size<wr.heap.size)
  (fun lv _=>(intOf lv).toNat)
 case atStart=>exact⟨0,a,a1,cap1,by omega,by go_num,by omega,na,by omega,by simp,HK.out.1,HK.out.2.1,HK.out.2.2.1,HK.out.2.2.2.1,HK.out.2.2.2.2⟩
 case round =>
  obtain⟨r,ds,a2,cap2,hr,rfl,hr0,hnr,hlr,hvr,hdr,hbr,hcr,hfr,hzr⟩:=hrel;have HV:Hid (val 1000000000 ds=val 1000000000 a*2^(min (30*r) T.toNat)):=hvr;clear hvr HK
  by_cases hpos:0<T-30*r
  ·obtain⟨s,hs1,hs2⟩:∃s:Nat,min (T-30*(r:Int)) 30=(s:Int)/\s<=30:=⟨(min (T-30*(r:Int)) 30).toNat,by omega,by omega⟩;go_wp2_with fail;refine(zk9 _ ds _ s _ (by first|rfl|exact hs1) hdr hnr.small (by omega) hs2).mono ?_;rintro e w3 ⟨v3,rfl,ds3,hd3,hn3,hv3,hl3,hb3⟩;obtain⟨a3,cap3,ev3,-,-⟩:=id hd3;subst ev3;have hc3:w3.cell? ⟨w1.heap.size,0,none⟩=some (.slice a2 ds.length cap2):=(hb3.cell (p:=⟨w1.heap.size,0,none⟩) hzr).trans hcr;have hf3:w3.frozen? ⟨w1.heap.size,0,none⟩=false:=(hb3.frozen (p:=⟨w1.heap.size,0,none⟩) hzr).trans hfr;have hsr:=hbr.size;simp only[World.size_alloc] at hsr;have hb3':=hbr.trans (hb3.mono (by omega));have hs3:=hb3.size;have HV3:Hid (val 1000000000 ds3=val 1000000000 ds*2^s):=hv3;clear hbr hb3 hcr hfr hdr hv3;go_wp2;go_roundw
   case rel =>refine⟨r+1,ds3,a3,cap3,by omega,by go_num,by omega,hn3,by omega,?_,hd3.set hc3 (fun n h=>by cases h) _,hb3'.setCell (by show _<=w1.heap.size;omega) _,World.cell?_setCell_same' _ _ _ (by simp[hc3]),by simpa using hf3,by simp[World.setCell];omega⟩;rw[HV3.out,HV.out,Nat.mul_assoc,<-Nat.pow_add];congr 2;omega
   case measure=>simp[intOf];omega
  ·have hc:wr.cell? ⟨w.heap.size+1,0,none⟩=some (.slice none 0 0):=(hbr.cell (p:=⟨w.heap.size+1,0,none⟩) (by show w.heap.size+1<_;omega)).trans (zhZ _ _ _ _);have hf:wr.frozen? ⟨w.heap.size+1,0,none⟩=false:=(hbr.frozen (p:=⟨w.heap.size+1,0,none⟩) (by show w.heap.size+1<_;omega)).trans (zgq _ _ _ _);have hcs:(wr.setCell ⟨w.heap.size+1,0,none⟩ (.slice a2 ds.length cap2)).cell? ⟨w.heap.size+1,0,none⟩=some (.slice a2 ds.length cap2):=World.cell?_setCell_same' _ _ _ (by simp[hc]);have hmin:min (30*r) T.toNat=T.toNat:=by omega
   have HV2:Hid (val 1000000000 ds=val 1000000000 a*2^T.toNat):=by show _=_;rw[HV.out,hmin]
   clear hmin;go_wp2;refine bodyPost_ret (v:=.agg #[.slice a2 ds.length cap2]) (by simp[results,Tryz.results166,go_sem,hcs]) rfl ?_;refine⟨_,rfl,ds,hdr.set hc (fun n h=>by cases h) _,hnr,HV2.out,by omega,?_⟩;exact(((zF.alloc zN _).alloc (by simp) _).trans (hbr.mono (by omega))).setCell (by show _<=w.heap.size+1;omega) _
end Bd
namespace Bd
open Go.RowKit Go.Maps Num
def zbj(w:World)(v:Value)(m:Nat):Prop:=∃x:NV,v=x.val/\∃ds,Dig .u64 w (.slice x.a x.n x.c) ds/\zlX 1000000000 ds/\val 1000000000 ds=m
theorem zbj.new{w w':World}{v:Value}{m:Nat}(h:zbj w v m)(hb:zB w w'):zbj w' v m:=by
 obtain⟨x,e,ds,h1,h2,h3⟩:=h;exact⟨x,e,ds,h1.below hb,h2,h3⟩
theorem zbj.kept{S:Nat->Prop}{w w':World}{v:Value}{m:Nat}(h:zbj w v m)(hk:zah S w w')(hn:∀b o n,S b->w.cell? ⟨b,o,none⟩≠some (.int .u64 n)):zbj w' v m:=by
 obtain⟨x,e,ds,⟨a,cap,hv,hc,hi⟩,h2,h3⟩:=h;refine⟨x,e,ds,⟨a,cap,hv,hc,fun i hl=>?_⟩,h2,h3⟩;obtain⟨b,off,ha,hb,hcell⟩:=hi i hl;exact⟨b,off,ha,Nat.lt_of_lt_of_le hb hk.size,(hk.cell (a:=⟨b,off+i,none⟩) hb (fun hs=>hn b _ _ hs hcell)).trans hcell⟩
theorem zir{w:World}{s:Value}{ds:List Nat}{m:Nat}(h:Dig .u64 w s ds)(hN:zlX 1000000000 ds)(hv:val 1000000000 ds=m):zbj w (.agg #[s]) m:=by
 have h0:=h;obtain⟨a,cap,e,-⟩:=h0;subst e;exact⟨⟨a,ds.length,cap⟩,rfl,ds,h,hN,hv⟩
theorem zbj.open{w:World}{v:Value}{m:Nat}(h:zbj w v m)(hm:m<=100000000):∃s ds,v=.agg #[s]/\Dig .u64 w s ds/\zlX 1000000000 ds/\val 1000000000 ds=m/\ds.length<=1:=by
 obtain⟨x,e,ds,h1,h2,h3⟩:=h;exact⟨_,ds,e,h1,h2,h3,zsS (by omega) h2 (by rw[h3];omega)⟩
structure zbW(w:World)(dk vars:Nat)(ns:List Nd)(L:List (Int × NV)):Prop where
 hmap:∃D,w.ownsMap Tryz.prog 3 zwg dk L.length D/\zw8 D L
 keys:∀p∈L,zaa ns p.1≠24
 nums:∀p∈L,zbj w p.2.val (zbF vars ns p.1)
section
variable {w w':World} {dk vars:Nat} {ns:List Nd} {L:List (Int × NV)}
theorem zbW.lt(h:zbW w dk vars ns L):dk<w.heap.size:=by obtain⟨D,hD,-⟩:=h.hmap;exact hD.lt
theorem zbW.none(h:zbW w dk vars ns L)(o:Nat):w.cell? ⟨dk,o,none⟩=none:=by
 obtain⟨D,⟨es,clock,hb,-⟩,-⟩:=h.hmap;unfold World.cell?;simp only[hb]
theorem zbW.kept{S:Nat->Prop}(h:zbW w dk vars ns L)(hk:zah S w w')(hn:¬S dk)(hc:∀b o n,S b->w.cell? ⟨b,o,Option.none⟩≠some (.int .u64 n)):zbW w' dk vars ns L:=by
 obtain⟨D,hD,hR⟩:=h.hmap;exact⟨⟨D,zaV hD hk hn,hR⟩,h.keys,fun p hp=>(h.nums p hp).kept hk hc⟩
theorem zbW.new(h:zbW w dk vars ns L)(hb:zB w w'):zbW w' dk vars ns L:=h.kept (zah.of_below hb (fun _=>False)) (fun h=>h) (fun _ _ _ h=>h.elim)
theorem zbW.no(h:zbW w dk vars ns L)(b o:Nat)(n:Int)(e:b=dk):w.cell? ⟨b,o,Option.none⟩≠some (.int .u64 n):=by rw[e,h.none];exact fun h=>by cases h
theorem zix(w:World)(o:Nat)(n:Int):(w.alloc (.cells #[.slice none 0 0] 42)).cell? ⟨w.heap.size,o,Option.none⟩≠some (.int .u64 n):=by
 cases o with
 |zero=>simp
 |succ o=>simp
theorem zbj.box{v:Value}{m bx:Nat}(h:zbj w v m)(hb:∀o n,w.cell? ⟨bx,o,Option.none⟩≠some (.int .u64 n))(u:Value):zbj (w.setCell ⟨bx,0,Option.none⟩ u) v m :=
 h.kept (S:=fun j=>j=bx) (zah.setCell _ _ _ rfl) (fun b o n e=>by rw[e];exact hb o n)
theorem zbW.box{bx:Nat}(h:zbW w dk vars ns L)(hb:∀o n,w.cell? ⟨bx,o,Option.none⟩≠some (.int .u64 n))(hne:bx≠dk)(u:Value):zbW (w.setCell ⟨bx,0,Option.none⟩ u) dk vars ns L :=
 h.kept (S:=fun j=>j=bx) (zah.setCell _ _ _ rfl) (fun e=>hne e.symm) (fun b o n e=>by rw[e];exact hb o n)
theorem zih:∀(n:Nat) (l:List Nat),l.Nodup->(∀x∈l,x<n)->l.length<=n
 |0,l,_,h=>by
  cases l with
  |nil=>simp
  |cons a l=>have:=h a (List.mem_cons_self ..);omega
 |n+1,l,hd,h=>by
  have ih:=zih n (l.erase n) (hd.erase n) (fun x hx=>by
   have h1:=(hd.mem_erase_iff).1 hx;have h2:=h x h1.2;have h3:=h1.1;omega)
  by_cases hm:n∈l
  ·rw[List.length_erase_of_mem hm] at ih;omega
  ·rw[List.erase_of_not_mem hm] at ih;omega
theorem zbW.len(h:zbW w dk vars ns L):L.length<=ns.length:=by
 obtain⟨D,-,hR⟩:=h.hmap;have hk:∀p∈L,p.1=2+(pl p.1:Int)/\pl p.1<ns.length:=fun p hp=>⟨(zbq (h.keys p hp)).2.2.2,(zbq (h.keys p hp)).2.1⟩;have hd:=Rep.nodup hR;have:=zih ns.length (L.map fun p=>pl p.1) (by
  have e:(L.map fun p=>pl p.1)=(L.map Prod.fst).map pl:=by simp
  rw[e];refine(List.nodup_iff_pairwise_ne.1 hd |> fun hp=>?_);refine List.nodup_iff_pairwise_ne.2 (List.pairwise_map.2 (hp.imp_of_mem fun {a b} ha hb hab e=>hab ?_));obtain⟨p,hp1,rfl⟩:=List.mem_map.1 ha;obtain⟨q,hq1,rfl⟩:=List.mem_map.1 hb;rw[(hk p hp1).1,(hk q hq1).1,e]) (fun x hx=>by
  obtain⟨p,hp1,rfl⟩:=List.mem_map.1 hx;exact (hk p hp1).2)
 simpa using this
end
def zdH(dk vars:Nat)(ns:List Nd)(m:Nat)(w:World)(e:Ending)(w':World):Prop :=
 ∃v L',e=.returned v/\zbj w' v m/\zbW w' dk vars ns L'/\zah (fun j=>j=dk) w w'
def zoX(B s b dk:Nat)(O:Nat->Prop)(vars:Nat)(room:Int)(ns:List Nd)(d:Nat):Prop :=
 ∀(h:Int) (L:List (Int × NV)) (w:World),zag B w s b O vars room ns->zbW w dk vars ns L->zaP ns h=true->24<=zaa ns h+d ->
  zC 165 #[.pointer (some ⟨s,0,none⟩),.int .i64 h,.map (some dk)] w (zdH dk vars ns (zbF vars ns h) w)
def zmg(B s b dk:Nat)(O:Nat->Prop)(vars:Nat)(room:Int)(ns:List Nd)(d:Nat):Prop :=
 ∀(h:Int) (v:Nat) (L:List (Int × NV)) (w:World),zag B w s b O vars room ns->zbW w dk vars ns L->zaP ns h=true->24<=zaa ns h+d->v<=zcX vars ns h ->
  zC 78 #[.pointer (some ⟨s,0,none⟩),.int .i64 h,.int .i64 v,.map (some dk)] w (zdH dk vars ns (zcF vars ns h v) w)
theorem zlB(vars:Nat)(ns:List Nd)(h:Int)(v:Nat)(hv:vars<=24):zcF vars ns h v<=16777216:=by
 unfold zcF;have h1:=zpL (sem ns h) (vars-v) v (fun _=>false);have h2:2^(vars-v)<=2^24:=Nat.pow_le_pow_right (by omega) (by omega);have h3:2^24=16777216:=by decide
 omega
section
variable {B s b dk:Nat} {O:Nat->Prop} {vars:Nat} {room:Int} {ns:List Nd}
theorem zka(hg:zcq vars ns)(hl:ns.length<=90000)(hv:vars<=24){d:Nat}(ih:zoX B s b dk O vars room ns d):zmg B s b dk O vars room ns d:=by
 intro h v L w hS hD hh hd hvt;have hi:=zbg hh (by omega);have hb1:=below_new w (.cells #[.slice none 0 0] 42);have HT:Hid (∀X,zB w X->zC 164 #[.pointer (some ⟨b,0,none⟩),.int .i64 h] X fun e w'=>e=.returned (.int .i64 (zaa ns h))/\X=w'):=fun X hX=>zuK (hS.new hX) h hi hl;have SC:Hid (∀X,zB w X->X.cell? ⟨s,0,none⟩=some (.pointer (some ⟨b,0,none⟩))/\X.cell? ⟨s,1,none⟩=some (.int .i64 vars)):=fun X hX=>⟨(hS.new hX).c0,(hS.new hX).c1⟩;have HC:Hid (∀X,zB w X->zC 165 #[.pointer (some ⟨s,0,none⟩),.int .i64 h,.map (some dk)] X (zdH dk vars ns (zbF vars ns h) X)):=fun X hX=>ih h L X (hS.new hX) (hD.new hX) hh hd;have h0:=(zam hg.ranked h).1;have htop:min (zaa ns h) (vars:Int)=(zcX vars ns h:Int):=by unfold zcX;omega
 have hgap:=zlR hg (h:=h) (zcX vars ns h-v) v (by omega);have hbl:zbF vars ns h<=16777216:=zlB vars ns h _ hv;have htl:zcX vars ns h<=24:=by unfold zcX;omega
 have hdl:=hD.lt;have hsl:=hS.slt;have e1:IntKind.i64.wrap ((zcX vars ns h:Int)-(v:Int))=((zcX vars ns h-v:Nat):Int):=by
  rw[show ((zcX vars ns h:Int)-(v:Int))=((zcX vars ns h-v:Nat):Int) by omega];exact IntWalk.i64_in _ ⟨by omega,by omega⟩
 have HGAP:=zH hgap;have HBL:=zH hbl;have HB1:=zH hb1;have hS0:=SC.out _ hb1.drew;have bxl:w.heap.size<(w.alloc (.cells #[.slice none 0 0] 42)).heap.size:=by simp
 have bc:(w.alloc (.cells #[.slice none 0 0] 42)).cell? ⟨w.heap.size,0,none⟩=some (.slice none 0 0):=by simp
 have bf:(w.alloc (.cells #[.slice none 0 0] 42)).frozen? ⟨w.heap.size,0,none⟩=false:=by simp
 have bo:∀o n,(w.alloc (.cells #[.slice none 0 0] 42)).drew.cell? ⟨w.heap.size,o,none⟩≠some (.int .u64 n):=fun o n=>zix w o n;have BO:=zH bo;clear bo;have HTP:=zH htop;have E1:=zH e1;clear ih hS hD hg hh hgap hbl hb1 htop e1;generalize zbF vars ns h=m at *;generalize zcF vars ns h v=r at *;generalize zcX vars ns h=tn at *;generalize zaa ns h=tp at *;go_enter Tryz.func78,Tryz.ntmps78;go_wp2_with fail;go_region_held3 (fun X=>X.cell? ⟨s,0,none⟩=some (.pointer (some ⟨b,0,none⟩))/\X.cell? ⟨s,1,none⟩=some (.int .i64 vars)) (exact hS0)
  (first|(go_at_call 164;with_reducible refine(HT.out _ HB1.out.drew).mono ?_;rintro e wz ⟨rfl,rfl⟩))
 simp only[HTP.out];have HC1:=zH (HC.out _ HB1.out.drew);have HB2:=zH HB1.out.drew;have bxl2:w.heap.size<(w.alloc (.cells #[.slice none 0 0] 42)).drew.heap.size:=bxl;have bc2:(w.alloc (.cells #[.slice none 0 0] 42)).drew.cell? ⟨w.heap.size,0,none⟩=some (.slice none 0 0):=bc;have bf2:(w.alloc (.cells #[.slice none 0 0] 42)).drew.frozen? ⟨w.heap.size,0,none⟩=false:=bf;clear HC HT SC hS0 HB1 bxl bc bf;generalize (w.alloc (.cells #[.slice none 0 0] 42)).drew=W1 at *;go_wp2_with fail;refine HC1.out.mono ?_;rintro e w2 ⟨v2,L2,rfl,hn2,hD2,hk2⟩;obtain⟨s2,ds2,rfl,hdg,hnm,hvl,hlen⟩:=hn2.open (by have:=HBL.out;omega);have hdo:=zm7 s2 ds2 ((tn-v:Nat):Int) w2 hdg hnm (by omega) (by omega) (by omega);rw[hvl] at hdo;have HDO:=zH hdo;have hne:w.heap.size≠dk:=by omega
 have bc3:=(hk2.cell (a:=⟨w.heap.size,0,none⟩) bxl2 hne).trans bc2;have bf3:=(hk2.frozen (a:=⟨w.heap.size,0,none⟩) bxl2 hne).trans bf2;have bxl3:=Nat.lt_of_lt_of_le bxl2 hk2.size;have HKC:Hid (∀o,w2.cell? ⟨w.heap.size,o,none⟩=W1.cell? ⟨w.heap.size,o,none⟩):=fun o=>hk2.cell (a:=⟨w.heap.size,o,none⟩) bxl2 hne;have HK2:=zH ((zah.of_below HB2.out (fun j=>j=dk)).trans hk2);have HD2:=zH hD2;have e2:=E1.out;clear HC1 hn2 hD2 hk2 hdg hnm hvl hlen hdo bc2 bf2 bxl2;go_wp2_with fail;refine HDO.out.mono ?_;rintro e w3 ⟨v3,rfl,ds3,hdg3,hnm3,hvl3,-,hb3⟩;have hnat:=zir hdg3 hnm3 hvl3;have hmn:(min ((tn-v:Nat):Int) 1000).toNat=tn-v:=by omega
 rw[hmn,<-HGAP.out] at hnat;obtain⟨a3,c3,e3,-⟩:=id hdg3;subst e3;have bc4:=(hb3.cell (p:=⟨w.heap.size,0,none⟩) bxl3).trans bc3;have bf4:=(hb3.frozen (p:=⟨w.heap.size,0,none⟩) bxl3).trans bf3;have hcs:(w3.setCell ⟨w.heap.size,0,none⟩ (.slice a3 ds3.length c3)).cell? ⟨w.heap.size,0,none⟩=some (.slice a3 ds3.length c3):=World.cell?_setCell_same _ _ _ bc4;have hno:∀o n,w3.cell? ⟨w.heap.size,o,none⟩≠some (.int .u64 n):=fun o n=>by
  rw[hb3.cell (p:=⟨w.heap.size,o,none⟩) bxl3,HKC.out o];exact BO.out o n
 have hk3:zah (fun j=>j=dk) w (w3.setCell ⟨w.heap.size,0,none⟩ (.slice a3 ds3.length c3)):=(HK2.out.trans (zah.of_below hb3 _)).andThen (zah.setCell (S:=fun j=>j=w.heap.size) _ _ _ rfl) (fun i hi hlt=>by omega);have HFIN:Hid (zdH dk vars ns r w (.returned (.agg #[.slice a3 ds3.length c3])) (w3.setCell ⟨w.heap.size,0,none⟩ (.slice a3 ds3.length c3))):=⟨_,L2,rfl,hnat.box hno _,(HD2.out.new hb3).box hno hne _,hk3⟩;clear hdg3 hnm3 hvl3 hnat hno hk3 HK2 HD2 HDO hb3 bc3 bf3;go_wp2;refine bodyPost_ret (v:=.agg #[.slice a3 ds3.length c3]) (by simp[results,Tryz.results78,go_sem,hcs]) rfl HFIN.out
end
end Bd
end Go.Proofs.YtiihalknffbjpaaGreatDoor
