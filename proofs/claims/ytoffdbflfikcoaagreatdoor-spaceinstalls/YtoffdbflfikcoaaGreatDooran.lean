import Derived.Test.YtoffdbflfikcoaaGreatDooram
open Go.Proofs.Tryz Go.RowKit
namespace Go.Proofs.YtoffdbflfikcoaaGreatDoor
set_option maxHeartbeats 2000000
set_option maxRecDepth 100000
namespace Bd
open Go.Maps
structure NV where
 a:Option Addr
 n:Nat
 c:Nat
def NV.val(x:NV):Value:=.agg #[.slice x.a x.n x.c]
def NV.dat(x:NV):DataW Unit :=
 match x.a with
 |none=>.agg [.lit (.int .i64 x.n),.lit (.int .i64 x.c)]
 |some ⟨b,o,none⟩=>.agg [.lit (.int .i64 x.n),.lit (.int .i64 x.c),.lit (.int .i64 b),.lit (.int .i64 o)]
 |some ⟨b,o,some s⟩=>.agg [.lit (.int .i64 x.n),.lit (.int .i64 x.c),.lit (.int .i64 b),.lit (.int .i64 o),.lit (.int .i64 s)]
theorem NV.dat_inj{x y:NV}(h:x.dat=y.dat):x=y:=by
 obtain⟨a,n,c⟩:=x;obtain⟨b,m,d⟩:=y;rcases a with _|⟨ab,ao,_|sa⟩<;>rcases b with _|⟨bb,bo,_|sb⟩<;>simp[NV.dat] at h ⊢<;>omega
def Yo(v:Value):Option (DataW Unit × List MemPlace) :=
 match v with
 |.agg cs =>
  match cs.toList with
  |[.slice a n c]=>some (NV.dat ⟨a,n,c⟩,[])
  |_=>none
 |_=>none
theorem zbs(x:NV):Yo x.val=some (x.dat,[]):=rfl
theorem zgi{v:Value}{x:NV}{ps:List MemPlace}(h:Yo v=some (x.dat,ps)):v=x.val:=by
 unfold Yo at h;split at h
 ·rename_i cs;split at h
  ·rename_i a n c e;simp only[zsd,Prod.mk.injEq] at h;rw[<-NV.dat_inj h.1];have:cs=#[.slice a n c]:=by cases cs;simp at e;rw[e]
   rw[this];rfl
  ·cases h
 ·cases h
theorem zfD(w:World):(zeroValue 42).run prog w=.ok (.agg #[.slice none 0 0]) w:=by kernel_rfl
def XG(D:DataW Unit)(L:List (Int × NV)):Prop:=Rep I64 (fun x=>Lit.int .i64 x) NV.dat D L
section
variable {w:World} {bm n:Nat} {D:DataW Unit} {L:List (Int × NV)}
theorem zhC(hD:w.ownsMap prog 3 Yo bm n D)(hR:XG D L){p:Int × NV}(hp:p∈L) :
  (Instr.lookup 78 (.map (some bm)) (.int .i64 p.1) true).run prog w=.ok (.tuple #[p.2.val,true]) w:=by
 obtain⟨v,ps,j,hv⟩:=hD.look_ok Ya underlying78 (zfD w) (zbs ⟨none,0,0⟩) (YD (Rep.oks hR p hp));rw[Rep.at' hR p hp] at hv;rw[(Rep.has hR p.1 (Rep.oks hR p hp)).2 (zsy hp),zgi hv] at j;exact j
theorem zo5(hD:w.ownsMap prog 3 Yo bm n D)(hR:XG D L){a:Int}(ha:I64 a)(hn:a∉L.map Prod.fst) :
  (Instr.lookup 78 (.map (some bm)) (.int .i64 a) true).run prog w=.ok (.tuple #[.agg #[.slice none 0 0],false]) w:=by
 obtain⟨v,ps,j,hv⟩:=hD.look_ok Ya underlying78 (zfD w) (zbs ⟨none,0,0⟩) (YD ha);have hh:=Rep.not hR ha hn;rw[atKey_of_not_has hh] at hv;rw[hh,zgi hv] at j;exact j
end
end Bd
namespace Bd
open Num Go.Sort
theorem Dig.take{k:IntKind}{w:World}{a:Option Addr}{cap n:Nat}{ds:List Nat}(h:Dig k w (.slice a ds.length cap) ds)(hn:n<=ds.length):Dig k w (.slice a n cap) (ds.take n):=by
 obtain⟨a',p,hv,hc,hi⟩:=h;cases hv;have hl:(ds.take n).length=n:=by rw[zrj,zu2 hn]
 refine⟨a,cap,by rw[hl],by omega,fun i o=>?_⟩;rw[hl] at o;obtain⟨b,q,ha,hb,j⟩:=hi i (by omega);exact⟨b,q,ha,hb,by rw[KX,zc3 o];exact j⟩
theorem Dig.setCell{k:IntKind}{w:World}{v:Value}{ds:List Nat}{B:Nat}(h:Dig k w v ds)(hb:w.heap.size<=B){W:World}(hW:zB w W)(u:Value):Dig k (W.setCell B u) v ds :=
 h.below (hW.setCell hb u)
theorem zcE(v:Value)(ds:List Nat)(w:World)(hd:Dig .u64 w v ds)(sm:∀i,dig ds i<1000000000)(hl:ds.length<=100000) :
  zC 159 #[v] w fun e w'=>∃v',e=.returned (.agg #[v'])/\∃q,Dig .u64 w' v' q/\Zg 1000000000 q/\val 1000000000 q=val 1000000000 ds/\q.length<=ds.length/\zB w w':=by
 obtain⟨a,C,hv,hc,p⟩:=id hd;subst hv;have HC:Hid (∀i,i<ds.length->∃b u,a=some ⟨b,u,none⟩/\b<w.heap.size/\w.cell? ⟨b,u+i,none⟩=some (.int .u64 ((dig ds i:Nat):Int))):=p;clear p;go_enter func159,ntmps159;go_wp2_with fail;go_loop [3] (fun n=>∃k:Nat,k<=ds.length/\n=.int .i64 k/\∀i,k<=i->dig ds i=0) (fun n=>(intOf n).toNat)
 case atStart=>exact⟨ds.length,zri _,rfl,fun i hi=>za2 ds i hi⟩
 case round =>
  obtain⟨k,hk,rfl,hz⟩:=hrel;have HZ:Hid (∀i,k<=i->dig ds i=0):=hz;clear hz
  by_cases h0:k=0
  ·subst h0;have hx:=zdX (B:=1000000000) (k:=0) (by omega) sm (zf6 _) (fun h=>absurd rfl h);have o:=zeh (B:=1000000000) (k:=0) (zf6 _) HZ.out;have y:ds.take 0=[]:=rfl;rw[y] at hx o;go_wp2;refine zc4 (v:=.agg #[.slice none 0 0]) (by simp[results,results159,go_sem]) rfl ?_;exact⟨_,rfl,[],Dig.nil _ _,hx,o,zf6 _,zF.alloc zN _⟩
  ·obtain⟨j,rfl⟩:∃j,k=j+1:=⟨k-1,by omega⟩;obtain⟨b,u,ha,hb,K⟩:=HC.out j (by omega);subst ha;have R:¬b=w.heap.size:=by omega
   have hj:=sm j
   by_cases hzj:dig ds j=0
   ·rw[hzj] at K;go_wp2;go_round
    case rel =>
     refine⟨j,by omega,by go_num,fun i hi=>?_⟩
     by_cases e:i=j
     ·rw[e];exact hzj
     ·exact HZ.out i (by omega)
    case measure=>simp[intOf]
   ·have M:(((dig ds j:Nat):Int)==0)=false:=by rw[zf2];omega
    have hx:=zdX (B:=1000000000) (k:=j+1) (by omega) sm hk (fun _=>hzj);have o:=zeh (B:=1000000000) hk HZ.out;have J:=Dig.take hd hk;clear hzj;go_wp2;refine zc4 (v:=.agg #[.slice (some ⟨b,u,none⟩) (j+1) C]) (by simp[results,results159,go_sem]) rfl ?_;exact⟨_,rfl,ds.take (j+1),J.below (zF.alloc zN _),hx,o,by rw[zrj];omega,zF.alloc zN _⟩
end Bd
namespace Bd
open Num Go.Sort
theorem KY:(prog.info? 82).map (fun i=>(i.zero,i.size,i.bytes))=some (some (.int .u64 0),1,8):=by kernel_rfl
theorem zkX(n:Int)(w:World)(h0:-9223372036854775808<=n)(h1:n<=9223372036854775807) :
  zC 104 #[n] w fun e w'=>∃v,e=.returned (.agg #[v])/\∃ds,Dig .u64 w' v ds/\Zg 1000000000 ds/\val 1000000000 ds=n.toNat/\zB w w':=by
 obtain⟨i0,hi,Y,Z,a0⟩:=info_parts KY;go_enter func104,ntmps104;go_wp2_with fail;go_loopw [0,3] (fun i v wr=>∃(ds:List Nat) (m:Int) (a:Option Addr) (J:Nat),i=.int .i64 m/\v=.slice a ds.length J/\-9223372036854775808<=m/\m<=9223372036854775807/\(∀i,dig ds i<1000000000)/\(m<=0->ds.length≠0->dig ds (ds.length-1)≠0)/\val 1000000000 ds+m.toNat*1000000000^ds.length=n.toNat/\wr.ownsRow (w.heap.size+1) 82 1 (.slice a ds.length J) ds.length (qZ .u64 ds)/\Below (w.heap.size+1) (w.alloc (.cells #[.slice none 0 0] 42)) wr)
   (fun i _ _=>(intOf i).toNat)
 case atStart=>exact⟨[],n,none,0,rfl,rfl,h0,h1,fun i=>by rw[zqK];omega,fun _ h=>absurd rfl h,by simp[zgU],zrp _ _ _ _,zf0 _ _⟩
 case round =>
  obtain⟨ds,m,a,J,rfl,rfl,a1,a2,R,K,o,y,j⟩:=hrel;have HV:=o
  by_cases hpos:0<m
  ·obtain⟨m,rfl⟩:=zue (show 0<=m by omega);rw[zrh] at o;have V:=zh4 (by omega) (by omega) o;have X:=j.size;simp only[zc1] at X;go_wp2_with (at_builtin;refine zs7 _ rfl _ _ 40 rfl (w.heap.size+1) 82 i0 (.int .u64 0) 1 8 ztF hi Y Z a0 rfl (by decide) _ _ _ rfl (y.alloc _) wr.heap.size 1 1 [.int .u64 ((m:Int)%1000000000)] rfl rfl ?c1 ?c2 ?c3 ?c4 ?c5 ?_)
   case c1=>exact cell_one_new _ _ _
   case c2=>intro u hu;simp at hu;subst hu;rfl
   case c3=>unfold maxLen;omega
   case c4=>omega
   case c5=>simp;omega
   ·intro v' w1 q C _;have hbel':Below (w.heap.size+1) (w.alloc (.cells #[.slice none 0 0] 42)) w1:=(j.alloc (by omega) _).grown C (by simp;omega) (fun k hk=>(y.lt k hk).1);obtain⟨a',M,hv,-⟩:=zmz q;clear y C j;go_wp2;go_roundw
    case rel =>
     refine⟨ds++[m%1000000000],((m/1000000000:Nat):Int),a',M,by go_num,by rw[hv];simp,by omega,by omega,ziQ R (by omega),fun h _=>?_,?_,?_,hbel'⟩
     ·rw[znU];omega
     ·rw[zrh];exact zo9 o
     ·rw[hv] at q;rw[zeU];simpa using q
    case measure=>simp[intOf];omega
  ·have hc:wr.cell? w.heap.size=some (.slice none 0 0):=(j.cell (p:=w) (by simp)).trans (by simp);have hf:wr.frozen? w.heap.size=false:=(j.frozen (p:=w) (by simp)).trans (by simp);have U:(wr.setCell w (.slice a ds.length J)).cell? w.heap.size=some (.slice a ds.length J):=zrx _ _ _ (by simp[hc]);go_wp2;refine zc4 (v:=.agg #[.slice a ds.length J]) (by simp[results,results104,go_sem,U]) rfl ?_;refine⟨.slice a ds.length J,rfl,ds,Dig.of_owns (ownsRow_setCell_below y (zsA _) _),⟨R,K (by omega)⟩,?_,?_⟩
   ·have:m.toNat=0:=by omega
    rw[this] at o;simpa using o
   ·exact((zF.alloc zN _).trans (j.mono (by omega))).setCell zN _
end Bd
namespace Bd
open Num Go.Sort
theorem zg5(va vb:Value)(a b:List Nat)(w:World)(ha:Dig .u64 w va a)(hb:Dig .u64 w vb b)(na:∀i,dig a i<1000000000)(nb:∀i,dig b i<1000000000)(la:a.length<=5000)(lb:b.length<=5000) :
  zC 105 #[.agg #[va],.agg #[vb]] w fun e w'=>∃v',e=.returned (.agg #[v'])/\∃Y,Dig .u64 w' v' Y/\Zg 1000000000 Y/\val 1000000000 Y=val 1000000000 a+val 1000000000 b/\Y.length<=max a.length b.length+1/\zB w w':=by
 obtain⟨aa,ca,am,ar,J⟩:=id ha;obtain⟨ab,cb,an,au,K⟩:=id hb;subst am an;clear J K ar au;obtain⟨m,hm,ac,aw,ax,aI⟩:∃m:Nat,max (a.length:Int) (b.length:Int)=(m:Int)/\max a.length b.length=m/\a.length<=m/\b.length<=m/\m<=5000:=⟨max a.length b.length,by omega,rfl,by omega,by omega,by omega⟩;rw[ac];clear ac;obtain⟨i0,hi,aC,aD,aE⟩:=info_parts KY;go_enter func105,ntmps105;go_wp2_with (at_make;refine wpList_make_full _ rfl _ _ 40 rfl (w.heap.size+3) 82 i0 (.int .u64 0) 1 ztF hi aC aD .i64 .i64 _ _ (m+1) rfl rfl ?c1 ?c2 ?c3 ?c4 ?c5 ?_)
 case c1=>omega
 case c2=>omega
 case c3=>rw[aE];omega
 case c4=>unfold maxLen;omega
 case c5=>simp
 intro w1 M u;rw[zem] at M;have R:Below (w.heap.size+3) (((w.alloc (.cells #[.slice aa a.length ca] 42)).alloc (.cells #[.slice ab b.length cb] 42)).alloc (.cells #[.slice none 0 0] 42)) w1:=zF.grown u (by simp) (fun k hk=>by cases hk);clear u hm;go_wp2_with fail;go_loopw [7,21] (fun cv i wr=>∃(k c:Nat) (out:List Nat),k<=m+1/\i=.int .i64 k/\cv=.int .u64 c/\c<=1/\out.length=m+1/\(∀i,dig out i<1000000000)/\S 1000000000 (dig out) k+c*1000000000^k=S 1000000000 (dig a) k+S 1000000000 (dig b) k/\wr.ownsRow (w.heap.size+3) 82 1 (.slice (some ⟨w.heap.size+1+1+1,0,none⟩) (m+1) (m+1)) (m+1) (qZ .u64 out)/\Below (w.heap.size+3) (((w.alloc (.cells #[.slice aa a.length ca] 42)).alloc (.cells #[.slice ab b.length cb] 42)).alloc (.cells #[.slice none 0 0] 42)) wr)
  (fun _ i _=>m+1-(intOf i).toNat)
 case atStart=>exact⟨0,0,List.replicate (m+1) 0,zf6 _,rfl,rfl,zf6 _,by simp,fun i=>by rw[zdT];omega,by simp[S],M,R⟩
 case round =>
  obtain⟨k,c,out,hk,rfl,rfl,aF,ad,ae,hS,o,j⟩:=hrel;have a5:Hid (∀i,dig out i<1000000000):=ae;have HS:Hid (S 1000000000 (dig out) k+c*1000000000^k=S 1000000000 (dig a) k+S 1000000000 (dig b) k):=hS;have HO:Hid (out.length=m+1):=ad;clear ae hS M R ad;have V:zB w wr:=(((zF.alloc zN _).alloc (by simp) _).alloc (by simp;omega) _).trans (j.mono (by omega));have az:=j.size;simp only[zc1] at az
  by_cases hlt:k<m+1
  ·have c0:wr.cell? w.heap.size=some (.slice aa a.length ca):=(j.cell (p:=w) (by show w.heap.size<_;omega)).trans (zpH _ _ _ _ _);have c1:wr.cell? ⟨w.heap.size+1,0,none⟩=some (.slice ab b.length cb):=(j.cell (p:=⟨w.heap.size+1,0,none⟩) (by show w.heap.size+1<_;omega)).trans (zox _ _ _ _ _);have k0:=cell_regrown c0;have k1:=cell_regrown c1;have cA:∀d os,zC 158 #[.agg #[.slice aa a.length ca],.int .i64 k] (grow (redrawn wr d) os) fun e a4=>e=.returned (.int .u64 ((dig a k:Nat):Int))/\∃p:Regrown,a4=grow (redrawn wr p.d) p.os:=fun d os =>
    Calls.regrown_of (zb9 _ a k (grow (redrawn wr d) os) (ha.below (V.trans ((below_regrown wr d os).mono V.size))) (by omega) (by omega))
   have cB:∀d os,zC 158 #[.agg #[.slice ab b.length cb],.int .i64 k] (grow (redrawn wr d) os) fun e a4=>e=.returned (.int .u64 ((dig b k:Nat):Int))/\∃p:Regrown,a4=grow (redrawn wr p.d) p.os:=fun d os =>
    Calls.regrown_of (zb9 _ b k (grow (redrawn wr d) os) (hb.below (V.trans ((below_regrown wr d os).mono V.size))) (by omega) (by omega))
   have hx:=na k;have hy:=nb k;have e1:IntKind.u64.wrap (((dig a k:Nat):Int)+((dig b k:Nat):Int))=((dig a k:Nat):Int)+((dig b k:Nat):Int):=zbq (by omega) (by omega);have e2:IntKind.u64.wrap (((dig a k:Nat):Int)+((dig b k:Nat):Int)+(c:Int))=((dig a k:Nat):Int)+((dig b k:Nat):Int)+(c:Int):=zbq (by omega) (by omega);go_wp2_with fail;refine wp_region_quiet_below mixed (by kernel_rfl) ?_
   repeat(quiet_step (first|(go_at_call_of 158 aa;exact cA _ _)|(go_at_call_of 158 ab;exact cB _ _)))
   refine wpQuiet_nil ?_;intro _ aB;obtain⟨⟨dq,ai⟩,a3⟩:=aB;subst a3;clear cA cB k0 k1 c0 c1;have a1:=below_regrown wr dq ai;generalize grow (redrawn wr dq) ai=wq at *;have q:=zdZ o a1;have U:=j.trans (a1.mono (by omega));have HA:Hid (dig a k=dig a k):=rfl;clear o j a1 V e1 e2;generalize a7:dig a k=x at *;generalize a8:dig b k=y at *;have HX:Hid (dig a k=x):=a7;have HY:Hid (dig b k=y):=a8;clear a7 a8 HA;have X:=q.cellAt k (by omega);rw[XH .u64 out k (by have:=HO.out;omega)] at X;have aG:=q.frozenAt k;go_wp2;go_roundw
   case rel =>
    have e3:((x:Int)+y+c)%1000000000=(((x+y+c)%1000000000:Nat):Int):=by omega
    have e4:((x:Int)+y+c)/1000000000=(((x+y+c)/1000000000:Nat):Int):=by omega
    have a9:k<out.length:=by have:=HO.out;omega
    rw[e3,e4];refine⟨k+1,(x+y+c)/1000000000,out.set k ((x+y+c)%1000000000),by omega,by go_num,rfl,by omega,by rw[zr3];exact HO.out,zeV a9 a5.out (by omega),zpr a9 HS.out HX.out HY.out,zfG q k _,U.setCell (by show _<=w.heap.size+1+1+1;omega) _⟩
   case measure=>simp[intOf];omega
  ·obtain rfl:k=m+1:=by omega
   have af:=Q8 1000000000 a (m+1) (by omega);have ag:=Q8 1000000000 b (m+1) (by omega);have ah:=Q8 1000000000 out (m+1) (by have:=HO.out;omega);have hE:=HS.out;rw[af,ag,ah] at hE;have b1:val 1000000000 a<1000000000^m:=by
    rw[<-Q8 1000000000 a m aw];exact Jb _ _ _ na
   have b2:val 1000000000 b<1000000000^m:=by
    rw[<-Q8 1000000000 b m ax];exact Jb _ _ _ nb
   have aq:=zgs hE (by rw[zsU];omega);subst aq;have aj:Hid (val 1000000000 out=val 1000000000 a+val 1000000000 b):=by show _=_;omega
   clear af ag ah hE b1 b2;rw[show m+1=out.length from HO.out.symm] at o;have hD:=Dig.of_owns o;rw[HO.out] at hD;clear o;go_wp2_with fail;refine(zcE _ out _ hD a5.out (by have:=HO.out;omega)).mono ?_;rintro e w2 ⟨v2,rfl,Z,a6,ay,aA,aH,ao⟩;obtain⟨a2,C,ak,-,-⟩:=id a6;subst ak;have a0:Below (w.heap.size+3) (((w.alloc (.cells #[.slice aa a.length ca] 42)).alloc (.cells #[.slice ab b.length cb] 42)).alloc (.cells #[.slice none 0 0] 42)) w2:=j.trans (ao.mono (by omega));have hc:w2.cell? ⟨w.heap.size+1+1,0,none⟩=some (.slice none 0 0):=(a0.cell (p:=⟨w.heap.size+1+1,0,none⟩) (by show w.heap.size+1+1<_;omega)).trans (zou _ _ _ _ _);have hf:w2.frozen? ⟨w.heap.size+1+1,0,none⟩=false:=(a0.frozen (p:=⟨w.heap.size+1+1,0,none⟩) (by show w.heap.size+1+1<_;omega)).trans (zjY _ _ _ _ _);have av:(w2.setCell ⟨w.heap.size+1+1,0,none⟩ (.slice a2 Z.length C)).cell? ⟨w.heap.size+1+1,0,none⟩=some (.slice a2 Z.length C):=zrx _ _ _ (by simp[hc]);go_wp2;refine zc4 (v:=.agg #[.slice a2 Z.length C]) (by simp[results,results105,go_sem,av]) rfl ?_;refine⟨_,rfl,Z,a6.set hc (fun n h=>by cases h) _,ay,by rw[aA];exact aj.out,by have:=HO.out;omega,?_⟩;exact((((zF.alloc zN _).alloc (by simp) _).alloc (by simp;omega) _).trans (a0.mono (by omega))).setCell (by show _<=w.heap.size+1+1;omega) _
end Bd
namespace Bd
open Num Go.Sort
theorem zqd(v:Value)(ds:List Nat)(w:World)(hd:Dig .u64 w v ds)(hl:ds.length<=100000) :
  zC 106 #[v] w fun e w'=>∃v',e=.returned v'/\Dig .u64 w' v' ds/\zB w w':=by
 obtain⟨a,C,hv,hc,o⟩:=id hd;subst hv;obtain⟨i0,hi,M,R,U⟩:=info_parts KY;have hq:=fun (x:Option Addr) (n c:Nat) (W:World)=>Lib.run_eql_slice_nil (P:=prog) W 40 82 x n c 0 0 ztF;cases a with
 |none =>
  have h0:ds.length=0:=by
   by_cases h:ds.length=0
   ·exact h
   ·obtain⟨b,off,e,-⟩:=o 0 (by omega);cases e
  obtain rfl:ds=[]:=zsT.1 h0;clear o hd;go_enter func106,ntmps106;go_wp2;go_ret;exact⟨_,rfl,Dig.nil _ _,zf0 _ _⟩
 |some ad =>
  go_enter func106,ntmps106;go_wp2_with (at_builtin;refine zs7 _ rfl _ _ 40 rfl w.heap.size 82 i0 (.int .u64 0) 1 8 ztF hi M R U rfl (by decide) _ _ _ rfl (World.ownsRow_lit w #[] 0 zN (by unfold maxLen;omega) rfl) ad ds.length C (qZ .u64 ds) rfl ?c0 ?c1 ?c2 ?c3 ?c4 ?c5 ?_)
  case c0=>simp[zdE]
  case c1 =>
   intro j u hj;have y:j<ds.length:=by
    have h5:=(zrJ.1 hj).1
    rwa [zdE] at h5
   obtain⟨b,off,e,hb,K⟩:=o j y;cases e;rw[XH .u64 ds j y] at hj;cases hj;rw[show (⟨b,off,none⟩:Addr).add j=⟨b,off+j,none⟩ by simp[Addr.add]];exact(Jd (off:=off+j) _ hb).trans K
  case c2=>intro u hu;simp only[qZ,zrA] at hu;obtain⟨x,_,rfl⟩:=hu;rfl
  case c3=>unfold maxLen;omega
  case c4=>omega
  case c5=>simp
  intro v' w1 q p _;have J:zB w w1:=(zF.alloc zN _).grown p (by simp) (fun k hk=>by cases hk;exact zri _);have hD:Dig .u64 w1 v' ds:=Dig.of_owns (by simpa using q);clear q p o;go_wp2;go_ret;exact⟨v',rfl,hD,J⟩
theorem zqE(va:Value)(a:List Nat)(t:Nat)(w:World)(ha:Dig .u64 w va a)(na:∀i,dig a i<1000000000)(la:a.length<=5000)(ht:t<=30) :
  zC 107 #[.agg #[va],t] w fun e w'=>∃v',e=.returned (.agg #[v'])/\∃V,Dig .u64 w' v' V/\Zg 1000000000 V/\val 1000000000 V=val 1000000000 a*2^t/\V.length<=a.length+2/\zB w w':=by
 obtain⟨aa,ca,aj,an,J⟩:=id ha;subst aj;clear J an;obtain⟨i0,hi,av,ae,aw⟩:=info_parts KY;go_enter func107,ntmps107;go_wp2_with (at_make;refine wpList_make_full _ rfl _ _ 40 rfl (w.heap.size+2) 82 i0 (.int .u64 0) 1 ztF hi av ae .i64 .i64 _ _ (a.length+2) rfl rfl ?c1 ?c2 ?c3 ?c4 ?c5 ?_)
 case c1=>omega
 case c2=>omega
 case c3=>rw[aw];omega
 case c4=>unfold maxLen;omega
 case c5=>simp
 intro w1 K y;rw[zem] at K;have M:Below (w.heap.size+2) ((w.alloc (.cells #[.slice aa a.length ca] 42)).alloc (.cells #[.slice none 0 0] 42)) w1:=zF.grown y (by simp) (fun k hk=>by cases hk);clear y;have hP:2^t<=1073741824:=zrt (i:=t) (j:=30) (by omega:2>0) ht;have Z:1<=2^t:=Nat.one_le_pow _ _ (by omega);go_wp2_with fail;go_loopw [7,18] (fun cv i wr=>∃(k c:Nat) (out:List Nat),k<=a.length+2/\i=.int .i64 k/\cv=.int .u64 c/\c<=2^t/\out.length=a.length+2/\(∀i,dig out i<1000000000)/\S 1000000000 (dig out) k+c*1000000000^k=S 1000000000 (dig a) k*2^t/\wr.ownsRow (w.heap.size+2) 82 1 (.slice (some ⟨w.heap.size+1+1,0,none⟩) (a.length+2) (a.length+2)) (a.length+2) (qZ .u64 out)/\Below (w.heap.size+2) ((w.alloc (.cells #[.slice aa a.length ca] 42)).alloc (.cells #[.slice none 0 0] 42)) wr)
  (fun _ i _=>a.length+2-(intOf i).toNat)
 case atStart=>exact⟨0,0,List.replicate (a.length+2) 0,zf6 _,rfl,rfl,zf6 _,by simp,fun i=>by rw[zdT];omega,by simp[S],K,M⟩
 case round =>
  obtain⟨k,c,out,hk,rfl,rfl,a6,a9,ab,hS,q,o⟩:=hrel;have a4:Hid (∀i,dig out i<1000000000):=ab;have HS:Hid (S 1000000000 (dig out) k+c*1000000000^k=S 1000000000 (dig a) k*2^t):=hS;have HO:Hid (out.length=a.length+2):=a9;clear ab hS K M a9;have a5:zB w wr:=((zF.alloc zN _).alloc (by simp) _).trans (o.mono (by omega));have ar:=o.size;simp only[zc1] at ar
  by_cases hlt:k<a.length+2
  ·have c0:wr.cell? w.heap.size=some (.slice aa a.length ca):=(o.cell (p:=w) (by show w.heap.size<_;omega)).trans (zds _ _ _ _);go_wp2_with fail;refine(zb9 _ a k _ (ha.below a5) (by omega) (by omega)).mono ?_;rintro e wq ⟨rfl,a1⟩;have u:=zdZ q a1;have R:=o.trans (a1.mono (by omega));have a3:k<out.length:=by have:=HO.out;omega
   clear q o a1 a5 c0;have hx:=na k;generalize a8:dig a k=x at *;have HX:Hid (dig a k=x):=a8;clear a8;have U:=u.cellAt k (by omega);rw[XH .u64 out k a3] at U;have aA:=u.frozenAt k;obtain⟨z,hz⟩:∃z,z=x*2^t:=⟨_,rfl⟩;have ax:x*2^t<=999999999*2^t:=zto _ (by omega);have af:z+c<=1000000000*2^t:=by omega
   have ae:z<=1073741824000000000:=by omega
   have az:c<=1073741824:=by omega
   have e0:IntKind.u64.wrap ((x:Int)*2^t)=(z:Int):=by
    have:(x:Int)*2^t=(z:Int):=by rw[hz,Int.natCast_mul,Int.natCast_pow];rfl
    rw[this];exact zbq (by omega) (by omega)
   have Y:Hid (z=x*2^t):=hz;have ah:Hid (z+c<=1000000000*2^t):=af;have ay:Hid (1<=2^t):=Z;clear hz ax af Z hP a6;go_wp2;go_roundw
   case rel =>
    have e3:((z:Int)+c)%1000000000=(((x*2^t+c)%1000000000:Nat):Int):=by rw[<-Y.out];omega
    have e4:((z:Int)+c)/1000000000=(((x*2^t+c)/1000000000:Nat):Int):=by rw[<-Y.out];omega
    rw[e3,e4];refine⟨k+1,(x*2^t+c)/1000000000,out.set k ((x*2^t+c)%1000000000),by omega,by go_num,rfl,?_,by rw[zr3];exact HO.out,zeV a3 a4.out (by omega),zlS a3 HS.out HX.out,zfG u k _,R.setCell (by show _<=w.heap.size+1+1;omega) _⟩;rw[<-Y.out];have:=ah.out;omega
   case measure=>simp[intOf];omega
  ·obtain rfl:k=a.length+2:=by omega
   have ac:=Q8 1000000000 a (a.length+2) (by omega);have ad:=Q8 1000000000 out (a.length+2) (by have:=HO.out;omega);have hE:=HS.out;rw[ac,ad] at hE;have b1:val 1000000000 a*2^t<1000000000^(a.length+2):=by
    have h1:=zim na;have h2:val 1000000000 a*2^t<=val 1000000000 a*1073741824:=Nat.mul_le_mul_left _ hP;rw[Nat.pow_add];omega
   have am:=zgs hE b1;subst am;have ag:Hid (val 1000000000 out=val 1000000000 a*2^t):=by show _=_;omega
   clear ac ad hE b1 hP Z a6;rw[show a.length+2=out.length from HO.out.symm] at q;have hD:=Dig.of_owns q;rw[HO.out] at hD;clear q;go_wp2_with fail;refine(zcE _ out _ hD a4.out (by have:=HO.out;omega)).mono ?_;rintro e w2 ⟨v2,rfl,X,a7,aq,au,aB,ak⟩;obtain⟨a2,C,ai,-,-⟩:=id a7;subst ai;have a0:Below (w.heap.size+2) ((w.alloc (.cells #[.slice aa a.length ca] 42)).alloc (.cells #[.slice none 0 0] 42)) w2:=o.trans (ak.mono (by omega));have hc:w2.cell? ⟨w.heap.size+1,0,none⟩=some (.slice none 0 0):=(a0.cell (p:=⟨w.heap.size+1,0,none⟩) (by show w.heap.size+1<_;omega)).trans (JJ _ _ _ _);have hf:w2.frozen? ⟨w.heap.size+1,0,none⟩=false:=(a0.frozen (p:=⟨w.heap.size+1,0,none⟩) (by show w.heap.size+1<_;omega)).trans (za9 _ _ _ _);have ao:(w2.setCell ⟨w.heap.size+1,0,none⟩ (.slice a2 X.length C)).cell? ⟨w.heap.size+1,0,none⟩=some (.slice a2 X.length C):=zrx _ _ _ (by simp[hc]);go_wp2;refine zc4 (v:=.agg #[.slice a2 X.length C]) (by simp[results,results107,go_sem,ao]) rfl ?_;refine⟨_,rfl,X,a7.set hc (fun n h=>by cases h) _,aq,by rw[au];exact ag.out,by have:=HO.out;omega,?_⟩;exact(((zF.alloc zN _).alloc (by simp) _).trans (a0.mono (by omega))).setCell (by show _<=w.heap.size+1;omega) _
theorem zmR(va:Value)(a:List Nat)(x:Int)(t:Nat)(w:World)(hx:x=(t:Int))(ha:Dig .u64 w va a)(na:∀i,dig a i<1000000000)(la:a.length<=5000)(ht:t<=30) :
  zC 107 #[.agg #[va],x] w fun e w'=>∃v',e=.returned (.agg #[v'])/\∃j,Dig .u64 w' v' j/\Zg 1000000000 j/\val 1000000000 j=val 1000000000 a*2^t/\j.length<=a.length+2/\zB w w':=by
 subst hx;exact zqE va a t w ha na la ht
theorem zoJ(va:Value)(a:List Nat)(times:Int)(w:World)(ha:Dig .u64 w va a)(na:Zg 1000000000 a)(la:a.length<=2000)(h0:-9223372036854775808<=times)(h1:times<=9223372036854775807) :
  zC 62 #[.agg #[va],times] w fun e w'=>∃v',e=.returned (.agg #[v'])/\∃J,Dig .u64 w' v' J/\Zg 1000000000 J/\val 1000000000 J=val 1000000000 a*2^(min times 1000).toNat/\J.length<=a.length+68/\zB w w':=by
 obtain⟨aa,ca,ak,am,q⟩:=id ha;subst ak;clear q am;obtain⟨T,hT,aw,av⟩:∃T:Int,min times 1000=T/\T<=1000/\-9223372036854775808<=T:=⟨_,rfl,by omega,by omega⟩;rw[hT];have a6:zB w ((w.alloc (.cells #[.slice aa a.length ca] 42)).alloc (.cells #[.slice none 0 0] 42)):=(zF.alloc zN _).alloc (by simp) _;have HC:=zqd _ a _ (ha.below a6) (by omega);clear a6;go_enter func62,ntmps62;go_wp2_with fail;refine HC.mono ?_;rintro e w1 ⟨v1,rfl,R,M⟩;obtain⟨a1,j,ai,-,-⟩:=id R;subst ai;have V:=M.size;simp only[zc1] at V;have hb1':Below (w.heap.size+2) ((w.alloc (.cells #[.slice aa a.length ca] 42)).alloc (.cells #[.slice none 0 0] 42)) w1:=M.mono (by simp);clear HC M ha;have a0:Dig .u64 (w1.alloc (.cells #[.slice a1 a.length j] 42)) (.slice a1 a.length j) a:=R.below (zF.alloc zN _);have Y:Below (w.heap.size+2) ((w.alloc (.cells #[.slice aa a.length ca] 42)).alloc (.cells #[.slice none 0 0] 42)) (w1.alloc (.cells #[.slice a1 a.length j] 42)):=hb1'.alloc (by omega) _;have Z:=QS w1 (.slice a1 a.length j) 42;have a4:=Xu w1 (.slice a1 a.length j) 42;have a5:w1.heap.size<(w1.alloc (.cells #[.slice a1 a.length j] 42)).heap.size:=by simp
 have HK:Hid (Dig .u64 (w1.alloc (.cells #[.slice a1 a.length j] 42)) (.slice a1 a.length j) a/\Below (w.heap.size+2) ((w.alloc (.cells #[.slice aa a.length ca] 42)).alloc (.cells #[.slice none 0 0] 42)) (w1.alloc (.cells #[.slice a1 a.length j] 42))/\(w1.alloc (.cells #[.slice a1 a.length j] 42)).cell? w1.heap.size=some (.slice a1 a.length j)/\(w1.alloc (.cells #[.slice a1 a.length j] 42)).frozen? w1.heap.size=false/\w1.heap.size<(w1.alloc (.cells #[.slice a1 a.length j] 42)).heap.size):=⟨a0,Y,Z,a4,a5⟩;clear a0 Y Z a4 a5 R hb1';go_wp2_with fail;go_loopw [6] (fun lv wr=>∃(r:Nat) (ds:List Nat) (a2:Option Addr) (o:Nat),r<=34/\lv=.int .i64 (T-30*r)/\(0<r->-30<T-30*r)/\Zg 1000000000 ds/\ds.length<=a.length+2*r/\val 1000000000 ds=val 1000000000 a*2^(min (30*r) T.toNat)/\Dig .u64 wr (.slice a2 ds.length o) ds/\Below (w.heap.size+2) ((w.alloc (.cells #[.slice aa a.length ca] 42)).alloc (.cells #[.slice none 0 0] 42)) wr/\wr.cell? w1.heap.size=some (.slice a2 ds.length o)/\wr.frozen? w1.heap.size=false/\w1.heap.size<wr.heap.size)
  (fun lv _=>(intOf lv).toNat)
 case atStart=>exact⟨0,a,a1,j,by omega,by go_num,by omega,na,by omega,by simp,HK.out.1,HK.out.2.1,HK.out.2.2.1,HK.out.2.2.2.1,HK.out.2.2.2.2⟩
 case round =>
  obtain⟨r,ds,a2,o,hr,rfl,az,ac,ay,ae,U,u,a8,ab,af⟩:=hrel;have HV:Hid (val 1000000000 ds=val 1000000000 a*2^(min (30*r) T.toNat)):=ae;clear ae HK
  by_cases hpos:0<T-30*r
  ·obtain⟨s,V,ar⟩:∃s:Nat,min (T-30*(r:Int)) 30=(s:Int)/\s<=30:=⟨(min (T-30*(r:Int)) 30).toNat,by omega,by omega⟩;go_wp2_with fail;refine(zmR _ ds _ s _ (by first|rfl|exact V) U ac.small (by omega) ar).mono ?_;rintro e w3 ⟨v3,rfl,X,a9,aq,ad,ax,y⟩;obtain⟨a3,K,aj,-,-⟩:=id a9;subst aj;have a7:w3.cell? w1.heap.size=some (.slice a2 ds.length o):=(y.cell (p:=w1) af).trans a8;have ao:w3.frozen? w1.heap.size=false:=(y.frozen (p:=w1) af).trans ab;have au:=u.size;simp only[zc1] at au;have hb3':=u.trans (y.mono (by omega));have aA:=y.size;have ah:Hid (val 1000000000 X=val 1000000000 ds*2^s):=ad;clear u y a8 ab U ad;go_wp2;go_roundw
   case rel =>refine⟨r+1,X,a3,K,by omega,by go_num,by omega,aq,by omega,?_,a9.set a7 (fun n h=>by cases h) _,hb3'.setCell (by show _<=w1.heap.size;omega) _,zrx _ _ _ (by simp[a7]),by simpa using ao,by simp[World.setCell];omega⟩;rw[ah.out,HV.out,Nat.mul_assoc,<-Nat.pow_add];congr 2;omega
   case measure=>simp[intOf];omega
  ·have hc:wr.cell? ⟨w.heap.size+1,0,none⟩=some (.slice none 0 0):=(u.cell (p:=⟨w.heap.size+1,0,none⟩) (by show w.heap.size+1<_;omega)).trans (JJ _ _ _ _);have hf:wr.frozen? ⟨w.heap.size+1,0,none⟩=false:=(u.frozen (p:=⟨w.heap.size+1,0,none⟩) (by show w.heap.size+1<_;omega)).trans (za9 _ _ _ _);have an:(wr.setCell ⟨w.heap.size+1,0,none⟩ (.slice a2 ds.length o)).cell? ⟨w.heap.size+1,0,none⟩=some (.slice a2 ds.length o):=zrx _ _ _ (by simp[hc]);have C:min (30*r) T.toNat=T.toNat:=by omega
   have ag:Hid (val 1000000000 ds=val 1000000000 a*2^T.toNat):=by show _=_;rw[HV.out,C]
   clear C;go_wp2;refine zc4 (v:=.agg #[.slice a2 ds.length o]) (by simp[results,results62,go_sem,an]) rfl ?_;refine⟨_,rfl,ds,U.set hc (fun n h=>by cases h) _,ac,ag.out,by omega,?_⟩;exact(((zF.alloc zN _).alloc (by simp) _).trans (u.mono (by omega))).setCell (by show _<=w.heap.size+1;omega) _
end Bd
namespace Bd
open Go.Maps Num
def qg(w:World)(v:Value)(m:Nat):Prop:=∃x:NV,v=x.val/\∃ds,Dig .u64 w (.slice x.a x.n x.c) ds/\Zg 1000000000 ds/\val 1000000000 ds=m
theorem qg.new{w w':World}{v:Value}{m:Nat}(h:qg w v m)(hb:zB w w'):qg w' v m:=by
 obtain⟨x,e,ds,h1,h2,h3⟩:=h;exact⟨x,e,ds,h1.below hb,h2,h3⟩
theorem qg.kept{S:Nat->Prop}{w w':World}{v:Value}{m:Nat}(h:qg w v m)(hk:zc S w w')(hn:∀b o n,S b->w.cell? ⟨b,o,none⟩≠some (.int .u64 n)):qg w' v m:=by
 obtain⟨x,e,ds,⟨a,q,hv,hc,hi⟩,h2,h3⟩:=h;refine⟨x,e,ds,⟨a,q,hv,hc,fun i hl=>?_⟩,h2,h3⟩;obtain⟨b,p,ha,hb,j⟩:=hi i hl;exact⟨b,p,ha,zc6 hb hk.size,(hk.cell (a:=⟨b,p+i,none⟩) hb (fun hs=>hn b _ _ hs j)).trans j⟩
theorem zbR{w:World}{s:Value}{ds:List Nat}{m:Nat}(h:Dig .u64 w s ds)(hN:Zg 1000000000 ds)(hv:val 1000000000 ds=m):qg w (.agg #[s]) m:=by
 have h0:=h;obtain⟨a,j,e,-⟩:=h0;subst e;exact⟨⟨a,ds.length,j⟩,rfl,ds,h,hN,hv⟩
theorem qg.open{w:World}{v:Value}{m:Nat}(h:qg w v m)(hm:m<=100000000):∃s ds,v=.agg #[s]/\Dig .u64 w s ds/\Zg 1000000000 ds/\val 1000000000 ds=m/\ds.length<=1:=by
 obtain⟨x,e,ds,h1,h2,h3⟩:=h;exact⟨_,ds,e,h1,h2,h3,zlc (by omega) h2 (by rw[h3];omega)⟩
structure qS(w:World)(dk vars:Nat)(ns:List Nd)(L:List (Int × NV)):Prop where
 hmap:∃D,w.ownsMap prog 3 Yo dk L.length D/\XG D L
 keys:∀p∈L,za ns p.1≠24
 nums:∀p∈L,qg w p.2.val (yJ vars ns p.1)
section
variable {w w':World} {dk vars:Nat} {ns:List Nd} {L:List (Int × NV)}
theorem qS.lt(h:qS w dk vars ns L):dk<w.heap.size:=by obtain⟨D,hD,-⟩:=h.hmap;exact hD.lt
theorem qS.none(h:qS w dk vars ns L)(o:Nat):w.cell? ⟨dk,o,none⟩=none:=by
 obtain⟨D,⟨es,j,hb,-⟩,-⟩:=h.hmap;unfold World.cell?;simp only[hb]
theorem qS.kept{S:Nat->Prop}(h:qS w dk vars ns L)(hk:zc S w w')(hn:¬S dk)(hc:∀b o n,S b->w.cell? ⟨b,o,Option.none⟩≠some (.int .u64 n)):qS w' dk vars ns L:=by
 obtain⟨D,hD,hR⟩:=h.hmap;exact⟨⟨D,Ql hD hk hn,hR⟩,h.keys,fun p hp=>(h.nums p hp).kept hk hc⟩
theorem qS.new(h:qS w dk vars ns L)(hb:zB w w'):qS w' dk vars ns L:=h.kept (zc.of_below hb (fun _=>False)) (fun h=>h) (fun _ _ _ h=>h.elim)
theorem qS.no(h:qS w dk vars ns L)(b o:Nat)(n:Int)(e:b=dk):w.cell? ⟨b,o,Option.none⟩≠some (.int .u64 n):=by rw[e,h.none];exact fun h=>by cases h
theorem KE(w:World)(o:Nat)(n:Int):(w.alloc (.cells #[.slice none 0 0] 42)).cell? ⟨w.heap.size,o,Option.none⟩≠some (.int .u64 n):=by
 cases o with
 |zero=>simp
 |succ o=>simp
theorem qg.box{v:Value}{m bx:Nat}(h:qg w v m)(hb:∀o n,w.cell? ⟨bx,o,Option.none⟩≠some (.int .u64 n))(u:Value):qg (w.setCell ⟨bx,0,Option.none⟩ u) v m :=
 h.kept (S:=fun j=>j=bx) (zc.setCell _ _ _ rfl) (fun b o n e=>by rw[e];exact hb o n)
theorem qS.box{bx:Nat}(h:qS w dk vars ns L)(hb:∀o n,w.cell? ⟨bx,o,Option.none⟩≠some (.int .u64 n))(hne:bx≠dk)(u:Value):qS (w.setCell ⟨bx,0,Option.none⟩ u) dk vars ns L :=
 h.kept (S:=fun j=>j=bx) (zc.setCell _ _ _ rfl) (fun e=>hne e.symm) (fun b o n e=>by rw[e];exact hb o n)
theorem XU:∀(n:Nat) (l:List Nat),l.Nodup->(∀x∈l,x<n)->l.length<=n
 |0,l,_,h=>by
  cases l with
  |nil=>simp
  |cons a l=>have:=h a (zsf ..);omega
 |n+1,l,hd,h=>by
  have ih:=XU n (l.erase n) (hd.erase n) (fun x hx=>by
   have h1:=(hd.mem_erase_iff).1 hx;have h2:=h x h1.2;have h3:=h1.1;omega)
  by_cases hm:n∈l
  ·rw[List.length_erase_of_mem hm] at ih;omega
  ·rw[List.erase_of_not_mem hm] at ih;omega
theorem qS.len(h:qS w dk vars ns L):L.length<=ns.length:=by
 obtain⟨D,-,hR⟩:=h.hmap;have hk:∀p∈L,p.1=2+(pl p.1:Int)/\pl p.1<ns.length:=fun p hp=>⟨(xo (h.keys p hp)).2.2.2,(xo (h.keys p hp)).2.1⟩;have hd:=Rep.nodup hR;have:=XU ns.length (L.map fun p=>pl p.1) (by
  have e:(L.map fun p=>pl p.1)=(L.map Prod.fst).map pl:=by simp
  rw[e];refine(ztK.1 hd |> fun hp=>?_);refine ztK.2 (List.pairwise_map.2 (hp.imp_of_mem fun {a b} ha hb hab e=>hab ?_));obtain⟨p,j,rfl⟩:=zrA.1 ha;obtain⟨q,o,rfl⟩:=zrA.1 hb;rw[(hk p j).1,(hk q o).1,e]) (fun x hx=>by
  obtain⟨p,j,rfl⟩:=zrA.1 hx;exact (hk p j).2)
 simpa using this
end
def ZU(dk vars:Nat)(ns:List Nd)(m:Nat)(w:World)(e:Ending)(w':World):Prop :=
 ∃v L',e=.returned v/\qg w' v m/\qS w' dk vars ns L'/\zc (fun j=>j=dk) w w'
def zgy(B s b dk:Nat)(O:Nat->Prop)(vars:Nat)(room:Int)(ns:List Nd)(d:Nat):Prop :=
 ∀(h:Int) (L:List (Int × NV)) (w:World),zt B w s b O vars room ns->qS w dk vars ns L->zh ns h=true->24<=za ns h+d ->
  zC 61 #[.pointer (some s),h,.map (some dk)] w (ZU dk vars ns (yJ vars ns h) w)
def JZ(B s b dk:Nat)(O:Nat->Prop)(vars:Nat)(room:Int)(ns:List Nd)(d:Nat):Prop :=
 ∀(h:Int) (v:Nat) (L:List (Int × NV)) (w:World),zt B w s b O vars room ns->qS w dk vars ns L->zh ns h=true->24<=za ns h+d->v<=zV vars ns h ->
  zC 24 #[.pointer (some s),h,v,.map (some dk)] w (ZU dk vars ns (yo vars ns h v) w)
theorem zbg(vars:Nat)(ns:List Nd)(h:Int)(v:Nat)(hv:vars<=24):yo vars ns h v<=16777216:=by
 unfold yo;have h1:=zfr (sem ns h) (vars-v) v (fun _=>false);have h2:2^(vars-v)<=2^24:=zrt (by omega) (by omega);have h3:2^24=16777216:=by decide
 omega
section
variable {B s b dk:Nat} {O:Nat->Prop} {vars:Nat} {room:Int} {ns:List Nd}
theorem zdd(hg:zG vars ns)(hl:ns.length<=90000)(hv:vars<=24){d:Nat}(ih:zgy B s b dk O vars room ns d):JZ B s b dk O vars room ns d:=by
 intro h v L w hS hD hh hd aG;have hi:=y7 hh (by omega);have a4:=below_new w (.cells #[.slice none 0 0] 42);have HT:Hid (∀X,zB w X->zC 60 #[.pointer (some b),h] X fun e w'=>e=.returned (.int .i64 (za ns h))/\X=w'):=fun X hX=>zaw (hS.new hX) h hi hl;have SC:Hid (∀X,zB w X->X.cell? s=some (.pointer (some b))/\X.cell? ⟨s,1,none⟩=some (.int .i64 vars)):=fun X hX=>⟨(hS.new hX).c0,(hS.new hX).c1⟩;have HC:Hid (∀X,zB w X->zC 61 #[.pointer (some s),h,.map (some dk)] X (ZU dk vars ns (yJ vars ns h) X)):=fun X hX=>ih h L X (hS.new hX) (hD.new hX) hh hd;have h0:=(qe hg.ranked h).1;have V:min (za ns h) (vars:Int)=(zV vars ns h:Int):=by unfold zV;omega
 have R:=zeT hg (h:=h) (zV vars ns h-v) v (by omega);have aj:yJ vars ns h<=16777216:=zbg vars ns h _ hv;have aF:zV vars ns h<=24:=by unfold zV;omega
 have aC:=hD.lt;have aE:=hS.slt;have e1:IntKind.i64.wrap ((zV vars ns h:Int)-(v:Int))=((zV vars ns h-v:Nat):Int):=by
  rw[show ((zV vars ns h:Int)-(v:Int))=((zV vars ns h-v:Nat):Int) by omega];exact IntWalk.i64_in _ ⟨by omega,by omega⟩
 have a2:=zH R;have au:=zH aj;have Z:=zH a4;have ai:=SC.out _ a4.drew;have ag:w.heap.size<(w.alloc (.cells #[.slice none 0 0] 42)).heap.size:=by simp
 have bc:(w.alloc (.cells #[.slice none 0 0] 42)).cell? w.heap.size=some (.slice none 0 0):=by simp
 have bf:(w.alloc (.cells #[.slice none 0 0] 42)).frozen? w.heap.size=false:=by simp
 have bo:∀o n,(w.alloc (.cells #[.slice none 0 0] 42)).drew.cell? ⟨w.heap.size,o,none⟩≠some (.int .u64 n):=fun o n=>KE w o n;have BO:=zH bo;clear bo;have aw:=zH V;have E1:=zH e1;clear ih hS hD hg hh R aj a4 V e1;generalize yJ vars ns h=m at *;generalize yo vars ns h v=r at *;generalize zV vars ns h=tn at *;generalize za ns h=tp at *;go_enter func24,ntmps24;go_wp2_with fail;go_region_held3 (fun X=>X.cell? s=some (.pointer (some b))/\X.cell? ⟨s,1,none⟩=some (.int .i64 vars)) (exact ai)
  (first|(go_at_call 60;with_reducible refine(HT.out _ Z.out.drew).mono ?_;rintro e wz ⟨rfl,rfl⟩))
 simp only[aw.out];have a8:=zH (HC.out _ Z.out.drew);have ar:=zH Z.out.drew;have q:w.heap.size<(w.alloc (.cells #[.slice none 0 0] 42)).drew.heap.size:=ag;have ac:(w.alloc (.cells #[.slice none 0 0] 42)).drew.cell? w.heap.size=some (.slice none 0 0):=bc;have ae:(w.alloc (.cells #[.slice none 0 0] 42)).drew.frozen? w.heap.size=false:=bf;clear HC HT SC ai Z ag bc bf;generalize (w.alloc (.cells #[.slice none 0 0] 42)).drew=W1 at *;go_wp2_with fail;refine a8.out.mono ?_;rintro e w2 ⟨v2,L2,rfl,an,ah,M⟩;obtain⟨s2,ay,rfl,ak,ao,aq,a6⟩:=an.open (by have:=au.out;omega);have a5:=zoJ s2 ay ((tn-v:Nat):Int) w2 ak ao (by omega) (by omega) (by omega);rw[aq] at a5;have aa:=zH a5;have a0:w.heap.size≠dk:=by omega
 have ad:=(M.cell (a:=w) q a0).trans ac;have af:=(M.frozen (a:=w) q a0).trans ae;have u:=zc6 q M.size;have av:Hid (∀o,w2.cell? ⟨w.heap.size,o,none⟩=W1.cell? ⟨w.heap.size,o,none⟩):=fun o=>M.cell (a:=⟨w.heap.size,o,none⟩) q a0;have ab:=zH ((zc.of_below ar.out (fun j=>j=dk)).trans M);have a9:=zH ah;have e2:=E1.out;clear a8 an ah M ak ao aq a6 a5 ac ae q;go_wp2_with fail;refine aa.out.mono ?_;rintro e w3 ⟨v3,rfl,J,y,U,Y,-,K⟩;have C:=zbR y U Y;have aA:(min ((tn-v:Nat):Int) 1000).toNat=tn-v:=by omega
 rw[aA,<-a2.out] at C;obtain⟨a3,c3,e3,-⟩:=id y;subst e3;have ax:=(K.cell (p:=w) u).trans ad;have aB:=(K.frozen (p:=w) u).trans af;have az:(w3.setCell w (.slice a3 J.length c3)).cell? w.heap.size=some (.slice a3 J.length c3):=zrD _ _ _ ax;have a7:∀o n,w3.cell? ⟨w.heap.size,o,none⟩≠some (.int .u64 n):=fun o n=>by
  rw[K.cell (p:=⟨w.heap.size,o,none⟩) u,av.out o];exact BO.out o n
 have am:zc (fun j=>j=dk) w (w3.setCell w (.slice a3 J.length c3)):=(ab.out.trans (zc.of_below K _)).andThen (zc.setCell (S:=fun j=>j=w.heap.size) _ _ _ rfl) (fun i hi aD=>by omega);have a1:Hid (ZU dk vars ns r w (.returned (.agg #[.slice a3 J.length c3])) (w3.setCell w (.slice a3 J.length c3))):=⟨_,L2,rfl,C.box a7 _,(a9.out.new K).box a7 a0 _,am⟩;clear y U Y C a7 am ab a9 aa K ad af;go_wp2;refine zc4 (v:=.agg #[.slice a3 J.length c3]) (by simp[results,results24,go_sem,az]) rfl a1.out
end
end Bd
