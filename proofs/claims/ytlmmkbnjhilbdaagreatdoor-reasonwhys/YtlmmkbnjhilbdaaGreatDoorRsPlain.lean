/- What the rules of a catalog are as clauses: plain. -/
import Derived.Test.YtlmmkbnjhilbdaaGreatDoorRsCan
import Derived.Shelf.SlicesG.Delete
import Derived.Lib.OwnBridge
open Go.Proofs.YtlmmkbnjhilbdaaGreatDoor
set_option maxHeartbeats 2000000
set_option maxRecDepth 100000
namespace Go.Proofs.YtlmmkbnjhilbdaaGreatDoor
open Go.RowKit Go.Deep Sv
def qF(ls:List Ln)(i:Nat):List Nat:=(List.range i).filter fun n=>(ls.getD n default).kind != 1
def zw(ls:List Ln):List Nat:=qF ls ls.length
theorem zbS(ls:List Ln)(i:Nat):qF ls (i+1)=qF ls i++(if (ls.getD i default).kind != 1 then [i] else []):=by
 unfold qF;rw[List.range_succ,List.filter_append];congr 1
 by_cases h:((ls.getD i default).kind != 1)=true
 ·rw[if_pos h,List.filter_cons,if_pos h,List.filter_nil]
 ·rw[if_neg h,List.filter_cons,if_neg h,List.filter_nil]
theorem JZ(ls:List Ln)(i:Nat):(qF ls i).length<=i:=by
 unfold qF;refine Nat.le_trans (List.length_filter_le _ _) ?_;simp
theorem zb8(ls:List Ln)(i:Nat):∀x∈qF ls i,x<i:=fun x hx=>by
 unfold qF at hx;simpa using (List.mem_filter.1 hx).1
theorem xm(l:List Nat):(zM l).length=l.length:=by simp[zM]
theorem zgl(l:List Nat)(n:Nat):zM (l++[n])=zM l++[(n:Int)]:=by simp[zM]
theorem RS.setS{B b i:Nat}{W:World}{cv fv v:Value}{K:List (List Int)}{F:List Int}{cs:Array Value}(h:RS B W cv fv K F)(hb:Blk W b 105 cs)(hlt:b<B):RS B (W.setCell ⟨b,i,none⟩ v) cv fv K F:=by
 obtain⟨c,h1,h2,h3⟩:=h.crow;exact⟨⟨c,yV h1 hlt,h2.kp (Kp.set (Nat.zero_le _) hb (by decide)),h3⟩,yV h.frow hlt⟩
structure SD(W5 wr:World)(n:Int)(cv fv lv:Value)(m:Int)(l:List Nat):Prop where
 blk:Blk wr W5.heap.size 105 #[.int .i64 n,cv,fv,lv,.int .i64 m]
 row:wr.ownsRow (W5.heap.size+1) 3 1 lv (zM l).length (icells (zM l))
 B:zB W5 wr
theorem SD.new{W5 wr w':World}{n m:Int}{cv fv lv:Value}{l:List Nat}(h:SD W5 wr n cv fv lv m l)(hb:zB wr w'):SD W5 w' n cv fv lv m l :=
 ⟨h.blk.below hb h.blk.lt,zU h.row hb,zT h.B hb⟩
theorem SD.app{W5 W w7:World}{n m:Int}{cv fv lv v':Value}{l:List Nat}{x:Nat}(h:SD W5 W n cv fv lv m l)
  (hown:w7.ownsRow (W5.heap.size+1) 3 1 v' ((zM l).length+1) (icells (zM l)++[.int .i64 x])) (hg:(W.alloc (.cells #[.int .i64 x] 3)).grownBy w7 lv.ownBlock) :
  Blk w7 W5.heap.size 105 #[.int .i64 n,cv,fv,lv,.int .i64 m]/\SD W5 (w7.setCell ⟨W5.heap.size,3,none⟩ v') n cv fv v' m (l++[x]):=by
 have hbn:=below_new W (.cells #[.int .i64 x] 3);have hl:=h.blk.lt;have hne:some W5.heap.size≠lv.ownBlock:=fun e=>by have:=(h.row.lt _ e.symm).1;omega
 have q5:=(h.blk.below hbn hl).kept hg hne;have hB7:zB W5 w7:=h.B.trans ((hbn.mono (by omega)).grown hg (by simp;omega) (fun k hk=>by have:=(h.row.lt k hk).1;omega));refine⟨q5,q5.set (i:=3),?_,hB7.setCell (p:=⟨W5.heap.size,3,none⟩) zN _⟩;rw[zgl,Qd,List.length_append];exact yV hown (by omega)
theorem zlh(bk:Nat)(ls:List Ln)(its:List It)(w:World)(h:qA w bk ls its)(hl:its.length<=24)(hll:ls.length<=120)(hnm:∀x∈ls,x.name.size<=100000/\x.other.size<=100000)(hP:(ofL its ls).length<=200) :
  zC 38 #[.pointer (some ⟨bk,0,none⟩)] w fun e w'=>∃cv fv lv,e=.returned (.tuple #[.agg #[.int .i64 its.length,cv,fv,lv,.int .i64 ls.length],.nilIface])/\RS w.heap.size w' cv fv ((ofL its ls).map Prod.snd) ((ofL its ls).map Prod.fst)/\w'.ownsRow w.heap.size 3 1 lv (zM (zw ls)).length (icells (zM (zw ls)))/\zB w w':=by
 obtain⟨i0,hin,hz0,hz1,hz2⟩:=info_parts Zt;have hbx:=below_new w (.cells #[.int .i64 0,.slice none 0 0,.slice none 0 0,.slice none 0 0,.int .i64 0] 105);have k2:=Blk.new w 105 #[.int .i64 0,.slice none 0 0,.slice none 0 0,.slice none 0 0,.int .i64 0];have hc0:=h.below hbx zN;have HOF0:=zbB bk ls its _ hc0 hl hll hnm;have HC:=zH hc0;have hs0:(w.alloc (.cells #[.int .i64 0,.slice none 0 0,.slice none 0 0,.slice none 0 0,.int .i64 0] 105)).heap.size=w.heap.size+1:=by simp
 have HBX:=zH hbx;generalize ofL its ls=P at *;clear h hnm hbx hc0;go_enter Tryz.func38,Tryz.ntmps38;go_upto_region 1 with fail;generalize w.alloc (.cells #[.int .i64 0,.slice none 0 0,.slice none 0 0,.slice none 0 0,.int .i64 0] 105)=W0 at *;have HOF:Hid (zC 16 #[.pointer (some ⟨bk,0,none⟩)] W0 fun e w'=>∃cv fv,e=.returned (.tuple #[.agg #[.int .i64 its.length,cv,fv],.nilIface])/\RS W0.heap.size w' cv fv (P.map Prod.snd) (P.map Prod.fst)/\zB W0 w'):=HOF0.mono fun e w' hh=>by
  rcases hh with ⟨h1,_⟩|⟨-,cv,fv,h2,h3,h4⟩
  ·omega
  ·exact⟨cv,fv,h2,h3,h4⟩
 clear HOF0;go_wp2_with fail;refine HOF.out.mono ?_;rintro e w1 ⟨cv,fv,rfl,hrs,hb1⟩;obtain⟨ca,cc,rfl,-⟩:∃a c,cv=.slice a P.length c/\True:=by obtain⟨cs,h1,_⟩:=hrs.crow;obtain⟨a,c,e,_⟩:=(zx h1).form;exact⟨a,c,by simpa using e,trivial⟩
 obtain⟨fa,fc,rfl,-⟩:∃a c,fv=.slice a P.length c/\True:=by obtain⟨a,c,e,_⟩:=(zx hrs.frow).form;exact⟨a,c,by simpa using e,trivial⟩
 have hbn:=below_new w1 (.cells #[.int .i64 its.length,.slice ca P.length cc,.slice fa P.length fc] 26);have kr:=Blk.new w1 26 #[.int .i64 its.length,.slice ca P.length cc,.slice fa P.length fc];have hb2:=zT hb1 hbn;have HRS:=zH (hrs.new hbn);have HB2:=zH hb2;have HLN:=zH (zkN bk ls its _ (HC.out.below hb2 zN) (by omega));have K2:=zH (k2.below hb2 k2.lt);clear hrs hb1 hbn hb2 HOF HC k2;go_upto_region 4 with fail;generalize w1.alloc (.cells #[.int .i64 its.length,.slice ca P.length cc,.slice fa P.length fc] 26)=W2 at *;generalize w1.heap.size=b4 at *;go_wp2_with fail;refine HLN.out.mono ?_;rintro e w3 ⟨lv,rfl,hlv,hb3⟩;obtain⟨la,lc,rfl⟩:∃a c,lv=.slice a ls.length c:=by obtain⟨vs',_,h2⟩:=hlv;obtain⟨a,c,e,_⟩:=h2.form;exact⟨a,c,e⟩
 have kr3:=kr.below hb3 kr.lt;have r0:_=some (Value.int .i64 its.length):=kr3.cell 0;have r1:_=some (Value.slice ca P.length cc):=kr3.cell 1;have r2:_=some (Value.slice fa P.length fc):=kr3.cell 2;have HRS3:=zH (HRS.out.new hb3);have HB3:Hid (zB W0 w3):=zT HB2.out hb3;have K3:=zH (K2.out.below hb3 K2.out.lt);have HLV:=zH hlv;have hsd:SD w3 (w3.alloc (.cells #[.int .i64 its.length,.slice ca P.length cc,.slice fa P.length fc,.slice none 0 0,.int .i64 ls.length] 105)) (its.length:Int) (.slice ca P.length cc) (.slice fa P.length fc) (.slice none 0 0) (ls.length:Int) (qF ls 0):=⟨Blk.new _ _ _,World.ownsRow_nil _ _ _ _,below_new _ _⟩;have HSD:=zH hsd;clear hlv hb3 kr kr3 HRS HB2 K2 HLN hsd;go_upto_region 6 with fail;generalize w3.alloc (.cells #[.int .i64 its.length,.slice ca P.length cc,.slice fa P.length fc,.slice none 0 0,.int .i64 ls.length] 105)=W5 at *;clear r0 r1 r2;go_wp2_with fail;go_loopw [27] (fun iV wr=>∃(i:Nat) (lv:Value),i<=ls.length/\iV=.int .i64 i/\SD w3 wr (its.length:Int) (.slice ca P.length cc) (.slice fa P.length fc) lv (ls.length:Int) (qF ls i)) (fun iV _=>ls.length-(intOf iV).toNat)
 case atStart=>exact⟨0,_,Nat.zero_le _,rfl,HSD.out⟩
 case round =>
  clear HSD;obtain⟨i,lv,hil,rfl,hsd⟩:=hrel
  by_cases hlt:i<ls.length
  ·have hii0:(0:Int)<=(i:Int):=by omega
   have hii1:(i:Int)<(ls.length:Int):=by omega
   obtain⟨g,cap',rv,e,hg,hsp,hrg,c0,c1,c2,c3,c4,c5,c6⟩:=(HLV.out.below hsd.B zN).at i hlt;simp at e;obtain⟨rfl,rfl⟩:=e;have HSU:=zH (zbS ls i);have hpl:=JZ ls i;obtain⟨x,hxe⟩:∃x,ls.getD i default=x:=⟨_,rfl⟩;rw[hxe] at hsp hrg c0 c1 c2 c3 c4 c5 HSU;obtain⟨ra,rc,rfl⟩:=hsp.form;have hb6:=below_new wr (.cells #[.int .i64 x.kind,.string x.name,.int .i64 x.a,.int .i64 x.b,.int .i64 x.c,.string x.other,.slice ra x.rng.length rc] 69);have kx:=Blk.new wr 69 #[.int .i64 x.kind,.string x.name,.int .i64 x.a,.int .i64 x.b,.int .i64 x.c,.string x.other,.slice ra x.rng.length rc];have HSD:=zH (hsd.new hb6);obtain⟨va,vc,hve,-⟩:=(zx hsd.row).form;rw[xm] at hve;subst hve;clear hsd hb6 hsp hrg hxe;go_upto_region 9 with fail;generalize wr.alloc (.cells #[.int .i64 x.kind,.string x.name,.int .i64 x.a,.int .i64 x.b,.int .i64 x.c,.string x.other,.slice ra x.rng.length rc] 69)=W6 at *;generalize wr.heap.size=bx at *;have x0:_=some (Value.int .i64 x.kind):=kx.cell 0;clear c0 c1 c2 c3 c4 c5 c6 hg kx;cases hk:(x.kind != 1) with
   |true =>
    have hk1:(x.kind != 1)=true:=hk;have d3:_=some (Value.slice va (qF ls i).length vc):=HSD.out.blk.cell 3;have HRW:Hid (W6.ownsRow (w3.heap.size+1) 3 1 (.slice va (qF ls i).length vc) (qF ls i).length (icells (zM (qF ls i)))):=by have:=HSD.out.row;rw[xm] at this;exact this
    have HAP:=zH (fun w7 v'=>HSD.out.app (w7:=w7) (v':=v') (x:=i));rw[hk,if_pos rfl] at HSU;have hws:=HSD.out.blk.lt;clear hk HSD;go_wp2_with (at_builtin;refine wpList_append_own_at _ rfl _ _ 24 rfl (w3.heap.size+1) 3 i0 (.int .i64 0) 1 8 Tryz.underlying24 hin hz0 hz1 hz2 rfl (by decide) _ _ _ rfl (HRW.out.alloc _) ⟨W6.heap.size,0,none⟩ 1 1 [.int .i64 i] rfl rfl ?a1 ?a2 ?a3 ?a4 ?a5 ?_)
    case a1=>exact zbb _ _ _
    case a2=>intro u hu;rw[List.mem_singleton] at hu;subst hu;rfl
    case a3=>unfold maxLen;omega
    case a4=>omega
    case a5=>simp;omega
    intro v7 w7 hown7 hgrow7 _ hloc7;obtain⟨kb7,hsd7⟩:=HAP.out w7 v7 (by rw[xm];exact hown7) hgrow7;rw[<-HSU.out] at hsd7;have e3:_=some (Value.slice va (qF ls i).length vc):=kb7.cell 3;have f3:=kb7.frozen 3;obtain⟨va7,vc7,hve,-⟩:=(zx hown7).form;have HSD7:=zH hsd7;clear hown7 hgrow7 hloc7 HAP HRW d3 HSU kb7 hsd7;subst hve;go_wp2;go_roundw
    case rel=>exact⟨i+1,_,hlt,by go_num,HSD7.out⟩
    case measure=>simp[intOf];omega
   |false =>
    rw[hk,if_neg (by simp),List.append_nil] at HSU;have hk1:(x.kind != 1)=false:=hk;have HSD7:Hid (SD w3 W6 (its.length:Int) (.slice ca P.length cc) (.slice fa P.length fc) (.slice va (qF ls i).length vc) (ls.length:Int) (qF ls (i+1))):=by show SD _ _ _ _ _ _ _ _;rw[HSU.out];exact HSD.out
    clear hk HSD HSU;go_wp2;go_roundw
    case rel=>exact⟨i+1,_,hlt,by go_num,HSD7.out⟩
    case measure=>simp[intOf];omega
  ·obtain rfl:i=ls.length:=by omega
   obtain⟨va,vc,hve,-⟩:=(zx hsd.row).form;rw[xm] at hve;subst hve;have hs3:=HB3.out.size;have y0:_=some (Value.int .i64 its.length):=hsd.blk.cell 0;have y1:_=some (Value.slice ca P.length cc):=hsd.blk.cell 1;have y2:_=some (Value.slice fa P.length fc):=hsd.blk.cell 2;have y3:_=some (Value.slice va (qF ls ls.length).length vc):=hsd.blk.cell 3;have y4:_=some (Value.int .i64 ls.length):=hsd.blk.cell 4;have k5:=K3.out.below hsd.B K3.out.lt;have hRS5:=(HRS3.out.new hsd.B).base (B':=w.heap.size+1) (by omega);have hRow:wr.ownsRow (w.heap.size+1) 3 1 (.slice va (qF ls ls.length).length vc) (zM (qF ls ls.length)).length (icells (zM (qF ls ls.length))):=ownsRow_base hsd.row (by omega);have hB5:zB w wr:=HBX.out.trans ((HB3.out.trans (hsd.B.mono hs3)).mono (by omega));have q0:=k5;have q1:=q0.set (i:=0) (v:=.int .i64 its.length);have q2:=q1.set (i:=1) (v:=.slice ca P.length cc);have q3:=q2.set (i:=2) (v:=.slice fa P.length fc);have q4:=q3.set (i:=3) (v:=.slice va (qF ls ls.length).length vc);have q5:=q4.set (i:=4) (v:=.int .i64 ls.length);have hR:=((((hRS5.setS (i:=0) (v:=.int .i64 its.length) q0 (by omega)).setS (i:=1) (v:=.slice ca P.length cc) q1 (by omega)).setS (i:=2) (v:=.slice fa P.length fc) q2 (by omega)).setS (i:=3) (v:=.slice va (qF ls ls.length).length vc) q3 (by omega)).setS (i:=4) (v:=.int .i64 ls.length) q4 (by omega);have hRw:=yV (b:=w.heap.size) (i:=4) (x:=.int .i64 ls.length) (yV (b:=w.heap.size) (i:=3) (x:=.slice va (qF ls ls.length).length vc) (yV (b:=w.heap.size) (i:=2) (x:=.slice fa P.length fc) (yV (b:=w.heap.size) (i:=1) (x:=.slice ca P.length cc) (yV (b:=w.heap.size) (i:=0) (x:=.int .i64 its.length) hRow (by omega)) (by omega)) (by omega)) (by omega)) (by omega);have hBB:=(((((hB5.setCell (p:=⟨w.heap.size,0,none⟩) zN (.int .i64 its.length)).setCell (p:=⟨w.heap.size,1,none⟩) zN (.slice ca P.length cc)).setCell (p:=⟨w.heap.size,2,none⟩) zN (.slice fa P.length fc)).setCell (p:=⟨w.heap.size,3,none⟩) zN (.slice va (qF ls ls.length).length vc)).setCell (p:=⟨w.heap.size,4,none⟩) zN (.int .i64 ls.length));have Q5:Hid (Blk (((((wr.setCell ⟨w.heap.size,0,none⟩ (.int .i64 its.length)).setCell ⟨w.heap.size,1,none⟩ (.slice ca P.length cc)).setCell ⟨w.heap.size,2,none⟩ (.slice fa P.length fc)).setCell ⟨w.heap.size,3,none⟩ (.slice va (qF ls ls.length).length vc)).setCell ⟨w.heap.size,4,none⟩ (.int .i64 ls.length)) w.heap.size 105 #[.int .i64 its.length,.slice ca P.length cc,.slice fa P.length fc,.slice va (qF ls ls.length).length vc,.int .i64 ls.length]):=q5;have e0:_=some (Value.int .i64 0):=q0.cell 0;have g0:=q0.frozen 0;have e1:(wr.setCell ⟨w.heap.size,0,none⟩ (.int .i64 its.length)).cell? ⟨w.heap.size,1,none⟩=some (.slice none 0 0):=q1.cell 1;have g1:(wr.setCell ⟨w.heap.size,0,none⟩ (.int .i64 its.length)).frozen? ⟨w.heap.size,1,none⟩=false:=q1.frozen 1;have e2:((wr.setCell ⟨w.heap.size,0,none⟩ (.int .i64 its.length)).setCell ⟨w.heap.size,1,none⟩ (.slice ca P.length cc)).cell? ⟨w.heap.size,2,none⟩=some (.slice none 0 0):=q2.cell 2;have g2:((wr.setCell ⟨w.heap.size,0,none⟩ (.int .i64 its.length)).setCell ⟨w.heap.size,1,none⟩ (.slice ca P.length cc)).frozen? ⟨w.heap.size,2,none⟩=false:=q2.frozen 2;have e3:(((wr.setCell ⟨w.heap.size,0,none⟩ (.int .i64 its.length)).setCell ⟨w.heap.size,1,none⟩ (.slice ca P.length cc)).setCell ⟨w.heap.size,2,none⟩ (.slice fa P.length fc)).cell? ⟨w.heap.size,3,none⟩=some (.slice none 0 0):=q3.cell 3;have g3:(((wr.setCell ⟨w.heap.size,0,none⟩ (.int .i64 its.length)).setCell ⟨w.heap.size,1,none⟩ (.slice ca P.length cc)).setCell ⟨w.heap.size,2,none⟩ (.slice fa P.length fc)).frozen? ⟨w.heap.size,3,none⟩=false:=q3.frozen 3;have e4:((((wr.setCell ⟨w.heap.size,0,none⟩ (.int .i64 its.length)).setCell ⟨w.heap.size,1,none⟩ (.slice ca P.length cc)).setCell ⟨w.heap.size,2,none⟩ (.slice fa P.length fc)).setCell ⟨w.heap.size,3,none⟩ (.slice va (qF ls ls.length).length vc)).cell? ⟨w.heap.size,4,none⟩=some (.int .i64 0):=q4.cell 4;have g4:((((wr.setCell ⟨w.heap.size,0,none⟩ (.int .i64 its.length)).setCell ⟨w.heap.size,1,none⟩ (.slice ca P.length cc)).setCell ⟨w.heap.size,2,none⟩ (.slice fa P.length fc)).setCell ⟨w.heap.size,3,none⟩ (.slice va (qF ls ls.length).length vc)).frozen? ⟨w.heap.size,4,none⟩=false:=q4.frozen 4;have HR5:=zH (hR.base (B':=w.heap.size) (by omega));have HRW5:=zH (ownsRow_base hRw (Nat.le_succ _));have HBB:=zH hBB;clear q0 q1 q2 q3 q4 q5 hR hRw hBB hRS5 hRow hB5 k5 hsd HLV HRS3 HB3 K3 HBX;go_wp2;generalize ((((wr.setCell ⟨w.heap.size,0,none⟩ (.int .i64 its.length)).setCell ⟨w.heap.size,1,none⟩ (.slice ca P.length cc)).setCell ⟨w.heap.size,2,none⟩ (.slice fa P.length fc)).setCell ⟨w.heap.size,3,none⟩ (.slice va (qF ls ls.length).length vc)).setCell ⟨w.heap.size,4,none⟩ (.int .i64 ls.length)=WG at *;have z0:=Q5.out.cell 0;have z1:=Q5.out.cell 1;have z2:=Q5.out.cell 2;have z3:=Q5.out.cell 3;have z4:=Q5.out.cell 4;refine bodyPost_ret (v:=.tuple #[.agg #[.int .i64 its.length,.slice ca P.length cc,.slice fa P.length fc,.slice va (qF ls ls.length).length vc,.int .i64 ls.length],.nilIface]) (by simp[results,Tryz.f38,go_sem,z0,z1,z2,z3,z4]) rfl ?_;exact⟨_,_,_,rfl,HR5.out,HRW5.out,HBB.out⟩
end Go.Proofs.YtlmmkbnjhilbdaaGreatDoor
namespace Go.Proofs
open Go.Shelf
def Tryz.clnInts_ren:Go.Shelf.Ren:=⟨fun|41=>39|n=>n,fun|22=>24|23=>3|4=>4|n=>n,fun|n=>n⟩
theorem Tryz.clnInts:Go.Proofs.SlLaysE0.n41 Tryz.prog Tryz.clnInts_ren:={
 mixed:=by kernel_rfl
 f41:=⟨Tryz.f39.name,by decide,zK Tryz.func39 (by kernel_rfl)⟩
 t4:=Tryz.underlying4
 a4:=Tryz.isAgg4
 z4:=Tryz.sizeOf4
 v4:=Tryz.zeroValue4
 t22:=Tryz.underlying24
 a22:=Tryz.isAgg24
 z22:=Tryz.sizeOf24
 v22:=Tryz.zeroValue24 }
def Tryz.delInt_ren:Go.Shelf.Ren:=⟨fun|45=>41|n=>n,fun|22=>24|23=>3|3=>3|4=>4|0=>0|n=>n,fun|n=>n⟩
theorem Tryz.delInt:Go.Proofs.SlLaysN.n45 Tryz.prog Tryz.delInt_ren:={
 mixed:=by kernel_rfl
 f45:=⟨Tryz.f41.name,by decide,zK Tryz.func41 (by kernel_rfl)⟩
 t0:=Tryz.underlying0
 a0:=Tryz.isAgg0
 z0:=Tryz.sizeOf0
 v0:=Tryz.zeroValue0
 t3:=Tryz.underlying3
 a3:=Tryz.isAgg3
 z3:=Tryz.sizeOf3
 v3:=Tryz.zeroValue3
 t4:=Tryz.underlying4
 a4:=Tryz.isAgg4
 z4:=Tryz.sizeOf4
 v4:=Tryz.zeroValue4
 t22:=Tryz.underlying24
 a22:=Tryz.isAgg24
 z22:=Tryz.sizeOf24
 v22:=Tryz.zeroValue24
 t23:=Tryz.underlying3
 a23:=Tryz.isAgg3
 z23:=Tryz.sizeOf3
 v23:=Tryz.zeroValue3
 i23:=by kernel_rfl }
end Go.Proofs
namespace Go.Proofs.YtlmmkbnjhilbdaaGreatDoor
open Go.RowKit Go.Deep Sv
theorem zeW(c:List Int)(a:Option Addr)(cap:Nat)(w:World)(hp:PlA a)(hi:zW w a c)(hl:c.length<=100000)(h0:a=none->c=[]) :
  zC 39 #[.slice a c.length cap] w fun e w'=>∃v',e=.returned v'/\w'.ownsRow w.heap.size 3 1 v' c.length (icells c)/\zB w w':=by
 obtain⟨i0,hin,hz0,hz1,hz2⟩:=info_parts Zt;cases a with
 |none =>obtain rfl:=h0 rfl;exact(AnyE.slices_Clone_nil Tryz.clnInts 0 cap w).mono fun e w' ⟨he,hw⟩=>⟨_,he,World.ownsRow_nil _ _ _ _,by rw[hw];exact Below.refl _ _⟩
 |some ad =>
  obtain⟨b,o,sp⟩:=ad;obtain rfl:sp=none:=hp _ rfl;refine(AnyE.slices_Clone Tryz.clnInts i0 _ 1 8 hin hz0 hz1 hz2 rfl (by decide) Tryz.sizeOf3 b o c.length cap (icells c) w (by rw[xT];omega) (by unfold maxLen;omega) (by omega) (fun j u hu=>?_) (fun u hu=>by obtain⟨y,_,rfl⟩:=List.mem_map.1 hu;rfl)).mono fun e w' ⟨v',he,h1,_,h3⟩=>⟨v',he,h1,h3⟩;have hj:j<c.length:=by have:=(List.getElem?_eq_some_iff.1 hu).1;rwa [xT] at this
  rw[ZE c j hj] at hu;obtain⟨ad,h1,_,h4⟩:=hi j hj;cases h1;rw[<-hu]
  rwa [add_plain] at h4
theorem zou(c:List Int)(i:Nat)(v:Value)(B:Nat)(w:World)(hv:w.ownsRow B 3 1 v c.length (icells c))(hi:i<c.length) :
  zC 41 #[v,.int .i64 i,.int .i64 ((i+1:Nat):Int)] w fun e w'=>∃v',e=.returned v'/\w'.ownsRow B 3 1 v' (c.eraseIdx i).length (icells (c.eraseIdx i))/\Below B w w':=by
 have hv':w.ownsRow B 3 1 v c.length (c.map (Value.int .i64)):=hv;obtain ⟨g,cap,rfl,hb,hlt,hn,hm,hl',hH⟩:=Lib.holds_of_ownsRow hv' (fun e=>by
  rcases hv.2 with ⟨_,h⟩|⟨g,cap,cur,e',_⟩
  ·omega
  ·rw [e] at e';cases e')
 refine(AnyG.slices_Delete_int Tryz.delInt g 0 cap i (i+1) c w hH hn (by unfold maxLen at hm;omega) (by omega) (by omega)).mono ?_;rintro e w' ⟨rfl,q,rfl⟩;have e1:i+1-i=1:=by omega
 rw[e1];have e2:(c.take i++c.drop (i+1)++List.replicate 1 0).take (c.length-1)=c.eraseIdx i:=by
  rw[List.eraseIdx_eq_take_drop_succ,List.take_append_of_le_length (by simp;omega),List.take_of_length_le (by simp;omega)]
 have hlen:(c.eraseIdx i).length=c.length-1:=List.length_eraseIdx_of_lt hi;have h:=Lib.ownsRow_putRow (q:=q) (k:=c.length-1) (ys:=c.take i++c.drop (i+1)++List.replicate 1 0) hv' (by simp;omega) (by omega);rw[e2] at h;rw[hlen];exact⟨_,rfl,h,Lib.below_putRow zF hb⟩
end Go.Proofs.YtlmmkbnjhilbdaaGreatDoor
namespace Go.Proofs.YtlmmkbnjhilbdaaGreatDoor
open Go.RowKit Go.Deep Sv
def yv(can:List Nat->Bool):Nat->List Nat->List Nat
 |0,left=>left
 |i+1,left=>yv can i (if can (left.eraseIdx i) then left else left.eraseIdx i)
theorem zha(l:List Nat)(i:Nat):zM (l.eraseIdx i)=(zM l).eraseIdx i:=by
 unfold zM;rw[List.eraseIdx_eq_take_drop_succ,List.eraseIdx_eq_take_drop_succ,List.map_append,List.map_take,List.map_drop]
theorem zcA(can:List Nat->Bool)(bk:Nat)(ls:List Ln)(its:List It)(w:World)(h:qA w bk ls its)(hl:its.length<=24)(hll:ls.length<=120)(hnm:∀x∈ls,x.name.size<=100000/\x.other.size<=100000)(hP:(ofL its ls).length<=200)(hc:∀x∈ofL its ls,x.2.length<=1000)
  (hck:∀l,(yb (its.length:Nat) (qm (ofL its ls) (inF ls.length l))).1=0) (hE:∀l b er,YT its.length (qm (ofL its ls) (inF ls.length l)) b er->b=can l/\er=.nilIface) :
  zC 17 #[.pointer (some ⟨bk,0,none⟩)] w fun e w'=>((can (zw ls)=true/\e=.returned (.tuple #[.slice none 0 0,.iface 55 (.int .i64 8)]))\/(can (zw ls)=false/\∃a c,e=.returned (.tuple #[.slice a (yv can (zw ls).length (zw ls)).length c,.nilIface])/\zW w' a (zM (yv can (zw ls).length (zw ls)))))/\zB w w':=by
 have HSA:=zH (zlh bk ls its w h hl hll hnm hP);have HLT:Hid (∀x∈zw ls,x<ls.length):=zb8 ls ls.length;have hsl:(zw ls).length<=ls.length:=JZ ls ls.length;have HCC:Hid (∀ (W:World) (cv fv:Value) (l:List Nat) (la:Option Addr) (lc:Nat) (sa:Option Addr) (sn sc:Nat),RS w.heap.size W cv fv ((ofL its ls).map Prod.snd) ((ofL its ls).map Prod.fst)->zW W la (zM l)->(∀ x ∈ l,x<ls.length)->l.length<=100000 ->
   zR 40 #[.agg #[.int .i64 its.length,cv,fv,.slice sa sn sc,.int .i64 ls.length],.slice la l.length lc] W (.tuple #[.bool (can l),.nilIface])):=fun W cv fv l la lc sa sn sc h1 h2 h3 h4=>by
  refine(zhe w.heap.size its.length (ofL its ls) cv fv ls.length l la lc sa sn sc W h1 h2 h3 (by omega) h4 (by omega) hc (hck l)).mono ?_;rintro e w' ⟨b,er,rfl,hcan,hb⟩;obtain⟨rfl,rfl⟩:=hE l b er hcan;exact⟨rfl,hb⟩
 clear h hnm hc hck hE;generalize ofL its ls=P at *;go_enter Tryz.func17,Tryz.ntmps17;go_wp2_with fail;refine HSA.out.mono ?_;rintro e w1 ⟨cv,fv,lv,rfl,hrs,hrow,hb1⟩;obtain⟨ca,cc,rfl,-⟩:∃a c,cv=.slice a P.length c/\True:=by obtain⟨cs,h1,_⟩:=hrs.crow;obtain⟨a,c,e,_⟩:=(zx h1).form;exact⟨a,c,by simpa using e,trivial⟩
 obtain⟨fa,fc,rfl,-⟩:∃a c,fv=.slice a P.length c/\True:=by obtain⟨a,c,e,_⟩:=(zx hrs.frow).form;exact⟨a,c,by simpa using e,trivial⟩
 obtain⟨sa,sc,hv,hq1,hq2,hq3,hq4⟩:=QV hrow;rw[xm] at hv;subst hv;have hbn:=below_new w1 (.cells #[.int .i64 its.length,.slice ca P.length cc,.slice fa P.length fc,.slice sa (zw ls).length sc,.int .i64 ls.length] 105);have kr:=Blk.new w1 105 #[.int .i64 its.length,.slice ca P.length cc,.slice fa P.length fc,.slice sa (zw ls).length sc,.int .i64 ls.length];have HRS:=zH (hrs.new hbn);have HIN:=zH (hq3.ints.below hbn);have HB2:=zH (zT hb1 hbn);have hns:sa=none->zM (zw ls)=[]:=fun e=>by
  cases hx:zM (zw ls) with
  |nil=>rfl
  |cons y c=>rw[hx] at hq3;obtain⟨ad,h,_⟩:=hq3 0 (by simp);rw[e] at h;cases h
 have hnl:=xm (zw ls);have HCL:=zH (fun W hi=>zeW (zM (zw ls)) sa sc W hq4 hi (by omega) hns);clear hrs hrow hb1 hbn hq1 hq2 hq3 hq4 hns HSA;rw[hnl] at HCL;go_upto_region 4 with fail;generalize w1.alloc (.cells #[.int .i64 its.length,.slice ca P.length cc,.slice fa P.length fc,.slice sa (zw ls).length sc,.int .i64 ls.length] 105)=W2 at *;generalize w1.heap.size=b4 at *;have y3:_=some (Value.slice sa (zw ls).length sc):=kr.cell 3;have HCL2:=zH (HCL.out W2 HIN.out);clear HCL HIN;go_wp2_with fail;refine HCL2.out.mono ?_;rintro e w3 ⟨v3,rfl,hrow3,hb3⟩;rw[<-xm (zw ls)] at hrow3;obtain⟨la,lc,hv,-,-,hi3,hp3⟩:=QV hrow3;rw[xm] at hv;subst hv;have kr3:=kr.below hb3 kr.lt;have e0:_=some (Value.int .i64 its.length):=kr3.cell 0;have e1:_=some (Value.slice ca P.length cc):=kr3.cell 1;have e2:_=some (Value.slice fa P.length fc):=kr3.cell 2;have e3:_=some (Value.slice sa (zw ls).length sc):=kr3.cell 3;have e4:_=some (Value.int .i64 ls.length):=kr3.cell 4;have HCA:=zH (HCC.out w3 _ _ (zw ls) la lc sa (zw ls).length sc (HRS.out.new hb3) hi3.ints HLT.out (by omega));have HB3:Hid (zB w w3):=zT HB2.out hb3;have HR3:Hid (w3.ownsRow w.heap.size 3 1 (.slice la (zw ls).length lc) (zM (zw ls)).length (icells (zM (zw ls)))):=ownsRow_base hrow3 HB2.out.size;have KR:=zH kr3;have HRS3:=zH (HRS.out.new hb3);clear hrow3 hb3 hi3 hp3 kr kr3 HRS HB2 HCL2 y3;cases hcan:can (zw ls) with
 |true =>rw[hcan] at HCA;go_wp2_with fail;refine HCA.out.mono ?_;rintro e w4 ⟨rfl,hb4⟩;have HB4:=zH (zT HB3.out hb4);clear hb4 HCA e0 e1 e2 e3 e4;go_wp2;go_ret2;exact⟨Or.inl ⟨hcan,rfl⟩,HB4.out⟩
 |false =>
  rw[hcan] at HCA;go_wp2_with fail;refine HCA.out.mono ?_;rintro e w4 ⟨rfl,hb4⟩;have HB4:=zH (zT HB3.out hb4);have HR4:=zH (zU HR3.out hb4);have KR4:=zH (KR.out.below hb4 KR.out.lt);have HRS4:=zH (HRS3.out.new hb4);clear hb4 HCA e0 e1 e2 e3 e4 HB3 HR3 KR HRS3;go_wp2_with fail;go_loopw [6,8] (fun lV iV wr=>∃(k:Nat) (left:List Nat) (la:Option Addr) (lc:Nat),lV=.slice la left.length lc/\k<=left.length/\iV=.int .i64 ((k:Int)-1)/\yv can k left=yv can (zw ls).length (zw ls)/\(∀x∈left,x<ls.length)/\left.length<=ls.length/\wr.ownsRow w.heap.size 3 1 (.slice la left.length lc) (zM left).length (icells (zM left))/\zB w4 wr) (fun _ iV _=>(intOf iV+1).toNat)
  case atStart=>exact⟨(zw ls).length,zw ls,la,lc,rfl,Nat.le_refl _,by go_num,rfl,HLT.out,hsl,HR4.out,Below.refl _ _⟩
  case round =>
   clear HR4;obtain⟨k,left,la,lc,rfl,hk,rfl,hgo,hlt,hll2,hrow,hbr⟩:=hrel;cases k with
   |zero =>
    obtain⟨a',c',hv,-,-,hi5,-⟩:=QV hrow;rw[xm] at hv;simp at hv;obtain⟨rfl,rfl⟩:=hv;have HIN:=zH hi5.ints;have HB5:=zH (zT HB4.out hbr);have HGO:=zH hgo;clear hi5 hbr hrow hgo;go_wp2;go_ret2;refine⟨Or.inr ⟨hcan,la,lc,?_,?_⟩,HB5.out⟩
    ·rw[<-HGO.out];rfl
    ·rw[<-HGO.out];exact HIN.out
   |succ j =>
    have hj1:((j+1:Nat):Int)-1=(j:Int):=by omega
    rw[hj1];have hj0:(0:Int)<=(j:Int):=by omega
    have hj2:IntKind.i64.wrap ((j:Int)+1)=((j+1:Nat):Int):=by rw[IntKind.wrap_i64];omega
    obtain⟨a',c',hv,-,-,hi5,hp5⟩:=QV hrow;rw[xm] at hv;simp at hv;obtain⟨rfl,rfl⟩:=hv;have hns:la=none->zM left=[]:=fun e=>by
     cases hx:zM left with
     |nil=>rfl
     |cons y c=>rw[hx] at hi5;obtain⟨ad,h,_⟩:=hi5 0 (by simp);rw[e] at h;cases h
    have hnl2:=xm left;have HCL:=zH (zeW (zM left) la lc wr hp5 hi5.ints (by omega) hns);rw[hnl2] at HCL;have HBR:=zH hbr;have HROW:=zH hrow;have HLT2:=zH hlt;have HGO:=zH hgo;clear hns hi5 hp5 hj1 hbr hrow hlt hgo;go_wp2_with fail;refine HCL.out.mono ?_;rintro e w6 ⟨v6,rfl,hrow6,hb6⟩;rw[<-xm left] at hrow6;have HDE:=zH (zou (zM left) j v6 wr.heap.size w6 hrow6 (by omega));have HB6:Hid (zB wr w6):=hb6;clear HCL hrow6 hb6;go_wp2_with fail;refine HDE.out.mono ?_;rintro e w7 ⟨v7,rfl,hrow7,hb7⟩;rw[<-zha] at hrow7;obtain⟨oa,oc,hv,-,-,hi7,-⟩:=QV hrow7;rw[xm] at hv;subst hv;have hb8:zB wr w7:=HB6.out.trans hb7;have hb9:zB w4 w7:=zT HBR.out hb8;have kr7:=KR4.out.below hb9 KR4.out.lt;have e0:_=some (Value.int .i64 its.length):=kr7.cell 0;have e1:_=some (Value.slice ca P.length cc):=kr7.cell 1;have e2:_=some (Value.slice fa P.length fc):=kr7.cell 2;have e3:_=some (Value.slice sa (zw ls).length sc):=kr7.cell 3;have e4:_=some (Value.int .i64 ls.length):=kr7.cell 4;have hel:(left.eraseIdx j).length=left.length-1:=List.length_eraseIdx_of_lt (by omega);have hlt7:∀x∈left.eraseIdx j,x<ls.length:=fun x hx=>HLT2.out x (List.mem_of_mem_eraseIdx hx);have HCA:=zH (HCC.out w7 _ _ (left.eraseIdx j) oa oc sa (zw ls).length sc (HRS4.out.new hb9) hi7.ints hlt7 (by omega));have HLT7:=zH hlt7;have HEL:=zH hel;have hj3:IntKind.i64.wrap ((j:Int)-1)=(j:Int)-1:=by rw[IntKind.wrap_i64];omega
    have HR7:Hid (w7.ownsRow w.heap.size 3 1 (.slice oa (left.eraseIdx j).length oc) (zM (left.eraseIdx j)).length (icells (zM (left.eraseIdx j)))):=ownsRow_base hrow7 (Nat.le_trans HB4.out.size HBR.out.size);have HRL:=zH (zU HROW.out hb8);have HB9:=zH hb9;clear hrow7 hb7 hi7 hb8 hb9 kr7 hlt7 HDE HB6 HBR HROW hel;cases hcn:can (left.eraseIdx j) with
    |true =>
     rw[hcn] at HCA;have HG2:Hid (yv can j left=yv can (zw ls).length (zw ls)):=by show _=_;rw[<-HGO.out];show _=yv can j _;rw[hcn];rfl
     clear hcn HGO;go_wp2_with fail;refine HCA.out.mono ?_;rintro e w8 ⟨rfl,hb8⟩;have HR8:=zH (zU HRL.out hb8);have HB10:=zH (zT HB9.out hb8);clear hb8 HCA e0 e1 e2 e3 e4 HRL HR7 HB9;go_wp2;go_roundw
     case rel=>exact⟨j,left,la,lc,rfl,by omega,by go_num,HG2.out,HLT2.out,hll2,HR8.out,HB10.out⟩
     case measure=>simp[intOf]
    |false =>
     rw[hcn] at HCA;have HG2:Hid (yv can j (left.eraseIdx j)=yv can (zw ls).length (zw ls)):=by show _=_;rw[<-HGO.out];show _=yv can j _;rw[hcn];rfl
     clear hcn HGO;go_wp2_with fail;refine HCA.out.mono ?_;rintro e w8 ⟨rfl,hb8⟩;have HR8:=zH (zU HR7.out hb8);have HB10:=zH (zT HB9.out hb8);clear hb8 HCA e0 e1 e2 e3 e4 HRL HR7 HB9;go_wp2;go_roundw
     case rel=>exact⟨j,left.eraseIdx j,oa,oc,rfl,by rw[HEL.out];omega,by go_num,HG2.out,HLT7.out,by rw[HEL.out];omega,HR8.out,HB10.out⟩
     case measure=>simp[intOf]
end Go.Proofs.YtlmmkbnjhilbdaaGreatDoor
namespace Go.Proofs.YtlmmkbnjhilbdaaGreatDoor
open Go.RowKit Go.Deep Sv
noncomputable def xi(l:List (List Int)):Bool:=@decide (∃vals,xh vals l) (Classical.propDecidable _)
theorem XY{l:List (List Int)}:xi l=true↔∃vals,xh vals l:=by unfold xi;exact @decide_eq_true_iff _ (Classical.propDecidable _)
theorem zbn{l:List (List Int)}:xi l=false↔∀vals,¬xh vals l:=by
 rw[<-Bool.not_eq_true,XY];exact⟨fun h v hv=>h ⟨v,hv⟩,fun h ⟨v,hv⟩=>h v hv⟩
theorem znP{v:Nat}{l:List (List Int)}{b:Bool}{er:Value}(hv:v<=24)(hl:qs v l)(hn:∀r,Run v l st0 r->r≠.limit)(h:YT v l b er):b=xi l/\er=.nilIface:=by
 obtain⟨r,hr,h⟩:=h;obtain⟨h1,h2⟩:=zo7 hv hl hr (Kt v) (zd9 l);rcases h with ⟨t,rfl,rfl,rfl⟩|⟨p,rfl,rfl,rfl⟩|⟨rfl,-,-⟩
 ·obtain⟨ds,-,hli,hco,-,hall⟩:=h2 t rfl;refine⟨(XY.2 ⟨yO t 24,fun c hc=>?_⟩).symm,rfl⟩;obtain⟨x,hx,ht⟩:=hall c hc;exact⟨x,hx,zhd hli hco hv x ht⟩
 ·exact⟨(zbn.2 (h1 p rfl)).symm,rfl⟩
 ·exact absurd rfl (hn _ hr)
end Go.Proofs.YtlmmkbnjhilbdaaGreatDoor
namespace Go.Proofs.YtlmmkbnjhilbdaaGreatDoor
open Go.RowKit Go.Deep Sv
theorem zaZ:∀(ls:List Ln) (i:Nat) (its out:List It),yo its<=8->zZ ls i its=.ok out->yo out<=8
 |[],i,its,out,h0,h=>by cases h;exact h0
 |x :: r,i,its,out,h0,h=>by
  rw[zZ] at h;split at h
  ·cases h
  ·split at h
   ·split at h
    ·cases h
    ·split at h
     ·cases h
     ·rename_i hx;exact zaZ r (i+1) _ out (by omega) h
   ·exact zaZ r (i+1) its out h0 h
theorem zeU:∀(ls:List Ln) (i:Nat) (its:List It),qZ ls i its=none->∀x∈ls,x.pair->x.it∈its
 |[],_,_,_,x,hx,_=>by cases hx
 |y :: r,i,its,h,x,hx,hp=>by
  unfold qZ at h;split at h
  ·cases h
  ·rename_i hy;rcases List.mem_cons.1 hx with rfl|hx
   ·exact Classical.byContradiction fun e=>hy ⟨hp,e⟩
   ·exact zeU r (i+1) its h x hx hp
theorem zdv{ls:List Ln}{its:List It}(h:qq ls=.ok its):(∀x∈ls,x.pair->x.it∈its)/\∃g:List It,yo g<=8/\its.Perm g:=by
 unfold qq at h;split at h
 ·cases h
 ·split at h
  ·cases h
  ·rename_i g hg;split at h
   ·cases h
   ·rename_i hm;cases h;exact⟨zeU ls 0 _ hm,g,zaZ ls 0 [] g (by decide) hg,Y7 g⟩
def xx(its:List It)(i:Nat):ByteArray:=(its.getD i default).name
theorem zmr{its:List It}(h:Asc its){i j:Nat}(hij:i<j)(hj:j<its.length)(hne:xx its j≠xx its (j-1)):xx its i≠xx its j:=by
 intro e
 by_cases h1:i=j-1
 ·exact hne (h1▸e.symm)
 ·have a1:=KF (Yr h (i:=i) (j:=j-1) (by omega) (by omega));have a2:=KF (Yr h (i:=j-1) (j:=j) hj (by omega));unfold xx at *;rcases a2 with a2|a2
  ·exact hne a2.symm
  ·rcases a1 with a1|a1
   ·exact hne (by rw[<-a1,e])
   ·rw[e] at a1;have:=XQ (its.getD j default).name.data.toList (its.getD (j-1) default).name.data.toList;omega
theorem zjo{ls:List Ln}{its:List It}(h:qq ls=.ok its):(xS (xx its) its.length).length<=8:=by
 have ha:=(zd2 h).1;obtain⟨-,g,hg,hp⟩:=zdv h;refine Nat.le_trans ?_ hg;unfold yo;have hn:((xS (xx its) its.length).map (xx its)).Nodup:=by
  have hlt:∀x∈xS (xx its) its.length,x<its.length/\¬(x≠0/\xx its x=xx its (x-1)):=fun x hx=>by
   unfold xS at hx;have:=List.mem_filter.1 hx;exact⟨List.mem_range.1 this.1,of_decide_eq_true this.2⟩
  have hasc:(xS (xx its) its.length).Pairwise (·<·):=List.Pairwise.filter _ List.pairwise_lt_range;show List.Pairwise _ _;rw[List.pairwise_map];refine(List.pairwise_iff_getElem.2 fun i j hi hj hij=>?_);have hlt2:=List.pairwise_iff_getElem.1 hasc i j hi hj hij;have hj2:=hlt _ (List.getElem_mem hj);exact zmr ha hlt2 hj2.1 (fun e=>hj2.2 ⟨by omega,e⟩)
 have hle:=Qv (m:=(g.map It.name).eraseDups) hn (fun x hx=>by
  obtain⟨i,hi,rfl⟩:=List.mem_map.1 hx;unfold xS at hi;have hil:=List.mem_range.1 (List.mem_filter.1 hi).1;rw[List.mem_eraseDups];refine List.mem_map.2 ⟨its.getD i default,hp.mem_iff.1 ?_,rfl⟩;rw[List.getD_eq_getElem?_getD,List.getElem?_eq_getElem hil];exact List.getElem_mem hil)
 rw[List.length_map] at hle;exact hle
theorem zbe{its:List It}{x:It}(h:x∈its):0<=qT its x/\qT its x<its.length:=by
 unfold qT;cases hf:its.findIdx? (fun y=>decide (x=y)) with
 |none =>rw[List.findIdx?_eq_none_iff] at hf;have:=hf x h;simp at this
 |some i =>rw[List.findIdx?_eq_some_iff_getElem] at hf;obtain⟨hi,_⟩:=hf;exact⟨by simp,by simpa using hi⟩
theorem zb2(its:List It)(nm:ByteArray)(rng:List zg):zY its.length ((qP its nm rng).map fun (k:Nat)=>((k:Int)+1)):=fun x hx=>by
 obtain⟨k,hk,rfl⟩:=List.mem_map.1 hx;have:=Jf its nm rng k hk;rw[qG];omega
theorem Xf{ls:List Ln}{its:List It}(h:qq ls=.ok its):∀x∈ofL its ls,zY its.length x.2/\x.2.length<=48:=by
 intro x hx;have hl:=(YJ h).1;rcases List.mem_append.1 hx with hx|hx
 ·obtain⟨k,hk,hx⟩:=List.mem_flatMap.1 hx;obtain⟨j,hj,hx⟩:=List.mem_flatMap.1 hx;have hk':=List.mem_range.1 hk;have hj':=List.mem_range.1 hj;unfold pr0 at hx;split at hx
  ·rw[List.mem_singleton] at hx;subst hx;refine⟨fun y hy=>?_,by simp⟩;simp only[List.mem_cons,List.not_mem_nil,or_false] at hy;rw[qG];unfold qJ at hy;rcases hy with rfl|rfl<;>omega
  ·cases hx
 ·obtain⟨n,hn,hx⟩:=List.mem_flatMap.1 hx;have hn':=List.mem_range.1 hn;have hmem:ls.getD n default∈ls:=by rw[List.getD_eq_getElem?_getD,List.getElem?_eq_getElem hn'];exact List.getElem_mem hn'
  have hpair:=(zdv h).1 _ hmem;generalize ls.getD n default=X at *;have l1:=Jy its X.name X.rng;have l2:=Jy its X.other X.rng;unfold yj at hx;split at hx
  ·rw[List.mem_singleton] at hx;subst hx;exact⟨zb2 _ _ _,by simp;omega⟩
  ·split at hx
   ·rename_i hk;rw[List.mem_singleton] at hx;subst hx;have hnb:=zbe (hpair (Or.inl hk));refine⟨fun y hy=>?_,by simp;omega⟩;rcases List.mem_cons.1 hy with rfl|hy
    ·rw[qG];unfold qJ;omega
    ·exact zb2 _ _ _ y hy
   ·split at hx
    ·rename_i hk;obtain⟨k,hk2,rfl⟩:=List.mem_map.1 hx;have hnb:=zbe (hpair (Or.inr hk));have hka:=Jf its X.other X.rng k hk2;refine⟨fun y hy=>?_,by simp⟩;simp only[List.mem_cons,List.not_mem_nil,or_false] at hy;rw[qG];unfold qJ at hy;rcases hy with rfl|rfl<;>omega
    ·cases hx
theorem zjC(P:List (Int × List Int))(bs:List Bool):(qm P bs).length<=P.length:=by
 unfold qm;rw[List.length_map];exact List.length_filter_le _ _
theorem zcg{P:List (Int × List Int)}{bs:List Bool}{c:List Int}(h:c∈qm P bs):∃x∈P,x.2=c:=by
 unfold qm at h;obtain⟨x,hx,rfl⟩:=List.mem_map.1 h;exact⟨x,(List.mem_filter.1 hx).1,rfl⟩
theorem zgu{ls:List Ln}{its:List It}(h:qq ls=.ok its)(bs:List Bool):qs its.length (qm (ofL its ls) bs):=fun c hc=>by
 obtain⟨x,hx,rfl⟩:=zcg hc;exact(Xf h x hx).1
theorem zeO{ls:List Ln}{its:List It}(h:qq ls=.ok its)(hP:(ofL its ls).length<=200)(bs:List Bool):(yb (its.length:Nat) (qm (ofL its ls) bs)).1=0:=by
 have hl:=(YJ h).1;rw[zfF (by omega) (by omega) (Nat.le_trans (zjC _ _) hP) (fun j hj=>?_)];have hm:(qm (ofL its ls) bs).getD j []∈qm (ofL its ls) bs:=by rw[List.getD_eq_getElem?_getD,List.getElem?_eq_getElem hj];exact List.getElem_mem hj
 obtain⟨x,hx,e⟩:=zcg hm;obtain⟨h1,h2⟩:=Xf h x hx;rw[<-e];unfold xu;rw[Bool.or_eq_false_iff];refine⟨by simp;omega,?_⟩;rw[List.any_eq_false];intro y hy;simp[h1 y hy]
theorem zg2(its:List It)(ls:List Ln)(bs:List Bool)(i j:Nat)(hij:i<j)(hj:j<its.length)(e:xx its i=xx its j):[-((i:Int)+1),-((j:Int)+1)]∈qm (ofL its ls) bs:=by
 unfold qm;refine List.mem_map.2 ⟨(-1,[-((i:Int)+1),-((j:Int)+1)]),List.mem_filter.2 ⟨List.mem_append.2 (Or.inl ?_),by simp[yN]⟩,rfl⟩;refine List.mem_flatMap.2 ⟨j,List.mem_range.2 hj,List.mem_flatMap.2 ⟨i,List.mem_range.2 hij,?_⟩⟩;unfold pr0;unfold xx at e;rw[if_pos e];simp[qJ]
theorem zb3{ls:List Ln}{its:List It}(h:qq ls=.ok its)(hv:its.length<=12)(bs:List Bool){b:Bool}{er:Value}(hc:YT its.length (qm (ofL its ls) bs) b er):b=xi (qm (ofL its ls) bs)/\er=.nilIface :=
 znP (by omega) (zgu h bs) (fun _ hr=>zjk (xx its) hv (zgu h bs) (zjo h) (zg2 its ls bs) hr) hc
theorem zeC(its:List It)(ls:List Ln):∀x∈ofL its ls,x.1=-1\/∃n:Nat,n<ls.length/\x.1=(n:Int):=by
 intro x hx;rcases List.mem_append.1 hx with hx|hx
 ·obtain⟨k,_,hx⟩:=List.mem_flatMap.1 hx;obtain⟨j,_,hx⟩:=List.mem_flatMap.1 hx;unfold pr0 at hx;split at hx
  ·rw[List.mem_singleton] at hx;subst hx;exact Or.inl rfl
  ·cases hx
 ·obtain⟨n,hn,hx⟩:=List.mem_flatMap.1 hx;refine Or.inr ⟨n,List.mem_range.1 hn,?_⟩;unfold yj at hx;split at hx
  ·rw[List.mem_singleton] at hx;subst hx;rfl
  ·split at hx
   ·rw[List.mem_singleton] at hx;subst hx;rfl
   ·split at hx
    ·obtain⟨k,_,rfl⟩:=List.mem_map.1 hx;rfl
    ·cases hx
theorem zoM(its:List It)(ls:List Ln)(l:List Nat){m:Nat}(hm:ls.length<=m):qm (ofL its ls) (inF m l)=qm (ofL its ls) (inF ls.length l):=by
 unfold qm;congr 1;refine List.filter_congr fun x hx=>?_;rcases zeC its ls x hx with h|⟨n,hn,h⟩
 ·simp[yN,h]
 ·simp only[yN,h,Int.toNat_natCast];rw[QC l hn,QC l (show n<m by omega)]
end Go.Proofs.YtlmmkbnjhilbdaaGreatDoor
