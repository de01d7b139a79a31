/- The search finds what there is, and the first: plain. -/
import Derived.Test.YtiihalknffbjpaaGreatDoorRsCan
set_option maxHeartbeats 1000000
set_option maxRecDepth 100000
namespace Go.Proofs.YtiihalknffbjpaaGreatDoor
section
open Go.RowKit Go.Deep Sv
def zaR(ls:List Ln)(i:Nat):List Nat:=(List.range i).filter fun n=>(ls.getD n default).kind != 1
def zbF(ls:List Ln):List Nat:=zaR ls ls.length
theorem zd0(ls:List Ln)(i:Nat):zaR ls (i+1)=zaR ls i++(if (ls.getD i default).kind != 1 then [i] else []):=by
 unfold zaR;rw[List.range_succ,List.filter_append];congr 1
 by_cases h:((ls.getD i default).kind != 1)=true
 ·rw[if_pos h,List.filter_cons,if_pos h,List.filter_nil]
 ·rw[if_neg h,List.filter_cons,if_neg h,List.filter_nil]
theorem zeE(ls:List Ln)(i:Nat):(zaR ls i).length<=i:=by
 unfold zaR;refine Nat.le_trans (List.length_filter_le _ _) ?_;simp
theorem ziO(ls:List Ln)(i:Nat):∀x∈zaR ls i,x<i:=fun x hx=>by
 unfold zaR at hx;simpa using (List.mem_filter.1 hx).1
theorem zce(l:List Nat):(zbE l).length=l.length:=by simp[zbE]
theorem zlb(l:List Nat)(n:Nat):zbE (l++[n])=zbE l++[(n:Int)]:=by simp[zbE]
theorem RS.setS{B b i:Nat}{W:World}{cv fv v:Value}{K:List (List Int)}{F:List Int}{cs:Array Value}(h:RS B W cv fv K F)(hb:Blk W b 202 cs)(hlt:b<B):RS B (W.setCell ⟨b,i,none⟩ v) cv fv K F:=by
 obtain⟨c,h1,h2,h3⟩:=h.crow;exact⟨⟨c,zar h1 hlt,h2.kp (Kp.set (Nat.zero_le _) hb (by decide)),h3⟩,zar h.frow hlt⟩
structure SD(W5 wr:World)(n:Int)(cv fv lv:Value)(m:Int)(l:List Nat):Prop where
 blk:Blk wr W5.heap.size 202 #[.int .i64 n,cv,fv,lv,.int .i64 m]
 row:wr.ownsRow (W5.heap.size+1) 3 1 lv (zbE l).length (zaf (zbE l))
 B:zB W5 wr
theorem SD.new{W5 wr w':World}{n m:Int}{cv fv lv:Value}{l:List Nat}(h:SD W5 wr n cv fv lv m l)(hb:zB wr w'):SD W5 w' n cv fv lv m l :=
 ⟨h.blk.below hb h.blk.lt,zad h.row hb,zT h.B hb⟩
theorem SD.app{W5 W w7:World}{n m:Int}{cv fv lv v':Value}{l:List Nat}{x:Nat}(h:SD W5 W n cv fv lv m l)
  (hown:w7.ownsRow (W5.heap.size+1) 3 1 v' ((zbE l).length+1) (zaf (zbE l)++[.int .i64 x])) (hg:(W.alloc (.cells #[.int .i64 x] 3)).grownBy w7 lv.ownBlock) :
  Blk w7 W5.heap.size 202 #[.int .i64 n,cv,fv,lv,.int .i64 m]/\SD W5 (w7.setCell ⟨W5.heap.size,3,none⟩ v') n cv fv v' m (l++[x]):=by
 have hbn:=zac W (.cells #[.int .i64 x] 3);have hl:=h.blk.lt;have hne:some W5.heap.size≠lv.ownBlock:=fun e=>by have:=(h.row.lt _ e.symm).1;omega
 have q5:=(h.blk.below hbn hl).kept hg hne;have hB7:zB W5 w7:=h.B.trans ((hbn.mono (by omega)).grown hg (by simp;omega) (fun k hk=>by have:=(h.row.lt k hk).1;omega));refine⟨q5,q5.set (i:=3),?_,hB7.setCell (p:=⟨W5.heap.size,3,none⟩) zN _⟩;rw[zlb,zao,List.length_append];exact zar hown (by omega)
theorem zoZ(bk:Nat)(ls:List Ln)(its:List It)(w:World)(h:zdv w bk ls its)(hl:its.length<=24)(hll:ls.length<=120)(hnm:∀x∈ls,x.name.size<=100000/\x.other.size<=100000)(hP:(ofL its ls).length<=200) :
  zC 108 #[.pointer (some ⟨bk,0,none⟩)] w fun e w'=>∃cv fv lv,e=.returned (.tuple #[.agg #[.int .i64 its.length,cv,fv,lv,.int .i64 ls.length],.nilIface])/\RS w.heap.size w' cv fv ((ofL its ls).map Prod.snd) ((ofL its ls).map Prod.fst)/\w'.ownsRow w.heap.size 3 1 lv (zbE (zbF ls)).length (zaf (zbE (zbF ls)))/\zB w w':=by
 obtain⟨i0,hin,hz0,hz1,hz2⟩:=info_parts zbe;have hbx:=zac w (.cells #[.int .i64 0,.slice none 0 0,.slice none 0 0,.slice none 0 0,.int .i64 0] 202);have k2:=Blk.new w 202 #[.int .i64 0,.slice none 0 0,.slice none 0 0,.slice none 0 0,.int .i64 0];have hc0:=h.below hbx zN;have HOF0:=zsI bk ls its _ hc0 hl hll hnm;have HC:=zH hc0;have hs0:(w.alloc (.cells #[.int .i64 0,.slice none 0 0,.slice none 0 0,.slice none 0 0,.int .i64 0] 202)).heap.size=w.heap.size+1:=by simp
 have HBX:=zH hbx;generalize ofL its ls=P at *;clear h hnm hbx hc0;go_enter Tryz.func108,Tryz.ntmps108;go_upto_region 1 with fail;generalize w.alloc (.cells #[.int .i64 0,.slice none 0 0,.slice none 0 0,.slice none 0 0,.int .i64 0] 202)=W0 at *;have HOF:Hid (zC 73 #[.pointer (some ⟨bk,0,none⟩)] W0 fun e w'=>∃cv fv,e=.returned (.tuple #[.agg #[.int .i64 its.length,cv,fv],.nilIface])/\RS W0.heap.size w' cv fv (P.map Prod.snd) (P.map Prod.fst)/\zB W0 w'):=HOF0.mono fun e w' hh=>by
  rcases hh with ⟨h1,_⟩|⟨-,cv,fv,h2,h3,h4⟩
  ·omega
  ·exact⟨cv,fv,h2,h3,h4⟩
 clear HOF0;go_wp2_with fail;refine HOF.out.mono ?_;rintro e w1 ⟨cv,fv,rfl,hrs,hb1⟩;obtain⟨ca,cc,rfl,-⟩:∃a c,cv=.slice a P.length c/\True:=by obtain⟨cs,h1,_⟩:=hrs.crow;obtain⟨a,c,e,_⟩:=(zaa h1).form;exact⟨a,c,by simpa using e,trivial⟩
 obtain⟨fa,fc,rfl,-⟩:∃a c,fv=.slice a P.length c/\True:=by obtain⟨a,c,e,_⟩:=(zaa hrs.frow).form;exact⟨a,c,by simpa using e,trivial⟩
 have hbn:=zac w1 (.cells #[.int .i64 its.length,.slice ca P.length cc,.slice fa P.length fc] 65);have kr:=Blk.new w1 65 #[.int .i64 its.length,.slice ca P.length cc,.slice fa P.length fc];have hb2:=zT hb1 hbn;have HRS:=zH (hrs.new hbn);have HB2:=zH hb2;have HLN:=zH (zp9 bk ls its _ (HC.out.below hb2 zN) (by omega));have K2:=zH (k2.below hb2 k2.lt);clear hrs hb1 hbn hb2 HOF HC k2;go_upto_region 4 with fail;generalize w1.alloc (.cells #[.int .i64 its.length,.slice ca P.length cc,.slice fa P.length fc] 65)=W2 at *;generalize w1.heap.size=b4 at *;go_wp2_with fail;refine HLN.out.mono ?_;rintro e w3 ⟨lv,rfl,hlv,hb3⟩;obtain⟨la,lc,rfl⟩:∃a c,lv=.slice a ls.length c:=by obtain⟨vs',_,h2⟩:=hlv;obtain⟨a,c,e,_⟩:=h2.form;exact⟨a,c,e⟩
 have kr3:=kr.below hb3 kr.lt;have r0:_=some (Value.int .i64 its.length):=kr3.cell 0;have r1:_=some (Value.slice ca P.length cc):=kr3.cell 1;have r2:_=some (Value.slice fa P.length fc):=kr3.cell 2;have HRS3:=zH (HRS.out.new hb3);have HB3:Hid (zB W0 w3):=zT HB2.out hb3;have K3:=zH (K2.out.below hb3 K2.out.lt);have HLV:=zH hlv;have hsd:SD w3 (w3.alloc (.cells #[.int .i64 its.length,.slice ca P.length cc,.slice fa P.length fc,.slice none 0 0,.int .i64 ls.length] 202)) (its.length:Int) (.slice ca P.length cc) (.slice fa P.length fc) (.slice none 0 0) (ls.length:Int) (zaR ls 0):=⟨Blk.new _ _ _,World.ownsRow_nil _ _ _ _,zac _ _⟩;have HSD:=zH hsd;clear hlv hb3 kr kr3 HRS HB2 K2 HLN hsd;go_upto_region 6 with fail;generalize w3.alloc (.cells #[.int .i64 its.length,.slice ca P.length cc,.slice fa P.length fc,.slice none 0 0,.int .i64 ls.length] 202)=W5 at *;clear r0 r1 r2;go_wp2_with fail;go_loopw [27] (fun iV wr=>∃(i:Nat) (lv:Value),i<=ls.length/\iV=.int .i64 i/\SD w3 wr (its.length:Int) (.slice ca P.length cc) (.slice fa P.length fc) lv (ls.length:Int) (zaR ls i)) (fun iV _=>ls.length-(intOf iV).toNat)
 case atStart=>exact⟨0,_,Nat.zero_le _,rfl,HSD.out⟩
 case round =>
  clear HSD;obtain⟨i,lv,hil,rfl,hsd⟩:=hrel
  by_cases hlt:i<ls.length
  ·have hii0:(0:Int)<=(i:Int):=by omega
   have hii1:(i:Int)<(ls.length:Int):=by omega
   obtain⟨g,cap',rv,e,hg,hsp,hrg,c0,c1,c2,c3,c4,c5,c6⟩:=(HLV.out.below hsd.B zN).at i hlt;simp at e;obtain⟨rfl,rfl⟩:=e;have HSU:=zH (zd0 ls i);have hpl:=zeE ls i;obtain⟨x,hxe⟩:∃x,ls.getD i default=x:=⟨_,rfl⟩;rw[hxe] at hsp hrg c0 c1 c2 c3 c4 c5 HSU;obtain⟨ra,rc,rfl⟩:=hsp.form;have hb6:=zac wr (.cells #[.int .i64 x.kind,.string x.name,.int .i64 x.a,.int .i64 x.b,.int .i64 x.c,.string x.other,.slice ra x.rng.length rc] 130);have kx:=Blk.new wr 130 #[.int .i64 x.kind,.string x.name,.int .i64 x.a,.int .i64 x.b,.int .i64 x.c,.string x.other,.slice ra x.rng.length rc];have HSD:=zH (hsd.new hb6);obtain⟨va,vc,hve,-⟩:=(zaa hsd.row).form;rw[zce] at hve;subst hve;clear hsd hb6 hsp hrg hxe;go_upto_region 9 with fail;generalize wr.alloc (.cells #[.int .i64 x.kind,.string x.name,.int .i64 x.a,.int .i64 x.b,.int .i64 x.c,.string x.other,.slice ra x.rng.length rc] 130)=W6 at *;generalize wr.heap.size=bx at *;have x0:_=some (Value.int .i64 x.kind):=kx.cell 0;clear c0 c1 c2 c3 c4 c5 c6 hg kx;cases hk:(x.kind != 1) with
   |true =>
    have hk1:(x.kind != 1)=true:=hk;have d3:_=some (Value.slice va (zaR ls i).length vc):=HSD.out.blk.cell 3;have HRW:Hid (W6.ownsRow (w3.heap.size+1) 3 1 (.slice va (zaR ls i).length vc) (zaR ls i).length (zaf (zbE (zaR ls i)))):=by have:=HSD.out.row;rw[zce] at this;exact this
    have HAP:=zH (fun w7 v'=>HSD.out.app (w7:=w7) (v':=v') (x:=i));rw[hk,if_pos rfl] at HSU;have hws:=HSD.out.blk.lt;clear hk HSD;go_wp2_with (at_builtin;refine wpList_append_own_at _ rfl _ _ 47 rfl (w3.heap.size+1) 3 i0 (.int .i64 0) 1 8 Tryz.underlying47 hin hz0 hz1 hz2 rfl (by decide) _ _ _ rfl (HRW.out.alloc _) ⟨W6.heap.size,0,none⟩ 1 1 [.int .i64 i] rfl rfl ?a1 ?a2 ?a3 ?a4 ?a5 ?_)
    case a1=>exact zoP _ _ _
    case a2=>intro u hu;rw[List.mem_singleton] at hu;subst hu;rfl
    case a3=>unfold maxLen;omega
    case a4=>omega
    case a5=>simp;omega
    intro v7 w7 hown7 hgrow7 _ hloc7;obtain⟨kb7,hsd7⟩:=HAP.out w7 v7 (by rw[zce];exact hown7) hgrow7;rw[<-HSU.out] at hsd7;have e3:_=some (Value.slice va (zaR ls i).length vc):=kb7.cell 3;have f3:=kb7.frozen 3;obtain⟨va7,vc7,hve,-⟩:=(zaa hown7).form;have HSD7:=zH hsd7;clear hown7 hgrow7 hloc7 HAP HRW d3 HSU kb7 hsd7;subst hve;go_wp2;go_roundw
    case rel=>exact⟨i+1,_,hlt,by go_num,HSD7.out⟩
    case measure=>simp[intOf];omega
   |false =>
    rw[hk,if_neg (by simp),List.append_nil] at HSU;have hk1:(x.kind != 1)=false:=hk;have HSD7:Hid (SD w3 W6 (its.length:Int) (.slice ca P.length cc) (.slice fa P.length fc) (.slice va (zaR ls i).length vc) (ls.length:Int) (zaR ls (i+1))):=by show SD _ _ _ _ _ _ _ _;rw[HSU.out];exact HSD.out
    clear hk HSD HSU;go_wp2;go_roundw
    case rel=>exact⟨i+1,_,hlt,by go_num,HSD7.out⟩
    case measure=>simp[intOf];omega
  ·obtain rfl:i=ls.length:=by omega
   obtain⟨va,vc,hve,-⟩:=(zaa hsd.row).form;rw[zce] at hve;subst hve;have hs3:=HB3.out.size;have y0:_=some (Value.int .i64 its.length):=hsd.blk.cell 0;have y1:_=some (Value.slice ca P.length cc):=hsd.blk.cell 1;have y2:_=some (Value.slice fa P.length fc):=hsd.blk.cell 2;have y3:_=some (Value.slice va (zaR ls ls.length).length vc):=hsd.blk.cell 3;have y4:_=some (Value.int .i64 ls.length):=hsd.blk.cell 4;have k5:=K3.out.below hsd.B K3.out.lt;have hRS5:=(HRS3.out.new hsd.B).base (B':=w.heap.size+1) (by omega);have hRow:wr.ownsRow (w.heap.size+1) 3 1 (.slice va (zaR ls ls.length).length vc) (zbE (zaR ls ls.length)).length (zaf (zbE (zaR ls ls.length))):=zal hsd.row (by omega);have hB5:zB w wr:=HBX.out.trans ((HB3.out.trans (hsd.B.mono hs3)).mono (by omega));have q0:=k5;have q1:=q0.set (i:=0) (v:=.int .i64 its.length);have q2:=q1.set (i:=1) (v:=.slice ca P.length cc);have q3:=q2.set (i:=2) (v:=.slice fa P.length fc);have q4:=q3.set (i:=3) (v:=.slice va (zaR ls ls.length).length vc);have q5:=q4.set (i:=4) (v:=.int .i64 ls.length);have hR:=((((hRS5.setS (i:=0) (v:=.int .i64 its.length) q0 (by omega)).setS (i:=1) (v:=.slice ca P.length cc) q1 (by omega)).setS (i:=2) (v:=.slice fa P.length fc) q2 (by omega)).setS (i:=3) (v:=.slice va (zaR ls ls.length).length vc) q3 (by omega)).setS (i:=4) (v:=.int .i64 ls.length) q4 (by omega);have hRw:=zar (b:=w.heap.size) (i:=4) (x:=.int .i64 ls.length) (zar (b:=w.heap.size) (i:=3) (x:=.slice va (zaR ls ls.length).length vc) (zar (b:=w.heap.size) (i:=2) (x:=.slice fa P.length fc) (zar (b:=w.heap.size) (i:=1) (x:=.slice ca P.length cc) (zar (b:=w.heap.size) (i:=0) (x:=.int .i64 its.length) hRow (by omega)) (by omega)) (by omega)) (by omega)) (by omega);have hBB:=(((((hB5.setCell (p:=⟨w.heap.size,0,none⟩) zN (.int .i64 its.length)).setCell (p:=⟨w.heap.size,1,none⟩) zN (.slice ca P.length cc)).setCell (p:=⟨w.heap.size,2,none⟩) zN (.slice fa P.length fc)).setCell (p:=⟨w.heap.size,3,none⟩) zN (.slice va (zaR ls ls.length).length vc)).setCell (p:=⟨w.heap.size,4,none⟩) zN (.int .i64 ls.length));have Q5:Hid (Blk (((((wr.setCell ⟨w.heap.size,0,none⟩ (.int .i64 its.length)).setCell ⟨w.heap.size,1,none⟩ (.slice ca P.length cc)).setCell ⟨w.heap.size,2,none⟩ (.slice fa P.length fc)).setCell ⟨w.heap.size,3,none⟩ (.slice va (zaR ls ls.length).length vc)).setCell ⟨w.heap.size,4,none⟩ (.int .i64 ls.length)) w.heap.size 202 #[.int .i64 its.length,.slice ca P.length cc,.slice fa P.length fc,.slice va (zaR ls ls.length).length vc,.int .i64 ls.length]):=q5;have e0:_=some (Value.int .i64 0):=q0.cell 0;have g0:=q0.frozen 0;have e1:(wr.setCell ⟨w.heap.size,0,none⟩ (.int .i64 its.length)).cell? ⟨w.heap.size,1,none⟩=some (.slice none 0 0):=q1.cell 1;have g1:(wr.setCell ⟨w.heap.size,0,none⟩ (.int .i64 its.length)).frozen? ⟨w.heap.size,1,none⟩=false:=q1.frozen 1;have e2:((wr.setCell ⟨w.heap.size,0,none⟩ (.int .i64 its.length)).setCell ⟨w.heap.size,1,none⟩ (.slice ca P.length cc)).cell? ⟨w.heap.size,2,none⟩=some (.slice none 0 0):=q2.cell 2;have g2:((wr.setCell ⟨w.heap.size,0,none⟩ (.int .i64 its.length)).setCell ⟨w.heap.size,1,none⟩ (.slice ca P.length cc)).frozen? ⟨w.heap.size,2,none⟩=false:=q2.frozen 2;have e3:(((wr.setCell ⟨w.heap.size,0,none⟩ (.int .i64 its.length)).setCell ⟨w.heap.size,1,none⟩ (.slice ca P.length cc)).setCell ⟨w.heap.size,2,none⟩ (.slice fa P.length fc)).cell? ⟨w.heap.size,3,none⟩=some (.slice none 0 0):=q3.cell 3;have g3:(((wr.setCell ⟨w.heap.size,0,none⟩ (.int .i64 its.length)).setCell ⟨w.heap.size,1,none⟩ (.slice ca P.length cc)).setCell ⟨w.heap.size,2,none⟩ (.slice fa P.length fc)).frozen? ⟨w.heap.size,3,none⟩=false:=q3.frozen 3;have e4:((((wr.setCell ⟨w.heap.size,0,none⟩ (.int .i64 its.length)).setCell ⟨w.heap.size,1,none⟩ (.slice ca P.length cc)).setCell ⟨w.heap.size,2,none⟩ (.slice fa P.length fc)).setCell ⟨w.heap.size,3,none⟩ (.slice va (zaR ls ls.length).length vc)).cell? ⟨w.heap.size,4,none⟩=some (.int .i64 0):=q4.cell 4;have g4:((((wr.setCell ⟨w.heap.size,0,none⟩ (.int .i64 its.length)).setCell ⟨w.heap.size,1,none⟩ (.slice ca P.length cc)).setCell ⟨w.heap.size,2,none⟩ (.slice fa P.length fc)).setCell ⟨w.heap.size,3,none⟩ (.slice va (zaR ls ls.length).length vc)).frozen? ⟨w.heap.size,4,none⟩=false:=q4.frozen 4;have HR5:=zH (hR.base (B':=w.heap.size) (by omega));have HRW5:=zH (zal hRw (Nat.le_succ _));have HBB:=zH hBB;clear q0 q1 q2 q3 q4 q5 hR hRw hBB hRS5 hRow hB5 k5 hsd HLV HRS3 HB3 K3 HBX;go_wp2;generalize ((((wr.setCell ⟨w.heap.size,0,none⟩ (.int .i64 its.length)).setCell ⟨w.heap.size,1,none⟩ (.slice ca P.length cc)).setCell ⟨w.heap.size,2,none⟩ (.slice fa P.length fc)).setCell ⟨w.heap.size,3,none⟩ (.slice va (zaR ls ls.length).length vc)).setCell ⟨w.heap.size,4,none⟩ (.int .i64 ls.length)=WG at *;have z0:=Q5.out.cell 0;have z1:=Q5.out.cell 1;have z2:=Q5.out.cell 2;have z3:=Q5.out.cell 3;have z4:=Q5.out.cell 4;refine bodyPost_ret (v:=.tuple #[.agg #[.int .i64 its.length,.slice ca P.length cc,.slice fa P.length fc,.slice va (zaR ls ls.length).length vc,.int .i64 ls.length],.nilIface]) (by simp[results,Tryz.f108,go_sem,z0,z1,z2,z3,z4]) rfl ?_;exact⟨_,_,_,rfl,HR5.out,HRW5.out,HBB.out⟩
end
section
open Sv
def Asc(l:List It):Prop:=l.Pairwise fun x y=>zaW x y<0
theorem zdr:∀(ls:List Ln) (i:Nat) (its out:List It),its.Nodup->za2 ls i its=.ok out->out.Nodup
 |[],i,its,out,h0,h=>by cases h;exact h0
 |x :: r,i,its,out,h0,h=>by
  rw[za2] at h;split at h
  ·cases h
  ·split at h
   ·split at h
    ·cases h
    ·rename_i hx;split at h
     ·cases h
     ·refine zdr r (i+1) _ out ?_ h;rw[List.nodup_append];exact ⟨h0,by simp,fun a ha b hb=>by
       have:b=x.it:=by simpa using hb
       subst this;exact fun e=>hx (e ▸ ha)⟩
   ·exact zdr r (i+1) its out h0 h
def zfH(ls:List Ln):List It:=(ls.filter fun x=>decide (x.kind=1)).map Ln.it
theorem ze9:∀(ls:List Ln) (i:Nat) (its out:List It),za2 ls i its=.ok out->out=its++zfH ls
 |[],i,its,out,h=>by cases h;simp[zfH]
 |x :: r,i,its,out,h=>by
  rw[za2] at h;split at h
  ·cases h
  ·split at h
   ·rename_i hk;split at h
    ·cases h
    ·split at h
     ·cases h
     ·have:=ze9 r (i+1) _ out h;rw[this];simp[zfH,hk]
   ·rename_i hk;have:=ze9 r (i+1) its out h;rw[this];simp[zfH,hk]
theorem znG{l:List It}(h:l.Nodup):Asc (zbX l):=by
 have hs:(zbX l).Pairwise fun x y=>(!decide (zaW y x<0))=true:=by
  unfold zbX;refine List.pairwise_mergeSort ?_ ?_ l
  ·intro a b c h1 h2;simp only[Bool.not_eq_true',decide_eq_false_iff_not] at h1 h2 ⊢;intro h3;rcases Int.lt_trichotomy (zaW b a) 0 with q|q|q
   ·exact h1 q
   ·have e:=zdx _ _ q;subst e;exact h2 h3
   ·have q':zaW a b<0:=by rw[zbL];omega
    exact h2 (zdm _ _ _ h3 q')
  ·intro a b;simp only[Bool.or_eq_true,Bool.not_eq_true',decide_eq_false_iff_not];have:=zbL a b;omega
 have hn:(zbX l).Nodup:=(zbK l).nodup_iff.2 h;refine(hs.and hn).imp fun {a b} hab=>?_;obtain⟨h1,h2⟩:=hab;simp only[Bool.not_eq_true',decide_eq_false_iff_not] at h1;have h3:=zbL a b;rcases Int.lt_trichotomy (zaW a b) 0 with q|q|q
 ·exact q
 ·exact absurd (zdx _ _ q) h2
 ·omega
theorem zpt{a b:List It}(ha:Asc a)(hb:Asc b)(h:a.Perm b):a=b:=by
 refine List.Perm.eq_of_pairwise (le:=fun x y=>zaW x y<0) ?_ ha hb h;intro x y _ _ h1 h2;have:=zbL x y;omega
def zbk(l:List It)(x:It):Nat->Nat
 |0=>0
 |i+1=>if zaW x (l.getD i default)<0 then zbk l x i else i+1
def zc7(l:List It)(x:It)(i:Nat):List It:=l.take i++x :: l.drop i
def zcW:List Ln->List It->List It
 |[],acc=>acc
 |x :: r,acc=>if x.kind=1 then zcW r (zc7 acc x.it (zbk acc x.it acc.length)) else zcW r acc
theorem zhi(l:List It)(x:It):∀n,zbk l x n<=n
 |0=>Nat.le_refl _
 |n+1=>by
  unfold zbk;split
  ·have:=zhi l x n;omega
  ·exact Nat.le_refl _
theorem zee(l:List It)(x:It):∀n j,zbk l x n<=j->j<n->zaW x (l.getD j default)<0
 |0,j,_,h=>by omega
 |n+1,j,h1,h2=>by
  unfold zbk at h1;split at h1
  ·rename_i hc;rcases Nat.lt_or_ge j n with h|h
   ·exact zee l x n j h1 h
   ·obtain rfl:j=n:=by omega
    exact hc
  ·omega
theorem zeI(l:List It)(x:It):∀n k,zbk l x n=k+1->¬zaW x (l.getD k default)<0
 |0,k,h=>by simp[zbk] at h
 |n+1,k,h=>by
  unfold zbk at h;split at h
  ·exact zeI l x n k h
  ·rename_i hc;obtain rfl:n=k:=by omega
   exact hc
theorem zdZ(l:List It)(x:It)(i:Nat):(zc7 l x i).Perm (x :: l):=by
 unfold zc7;have h:=List.perm_middle (a:=x) (l₁:=l.take i) (l₂:=l.drop i)
 rwa [List.take_append_drop] at h
theorem zeL(l:List It)(x:It)(i:Nat):(zc7 l x i).length=l.length+1:=by rw[(zdZ l x i).length_eq];rfl
theorem zqF{l:List It}{x:It}(hl:Asc l)(hx:x∉l):Asc (zc7 l x (zbk l x l.length)):=by
 obtain⟨p,hp⟩:∃p,zbk l x l.length=p:=⟨_,rfl⟩;rw[hp];have hple:p<=l.length:=by rw[<-hp];exact zhi l x _
 have gd:∀j (hj:j<l.length),l.getD j default=l[j]:=fun j hj=>by rw[List.getD_eq_getElem?_getD,List.getElem?_eq_getElem hj];rfl
 have habove:∀y∈l.drop p,zaW x y<0:=fun y hy=>by
  obtain⟨j,hj,rfl⟩:=List.getElem_of_mem hy;simp only[List.length_drop] at hj;rw[List.getElem_drop,<-gd (p+j) (by omega)];exact zee l x l.length (p+j) (by omega) (by omega)
 have hsplit:Asc (l.take p++l.drop p):=by rw[List.take_append_drop];exact hl
 obtain⟨h1,h2,h3⟩:=List.pairwise_append.1 hsplit;have hbelow:∀y∈l.take p,zaW y x<0:=fun y hy=>by
  cases p with
  |zero=>simp at hy
  |succ k =>
   have hk:k<l.length:=by omega
   have hs:=zeI l x l.length k hp;rw[gd k hk] at hs;have hne:zaW x l[k]≠0:=fun e=>hx (zdx _ _ e▸List.getElem_mem hk);have hkx:zaW l[k] x<0:=by rw[zbL];omega
   obtain⟨j,hj,rfl⟩:=List.getElem_of_mem hy;simp only[List.length_take] at hj;rw[List.getElem_take];rcases Nat.lt_or_ge j k with h|h
   ·exact zdm _ _ _ ((List.pairwise_iff_getElem.1 hl) j k (by omega) hk h) hkx
   ·obtain rfl:j=k:=by omega
    exact hkx
 unfold zc7;refine List.pairwise_append.2 ⟨h1,List.pairwise_cons.2 ⟨habove,h2⟩,fun a ha b hb=>?_⟩;rcases List.mem_cons.1 hb with rfl|hb
 ·exact hbelow a ha
 ·exact h3 a ha b hb
theorem zdz:∀(ls:List Ln) (acc:List It),(zcW ls acc).Perm (acc++zfH ls)
 |[],acc=>by simp[zcW,zfH]
 |x :: r,acc=>by
  unfold zcW;split
  ·rename_i hk;refine(zdz r _).trans ?_;have e:zfH (x :: r)=x.it :: zfH r:=by simp[zfH,hk]
   rw[e];exact((zdZ acc x.it _).append_right _).trans List.perm_middle.symm
  ·rename_i hk;have e:zfH (x :: r)=zfH r:=by simp[zfH,hk]
   rw[e];exact zdz r acc
theorem zfY:∀(ls:List Ln) (acc:List It),Asc acc->(acc++zfH ls).Nodup->Asc (zcW ls acc)
 |[],acc,h,_=>by simpa[zcW] using h
 |x :: r,acc,h,hn=>by
  unfold zcW;split
  ·rename_i hk;have e:zfH (x :: r)=x.it :: zfH r:=by simp[zfH,hk]
   rw[e] at hn;have hx:x.it∉acc:=fun ha=>(List.nodup_append.1 hn).2.2 _ ha _ (by simp) rfl;refine zfY r _ (zqF h hx) ?_;refine(List.Perm.nodup_iff ?_).2 hn;exact((zdZ acc x.it _).append_right _).trans List.perm_middle.symm
  ·rename_i hk;have e:zfH (x :: r)=zfH r:=by simp[zfH,hk]
   rw[e] at hn;exact zfY r acc h hn
theorem zhQ{ls:List Ln}{its:List It}(h:zcr ls=.ok its):Asc its/\zcW ls []=its:=by
 unfold zcr at h;split at h
 ·cases h
 ·split at h
  ·cases h
  ·rename_i g hg;split at h
   ·cases h
   ·cases h;have hn:=zdr ls 0 [] g (by simp) hg;have hi:=ze9 ls 0 [] g hg;simp only[List.nil_append] at hi;have ha:=znG hn;refine⟨ha,zpt (zfY ls [] List.Pairwise.nil (by simpa[<-hi] using hn)) ha ?_⟩;refine(zdz ls []).trans ?_;simp only[List.nil_append,<-hi];exact(zbK g).symm
def zsP(l:List It)(name:ByteArray)(k:Nat):Option (Nat × Nat)->Prop
 |none=>∀i,i<k->(l.getD i default).name≠name
 |some (lo,hi)=>lo<hi/\hi<=k/\(l.getD lo default).name=name/\(l.getD (hi-1) default).name=name/\∀i,i<k->(l.getD i default).name=name->lo<=i/\i<hi
theorem zo9(l:List It)(name:ByteArray):∀k,k<=l.length->zsP l name k (za6 (l.take k) name)
 |0,_=>by
  simp only[List.take_zero];exact fun i h=>by omega
 |k+1,hk=>by
  have ih:=zo9 l name k (by omega);have e:l.take (k+1)=l.take k++[l.getD k default]:=by
   rw[List.take_add_one,List.getD_eq_getElem?_getD,List.getElem?_eq_getElem (by omega)];rfl
  have hlen:(l.take k).length=k:=by rw[List.length_take];omega
  rw[e,zdj,hlen];cases hr:za6 (l.take k) name with
  |none =>
   rw[hr] at ih;split
   ·rename_i hx;refine⟨by simp,by simp,by simpa using hx,by simpa using hx,fun i hi hn=>?_⟩;rcases Nat.lt_or_ge i k with h|h
    ·exact absurd hn (ih i h)
    ·simp;omega
   ·rename_i hx;intro i hi;rcases Nat.lt_or_ge i k with h|h
    ·exact ih i h
    ·obtain rfl:i=k:=by omega
     exact hx
  |some p =>
   obtain⟨lo,hi⟩:=p;rw[hr] at ih;obtain⟨h1,h2,h3,h4,h5⟩:=ih;split
   ·rename_i hx;show lo<k+1/\_;refine⟨by omega,Nat.le_refl _,h3,by simpa using hx,fun i hi hn=>?_⟩;rcases Nat.lt_or_ge i k with h|h
    ·have:=h5 i h hn;exact⟨this.1,by omega⟩
    ·exact⟨show lo<=i by omega,by omega⟩
   ·rename_i hx;refine⟨h1,by omega,h3,h4,fun i hi hn=>?_⟩;rcases Nat.lt_or_ge i k with h|h
    ·exact h5 i h hn
    ·obtain rfl:i=k:=by omega
     exact absurd hn hx
theorem zii{l:List It}(h:Asc l){i j:Nat}(hj:j<l.length)(hij:i<j):zaW (l.getD i default) (l.getD j default)<0:=by
 have gd:∀j (hj:j<l.length),l.getD j default=l[j]:=fun j hj=>by rw[List.getD_eq_getElem?_getD,List.getElem?_eq_getElem hj];rfl
 rw[gd i (by omega),gd j hj];exact List.pairwise_iff_getElem.1 h i j (by omega) hj hij
theorem zdG{x y:It}(h:zaW x y<0):x.name=y.name\/Lib.compareBytes x.name.data.toList y.name.data.toList<0:=by
 unfold zaW at h;split at h
 ·rename_i e;exact Or.inl (za7 e)
 ·exact Or.inr h
theorem zpH{l:List It}(h:Asc l)(name:ByteArray)(i:Nat)(hi:i<l.length):(l.getD i default).name=name↔(zbV l name).1<=i/\i<(zbV l name).2:=by
 have hk:=zo9 l name l.length zN;rw[List.take_length] at hk;unfold zbV;cases hr:za6 l name with
 |none =>rw[hr] at hk;exact⟨fun e=>absurd e (hk i hi),fun e=>by simp at e⟩
 |some p =>
  obtain⟨lo,hi'⟩:=p;rw[hr] at hk;obtain⟨h1,h2,h3,h4,h5⟩:=hk;simp only[Option.getD_some];refine⟨h5 i hi,fun⟨g1,g2⟩=>?_⟩;apply Classical.byContradiction;intro hne;have n1:lo≠i:=fun e=>hne (e▸h3);have n2:hi'-1≠i:=fun e=>hne (e▸h4);have c1:=zdG (zii h hi (show lo<i by omega));have c2:=zdG (zii h (show hi'-1<l.length by omega) (show i<hi'-1 by omega));rw[h3] at c1;rw[h4] at c2;rcases c1 with c1|c1
  ·exact hne c1.symm
  ·rcases c2 with c2|c2
   ·exact hne c2
   ·have:=zdi name.data.toList (l.getD i default).name.data.toList;omega
theorem zg4{p q:Nat->Bool}(n lo hi:Nat)(h2:hi<=n)(h:∀i,i<n->(q i=true↔(lo<=i/\i<hi)/\p i=true)):(List.range n).filter q=(List.range' lo (hi-lo)).filter p:=by
 rcases Nat.lt_or_ge hi lo with hlh|hlh
 ·rw[show hi-lo=0 by omega];simp only[List.range'_zero,List.filter_nil,List.filter_eq_nil_iff];intro i hi';rw[List.mem_range] at hi';intro e;have:=(h i hi').1 e;omega
 ·have e:List.range n=List.range' 0 lo++(List.range' lo (hi-lo)++List.range' hi (n-hi)):=by
   rw[List.range_eq_range'];have a1:=List.range'_append_1 (s:=lo) (m:=hi-lo) (n:=n-hi);have a2:=List.range'_append_1 (s:=0) (m:=lo) (n:=(hi-lo)+(n-hi));rw[show lo+(hi-lo)=hi by omega] at a1;rw[Nat.zero_add] at a2;rw[a1,a2];congr 1;omega
  rw[e,List.filter_append,List.filter_append];have f1:(List.range' 0 lo).filter q=[]:=by
   rw[List.filter_eq_nil_iff];intro i hi';have:=List.mem_range'_1.1 hi';intro e;have:=(h i (by omega)).1 e;omega
  have f3:(List.range' hi (n-hi)).filter q=[]:=by
   rw[List.filter_eq_nil_iff];intro i hi';have:=List.mem_range'_1.1 hi';intro e;have:=(h i (by omega)).1 e;omega
  have f2:(List.range' lo (hi-lo)).filter q=(List.range' lo (hi-lo)).filter p:=by
   refine List.filter_congr fun i hi'=>?_;have:=List.mem_range'_1.1 hi';rw[Bool.eq_iff_iff,h i (by omega)];constructor
   ·exact fun e=>e.2
   ·exact fun e=>⟨by omega,e⟩
  rw[f1,f2,f3];simp
theorem zqo(l:List It)(name:ByteArray):(zbV l name).2<=l.length:=by
 have hk:=zo9 l name l.length zN;rw[List.take_length] at hk;unfold zbV;cases hr:za6 l name with
 |none=>simp
 |some p =>obtain⟨lo,hi'⟩:=p;rw[hr] at hk;exact hk.2.1
end
section
open Go.RowKit Go.Deep
theorem zeP{vals:Nat}{x:Int}(hx:x≠0):zj6 vals (-x)=!zj6 vals x:=by
 unfold zj6
 by_cases hp:0<x
 ·rw[if_neg (by omega),if_pos hp,Int.neg_neg]
 ·rw[if_pos (by omega),if_neg hp,Bool.not_not]
def Sat(vals:Nat)(xs:List Int):Prop:=∀x∈xs,zj6 vals x=true
def zhF(vals:Nat)(l:List (List Int)):Prop:=∀c∈l,∃x∈c,zj6 vals x=true
theorem zdS{v:Int}{l:List (List Int)}(hl:zbT v l){told:List Int}(hc:zdH told){vals:Nat}(hs:zhF vals l)(ht:Sat vals told):(0<=(zaF told l).1->(zaF told l).2≠0)/\((zaF told l).2≠0->zj6 vals (zaF told l).2=true):=by
 have hn:=zda (l:=l) hc;generalize zaF told l=r at hn;cases hn with
 |none=>exact⟨fun h=>by simp at h,fun h=>absurd rfl h⟩
 |bad hk h =>exfalso;obtain⟨x,hx,hh⟩:=hs _ (zaM hk);have h0:=(zaq.1 (hl _ (zaM hk) x hx)).1;have:=ht _ (h x hx).2;rw[zeP h0,hh] at this;cases this
 |one hk hx h0 h1 h =>
  rename_i k x;refine⟨fun _=>(zaq.1 (hl _ (zaM hk) _ hx)).1,fun _=>?_⟩;obtain⟨y,hy,hh⟩:=hs _ (zaM hk)
  by_cases e:y=x
  ·rw[<-e];exact hh
  ·exfalso;have hy0:=(zaq.1 (hl _ (zaM hk) y hy)).1;have:=ht _ (h y hy e).2;rw[zeP hy0,hh] at this;cases this
theorem ziW{vals:Nat}{told:List Int}{x:Int}(h:Sat vals told)(hx:zj6 vals x=true):Sat vals (told++[x]):=fun y hy=>by
 simp only[List.mem_append,List.mem_singleton] at hy;rcases hy with hy|hy
 ·exact h y hy
 ·rw[hy];exact hx
end
section
open Go.RowKit Go.Deep
def ziC(vals:Nat)(ds:List (Int × List Int)):Prop:=∀d∈ds,zj6 vals d.1=true
structure Inv(l:List (List Int))(ds:List (Int × List Int))(told:List Int):Prop where
 imp:∀vals,zhF vals l->ziC vals ds->Sat vals told
 first:∀x∈told,x<0->∀vals,zhF vals l->(∀d∈ds,d.1 < -x->zj6 vals d.1=true)->zj6 vals x=true
 low:∀d∈ds,∀u,0<u->u<=d.1->u∈told\/-u∈told
 mem:∀d∈ds,d.1∈told
 pos:∀d∈ds,0<d.1
structure zmL(l:List (List Int))(s:St):Prop where
 now:Inv l s.decs s.told
 past:∀k d,s.decs[k]?=some d->Inv l (s.decs.take k) d.2
 prf:∀vals,zhF vals l->zhF vals s.prf
theorem zsC(l:List (List Int)):zmL l st0:=by
 refine⟨⟨(fun _ _ _ x hx=>by cases hx),(fun x hx=>by cases hx),(fun d hd=>by cases hd),(fun d hd=>by cases hd),(fun d hd=>by cases hd)⟩,(fun k d h=>by simp[st0] at h),(fun _ _ c hc=>by cases hc)⟩
theorem zdo{vals:Nat}{l m:List (List Int)}(h1:zhF vals l)(h2:zhF vals m):zhF vals (l++m):=fun c hc=>by
 rcases List.mem_append.1 hc with h|h
 ·exact h1 c h
 ·exact h2 c h
theorem Inv.tell{l:List (List Int)}{ds:List (Int × List Int)}{told:List Int}(h:Inv l ds told){x:Int}(h0:x∉told)(h1:-x∉told)(hx:∀vals,zhF vals l->Sat vals told->zj6 vals x=true):Inv l ds (told++[x]):=by
 refine⟨fun vals hs hd=>ziW (h.imp vals hs hd) (hx vals hs (h.imp vals hs hd)),fun y hy hneg vals hs hd=>?_,fun d hd u hu0 hu1=>?_,fun d hd=>List.mem_append.2 (Or.inl (h.mem d hd)),h.pos⟩
 ·simp only[List.mem_append,List.mem_singleton] at hy;rcases hy with hy|hy
  ·exact h.first y hy hneg vals hs hd
  ·subst hy;refine hx vals hs (h.imp vals hs fun d hdd=>hd d hdd ?_);rcases Int.lt_or_le d.1 (-y) with hlt|hle
   ·exact hlt
   ·rcases h.low d hdd (-y) (by omega) hle with h2|h2
    ·exact absurd h2 h1
    ·rw[Int.neg_neg] at h2;exact absurd h2 h0
 ·rcases h.low d hd u hu0 hu1 with h2|h2
  ·exact Or.inl (List.mem_append.2 (Or.inl h2))
  ·exact Or.inr (List.mem_append.2 (Or.inl h2))
theorem zio{v:Nat}{l:List (List Int)}(hl:zbT v l){s s':St}(hg:zg9 v s)(h:zmL l s)(e:zbG v l s=.inl s'):zmL l s':=by
 have hlp:=zbr hl hg.litsP;have hsl:∀vals,zhF vals l->zhF vals (l++s.prf):=fun vals hs=>zdo hs (h.prf vals hs);unfold zbG at e
 by_cases h1:(zaF s.told (l++s.prf)).2≠0
 ·rw[if_pos h1] at e;injection e with e;subst e;obtain⟨q1,q2,q3,q4,q5⟩:=zcH hlp hg.cons hg.lits (i:=(zaF s.told (l++s.prf)).1) (x:=(zaF s.told (l++s.prf)).2) rfl h1;exact⟨h.now.tell q2 q3 (fun vals hs ht=>(zdS hlp hg.cons (hsl vals hs) ht).2 h1),h.past,h.prf⟩
 ·rw[if_neg h1] at e
  by_cases h2:0<=(zaF s.told (l++s.prf)).1
  ·rw[if_pos h2] at e;cases hd:s.decs.getLast? with
   |none=>rw[hd] at e;cases e
   |some d =>
    rw[hd] at e
    by_cases h3:s.prf.length+1=2000
    ·simp only[if_pos h3] at e;cases e
    ·simp only[if_neg h3] at e;injection e with e;subst e;have hlast:s.decs[s.decs.length-1]?=some d:=by rw[<-List.getLast?_eq_getElem?];exact hd
     have hp:=h.past _ _ hlast;rw[<-List.dropLast_eq_take] at hp;refine⟨hp,fun k d' hk=>?_,fun vals hs=>zdo (h.prf vals hs) (fun c hc=>?_)⟩
     ·have hk':s.decs.dropLast[k]?=some d':=hk;rw[List.getElem?_dropLast] at hk';split at hk'
      ·rename_i hlt;have:=h.past k d' hk';rw[show (s.decs.dropLast).take k=s.decs.take k by rw[List.dropLast_eq_take,List.take_take,Nat.min_eq_left (by omega)]];exact this
      ·cases hk'
     ·rw[List.mem_singleton] at hc;subst hc
      by_cases hall:ziC vals s.decs
      ·exfalso;exact absurd ((zdS hlp hg.cons (hsl vals hs) (h.now.imp vals hs hall)).1 h2) h1
      ·have:∃d∈s.decs,zj6 vals d.1≠true:=Classical.byContradiction fun hn=>hall fun d hd=>Classical.byContradiction fun hne=>hn ⟨d,hd,hne⟩;obtain⟨d',hd',hne⟩:=this;refine⟨-d'.1,List.mem_map.2 ⟨d',hd',rfl⟩,?_⟩;rw[zeP (by have:=h.now.pos d' hd';omega)];simpa using hne
  ·rw[if_neg h2] at e
   by_cases h3:zbs v s.told<0
   ·rw[if_pos h3] at e;cases e
   ·rw[if_neg h3] at e;injection e with e;subst e;rcases zbY (v:=v) (told:=s.told) with ⟨h4,_⟩|⟨k,h4,hk,h5,h6⟩
    ·omega
    ·rw[h4];have hn:=h.now;refine⟨⟨fun vals hs hd=>?_,fun x hx hneg vals hs hd=>?_,fun d hd u hu0 hu1=>?_,fun d hd=>?_,fun d hd=>?_⟩,fun j d hj=>?_,h.prf⟩
     ·exact ziW (hn.imp vals hs fun d h=>hd d (List.mem_append.2 (Or.inl h))) (hd ((k:Int)+1,s.told) (List.mem_append.2 (Or.inr List.mem_cons_self)))
     ·have hx':x∈s.told++[(k:Int)+1]:=hx;simp only[List.mem_append,List.mem_singleton] at hx';rcases hx' with hx'|hx'
      ·exact hn.first x hx' hneg vals hs fun d h hlt=>hd d (List.mem_append.2 (Or.inl h)) hlt
      ·omega
     ·have hd':d∈s.decs++[((k:Int)+1,s.told)]:=hd;show u∈s.told++[(k:Int)+1]\/-u∈s.told++[(k:Int)+1];simp only[List.mem_append,List.mem_singleton] at hd' ⊢;rcases hd' with hd'|hd'
      ·rcases hn.low d hd' u hu0 hu1 with h|h
       ·exact Or.inl (Or.inl h)
       ·exact Or.inr (Or.inl h)
      ·subst hd'
       by_cases e:u=(k:Int)+1
       ·exact Or.inl (Or.inr e)
       ·have hu1':u<=(k:Int)+1:=hu1;have:=h6 (u.toNat-1) (by omega);have h7:¬(((u.toNat-1:Nat):Int)+1∉s.told/\-(((u.toNat-1:Nat):Int)+1)∉s.told):=fun h=>this (zdb.2 h);rw[show ((u.toNat-1:Nat):Int)+1=u by omega] at h7
        by_cases h8:u∈s.told
        ·exact Or.inl (Or.inl h8)
        ·exact Or.inr (Or.inl (Classical.byContradiction fun h9=>h7 ⟨h8,h9⟩))
     ·have hd':d∈s.decs++[((k:Int)+1,s.told)]:=hd;show d.1∈s.told++[(k:Int)+1];simp only[List.mem_append,List.mem_singleton] at hd' ⊢;rcases hd' with hd'|hd'
      ·exact Or.inl (hn.mem d hd')
      ·exact Or.inr (by rw[hd'])
     ·have hd':d∈s.decs++[((k:Int)+1,s.told)]:=hd;simp only[List.mem_append,List.mem_singleton] at hd';rcases hd' with hd'|hd'
      ·exact hn.pos d hd'
      ·rw[hd'];show (0:Int)<(k:Int)+1;omega
     ·have hj':(s.decs++[((k:Int)+1,s.told)])[j]?=some d:=hj;show Inv l ((s.decs++[((k:Int)+1,s.told)]).take j) d.2;rw[List.getElem?_append] at hj';split at hj'
      ·rename_i hlt;rw[List.take_append_of_le_length (by omega)];exact h.past j d hj'
      ·rename_i hge;have hjl:j-s.decs.length=0:=by
        rcases Nat.eq_zero_or_pos (j-s.decs.length) with h|h
        ·exact h
        ·rw[List.getElem?_eq_none (by simp;omega)] at hj';cases hj'
       rw[hjl] at hj';simp at hj';subst hj';have:j=s.decs.length:=by omega
       rw[this,List.take_append_of_le_length zN,List.take_length];exact hn
theorem zqh{v:Nat}{l:List (List Int)}(hv:v<=24)(hl:zbT v l){s:St}{r:Res}(hr:Run v l s r):zg9 v s->zmL l s ->
  (∀p,r=.unsat p->∀vals,¬zhF vals l)/\(∀t,r=.sat t->∃ds,Inv l ds t/\zeZ v t/\zdH t/\(∀i,i<v->tv t i≠0)/\∀c∈l,∃x∈c,x∈t):=by
 induction hr with
 |go h _ ih=>intro hg hi;exact ih (zb6 hv hl hg h).1 (zio hl hg hi h)
 |done h =>
  rename_i s r;intro hg hi;have hlp:=zbr hl hg.litsP;unfold zbG at h
  by_cases h1:(zaF s.told (l++s.prf)).2≠0
  ·rw[if_pos h1] at h;cases h
  ·rw[if_neg h1] at h
   by_cases h2:0<=(zaF s.told (l++s.prf)).1
   ·rw[if_pos h2] at h;cases hd:s.decs.getLast? with
    |none =>rw[hd] at h;injection h with h;subst h;have hd0:s.decs=[]:=List.getLast?_eq_none_iff.1 hd;refine⟨fun p _ vals hs=>?_,(fun t h=>by cases h)⟩;exact absurd ((zdS hlp hg.cons (zdo hs (hi.prf vals hs)) (hi.now.imp vals hs (fun d hd=>by rw[hd0] at hd;cases hd))).1 h2) h1
    |some d =>
     rw[hd] at h
     by_cases h3:s.prf.length+1=2000
     ·simp only[if_pos h3] at h;injection h with h;subst h;exact⟨(fun p h=>by cases h),(fun t h=>by cases h)⟩
     ·simp only[if_neg h3] at h;cases h
   ·rw[if_neg h2] at h
    by_cases h3:zbs v s.told<0
    ·rw[if_pos h3] at h;injection h with h;subst h;refine⟨(fun p h=>by cases h),fun t h=>?_⟩;cases h;rcases zbY (v:=v) (told:=s.told) with ⟨_,h4⟩|⟨k,h4,_⟩
     ·refine⟨s.decs,hi.now,hg.lits,hg.cons,h4,fun c hc=>?_⟩;have hn:=zda (l:=l++s.prf) hg.cons;generalize zaF s.told (l++s.prf)=r at *;cases hn with
      |none h5 =>
       rcases h5 c (List.mem_append.2 (Or.inl hc)) with h6|⟨x,hx,_,_,_,n1,n2,_⟩
       ·exact h6
       ·exfalso;have hb:=zaq.1 (hl c hc x hx)
        by_cases hp:0<x
        ·have:=h4 (x.toNat-1) (by omega);exact this (zdb.2 (by rw[show ((x.toNat-1:Nat):Int)+1=x by omega];exact⟨n1,n2⟩))
        ·have:=h4 ((-x).toNat-1) (by omega);exact this (zdb.2 (by rw[show (((-x).toNat-1:Nat):Int)+1=-x by omega,Int.neg_neg];exact⟨n2,n1⟩))
      |bad=>exact absurd (Int.natCast_nonneg _) h2
      |one=>exact absurd (Int.natCast_nonneg _) h2
     ·omega
    ·rw[if_neg h3] at h;cases h
theorem znp{v:Nat}{t:List Int}(hl:zeZ v t)(hc:zdH t)(hv:v<=24):Sat (zfd t 24) t:=fun x hx=>by
 have hb:=zaq.1 (hl x hx);unfold zj6
 by_cases hp:0<x
 ·rw[if_pos hp,zes];have:tv t (x.toNat-1)=1:=by unfold tv;rw[if_pos (by rw[show ((x.toNat-1:Nat):Int)+1=x by omega];exact hx)]
  rw[this];simp;omega
 ·rw[if_neg hp,zes];have:tv t ((-x).toNat-1)=-1:=by
   unfold tv;rw[show (((-x).toNat-1:Nat):Int)+1=-x by omega,Int.neg_neg,if_neg (hc x hx),if_pos hx]
  rw[this];simp
end
end Go.Proofs.YtiihalknffbjpaaGreatDoor
