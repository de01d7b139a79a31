import Derived.Test.YtoffdbflfikcoaaGreatDoora9
open Go.Proofs.Tryz
set_option maxHeartbeats 2000000
set_option maxRecDepth 1000000
namespace Go.Proofs.YtoffdbflfikcoaaGreatDoor
section
open Go.RowKit Go.Shelf Sv
def ze(a b c:Nat):Nat:=(a*1000+b)*1000+c
def YA(a b c:Nat):Nat:=if a≠0 then ze (a+1) 0 0 else if b≠0 then ze a (b+1) 0 else ze a b (c+1)
def xS(g:List UInt8)(a b c:Nat):Except Int (List zf) :=
 if g=[]\/g=[61] then .ok (zi (ze a b c) (ze a b c+1))
 else if g=[33] then .ok (nt (zi (ze a b c) (ze a b c+1)))
 else if g=[60] then .ok (zi 0 (ze a b c))
 else if g=[60,61] then .ok (zi 0 (ze a b c+1))
 else if g=[62] then .ok (zi (ze a b c+1) ALL)
 else if g=[62,61] then .ok (zi (ze a b c) ALL)
 else if g=[94] then .ok (zi (ze a b c) (YA a b c))
 else if g=[126] then .ok (zi (ze a b c) (ze a (b+1) 0))
 else .error 3
theorem yH{a b c:Nat}(ha:a<=999)(hb:b<=999)(hc:c<=999):ze a b c<ALL:=by unfold ze ALL;omega
theorem zhR{a b c:Nat}(ha:a<=999)(hb:b<=999)(hc:c<=999):YA a b c<=ALL:=by
 unfold YA ze ALL;split
 ·omega
 ·split<;>omega
theorem zm6{g:List UInt8}{a b c:Nat}(ha:a<=999)(hb:b<=999)(hc:c<=999){l:List zf}(h:xS g a b c=.ok l):Rg l:=by
 have h1:=yH ha hb hc;have h2:=zhR ha hb hc;have h3:ze a (b+1) 0<=ALL:=by unfold ze ALL;omega
 unfold xS at h
 repeat' split at h
 all_goals first
  |(cases h;exact XW (by omega))
  |(cases h;exact XW zN)
  |(cases h;exact xO (XW (by omega)))
  |cases h
def yY(w:World)(x:Except Int (List zf))(e:Ending)(w':World):Prop :=
 match x with
 |.ok l=>∃v',e=.returned (.tuple #[.agg #[v'],.nilIface])/\zk w' v' l/\(∀g,v'.ownBlock=some g->w.heap.size<=g)/\zB w w'
 |.error k=>e=.returned (.tuple #[.agg #[.slice none 0 0],.iface 53 (.int .i64 k)])/\zB w w'
theorem Qc(w:World)(A B C:Value):∃W0:World,((w.alloc (.cells #[A,B,C] 102)).alloc (.cells #[.slice none 0 0] 105))=W0/\Blk W0 w.heap.size 102 #[A,B,C]/\Blk W0 (w.heap.size+1) 105 #[.slice none 0 0]/\zB w W0/\W0.heap.size=w.heap.size+2:=by
 have k0:=(Blk.new w 102 #[A,B,C]).alloc (.cells #[.slice none 0 0] 105);have k1:=Blk.new (w.alloc (.cells #[A,B,C] 102)) 105 #[.slice none 0 0];rw[zc1] at k1;exact⟨_,rfl,k0,k1,((zf0 _ w).alloc zN _).alloc (by simp only[zc1];omega) _,by simp only[zc1]⟩
theorem QC(x y:Nat)(W:World):zC 220 #[x,y] W fun e w'=>∃a' c',e=.returned (.agg #[.slice a' (zi x y).length c'])/\zk w' (.slice a' (zi x y).length c') (zi x y)/\(∀g,(Value.slice a' (zi x y).length c').ownBlock=some g->W.heap.size<=g)/\zB W w' :=
 (zde x y W).mono fun e w' ⟨v',he,hs,hn,hb⟩=>by obtain⟨a',c',rfl⟩:=hs.form;exact⟨a',c',he,hs,hn,hb⟩
theorem zjk(l:List zf)(hl:Rg l)(v:Value)(W:World)(hv:zk W v l):zC 185 #[.agg #[v]] W fun e w'=>∃a' c',e=.returned (.agg #[.slice a' (nt l).length c'])/\zk w' (.slice a' (nt l).length c') (nt l)/\(∀g,(Value.slice a' (nt l).length c').ownBlock=some g->W.heap.size<=g)/\zB W w' :=
 (Jj l hl v W hv).mono fun e w' ⟨v',he,hs,hn,hb⟩=>by obtain⟨a',c',rfl⟩:=hs.form;exact⟨a',c',he,hs,hn,hb⟩
theorem zmG(g:ByteArray)(a b c:Nat)(ha:a<=999)(hb:b<=999)(hc:c<=999)(w:World)(hg:g.toList=[]) :
  zC 221 #[.string g,.agg #[a,b,c]] w (yY w (.ok (zi (ze a b c) (ze a b c+1)))):=by
 have HN:Hid (∀W,zR 144 #[.agg #[a,b,c]] W (.int .i64 (ze a b c:Nat))):=fun W=>Zb a b c (by omega) (by omega) (by omega) W;have p:=yH ha hb hc;generalize ze a b c=n at *;have hlt':(n:Int)<1000000000:=by unfold ALL at p;omega
 obtain⟨W0,q,k0,k1,hB,K⟩:=Qc w (.int .i64 a) (.int .i64 b) (.int .i64 c);have HR:=zH (fun W=>QC n (n+1) W);have R:=zH q;have U:=zH k0;have o:=zH k1;have HB:=zH hB;have HS:=zH K;have V:=zH p;clear q k0 k1 hB K p;go_enter ztd,zs3;go_wp2_with fail;rw[R.out];refine(HN.out _).mono ?_;rintro e w1 ⟨rfl,u⟩;have D1:=zH u;clear u;go_wp2_with fail;refine(HR.out _).mono ?_;rintro e wK ⟨a',c',rfl,M,J,y⟩;have C:∀g,(Value.slice a' (zi n (n+1)).length c').ownBlock=some g->W0.heap.size<=g:=fun g hg=>zf1 D1.out.size (J g hg);have DK:zB W0 wK:=zT D1.out y;have j:w.heap.size+1<W0.heap.size:=by have:=HS.out;omega
 have X:wK.cell? ⟨w.heap.size+1,0,none⟩=some (.slice none 0 0):=(o.out.below DK j).cell 0;have Y:=(o.out.below DK j).frozen 0;have HP:=zH (ZG HB.out (o.out.cell 0) (zrr _) j M C DK);clear M J y C DK j;go_wp2;obtain⟨h3,h4,h5,h6⟩:=HP.out;refine zc4 (v:=.tuple #[.agg #[.slice a' (zi n (n+1)).length c'],.nilIface]) (by simp[results,results221,go_sem,h3]) rfl ?_;exact⟨_,rfl,h4,h5,h6⟩
theorem zoE(g:ByteArray)(a b c:Nat)(ha:a<=999)(hb:b<=999)(hc:c<=999)(w:World)(hg:g.toList=[61]) :
  zC 221 #[.string g,.agg #[a,b,c]] w (yY w (.ok (zi (ze a b c) (ze a b c+1)))):=by
 have HN:Hid (∀W,zR 144 #[.agg #[a,b,c]] W (.int .i64 (ze a b c:Nat))):=fun W=>Zb a b c (by omega) (by omega) (by omega) W;have p:=yH ha hb hc;generalize ze a b c=n at *;have hlt':(n:Int)<1000000000:=by unfold ALL at p;omega
 obtain⟨W0,q,k0,k1,hB,K⟩:=Qc w (.int .i64 a) (.int .i64 b) (.int .i64 c);have HR:=zH (fun W=>QC n (n+1) W);have R:=zH q;have U:=zH k0;have o:=zH k1;have HB:=zH hB;have HS:=zH K;have V:=zH p;clear q k0 k1 hB K p;go_enter ztd,zs3;go_wp2_with fail;rw[R.out];refine(HN.out _).mono ?_;rintro e w1 ⟨rfl,u⟩;have D1:=zH u;clear u;go_wp2_with fail;refine(HR.out _).mono ?_;rintro e wK ⟨a',c',rfl,M,J,y⟩;have C:∀g,(Value.slice a' (zi n (n+1)).length c').ownBlock=some g->W0.heap.size<=g:=fun g hg=>zf1 D1.out.size (J g hg);have DK:zB W0 wK:=zT D1.out y;have j:w.heap.size+1<W0.heap.size:=by have:=HS.out;omega
 have X:wK.cell? ⟨w.heap.size+1,0,none⟩=some (.slice none 0 0):=(o.out.below DK j).cell 0;have Y:=(o.out.below DK j).frozen 0;have HP:=zH (ZG HB.out (o.out.cell 0) (zrr _) j M C DK);clear M J y C DK j;go_wp2;obtain⟨h3,h4,h5,h6⟩:=HP.out;refine zc4 (v:=.tuple #[.agg #[.slice a' (zi n (n+1)).length c'],.nilIface]) (by simp[results,results221,go_sem,h3]) rfl ?_;exact⟨_,rfl,h4,h5,h6⟩
theorem zjo(g:ByteArray)(a b c:Nat)(ha:a<=999)(hb:b<=999)(hc:c<=999)(w:World)(hg:g.toList=[60]) :
  zC 221 #[.string g,.agg #[a,b,c]] w (yY w (.ok (zi 0 (ze a b c)))):=by
 have HN:Hid (∀W,zR 144 #[.agg #[a,b,c]] W (.int .i64 (ze a b c:Nat))):=fun W=>Zb a b c (by omega) (by omega) (by omega) W;have p:=yH ha hb hc;generalize ze a b c=n at *;have hlt':(n:Int)<1000000000:=by unfold ALL at p;omega
 obtain⟨W0,q,k0,k1,hB,K⟩:=Qc w (.int .i64 a) (.int .i64 b) (.int .i64 c);have HR:=zH (fun W=>QC 0 n W);have R:=zH q;have U:=zH k0;have o:=zH k1;have HB:=zH hB;have HS:=zH K;have V:=zH p;clear q k0 k1 hB K p;go_enter ztd,zs3;go_wp2_with fail;rw[R.out];refine(HN.out _).mono ?_;rintro e w1 ⟨rfl,u⟩;have D1:=zH u;clear u;go_wp2_with fail;refine(HR.out _).mono ?_;rintro e wK ⟨a',c',rfl,M,J,y⟩;have C:∀g,(Value.slice a' (zi 0 n).length c').ownBlock=some g->W0.heap.size<=g:=fun g hg=>zf1 D1.out.size (J g hg);have DK:zB W0 wK:=zT D1.out y;have j:w.heap.size+1<W0.heap.size:=by have:=HS.out;omega
 have X:wK.cell? ⟨w.heap.size+1,0,none⟩=some (.slice none 0 0):=(o.out.below DK j).cell 0;have Y:=(o.out.below DK j).frozen 0;have HP:=zH (ZG HB.out (o.out.cell 0) (zrr _) j M C DK);clear M J y C DK j;go_wp2;obtain⟨h3,h4,h5,h6⟩:=HP.out;refine zc4 (v:=.tuple #[.agg #[.slice a' (zi 0 n).length c'],.nilIface]) (by simp[results,results221,go_sem,h3]) rfl ?_;exact⟨_,rfl,h4,h5,h6⟩
theorem zkB(g:ByteArray)(a b c:Nat)(ha:a<=999)(hb:b<=999)(hc:c<=999)(w:World)(hg:g.toList=[60,61]) :
  zC 221 #[.string g,.agg #[a,b,c]] w (yY w (.ok (zi 0 (ze a b c+1)))):=by
 have HN:Hid (∀W,zR 144 #[.agg #[a,b,c]] W (.int .i64 (ze a b c:Nat))):=fun W=>Zb a b c (by omega) (by omega) (by omega) W;have p:=yH ha hb hc;generalize ze a b c=n at *;have hlt':(n:Int)<1000000000:=by unfold ALL at p;omega
 obtain⟨W0,q,k0,k1,hB,K⟩:=Qc w (.int .i64 a) (.int .i64 b) (.int .i64 c);have HR:=zH (fun W=>QC 0 (n+1) W);have R:=zH q;have U:=zH k0;have o:=zH k1;have HB:=zH hB;have HS:=zH K;have V:=zH p;clear q k0 k1 hB K p;go_enter ztd,zs3;go_wp2_with fail;rw[R.out];refine(HN.out _).mono ?_;rintro e w1 ⟨rfl,u⟩;have D1:=zH u;clear u;go_wp2_with fail;refine(HR.out _).mono ?_;rintro e wK ⟨a',c',rfl,M,J,y⟩;have C:∀g,(Value.slice a' (zi 0 (n+1)).length c').ownBlock=some g->W0.heap.size<=g:=fun g hg=>zf1 D1.out.size (J g hg);have DK:zB W0 wK:=zT D1.out y;have j:w.heap.size+1<W0.heap.size:=by have:=HS.out;omega
 have X:wK.cell? ⟨w.heap.size+1,0,none⟩=some (.slice none 0 0):=(o.out.below DK j).cell 0;have Y:=(o.out.below DK j).frozen 0;have HP:=zH (ZG HB.out (o.out.cell 0) (zrr _) j M C DK);clear M J y C DK j;go_wp2;obtain⟨h3,h4,h5,h6⟩:=HP.out;refine zc4 (v:=.tuple #[.agg #[.slice a' (zi 0 (n+1)).length c'],.nilIface]) (by simp[results,results221,go_sem,h3]) rfl ?_;exact⟨_,rfl,h4,h5,h6⟩
theorem zph(g:ByteArray)(a b c:Nat)(ha:a<=999)(hb:b<=999)(hc:c<=999)(w:World)(hg:g.toList=[62]) :
  zC 221 #[.string g,.agg #[a,b,c]] w (yY w (.ok (zi (ze a b c+1) 1000000000))):=by
 have HN:Hid (∀W,zR 144 #[.agg #[a,b,c]] W (.int .i64 (ze a b c:Nat))):=fun W=>Zb a b c (by omega) (by omega) (by omega) W;have p:=yH ha hb hc;generalize ze a b c=n at *;have hlt':(n:Int)<1000000000:=by unfold ALL at p;omega
 obtain⟨W0,q,k0,k1,hB,K⟩:=Qc w (.int .i64 a) (.int .i64 b) (.int .i64 c);have HR:=zH (fun W=>QC (n+1) 1000000000 W);have R:=zH q;have U:=zH k0;have o:=zH k1;have HB:=zH hB;have HS:=zH K;have V:=zH p;clear q k0 k1 hB K p;go_enter ztd,zs3;go_wp2_with fail;rw[R.out];refine(HN.out _).mono ?_;rintro e w1 ⟨rfl,u⟩;have D1:=zH u;clear u;go_wp2_with fail;refine(HR.out _).mono ?_;rintro e wK ⟨a',c',rfl,M,J,y⟩;have C:∀g,(Value.slice a' (zi (n+1) 1000000000).length c').ownBlock=some g->W0.heap.size<=g:=fun g hg=>zf1 D1.out.size (J g hg);have DK:zB W0 wK:=zT D1.out y;have j:w.heap.size+1<W0.heap.size:=by have:=HS.out;omega
 have X:wK.cell? ⟨w.heap.size+1,0,none⟩=some (.slice none 0 0):=(o.out.below DK j).cell 0;have Y:=(o.out.below DK j).frozen 0;have HP:=zH (ZG HB.out (o.out.cell 0) (zrr _) j M C DK);clear M J y C DK j;go_wp2;obtain⟨h3,h4,h5,h6⟩:=HP.out;refine zc4 (v:=.tuple #[.agg #[.slice a' (zi (n+1) 1000000000).length c'],.nilIface]) (by simp[results,results221,go_sem,h3]) rfl ?_;exact⟨_,rfl,h4,h5,h6⟩
theorem zmC(g:ByteArray)(a b c:Nat)(ha:a<=999)(hb:b<=999)(hc:c<=999)(w:World)(hg:g.toList=[62,61]) :
  zC 221 #[.string g,.agg #[a,b,c]] w (yY w (.ok (zi (ze a b c) 1000000000))):=by
 have HN:Hid (∀W,zR 144 #[.agg #[a,b,c]] W (.int .i64 (ze a b c:Nat))):=fun W=>Zb a b c (by omega) (by omega) (by omega) W;have p:=yH ha hb hc;generalize ze a b c=n at *;have hlt':(n:Int)<1000000000:=by unfold ALL at p;omega
 obtain⟨W0,q,k0,k1,hB,K⟩:=Qc w (.int .i64 a) (.int .i64 b) (.int .i64 c);have HR:=zH (fun W=>QC n 1000000000 W);have R:=zH q;have U:=zH k0;have o:=zH k1;have HB:=zH hB;have HS:=zH K;have V:=zH p;clear q k0 k1 hB K p;go_enter ztd,zs3;go_wp2_with fail;rw[R.out];refine(HN.out _).mono ?_;rintro e w1 ⟨rfl,u⟩;have D1:=zH u;clear u;go_wp2_with fail;refine(HR.out _).mono ?_;rintro e wK ⟨a',c',rfl,M,J,y⟩;have C:∀g,(Value.slice a' (zi n 1000000000).length c').ownBlock=some g->W0.heap.size<=g:=fun g hg=>zf1 D1.out.size (J g hg);have DK:zB W0 wK:=zT D1.out y;have j:w.heap.size+1<W0.heap.size:=by have:=HS.out;omega
 have X:wK.cell? ⟨w.heap.size+1,0,none⟩=some (.slice none 0 0):=(o.out.below DK j).cell 0;have Y:=(o.out.below DK j).frozen 0;have HP:=zH (ZG HB.out (o.out.cell 0) (zrr _) j M C DK);clear M J y C DK j;go_wp2;obtain⟨h3,h4,h5,h6⟩:=HP.out;refine zc4 (v:=.tuple #[.agg #[.slice a' (zi n 1000000000).length c'],.nilIface]) (by simp[results,results221,go_sem,h3]) rfl ?_;exact⟨_,rfl,h4,h5,h6⟩
theorem zi7(g:ByteArray)(a b c:Nat)(ha:a<=999)(hb:b<=999)(hc:c<=999)(w:World)(hg:g.toList=[33]) :
  zC 221 #[.string g,.agg #[a,b,c]] w (yY w (.ok (nt (zi (ze a b c) (ze a b c+1))))):=by
 have HN:Hid (∀W,zR 144 #[.agg #[a,b,c]] W (.int .i64 (ze a b c:Nat))):=fun W=>Zb a b c (by omega) (by omega) (by omega) W;have p:=yH ha hb hc;generalize ze a b c=n at *;have hlt':(n:Int)<1000000000:=by unfold ALL at p;omega
 obtain⟨W0,q,k0,k1,hB,M⟩:=Qc w (.int .i64 a) (.int .i64 b) (.int .i64 c);have HR:=zH (fun W=>QC n (n+1) W);have HT:Hid (∀v W,zk W v (zi n (n+1))->zC 185 #[.agg #[v]] W fun e w'=>∃a' c',e=.returned (.agg #[.slice a' (nt (zi n (n+1))).length c'])/\zk w' (.slice a' (nt (zi n (n+1))).length c') (nt (zi n (n+1)))/\(∀g,(Value.slice a' (nt (zi n (n+1))).length c').ownBlock=some g->W.heap.size<=g)/\zB W w'):=fun v W h=>zjk _ (XW (by omega)) v W h;have X:=zH q;have Y:=zH k0;have o:=zH k1;have HB:=zH hB;have HS:=zH M;have Z:=zH p;clear q k0 k1 hB M p;go_enter ztd,zs3;go_wp2_with fail;rw[X.out];refine(HN.out _).mono ?_;rintro e w1 ⟨rfl,u⟩;have D1:=zH u;clear u;go_wp2_with fail;refine(HR.out _).mono ?_;rintro e w2 ⟨a2,c2,rfl,R,-,y⟩;have D2:Hid (zB W0 w2):=zT D1.out y;have V:=zH (HT.out _ _ R);clear R y HT HR;go_wp2_with fail;refine V.out.mono ?_;rintro e wK ⟨a',c',rfl,U,K,C⟩;have J:∀g,(Value.slice a' (nt (zi n (n+1))).length c').ownBlock=some g->W0.heap.size<=g:=fun g hg=>zf1 D2.out.size (K g hg);have DK:zB W0 wK:=zT D2.out C;have j:w.heap.size+1<W0.heap.size:=by have:=HS.out;omega
 have a0:wK.cell? ⟨w.heap.size+1,0,none⟩=some (.slice none 0 0):=(o.out.below DK j).cell 0;have a1:=(o.out.below DK j).frozen 0;have HP:=zH (ZG HB.out (o.out.cell 0) (zrr _) j U J DK);clear U K C J DK j;go_wp2;obtain⟨h3,h4,h5,h6⟩:=HP.out;refine zc4 (v:=.tuple #[.agg #[.slice a' (nt (zi n (n+1))).length c'],.nilIface]) (by simp[results,results221,go_sem,h3]) rfl ?_;exact⟨_,rfl,h4,h5,h6⟩
end
section
open Go.RowKit Go.Shelf Sv
theorem zoG(g:ByteArray)(a b c:Nat)(ha:a<=999)(hb:b<=999)(hc:c<=999)(w:World)(hg:g.toList=[126]) :
  zC 221 #[.string g,.agg #[a,b,c]] w (yY w (.ok (zi (ze a b c) (ze a (b+1) 0)))):=by
 have HN:Hid (∀W,zR 144 #[.agg #[a,b,c]] W (.int .i64 (ze a b c:Nat))):=fun W=>Zb a b c (by omega) (by omega) (by omega) W;have HX:=zH (fun W=>zdk a b c hb W);have HM:Hid (∀W,zR 144 #[.agg #[a,.int .i64 ((b+1:Nat):Int),(0:Int)]] W (.int .i64 (ze a (b+1) 0:Nat))):=fun W=>Zb a (b+1) 0 (by omega) (by omega) (by omega) W;generalize ze a (b+1) 0=m at *;generalize ze a b c=n at *;generalize ((b+1:Nat):Int)=b1 at *;obtain⟨W0,y,k0,k1,hB,U⟩:=Qc w (.int .i64 a) (.int .i64 b) (.int .i64 c);have HR:=zH (fun W=>QC n m W);have X:=zH y;have q:=zH k0;have u:=zH k1;have HB:=zH hB;have HS:=zH U;clear y k0 k1 hB U;go_enter ztd,zs3;go_wp2_with fail;rw[X.out];refine(HN.out _).mono ?_;rintro e w1 ⟨rfl,j⟩;have D1:=zH j;have o:w.heap.size<W0.heap.size:=by have:=HS.out;omega
 have q0:w1.cell? w.heap.size=some (.int .i64 a):=(q.out.below j o).cell 0;have q1:w1.cell? ⟨w.heap.size,1,none⟩=some (.int .i64 b):=(q.out.below j o).cell 1;have q2:w1.cell? ⟨w.heap.size,2,none⟩=some (.int .i64 c):=(q.out.below j o).cell 2;clear j o;go_wp2_with fail;refine(HX.out _).mono ?_;rintro e w2 ⟨rfl,C⟩;have D2:Hid (zB W0 w2):=zT D1.out C;clear C q0 q1 q2;go_wp2_with fail;refine(HM.out _).mono ?_;rintro e w3 ⟨rfl,J⟩;have D3:Hid (zB W0 w3):=zT D2.out J;clear J;go_wp2_with fail;refine(HR.out _).mono ?_;rintro e wK ⟨a',c',rfl,V,R,K⟩;have M:∀g,(Value.slice a' (zi n m).length c').ownBlock=some g->W0.heap.size<=g:=fun g hg=>zf1 D3.out.size (R g hg);have DK:zB W0 wK:=zT D3.out K;have p:w.heap.size+1<W0.heap.size:=by have:=HS.out;omega
 have Y:wK.cell? ⟨w.heap.size+1,0,none⟩=some (.slice none 0 0):=(u.out.below DK p).cell 0;have Z:=(u.out.below DK p).frozen 0;have HP:=zH (ZG HB.out (u.out.cell 0) (zrr _) p V M DK);clear V R K M DK p;go_wp2;obtain⟨h3,h4,h5,h6⟩:=HP.out;refine zc4 (v:=.tuple #[.agg #[.slice a' (zi n m).length c'],.nilIface]) (by simp[results,results221,go_sem,h3]) rfl ?_;exact⟨_,rfl,h4,h5,h6⟩
theorem J5(g:ByteArray)(a b c:Nat)(ha:a<=999)(hb:b<=999)(hc:c<=999)(w:World)(hg:g.toList=[94])(pl:Int)(x y z:Int)(m:Nat)(HL:Hid (∀W,zR 244 #[.agg #[a,b,c]] W (.int .i64 pl)))
  (HX:Hid (∀W,zR 243 #[.agg #[a,b,c],pl] W (.agg #[x,y,z])))
  (HM:Hid (∀W,zR 144 #[.agg #[x,y,z]] W (.int .i64 m))) :
  zC 221 #[.string g,.agg #[a,b,c]] w (yY w (.ok (zi (ze a b c) m))):=by
 have HN:Hid (∀W,zR 144 #[.agg #[a,b,c]] W (.int .i64 (ze a b c:Nat))):=fun W=>Zb a b c (by omega) (by omega) (by omega) W;generalize ze a b c=n at *;obtain⟨W0,J,k0,k1,hB,Y⟩:=Qc w (.int .i64 a) (.int .i64 b) (.int .i64 c);have HR:=zH (fun W=>QC n m W);have a2:=zH J;have j:=zH k0;have C:=zH k1;have HB:=zH hB;have HS:=zH Y;clear J k0 k1 hB Y;go_enter ztd,zs3;go_wp2_with fail;rw[a2.out];refine(HN.out _).mono ?_;rintro e w1 ⟨rfl,o⟩;have D1:=zH o;have q:w.heap.size<W0.heap.size:=by have:=HS.out;omega
 have q0:w1.cell? w.heap.size=some (.int .i64 a):=(j.out.below o q).cell 0;have q1:w1.cell? ⟨w.heap.size,1,none⟩=some (.int .i64 b):=(j.out.below o q).cell 1;have q2:w1.cell? ⟨w.heap.size,2,none⟩=some (.int .i64 c):=(j.out.below o q).cell 2;clear o q;have a1:=HS.out;have L1:Hid (w.heap.size+1<W0.heap.size):=by show w.heap.size+1<W0.heap.size;omega
 have L0:Hid (w.heap.size+1<=W0.heap.size):=by show w.heap.size+1<=W0.heap.size;omega
 have SC:Hid (∀W,Below (w.heap.size+1) W0 W->W.cell? w.heap.size=some (.int .i64 a)/\W.cell? ⟨w.heap.size,1,none⟩=some (.int .i64 b)/\W.cell? ⟨w.heap.size,2,none⟩=some (.int .i64 c)):=fun W hb=>⟨(j.out.below hb (zsA _)).cell 0,(j.out.below hb (zsA _)).cell 1,(j.out.below hb (zsA _)).cell 2⟩;have u:Hid (W0.cell? ⟨w.heap.size+1,0,none⟩=some (.slice none 0 0)):=C.out.cell 0;have a0:Hid (W0.frozen? ⟨w.heap.size+1,0,none⟩=false):=C.out.frozen 0;have E0:zB W0 w1.drew:=D1.out.drew;clear a1 q0 q1 q2;go_wp2_with fail;go_region_held3 (fun w'=>w'.cell? w.heap.size=some (.int .i64 a)/\w'.cell? ⟨w.heap.size,1,none⟩=some (.int .i64 b)/\w'.cell? ⟨w.heap.size,2,none⟩=some (.int .i64 c)) (first|exact SC.out _ (E0.mono L0.out)|exact SC.out _ (E1.mono L0.out)|exact SC.out _ (E2.mono L0.out)|exact SC.out _ (E3.mono L0.out)|exact SC.out _ (E4.mono L0.out)|exact SC.out _ E5)
  (first
   |((with_reducible refine(HL.out _).mono ?_);rintro e w2 ⟨rfl,K⟩;have E1:zB W0 w2:=zT E0 K;clear HL)
   |((with_reducible refine(HX.out _).mono ?_);rintro e w3 ⟨rfl,M⟩;have E2:zB W0 w3:=zT E1 M;clear HX)
   |((with_reducible refine(HM.out _).mono ?_);rintro e w4 ⟨rfl,R⟩;have E3:zB W0 w4:=zT E2 R;clear HM)
   | ((with_reducible refine (HR.out _).mono ?_);rintro e wK ⟨a',c',rfl,Z,X,U⟩;have E4:zB W0 wK:=zT E3 U;have a3:=(E4.cell (p:=⟨w.heap.size + 1,0,none⟩) L1.out).trans u.out;have a4:=(E4.frozen (p:=⟨w.heap.size + 1,0,none⟩) L1.out).trans a0.out;have E5:Below (w.heap.size + 1) W0 (wK.setCell ⟨w.heap.size + 1,0,none⟩ (.slice a' (zi n m).length c')):=(E4.mono L0.out).setCell (p:=⟨w.heap.size + 1,0,none⟩) zN _;clear HR))
 have V:∀g,(Value.slice a' (zi n m).length c').ownBlock=some g->W0.heap.size<=g:=fun g hg=>zf1 E3.size (X g hg);have HP:=zH (ZG HB.out u.out (zrr _) L1.out Z V E4);clear Z X U V E0 E1 E2 E3 E4 E5 K M R;go_wp2;obtain⟨h3,h4,h5,h6⟩:=HP.out;refine zc4 (v:=.tuple #[.agg #[.slice a' (zi n m).length c'],.nilIface]) (by simp[results,results221,go_sem,h3]) rfl ?_;exact⟨_,rfl,h4,h5,h6⟩
theorem zk9(g:ByteArray)(a b c:Nat)(ha:a<=999)(hb:b<=999)(hc:c<=999)(w:World)(hg:g.toList=[94]) :
  zC 221 #[g,.agg #[a,b,c]] w (yY w (.ok (zi (ze a b c) (YA a b c)))):=by
 unfold YA
 by_cases h0:a≠0
 ·rw[zc3 h0];exact J5 g a b c ha hb hc w hg 0 ((a+1:Nat):Int) 0 0 _ (fun W=>by have:=zbD a b c W;rw[zc3 h0] at this;exact this) (fun W=>zln a b c ha W) (fun W=>Zb (a+1) 0 0 (by omega) (by omega) (by omega) W)
 ·rw[zc2 h0]
  by_cases h1:b≠0
  ·rw[zc3 h1];exact J5 g a b c ha hb hc w hg 1 (a:Int) ((b+1:Nat):Int) 0 _ (fun W=>by have:=zbD a b c W;rw[zc2 h0,zc3 h1] at this;exact this) (fun W=>zdk a b c hb W) (fun W=>Zb a (b+1) 0 (by omega) (by omega) (by omega) W)
  ·rw[zc2 h1];exact J5 g a b c ha hb hc w hg 2 (a:Int) (b:Int) ((c+1:Nat):Int) _ (fun W=>by have:=zbD a b c W;rw[zc2 h0,zc2 h1] at this;exact this) (fun W=>zjW a b c hc W) (fun W=>Zb a b (c+1) (by omega) (by omega) (by omega) W)
theorem zmc(g:ByteArray)(a b c:Nat)(ha:a<=999)(hb:b<=999)(hc:c<=999)(w:World)(g0:(g.toList==[])=false)(g1:(g.toList==[61])=false)(g2:(g.toList==[33])=false)(g3:(g.toList==[60])=false)(g4:(g.toList==[60,61])=false)(g5:(g.toList==[62])=false)(g6:(g.toList==[62,61])=false)(g7:(g.toList==[94])=false)(g8:(g.toList==[126])=false) :
  zC 221 #[g,.agg #[a,b,c]] w (yY w (.error 3)):=by
 have HN:Hid (∀W,zR 144 #[.agg #[a,b,c]] W (.int .i64 (ze a b c:Nat))):=fun W=>Zb a b c (by omega) (by omega) (by omega) W;generalize ze a b c=n at *;have ge:g.toList.isEmpty=false:=by
  cases h:g.toList with
  |nil=>rw[h] at g0;cases g0
  |cons x l=>rfl
 obtain⟨W0,y,k0,k1,hB,J⟩:=Qc w (.int .i64 a) (.int .i64 b) (.int .i64 c);have R:=zH y;have M:=zH k1;have HB:=zH hB;have HS:=zH J;clear y k0 k1 hB J g0;go_enter ztd,zs3;go_wp2_with fail;rw[R.out];refine(HN.out _).mono ?_;rintro e w1 ⟨rfl,q⟩;have C:w.heap.size+1<W0.heap.size:=by have:=HS.out;omega
 have m1:=M.out.below q C;have U:_=some (Value.slice none 0 0):=m1.cell 0;have V:=m1.frozen 0;have j:(w1.setCell ⟨w.heap.size+1,0,none⟩ (.slice none 0 0)).cell? ⟨w.heap.size+1,0,none⟩=some (.slice none 0 0):=(m1.set (i:=0)).cell 0;have u:zB w (w1.setCell ⟨w.heap.size+1,0,none⟩ (.slice none 0 0)):=(zT HB.out q).setCell (p:=⟨w.heap.size+1,0,none⟩) (zrr _) _;have o:=zH j;have K:=zH u;clear q C m1 j u;go_wp2;have h3:=o.out;refine zc4 (v:=.tuple #[.agg #[.slice none 0 0],.iface 53 (.int .i64 3)]) (by simp[results,results221,go_sem,h3]) rfl ?_;exact⟨rfl,K.out⟩
theorem zhl(g:ByteArray)(a b c:Nat)(ha:a<=999)(hb:b<=999)(hc:c<=999)(w:World) :
  zC 221 #[g,.agg #[a,b,c]] w (yY w (xS g.toList a b c)):=by
 unfold xS
 by_cases h0:g.toList=[]\/g.toList=[61]
 ·rw[zc3 h0];rcases h0 with h0|h0
  ·exact zmG g a b c ha hb hc w h0
  ·exact zoE g a b c ha hb hc w h0
 rw[zc2 h0]
 by_cases h1:g.toList=[33]
 ·rw[zc3 h1];exact zi7 g a b c ha hb hc w h1
 rw[zc2 h1]
 by_cases h2:g.toList=[60]
 ·rw[zc3 h2];exact zjo g a b c ha hb hc w h2
 rw[zc2 h2]
 by_cases h3:g.toList=[60,61]
 ·rw[zc3 h3];exact zkB g a b c ha hb hc w h3
 rw[zc2 h3]
 by_cases h4:g.toList=[62]
 ·rw[zc3 h4];exact zph g a b c ha hb hc w h4
 rw[zc2 h4]
 by_cases h5:g.toList=[62,61]
 ·rw[zc3 h5];exact zmC g a b c ha hb hc w h5
 rw[zc2 h5]
 by_cases h6:g.toList=[94]
 ·rw[zc3 h6];exact zk9 g a b c ha hb hc w h6
 rw[zc2 h6]
 by_cases h7:g.toList=[126]
 ·rw[zc3 h7];exact zoG g a b c ha hb hc w h7
 rw[zc2 h7];exact zmc g a b c ha hb hc w (by simpa using fun e=>h0 (.inl e)) (by simpa using fun e=>h0 (.inr e)) (by simpa using h1) (by simpa using h2) (by simpa using h3) (by simpa using h4) (by simpa using h5) (by simpa using h6) (by simpa using h7)
end
section
open Go.RowKit Go.Shelf Sv
abbrev Y8:ByteArray:=⟨#[61,33,60,62,94,126]⟩
def zj(s:ByteArray):ByteArray:=⟨(Lib.trimLeftS s.data.toList Y8.data.toList).toArray⟩
theorem qL(s:ByteArray):(zj s).size<=s.size:=by
 show (Lib.trimLeftS s.data.toList Y8.data.toList).toArray.size<=s.data.size;unfold Lib.trimLeftS;simp only[zrT];have:=(List.dropWhile_sublist (l:=s.data.toList) (fun x=>Y8.data.toList.contains x)).length_le;simpa using this
def Za(s:ByteArray):Except Int (List zf) :=
 if s.toList=[97,110,121] then .ok zm
 else if s.toList=[110,111,110,101] then .ok []
 else match zO (zj s) with
  |.error k=>.error k
  |.ok ns=>xS (s.extract 0 (s.size-(zj s).size)).toList (ns.getD 0 0) (ns.getD 1 0) (ns.getD 2 0)
theorem Yy{ns:List Nat}(h:ns.length=3):∃a b c,ns=[a,b,c]:=by
 match ns,h with
 |[a,b,c],_=>exact⟨a,b,c,rfl⟩
theorem za5{s:ByteArray}{l:List zf}(h:Za s=.ok l):Rg l:=by
 unfold Za at h;split at h
 ·cases h;exact Xp
 ·split at h
  ·cases h;exact Zu
  ·split at h
   ·cases h
   ·rename_i ns hns;obtain⟨h3,h9⟩:=YU hns;obtain⟨a,b,c,rfl⟩:=Yy h3;exact zm6 (h9 a (by simp)) (h9 b (by simp)) (h9 c (by simp)) h
theorem zot:(prog.info? (Tryz.lays161_ren.t 116)).map (fun i=>(i.zero,i.size))=some (some (.agg (Array.replicate 256 (.bool false))),256):=by kernel_rfl
theorem zj8:∀(j:Nat) (b:UInt8),Y8.data.toList[j]?=some b->b.toNat<128:=ascii_of_all (by decide)
theorem xE(s:ByteArray)(W:World):zR 176 #[s,Y8] W (.string (zj s)) :=
 Any.strings_TrimLeft_laid Tryz.lays161 zot s Y8 W (by decide) zj8
theorem zkd(s:ByteArray)(w:World)(h:s.toList=[97,110,121]):zC 183 #[s] w (yY w (.ok zm)):=by
 have HA:Hid (∀W,zC 182 #[] W fun e w'=>∃a' c',e=.returned (.agg #[.slice a' zm.length c'])/\zk w' (.slice a' zm.length c') zm/\(∀g,(Value.slice a' zm.length c').ownBlock=some g->W.heap.size<=g)/\zB W w'):=fun W=>(Xk W).mono fun e w' ⟨v',he,hs,hn,hb⟩=>by obtain⟨a',c',rfl⟩:=hs.form;exact⟨a',c',he,hs,hn,hb⟩
 have k0:=Blk.new w 105 #[.slice none 0 0];have hB:zB w (w.alloc (.cells #[.slice none 0 0] 105)):=zF.alloc zN _;have C:(w.alloc (.cells #[.slice none 0 0] 105)).heap.size=w.heap.size+1:=zc1 _ _;have o:Hid ((w.alloc (.cells #[.slice none 0 0] 105)).cell? w.heap.size=some (.slice none 0 0)):=k0.cell 0;have y:Hid ((w.alloc (.cells #[.slice none 0 0] 105)).frozen? w.heap.size=false):=k0.frozen 0;have HB:=zH hB;have L1:Hid (w.heap.size<(w.alloc (.cells #[.slice none 0 0] 105)).heap.size):=by show w.heap.size<_;omega
 clear k0 hB C;go_enter func183,ntmps183;go_wp2_with fail;generalize w.alloc (.cells #[.slice none 0 0] 105)=W0 at *;refine(HA.out _).mono ?_;rintro e wK ⟨a',c',rfl,u,q,j⟩;have J:=(j.cell (p:=w) L1.out).trans o.out;have K:=(j.frozen (p:=w) L1.out).trans y.out;have HP:=zH (ZG HB.out o.out zN L1.out u q j);clear u q j HA;go_wp2;obtain⟨h3,h4,h5,h6⟩:=HP.out;refine zc4 (v:=.tuple #[.agg #[.slice a' zm.length c'],.nilIface]) (by simp[results,results183,go_sem,h3]) rfl ?_;exact⟨_,rfl,h4,h5,h6⟩
theorem zm9(s:ByteArray)(w:World)(h:s.toList=[110,111,110,101]):zC 183 #[s] w (yY w (.ok [])):=by
 have hB:zB w (w.alloc (.cells #[.slice none 0 0] 105)):=zF.alloc zN _;have k0:(w.alloc (.cells #[.slice none 0 0] 105)).cell? w.heap.size=some (.slice none 0 0):=(Blk.new w 105 #[.slice none 0 0]).cell 0;have HB:=zH hB;have HK:=zH k0;clear hB k0;go_enter func183,ntmps183;go_wp2;have h3:=HK.out;refine zc4 (v:=.tuple #[.agg #[.slice none 0 0],.nilIface]) (by simp[results,results183,go_sem]) rfl ?_;exact⟨_,rfl,K4 _,fun g hg=>by simp[Value.ownBlock] at hg,HB.out⟩
theorem znV(s:ByteArray)(w:World)(hs:s.size<=100000)(hw:Lb w)(h1:(s.toList==[97,110,121])=false)(h2:(s.toList==[110,111,110,101])=false)(k:Int)(hv:zO (zj s)=.error k):zC 183 #[s] w (yY w (.error k)):=by
 have HT:=zH (fun W=>xE s W);have HP:Hid (∀W,zB w W->zR 81 #[.string (zj s)] W (.tuple #[.agg #[(0:Int),(0:Int),(0:Int)],.iface 53 (.int .i64 k)])):=fun W hb=>by have:=JY (zj s) W (zf1 (qL s) hs) (hw.below hb);rw[hv] at this;exact this
 have k0:=Blk.new w 105 #[.slice none 0 0];have hB:zB w (w.alloc (.cells #[.slice none 0 0] 105)):=zF.alloc zN _;have y:=zH k0;have HB:=zH hB;generalize zj s=t at *;clear hw hv k0 hB;go_enter func183,ntmps183;go_wp2_with fail;generalize w.alloc (.cells #[.slice none 0 0] 105)=W0 at *;refine(HT.out _).mono ?_;rintro e w1 ⟨rfl,J⟩;have j:zB w w1:=zT HB.out J;have H2:=zH (HP.out _ j);have M:=zH J;have u:=zH j;clear J j HP;go_wp2_with fail;refine H2.out.mono ?_;rintro e w2 ⟨rfl,K⟩;have hl:=y.out.lt;have m1:=(y.out.below M.out hl).below K (y.out.below M.out hl).lt;have m2:=m1.alloc (.cells z3 102);have V:(w2.alloc (.cells z3 102)).cell? w.heap.size=some (.slice none 0 0):=m2.cell 0;have X:=m2.frozen 0;have o:zB w w2:=zT u.out K;have q:((w2.alloc (.cells z3 102)).setCell w (.slice none 0 0)).cell? w.heap.size=some (.slice none 0 0):=(m2.set (i:=0)).cell 0;have R:zB w ((w2.alloc (.cells z3 102)).setCell w (.slice none 0 0)):=(zL o).setCell (p:=w) zN _;have C:=zH q;have U:=zH R;clear K hl m1 m2 H2 q R o;go_wp2;have h3:=C.out;refine zc4 (v:=.tuple #[.agg #[.slice none 0 0],.iface 53 (.int .i64 k)]) (by simp[results,results183,go_sem,h3]) rfl ?_;exact⟨rfl,U.out⟩
theorem zjD(g:ByteArray)(a b c:Nat)(ha:a<=999)(hb:b<=999)(hc:c<=999)(W:World):zC 221 #[.string g,.agg #[a,b,c]] W fun e w'=>∃a' n' c' er,e=.returned (.tuple #[.agg #[.slice a' n' c'],er])/\zB W w'/\(∀g,(Value.slice a' n' c').ownBlock=some g->W.heap.size<=g) /\
  (match xS g.toList a b c with
   |.ok l=>er=.nilIface/\zk w' (.slice a' n' c') l
   | .error k=>er=.iface 53 (.int .i64 k)/\Value.slice a' n' c'=.slice none 0 0):=(zhl g a b c ha hb hc W).mono fun e w' h=>by
 unfold yY at h;cases hs:xS g.toList a b c with
 |ok l =>rw[hs] at h;obtain⟨v',he,h1,h2,h3⟩:=h;obtain⟨a',c',rfl⟩:=h1.form;exact⟨a',_,c',_,he,h3,h2,rfl,h1⟩
 |error k =>rw[hs] at h;obtain⟨he,h3⟩:=h;exact⟨none,0,0,_,he,h3,fun g hg=>by simp[Value.ownBlock] at hg,rfl,rfl⟩
theorem zmi(s:ByteArray)(w:World)(hs:s.size<=100000)(hw:Lb w)(h1:(s.toList==[97,110,121])=false)(h2:(s.toList==[110,111,110,101])=false)(a b c:Nat)(ha:a<=999)(hb:b<=999)(hc:c<=999)(hv:zO (zj s)=.ok [a,b,c]):zC 183 #[s] w (yY w (xS (s.extract 0 (s.size-(zj s).size)).toList a b c)):=by
 have HT:=zH (fun W=>xE s W);have HP:Hid (∀W,zB w W->zR 81 #[.string (zj s)] W (.tuple #[.agg #[a,b,c],.nilIface])):=fun W hb=>by have:=JY (zj s) W (zf1 (qL s) hs) (hw.below hb);rw[hv] at this;exact this
 have af:=qL s;have k0:=Blk.new w 105 #[.slice none 0 0];have hB:zB w (w.alloc (.cells #[.slice none 0 0] 105)):=zF.alloc zN _;have K:=zH k0;have HB:=zH hB;generalize zj s=t at *;have HG:=zH (fun W=>zjD (s.extract 0 (s.size-t.size)) a b c ha hb hc W);have hq:(s.size:Int)-(t.size:Int)=((s.size-t.size:Nat):Int):=by omega
 have ai:s.size-t.size<=s.size:=by omega
 generalize xS (s.extract 0 (s.size-t.size)).toList a b c=X at *;generalize s.size-t.size=q at *;have i0:(0:Int)<=(q:Int):=by omega
 have i2:(q:Int)<=(s.size:Int):=by omega
 have a4:=fun W'=>run_slice_string_h (P:=prog) W' 9 s zrf .i64 (q:Int) i0 i2;simp only[zrh] at a4;have ab:wrap64 ((s.size:Int)-(t.size:Int))=(q:Int):=by rw[hq];unfold wrap64;omega
 have aj:IntKind.i64.wrap ((s.size:Int)-(t.size:Int))=(q:Int):=by rw[zrl];unfold wrap64 at ab;exact ab
 clear hw hv k0 hB af hq;go_enter func183,ntmps183;go_wp2_with fail;generalize w.alloc (.cells #[.slice none 0 0] 105)=W0 at *;refine(HT.out _).mono ?_;rintro e w1 ⟨rfl,a1⟩;have j:zB w w1:=zT HB.out a1;have H2:=zH (HP.out _ j);have V:=zH a1;have R:=zH j;clear a1 j HP;go_wp2_with fail;refine H2.out.mono ?_;rintro e w2 ⟨rfl,M⟩;have hl:=K.out.lt;have m1:=((K.out.below V.out hl).below M (K.out.below V.out hl).lt).alloc (.cells #[a,b,c] 102);have o:zB w w2:=zT R.out M;have y:=o.alloc o.size (.cells #[a,b,c] 102);have kv:=Blk.new w2 102 #[a,b,c];have Y:=zH m1;have U:=zH y;have u:=zH kv;have aa:w.heap.size<w2.heap.size:=zc6 (K.out.below V.out hl).lt M.size;have L1:=zH aa;clear M hl m1 H2 o y kv aa;go_wp2_with fail;generalize w2.alloc (.cells #[a,b,c] 102)=W3 at *;have SC:Hid (∀W,zB W3 W->W.cell? w2.heap.size=some (.int .i64 a)/\W.cell? ⟨w2.heap.size,1,none⟩=some (.int .i64 b)/\W.cell? ⟨w2.heap.size,2,none⟩=some (.int .i64 c)):=fun W hb=>⟨(u.out.below hb u.out.lt).cell 0,(u.out.below hb u.out.lt).cell 1,(u.out.below hb u.out.lt).cell 2⟩;have E0:zB W3 W3.drew:=zF.drew;go_region_held3 (fun w'=>w'.cell? w2.heap.size=some (.int .i64 a)/\w'.cell? ⟨w2.heap.size,1,none⟩=some (.int .i64 b)/\w'.cell? ⟨w2.heap.size,2,none⟩=some (.int .i64 c)) (first|exact SC.out _ E0|exact SC.out _ E1|exact S5)
  (first
   | ((with_reducible refine (HG.out _).mono ?_);rintro e wK ⟨a',n',c',er,rfl,a7,a3,a8⟩;have E1:zB W3 wK:=E0.trans a7;have mK:=Y.out.below E1 Y.out.lt;have ag:_=some (Value.slice none 0 0):=mK.cell 0;have ah:=mK.frozen 0;have S5:(wK.setCell w (.slice a' n' c')).cell? w2.heap.size=some (.int .i64 a)/\(wK.setCell w (.slice a' n' c')).cell? ⟨w2.heap.size,1,none⟩=some (.int .i64 b)/\(wK.setCell w (.slice a' n' c')).cell? ⟨w2.heap.size,2,none⟩=some (.int .i64 c):=⟨(qq (Nat.ne_of_gt L1.out)).trans (SC.out _ E1).1,(qq (Nat.ne_of_gt L1.out)).trans (SC.out _ E1).2.1,(qq (Nat.ne_of_gt L1.out)).trans (SC.out _ E1).2.2⟩;clear HG))
 have J:(wK.setCell w (.slice a' n' c')).cell? w.heap.size=some (.slice a' n' c'):=(mK.set (i:=0)).cell 0;have a6:zB w (wK.setCell w (.slice a' n' c')):=(zT U.out E1).setCell (p:=w) zN _;have a2:w.heap.size<W3.heap.size:=Y.out.lt;have a9:(Value.slice a' n' c').ownBlock≠some w.heap.size:=fun e=>by have:W3.heap.size<=w.heap.size:=a3 _ e;omega
 have C:∀g,(Value.slice a' n' c').ownBlock=some g->w.heap.size<=g:=fun g e=>by have:W3.heap.size<=g:=a3 _ e;omega
 have a0:=zH J;have a5:=zH a6;have ad:=zH a9;have Z:=zH C;have ac:=zH a8;clear J a6 a2 a9 C a8 a3 a7 mK S5 E0 E1;go_wp2;have h3:=a0.out;refine zc4 (v:=.tuple #[.agg #[.slice a' n' c'],er]) (by simp[results,results183,go_sem,h3]) rfl ?_;have hm:=ac.out;cases X with
 |ok l =>obtain⟨rfl,ae⟩:=hm;exact⟨_,rfl,ae.set ad.out,Z.out,a5.out⟩
 |error k =>obtain⟨rfl,a4⟩:=hm;have hb:=a5.out;rw[a4] at hb ⊢;exact⟨rfl,hb⟩
theorem zhK(s:ByteArray)(w:World)(hs:s.size<=100000)(hw:Lb w):zC 183 #[s] w (yY w (Za s)):=by
 unfold Za
 by_cases h1:s.toList=[97,110,121]
 ·rw[zc3 h1];exact zkd s w h1
 rw[zc2 h1]
 by_cases h2:s.toList=[110,111,110,101]
 ·rw[zc3 h2];exact zm9 s w h2
 rw[zc2 h2];cases hv:zO (zj s) with
 |error k=>exact znV s w hs hw (by simpa using h1) (by simpa using h2) k hv
 |ok ns =>obtain⟨h3,h9⟩:=YU hv;obtain⟨a,b,c,rfl⟩:=Yy h3;exact zmi s w hs hw (by simpa using h1) (by simpa using h2) a b c (h9 a (by simp)) (h9 b (by simp)) (h9 c (by simp)) hv
end
