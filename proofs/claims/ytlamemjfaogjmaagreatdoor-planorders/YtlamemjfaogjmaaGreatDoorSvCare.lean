/- signed: ~, ^, and what is none. -/
import Derived.Test.YtlamemjfaogjmaaGreatDoorSvNum
set_option maxHeartbeats 2000000
set_option maxRecDepth 100000
namespace Go.Proofs.YtlamemjfaogjmaaGreatDoor
section
open Go.RowKit Go.Shelf Sv
def za(a b c:Nat):Nat:=(a*1000+b)*1000+c
def xR(a b c:Nat):Nat:=if a≠0 then za (a+1) 0 0 else if b≠0 then za a (b+1) 0 else za a b (c+1)
def yk(g:List UInt8)(a b c:Nat):Except Int (List Span) :=
 if g=[]\/g=[61] then .ok (zc (za a b c) (za a b c+1))
 else if g=[33] then .ok (nt (zc (za a b c) (za a b c+1)))
 else if g=[60] then .ok (zc 0 (za a b c))
 else if g=[60,61] then .ok (zc 0 (za a b c+1))
 else if g=[62] then .ok (zc (za a b c+1) ALL)
 else if g=[62,61] then .ok (zc (za a b c) ALL)
 else if g=[94] then .ok (zc (za a b c) (xR a b c))
 else if g=[126] then .ok (zc (za a b c) (za a (b+1) 0))
 else .error 3
theorem qJ{a b c:Nat}(ha:a<=999)(hb:b<=999)(hc:c<=999):za a b c<ALL:=by unfold za ALL;omega
theorem zew{a b c:Nat}(ha:a<=999)(hb:b<=999)(hc:c<=999):xR a b c<=ALL:=by
 unfold xR za ALL;split
 ·omega
 ·split<;>omega
theorem zcp{g:List UInt8}{a b c:Nat}(ha:a<=999)(hb:b<=999)(hc:c<=999){l:List Span}(h:yk g a b c=.ok l):Rg l:=by
 have h1:=qJ ha hb hc;have h2:=zew ha hb hc;have h3:za a (b+1) 0<=ALL:=by unfold za ALL;omega
 unfold yk at h
 repeat' split at h
 all_goals first
  |(cases h;exact Qm (by omega))
  |(cases h;exact Qm zN)
  |(cases h;exact yo (Qm (by omega)))
  |cases h
def qR(w:World)(x:Except Int (List Span))(e:Ending)(w':World):Prop :=
 match x with
 |.ok l=>∃v',e=.returned (.tuple #[.agg #[v'],.nilIface])/\zb w' v' l/\(∀g,v'.ownBlock=some g->w.heap.size<=g)/\zB w w'
 |.error k=>e=.returned (.tuple #[.agg #[.slice none 0 0],.iface 28 (.int .i64 k)])/\zB w w'
theorem xe(w:World)(A B C:Value):∃W0:World,((w.alloc (.cells #[A,B,C] 87)).alloc (.cells #[.slice none 0 0] 90))=W0/\Blk W0 w.heap.size 87 #[A,B,C]/\Blk W0 (w.heap.size+1) 90 #[.slice none 0 0]/\zB w W0/\W0.heap.size=w.heap.size+2:=by
 have k0:=(Blk.new w 87 #[A,B,C]).alloc (.cells #[.slice none 0 0] 90);have k1:=Blk.new (w.alloc (.cells #[A,B,C] 87)) 90 #[.slice none 0 0];rw[World.size_alloc] at k1;exact⟨_,rfl,k0,k1,((Below.refl _ w).alloc zN _).alloc (by simp only[World.size_alloc];omega) _,by simp only[World.size_alloc]⟩
theorem xp(x y:Nat)(W:World):zC 103 #[.int .i64 x,.int .i64 y] W fun e w'=>∃a' c',e=.returned (.agg #[.slice a' (zc x y).length c'])/\zb w' (.slice a' (zc x y).length c') (zc x y)/\(∀g,(Value.slice a' (zc x y).length c').ownBlock=some g->W.heap.size<=g)/\zB W w' :=
 (K5 x y W).mono fun e w' ⟨v',he,hs,hn,hb⟩=>by obtain⟨a',c',rfl⟩:=hs.form;exact⟨a',c',he,hs,hn,hb⟩
theorem zaP(l:List Span)(hl:Rg l)(v:Value)(W:World)(hv:zb W v l):zC 120 #[.agg #[v]] W fun e w'=>∃a' c',e=.returned (.agg #[.slice a' (nt l).length c'])/\zb w' (.slice a' (nt l).length c') (nt l)/\(∀g,(Value.slice a' (nt l).length c').ownBlock=some g->W.heap.size<=g)/\zB W w' :=
 (QU l hl v W hv).mono fun e w' ⟨v',he,hs,hn,hb⟩=>by obtain⟨a',c',rfl⟩:=hs.form;exact⟨a',c',he,hs,hn,hb⟩
theorem zhm(g:ByteArray)(a b c:Nat)(ha:a<=999)(hb:b<=999)(hc:c<=999)(w:World)(hg:g.toList=[]) :
  zC 145 #[.string g,.agg #[.int .i64 a,.int .i64 b,.int .i64 c]] w (qR w (.ok (zc (za a b c) (za a b c+1)))):=by
 have HN:Hid (∀W,zR 129 #[.agg #[.int .i64 a,.int .i64 b,.int .i64 c]] W (.int .i64 (za a b c:Nat))):=fun W=>yq a b c (by omega) (by omega) (by omega) W;have hlt:=qJ ha hb hc;generalize za a b c=n at *;have hlt':(n:Int)<1000000000:=by unfold ALL at hlt;omega
 obtain⟨W0,hW0,k0,k1,hB,hs0⟩:=xe w (.int .i64 a) (.int .i64 b) (.int .i64 c);have HR:=zH (fun W=>xp n (n+1) W);have HW0:=zH hW0;have HK0:=zH k0;have HK1:=zH k1;have HB:=zH hB;have HS:=zH hs0;have HLT:=zH hlt;clear hW0 k0 k1 hB hs0 hlt;go_enter Tryz.func145,Tryz.ntmps145;go_wp2_with fail;rw[HW0.out];refine(HN.out _).mono ?_;rintro e w1 ⟨rfl,hb1⟩;have D1:=zH hb1;clear hb1;go_wp2_with fail;refine(HR.out _).mono ?_;rintro e wK ⟨a',c',rfl,hsK,hnn,hbK⟩;have hn2:∀g,(Value.slice a' (zc n (n+1)).length c').ownBlock=some g->W0.heap.size<=g:=fun g hg=>Nat.le_trans D1.out.size (hnn g hg);have DK:zB W0 wK:=zT D1.out hbK;have hl1:w.heap.size+1<W0.heap.size:=by have:=HS.out;omega
 have hc4:wK.cell? ⟨w.heap.size+1,0,none⟩=some (.slice none 0 0):=(HK1.out.below DK hl1).cell 0;have hf4:=(HK1.out.below DK hl1).frozen 0;have HP:=zH (yU HB.out (HK1.out.cell 0) (Nat.le_succ _) hl1 hsK hn2 DK);clear hsK hnn hbK hn2 DK hl1;go_wp2;obtain⟨h3,h4,h5,h6⟩:=HP.out;refine bodyPost_ret (v:=.tuple #[.agg #[.slice a' (zc n (n+1)).length c'],.nilIface]) (by simp[results,Tryz.results145,go_sem,h3]) rfl ?_;exact⟨_,rfl,h4,h5,h6⟩
theorem zfC(g:ByteArray)(a b c:Nat)(ha:a<=999)(hb:b<=999)(hc:c<=999)(w:World)(hg:g.toList=[61]) :
  zC 145 #[.string g,.agg #[.int .i64 a,.int .i64 b,.int .i64 c]] w (qR w (.ok (zc (za a b c) (za a b c+1)))):=by
 have HN:Hid (∀W,zR 129 #[.agg #[.int .i64 a,.int .i64 b,.int .i64 c]] W (.int .i64 (za a b c:Nat))):=fun W=>yq a b c (by omega) (by omega) (by omega) W;have hlt:=qJ ha hb hc;generalize za a b c=n at *;have hlt':(n:Int)<1000000000:=by unfold ALL at hlt;omega
 obtain⟨W0,hW0,k0,k1,hB,hs0⟩:=xe w (.int .i64 a) (.int .i64 b) (.int .i64 c);have HR:=zH (fun W=>xp n (n+1) W);have HW0:=zH hW0;have HK0:=zH k0;have HK1:=zH k1;have HB:=zH hB;have HS:=zH hs0;have HLT:=zH hlt;clear hW0 k0 k1 hB hs0 hlt;go_enter Tryz.func145,Tryz.ntmps145;go_wp2_with fail;rw[HW0.out];refine(HN.out _).mono ?_;rintro e w1 ⟨rfl,hb1⟩;have D1:=zH hb1;clear hb1;go_wp2_with fail;refine(HR.out _).mono ?_;rintro e wK ⟨a',c',rfl,hsK,hnn,hbK⟩;have hn2:∀g,(Value.slice a' (zc n (n+1)).length c').ownBlock=some g->W0.heap.size<=g:=fun g hg=>Nat.le_trans D1.out.size (hnn g hg);have DK:zB W0 wK:=zT D1.out hbK;have hl1:w.heap.size+1<W0.heap.size:=by have:=HS.out;omega
 have hc4:wK.cell? ⟨w.heap.size+1,0,none⟩=some (.slice none 0 0):=(HK1.out.below DK hl1).cell 0;have hf4:=(HK1.out.below DK hl1).frozen 0;have HP:=zH (yU HB.out (HK1.out.cell 0) (Nat.le_succ _) hl1 hsK hn2 DK);clear hsK hnn hbK hn2 DK hl1;go_wp2;obtain⟨h3,h4,h5,h6⟩:=HP.out;refine bodyPost_ret (v:=.tuple #[.agg #[.slice a' (zc n (n+1)).length c'],.nilIface]) (by simp[results,Tryz.results145,go_sem,h3]) rfl ?_;exact⟨_,rfl,h4,h5,h6⟩
theorem zgY(g:ByteArray)(a b c:Nat)(ha:a<=999)(hb:b<=999)(hc:c<=999)(w:World)(hg:g.toList=[60]) :
  zC 145 #[.string g,.agg #[.int .i64 a,.int .i64 b,.int .i64 c]] w (qR w (.ok (zc 0 (za a b c)))):=by
 have HN:Hid (∀W,zR 129 #[.agg #[.int .i64 a,.int .i64 b,.int .i64 c]] W (.int .i64 (za a b c:Nat))):=fun W=>yq a b c (by omega) (by omega) (by omega) W;have hlt:=qJ ha hb hc;generalize za a b c=n at *;have hlt':(n:Int)<1000000000:=by unfold ALL at hlt;omega
 obtain⟨W0,hW0,k0,k1,hB,hs0⟩:=xe w (.int .i64 a) (.int .i64 b) (.int .i64 c);have HR:=zH (fun W=>xp 0 n W);have HW0:=zH hW0;have HK0:=zH k0;have HK1:=zH k1;have HB:=zH hB;have HS:=zH hs0;have HLT:=zH hlt;clear hW0 k0 k1 hB hs0 hlt;go_enter Tryz.func145,Tryz.ntmps145;go_wp2_with fail;rw[HW0.out];refine(HN.out _).mono ?_;rintro e w1 ⟨rfl,hb1⟩;have D1:=zH hb1;clear hb1;go_wp2_with fail;refine(HR.out _).mono ?_;rintro e wK ⟨a',c',rfl,hsK,hnn,hbK⟩;have hn2:∀g,(Value.slice a' (zc 0 n).length c').ownBlock=some g->W0.heap.size<=g:=fun g hg=>Nat.le_trans D1.out.size (hnn g hg);have DK:zB W0 wK:=zT D1.out hbK;have hl1:w.heap.size+1<W0.heap.size:=by have:=HS.out;omega
 have hc4:wK.cell? ⟨w.heap.size+1,0,none⟩=some (.slice none 0 0):=(HK1.out.below DK hl1).cell 0;have hf4:=(HK1.out.below DK hl1).frozen 0;have HP:=zH (yU HB.out (HK1.out.cell 0) (Nat.le_succ _) hl1 hsK hn2 DK);clear hsK hnn hbK hn2 DK hl1;go_wp2;obtain⟨h3,h4,h5,h6⟩:=HP.out;refine bodyPost_ret (v:=.tuple #[.agg #[.slice a' (zc 0 n).length c'],.nilIface]) (by simp[results,Tryz.results145,go_sem,h3]) rfl ?_;exact⟨_,rfl,h4,h5,h6⟩
theorem zdm(g:ByteArray)(a b c:Nat)(ha:a<=999)(hb:b<=999)(hc:c<=999)(w:World)(hg:g.toList=[60,61]) :
  zC 145 #[.string g,.agg #[.int .i64 a,.int .i64 b,.int .i64 c]] w (qR w (.ok (zc 0 (za a b c+1)))):=by
 have HN:Hid (∀W,zR 129 #[.agg #[.int .i64 a,.int .i64 b,.int .i64 c]] W (.int .i64 (za a b c:Nat))):=fun W=>yq a b c (by omega) (by omega) (by omega) W;have hlt:=qJ ha hb hc;generalize za a b c=n at *;have hlt':(n:Int)<1000000000:=by unfold ALL at hlt;omega
 obtain⟨W0,hW0,k0,k1,hB,hs0⟩:=xe w (.int .i64 a) (.int .i64 b) (.int .i64 c);have HR:=zH (fun W=>xp 0 (n+1) W);have HW0:=zH hW0;have HK0:=zH k0;have HK1:=zH k1;have HB:=zH hB;have HS:=zH hs0;have HLT:=zH hlt;clear hW0 k0 k1 hB hs0 hlt;go_enter Tryz.func145,Tryz.ntmps145;go_wp2_with fail;rw[HW0.out];refine(HN.out _).mono ?_;rintro e w1 ⟨rfl,hb1⟩;have D1:=zH hb1;clear hb1;go_wp2_with fail;refine(HR.out _).mono ?_;rintro e wK ⟨a',c',rfl,hsK,hnn,hbK⟩;have hn2:∀g,(Value.slice a' (zc 0 (n+1)).length c').ownBlock=some g->W0.heap.size<=g:=fun g hg=>Nat.le_trans D1.out.size (hnn g hg);have DK:zB W0 wK:=zT D1.out hbK;have hl1:w.heap.size+1<W0.heap.size:=by have:=HS.out;omega
 have hc4:wK.cell? ⟨w.heap.size+1,0,none⟩=some (.slice none 0 0):=(HK1.out.below DK hl1).cell 0;have hf4:=(HK1.out.below DK hl1).frozen 0;have HP:=zH (yU HB.out (HK1.out.cell 0) (Nat.le_succ _) hl1 hsK hn2 DK);clear hsK hnn hbK hn2 DK hl1;go_wp2;obtain⟨h3,h4,h5,h6⟩:=HP.out;refine bodyPost_ret (v:=.tuple #[.agg #[.slice a' (zc 0 (n+1)).length c'],.nilIface]) (by simp[results,Tryz.results145,go_sem,h3]) rfl ?_;exact⟨_,rfl,h4,h5,h6⟩
theorem zbe(g:ByteArray)(a b c:Nat)(ha:a<=999)(hb:b<=999)(hc:c<=999)(w:World)(hg:g.toList=[62]) :
  zC 145 #[.string g,.agg #[.int .i64 a,.int .i64 b,.int .i64 c]] w (qR w (.ok (zc (za a b c+1) 1000000000))):=by
 have HN:Hid (∀W,zR 129 #[.agg #[.int .i64 a,.int .i64 b,.int .i64 c]] W (.int .i64 (za a b c:Nat))):=fun W=>yq a b c (by omega) (by omega) (by omega) W;have hlt:=qJ ha hb hc;generalize za a b c=n at *;have hlt':(n:Int)<1000000000:=by unfold ALL at hlt;omega
 obtain⟨W0,hW0,k0,k1,hB,hs0⟩:=xe w (.int .i64 a) (.int .i64 b) (.int .i64 c);have HR:=zH (fun W=>xp (n+1) 1000000000 W);have HW0:=zH hW0;have HK0:=zH k0;have HK1:=zH k1;have HB:=zH hB;have HS:=zH hs0;have HLT:=zH hlt;clear hW0 k0 k1 hB hs0 hlt;go_enter Tryz.func145,Tryz.ntmps145;go_wp2_with fail;rw[HW0.out];refine(HN.out _).mono ?_;rintro e w1 ⟨rfl,hb1⟩;have D1:=zH hb1;clear hb1;go_wp2_with fail;refine(HR.out _).mono ?_;rintro e wK ⟨a',c',rfl,hsK,hnn,hbK⟩;have hn2:∀g,(Value.slice a' (zc (n+1) 1000000000).length c').ownBlock=some g->W0.heap.size<=g:=fun g hg=>Nat.le_trans D1.out.size (hnn g hg);have DK:zB W0 wK:=zT D1.out hbK;have hl1:w.heap.size+1<W0.heap.size:=by have:=HS.out;omega
 have hc4:wK.cell? ⟨w.heap.size+1,0,none⟩=some (.slice none 0 0):=(HK1.out.below DK hl1).cell 0;have hf4:=(HK1.out.below DK hl1).frozen 0;have HP:=zH (yU HB.out (HK1.out.cell 0) (Nat.le_succ _) hl1 hsK hn2 DK);clear hsK hnn hbK hn2 DK hl1;go_wp2;obtain⟨h3,h4,h5,h6⟩:=HP.out;refine bodyPost_ret (v:=.tuple #[.agg #[.slice a' (zc (n+1) 1000000000).length c'],.nilIface]) (by simp[results,Tryz.results145,go_sem,h3]) rfl ?_;exact⟨_,rfl,h4,h5,h6⟩
theorem zgh(g:ByteArray)(a b c:Nat)(ha:a<=999)(hb:b<=999)(hc:c<=999)(w:World)(hg:g.toList=[62,61]) :
  zC 145 #[.string g,.agg #[.int .i64 a,.int .i64 b,.int .i64 c]] w (qR w (.ok (zc (za a b c) 1000000000))):=by
 have HN:Hid (∀W,zR 129 #[.agg #[.int .i64 a,.int .i64 b,.int .i64 c]] W (.int .i64 (za a b c:Nat))):=fun W=>yq a b c (by omega) (by omega) (by omega) W;have hlt:=qJ ha hb hc;generalize za a b c=n at *;have hlt':(n:Int)<1000000000:=by unfold ALL at hlt;omega
 obtain⟨W0,hW0,k0,k1,hB,hs0⟩:=xe w (.int .i64 a) (.int .i64 b) (.int .i64 c);have HR:=zH (fun W=>xp n 1000000000 W);have HW0:=zH hW0;have HK0:=zH k0;have HK1:=zH k1;have HB:=zH hB;have HS:=zH hs0;have HLT:=zH hlt;clear hW0 k0 k1 hB hs0 hlt;go_enter Tryz.func145,Tryz.ntmps145;go_wp2_with fail;rw[HW0.out];refine(HN.out _).mono ?_;rintro e w1 ⟨rfl,hb1⟩;have D1:=zH hb1;clear hb1;go_wp2_with fail;refine(HR.out _).mono ?_;rintro e wK ⟨a',c',rfl,hsK,hnn,hbK⟩;have hn2:∀g,(Value.slice a' (zc n 1000000000).length c').ownBlock=some g->W0.heap.size<=g:=fun g hg=>Nat.le_trans D1.out.size (hnn g hg);have DK:zB W0 wK:=zT D1.out hbK;have hl1:w.heap.size+1<W0.heap.size:=by have:=HS.out;omega
 have hc4:wK.cell? ⟨w.heap.size+1,0,none⟩=some (.slice none 0 0):=(HK1.out.below DK hl1).cell 0;have hf4:=(HK1.out.below DK hl1).frozen 0;have HP:=zH (yU HB.out (HK1.out.cell 0) (Nat.le_succ _) hl1 hsK hn2 DK);clear hsK hnn hbK hn2 DK hl1;go_wp2;obtain⟨h3,h4,h5,h6⟩:=HP.out;refine bodyPost_ret (v:=.tuple #[.agg #[.slice a' (zc n 1000000000).length c'],.nilIface]) (by simp[results,Tryz.results145,go_sem,h3]) rfl ?_;exact⟨_,rfl,h4,h5,h6⟩
theorem zg8(g:ByteArray)(a b c:Nat)(ha:a<=999)(hb:b<=999)(hc:c<=999)(w:World)(hg:g.toList=[33]) :
  zC 145 #[.string g,.agg #[.int .i64 a,.int .i64 b,.int .i64 c]] w (qR w (.ok (nt (zc (za a b c) (za a b c+1))))):=by
 have HN:Hid (∀W,zR 129 #[.agg #[.int .i64 a,.int .i64 b,.int .i64 c]] W (.int .i64 (za a b c:Nat))):=fun W=>yq a b c (by omega) (by omega) (by omega) W;have hlt:=qJ ha hb hc;generalize za a b c=n at *;have hlt':(n:Int)<1000000000:=by unfold ALL at hlt;omega
 obtain⟨W0,hW0,k0,k1,hB,hs0⟩:=xe w (.int .i64 a) (.int .i64 b) (.int .i64 c);have HR:=zH (fun W=>xp n (n+1) W);have HT:Hid (∀v W,zb W v (zc n (n+1))->zC 120 #[.agg #[v]] W fun e w'=>∃a' c',e=.returned (.agg #[.slice a' (nt (zc n (n+1))).length c'])/\zb w' (.slice a' (nt (zc n (n+1))).length c') (nt (zc n (n+1)))/\(∀g,(Value.slice a' (nt (zc n (n+1))).length c').ownBlock=some g->W.heap.size<=g)/\zB W w'):=fun v W h=>zaP _ (Qm (by omega)) v W h;have HW0:=zH hW0;have HK0:=zH k0;have HK1:=zH k1;have HB:=zH hB;have HS:=zH hs0;have HLT:=zH hlt;clear hW0 k0 k1 hB hs0 hlt;go_enter Tryz.func145,Tryz.ntmps145;go_wp2_with fail;rw[HW0.out];refine(HN.out _).mono ?_;rintro e w1 ⟨rfl,hb1⟩;have D1:=zH hb1;clear hb1;go_wp2_with fail;refine(HR.out _).mono ?_;rintro e w2 ⟨a2,c2,rfl,hs2,-,hb2⟩;have D2:Hid (zB W0 w2):=zT D1.out hb2;have HT2:=zH (HT.out _ _ hs2);clear hs2 hb2 HT HR;go_wp2_with fail;refine HT2.out.mono ?_;rintro e wK ⟨a',c',rfl,hsK,hnn,hbK⟩;have hn2:∀g,(Value.slice a' (nt (zc n (n+1))).length c').ownBlock=some g->W0.heap.size<=g:=fun g hg=>Nat.le_trans D2.out.size (hnn g hg);have DK:zB W0 wK:=zT D2.out hbK;have hl1:w.heap.size+1<W0.heap.size:=by have:=HS.out;omega
 have hc4:wK.cell? ⟨w.heap.size+1,0,none⟩=some (.slice none 0 0):=(HK1.out.below DK hl1).cell 0;have hf4:=(HK1.out.below DK hl1).frozen 0;have HP:=zH (yU HB.out (HK1.out.cell 0) (Nat.le_succ _) hl1 hsK hn2 DK);clear hsK hnn hbK hn2 DK hl1;go_wp2;obtain⟨h3,h4,h5,h6⟩:=HP.out;refine bodyPost_ret (v:=.tuple #[.agg #[.slice a' (nt (zc n (n+1))).length c'],.nilIface]) (by simp[results,Tryz.results145,go_sem,h3]) rfl ?_;exact⟨_,rfl,h4,h5,h6⟩
end
section
open Go.RowKit Go.Shelf Sv
theorem zcF(g:ByteArray)(a b c:Nat)(ha:a<=999)(hb:b<=999)(hc:c<=999)(w:World)(hg:g.toList=[126]) :
  zC 145 #[.string g,.agg #[.int .i64 a,.int .i64 b,.int .i64 c]] w (qR w (.ok (zc (za a b c) (za a (b+1) 0)))):=by
 have HN:Hid (∀W,zR 129 #[.agg #[.int .i64 a,.int .i64 b,.int .i64 c]] W (.int .i64 (za a b c:Nat))):=fun W=>yq a b c (by omega) (by omega) (by omega) W;have HX:=zH (fun W=>KK a b c hb W);have HM:Hid (∀W,zR 129 #[.agg #[.int .i64 a,.int .i64 ((b+1:Nat):Int),.int .i64 0]] W (.int .i64 (za a (b+1) 0:Nat))):=fun W=>yq a (b+1) 0 (by omega) (by omega) (by omega) W;generalize za a (b+1) 0=m at *;generalize za a b c=n at *;generalize ((b+1:Nat):Int)=b1 at *;obtain⟨W0,hW0,k0,k1,hB,hs0⟩:=xe w (.int .i64 a) (.int .i64 b) (.int .i64 c);have HR:=zH (fun W=>xp n m W);have HW0:=zH hW0;have HK0:=zH k0;have HK1:=zH k1;have HB:=zH hB;have HS:=zH hs0;clear hW0 k0 k1 hB hs0;go_enter Tryz.func145,Tryz.ntmps145;go_wp2_with fail;rw[HW0.out];refine(HN.out _).mono ?_;rintro e w1 ⟨rfl,hb1⟩;have D1:=zH hb1;have hl0:w.heap.size<W0.heap.size:=by have:=HS.out;omega
 have q0:w1.cell? ⟨w.heap.size,0,none⟩=some (.int .i64 a):=(HK0.out.below hb1 hl0).cell 0;have q1:w1.cell? ⟨w.heap.size,1,none⟩=some (.int .i64 b):=(HK0.out.below hb1 hl0).cell 1;have q2:w1.cell? ⟨w.heap.size,2,none⟩=some (.int .i64 c):=(HK0.out.below hb1 hl0).cell 2;clear hb1 hl0;go_wp2_with fail;refine(HX.out _).mono ?_;rintro e w2 ⟨rfl,hb2⟩;have D2:Hid (zB W0 w2):=zT D1.out hb2;clear hb2 q0 q1 q2;go_wp2_with fail;refine(HM.out _).mono ?_;rintro e w3 ⟨rfl,hb3⟩;have D3:Hid (zB W0 w3):=zT D2.out hb3;clear hb3;go_wp2_with fail;refine(HR.out _).mono ?_;rintro e wK ⟨a',c',rfl,hsK,hnn,hbK⟩;have hn2:∀g,(Value.slice a' (zc n m).length c').ownBlock=some g->W0.heap.size<=g:=fun g hg=>Nat.le_trans D3.out.size (hnn g hg);have DK:zB W0 wK:=zT D3.out hbK;have hl1:w.heap.size+1<W0.heap.size:=by have:=HS.out;omega
 have hc4:wK.cell? ⟨w.heap.size+1,0,none⟩=some (.slice none 0 0):=(HK1.out.below DK hl1).cell 0;have hf4:=(HK1.out.below DK hl1).frozen 0;have HP:=zH (yU HB.out (HK1.out.cell 0) (Nat.le_succ _) hl1 hsK hn2 DK);clear hsK hnn hbK hn2 DK hl1;go_wp2;obtain⟨h3,h4,h5,h6⟩:=HP.out;refine bodyPost_ret (v:=.tuple #[.agg #[.slice a' (zc n m).length c'],.nilIface]) (by simp[results,Tryz.results145,go_sem,h3]) rfl ?_;exact⟨_,rfl,h4,h5,h6⟩
theorem Yt(g:ByteArray)(a b c:Nat)(ha:a<=999)(hb:b<=999)(hc:c<=999)(w:World)(hg:g.toList=[94])(pl:Int)(x y z:Int)(m:Nat)(HL:Hid (∀W,zR 169 #[.agg #[.int .i64 a,.int .i64 b,.int .i64 c]] W (.int .i64 pl)))
  (HX:Hid (∀W,zR 168 #[.agg #[.int .i64 a,.int .i64 b,.int .i64 c],.int .i64 pl] W (.agg #[.int .i64 x,.int .i64 y,.int .i64 z])))
  (HM:Hid (∀W,zR 129 #[.agg #[.int .i64 x,.int .i64 y,.int .i64 z]] W (.int .i64 m))) :
  zC 145 #[.string g,.agg #[.int .i64 a,.int .i64 b,.int .i64 c]] w (qR w (.ok (zc (za a b c) m))):=by
 have HN:Hid (∀W,zR 129 #[.agg #[.int .i64 a,.int .i64 b,.int .i64 c]] W (.int .i64 (za a b c:Nat))):=fun W=>yq a b c (by omega) (by omega) (by omega) W;generalize za a b c=n at *;obtain⟨W0,hW0,k0,k1,hB,hs0⟩:=xe w (.int .i64 a) (.int .i64 b) (.int .i64 c);have HR:=zH (fun W=>xp n m W);have HW0:=zH hW0;have HK0:=zH k0;have HK1:=zH k1;have HB:=zH hB;have HS:=zH hs0;clear hW0 k0 k1 hB hs0;go_enter Tryz.func145,Tryz.ntmps145;go_wp2_with fail;rw[HW0.out];refine(HN.out _).mono ?_;rintro e w1 ⟨rfl,hb1⟩;have D1:=zH hb1;have hl0:w.heap.size<W0.heap.size:=by have:=HS.out;omega
 have q0:w1.cell? ⟨w.heap.size,0,none⟩=some (.int .i64 a):=(HK0.out.below hb1 hl0).cell 0;have q1:w1.cell? ⟨w.heap.size,1,none⟩=some (.int .i64 b):=(HK0.out.below hb1 hl0).cell 1;have q2:w1.cell? ⟨w.heap.size,2,none⟩=some (.int .i64 c):=(HK0.out.below hb1 hl0).cell 2;clear hb1 hl0;have HS0:=HS.out;have L1:Hid (w.heap.size+1<W0.heap.size):=by show w.heap.size+1<W0.heap.size;omega
 have L0:Hid (w.heap.size+1<=W0.heap.size):=by show w.heap.size+1<=W0.heap.size;omega
 have SC:Hid (∀W,Below (w.heap.size+1) W0 W->W.cell? ⟨w.heap.size,0,none⟩=some (.int .i64 a)/\W.cell? ⟨w.heap.size,1,none⟩=some (.int .i64 b)/\W.cell? ⟨w.heap.size,2,none⟩=some (.int .i64 c)):=fun W hb=>⟨(HK0.out.below hb (Nat.lt_succ_self _)).cell 0,(HK0.out.below hb (Nat.lt_succ_self _)).cell 1,(HK0.out.below hb (Nat.lt_succ_self _)).cell 2⟩;have HC0:Hid (W0.cell? ⟨w.heap.size+1,0,none⟩=some (.slice none 0 0)):=HK1.out.cell 0;have HF0:Hid (W0.frozen? ⟨w.heap.size+1,0,none⟩=false):=HK1.out.frozen 0;have E0:zB W0 w1.drew:=D1.out.drew;clear HS0 q0 q1 q2;go_wp2_with fail;go_region_held3 (fun w'=>w'.cell? ⟨w.heap.size,0,none⟩=some (.int .i64 a)/\w'.cell? ⟨w.heap.size,1,none⟩=some (.int .i64 b)/\w'.cell? ⟨w.heap.size,2,none⟩=some (.int .i64 c)) (first|exact SC.out _ (E0.mono L0.out)|exact SC.out _ (E1.mono L0.out)|exact SC.out _ (E2.mono L0.out)|exact SC.out _ (E3.mono L0.out)|exact SC.out _ (E4.mono L0.out)|exact SC.out _ E5)
  (first
   |((with_reducible refine(HL.out _).mono ?_);rintro e w2 ⟨rfl,hb2⟩;have E1:zB W0 w2:=zT E0 hb2;clear HL)
   |((with_reducible refine(HX.out _).mono ?_);rintro e w3 ⟨rfl,hb3⟩;have E2:zB W0 w3:=zT E1 hb3;clear HX)
   |((with_reducible refine(HM.out _).mono ?_);rintro e w4 ⟨rfl,hb4⟩;have E3:zB W0 w4:=zT E2 hb4;clear HM)
   | ((with_reducible refine (HR.out _).mono ?_);rintro e wK ⟨a',c',rfl,hsK,hnn,hbK⟩;have E4:zB W0 wK:=zT E3 hbK;have hc4:=(E4.cell (p:=⟨w.heap.size + 1,0,none⟩) L1.out).trans HC0.out;have hf4:=(E4.frozen (p:=⟨w.heap.size + 1,0,none⟩) L1.out).trans HF0.out;have E5:Below (w.heap.size + 1) W0 (wK.setCell ⟨w.heap.size + 1,0,none⟩ (.slice a' (zc n m).length c')):=(E4.mono L0.out).setCell (p:=⟨w.heap.size + 1,0,none⟩) zN _;clear HR))
 have hn2:∀g,(Value.slice a' (zc n m).length c').ownBlock=some g->W0.heap.size<=g:=fun g hg=>Nat.le_trans E3.size (hnn g hg);have HP:=zH (yU HB.out HC0.out (Nat.le_succ _) L1.out hsK hn2 E4);clear hsK hnn hbK hn2 E0 E1 E2 E3 E4 E5 hb2 hb3 hb4;go_wp2;obtain⟨h3,h4,h5,h6⟩:=HP.out;refine bodyPost_ret (v:=.tuple #[.agg #[.slice a' (zc n m).length c'],.nilIface]) (by simp[results,Tryz.results145,go_sem,h3]) rfl ?_;exact⟨_,rfl,h4,h5,h6⟩
theorem zdI(g:ByteArray)(a b c:Nat)(ha:a<=999)(hb:b<=999)(hc:c<=999)(w:World)(hg:g.toList=[94]) :
  zC 145 #[.string g,.agg #[.int .i64 a,.int .i64 b,.int .i64 c]] w (qR w (.ok (zc (za a b c) (xR a b c)))):=by
 unfold xR
 by_cases h0:a≠0
 ·rw[if_pos h0];exact Yt g a b c ha hb hc w hg 0 ((a+1:Nat):Int) 0 0 _ (fun W=>by have:=Xv a b c W;rw[if_pos h0] at this;exact this) (fun W=>zcK a b c ha W) (fun W=>yq (a+1) 0 0 (by omega) (by omega) (by omega) W)
 ·rw[if_neg h0]
  by_cases h1:b≠0
  ·rw[if_pos h1];exact Yt g a b c ha hb hc w hg 1 (a:Int) ((b+1:Nat):Int) 0 _ (fun W=>by have:=Xv a b c W;rw[if_neg h0,if_pos h1] at this;exact this) (fun W=>KK a b c hb W) (fun W=>yq a (b+1) 0 (by omega) (by omega) (by omega) W)
  ·rw[if_neg h1];exact Yt g a b c ha hb hc w hg 2 (a:Int) (b:Int) ((c+1:Nat):Int) _ (fun W=>by have:=Xv a b c W;rw[if_neg h0,if_neg h1] at this;exact this) (fun W=>zbs a b c hc W) (fun W=>yq a b (c+1) (by omega) (by omega) (by omega) W)
theorem zgy(g:ByteArray)(a b c:Nat)(ha:a<=999)(hb:b<=999)(hc:c<=999)(w:World)(g0:(g.toList==[])=false)(g1:(g.toList==[61])=false)(g2:(g.toList==[33])=false)(g3:(g.toList==[60])=false)(g4:(g.toList==[60,61])=false)(g5:(g.toList==[62])=false)(g6:(g.toList==[62,61])=false)(g7:(g.toList==[94])=false)(g8:(g.toList==[126])=false) :
  zC 145 #[.string g,.agg #[.int .i64 a,.int .i64 b,.int .i64 c]] w (qR w (.error 3)):=by
 have HN:Hid (∀W,zR 129 #[.agg #[.int .i64 a,.int .i64 b,.int .i64 c]] W (.int .i64 (za a b c:Nat))):=fun W=>yq a b c (by omega) (by omega) (by omega) W;generalize za a b c=n at *;have ge:g.toList.isEmpty=false:=by
  cases h:g.toList with
  |nil=>rw[h] at g0;cases g0
  |cons x l=>rfl
 obtain⟨W0,hW0,k0,k1,hB,hs0⟩:=xe w (.int .i64 a) (.int .i64 b) (.int .i64 c);have HW0:=zH hW0;have HK1:=zH k1;have HB:=zH hB;have HS:=zH hs0;clear hW0 k0 k1 hB hs0 g0;go_enter Tryz.func145,Tryz.ntmps145;go_wp2_with fail;rw[HW0.out];refine(HN.out _).mono ?_;rintro e w1 ⟨rfl,hb1⟩;have hl1:w.heap.size+1<W0.heap.size:=by have:=HS.out;omega
 have m1:=HK1.out.below hb1 hl1;have hc4:_=some (Value.slice none 0 0):=m1.cell 0;have hf4:=m1.frozen 0;have hset:(w1.setCell ⟨w.heap.size+1,0,none⟩ (.slice none 0 0)).cell? ⟨w.heap.size+1,0,none⟩=some (.slice none 0 0):=(m1.set (i:=0)).cell 0;have hB2:zB w (w1.setCell ⟨w.heap.size+1,0,none⟩ (.slice none 0 0)):=(zT HB.out hb1).setCell (p:=⟨w.heap.size+1,0,none⟩) (Nat.le_succ _) _;have HSET:=zH hset;have HB2:=zH hB2;clear hb1 hl1 m1 hset hB2;go_wp2;have h3:=HSET.out;refine bodyPost_ret (v:=.tuple #[.agg #[.slice none 0 0],.iface 28 (.int .i64 3)]) (by simp[results,Tryz.results145,go_sem,h3]) rfl ?_;exact⟨rfl,HB2.out⟩
theorem zgx(g:ByteArray)(a b c:Nat)(ha:a<=999)(hb:b<=999)(hc:c<=999)(w:World) :
  zC 145 #[.string g,.agg #[.int .i64 a,.int .i64 b,.int .i64 c]] w (qR w (yk g.toList a b c)):=by
 unfold yk
 by_cases h0:g.toList=[]\/g.toList=[61]
 ·rw[if_pos h0];rcases h0 with h0|h0
  ·exact zhm g a b c ha hb hc w h0
  ·exact zfC g a b c ha hb hc w h0
 rw[if_neg h0]
 by_cases h1:g.toList=[33]
 ·rw[if_pos h1];exact zg8 g a b c ha hb hc w h1
 rw[if_neg h1]
 by_cases h2:g.toList=[60]
 ·rw[if_pos h2];exact zgY g a b c ha hb hc w h2
 rw[if_neg h2]
 by_cases h3:g.toList=[60,61]
 ·rw[if_pos h3];exact zdm g a b c ha hb hc w h3
 rw[if_neg h3]
 by_cases h4:g.toList=[62]
 ·rw[if_pos h4];exact zbe g a b c ha hb hc w h4
 rw[if_neg h4]
 by_cases h5:g.toList=[62,61]
 ·rw[if_pos h5];exact zgh g a b c ha hb hc w h5
 rw[if_neg h5]
 by_cases h6:g.toList=[94]
 ·rw[if_pos h6];exact zdI g a b c ha hb hc w h6
 rw[if_neg h6]
 by_cases h7:g.toList=[126]
 ·rw[if_pos h7];exact zcF g a b c ha hb hc w h7
 rw[if_neg h7];exact zgy g a b c ha hb hc w (by simpa using fun e=>h0 (.inl e)) (by simpa using fun e=>h0 (.inr e)) (by simpa using h1) (by simpa using h2) (by simpa using h3) (by simpa using h4) (by simpa using h5) (by simpa using h6) (by simpa using h7)
end
end Go.Proofs.YtlamemjfaogjmaaGreatDoor
