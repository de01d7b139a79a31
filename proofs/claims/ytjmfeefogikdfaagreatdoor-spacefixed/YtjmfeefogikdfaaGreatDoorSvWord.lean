/- parseWord. -/
import Derived.Test.YtjmfeefogikdfaaGreatDoorSvNum
set_option maxHeartbeats 2000000
set_option maxRecDepth 1000000
namespace Go.Proofs.YtjmfeefogikdfaaGreatDoor
section
open Go.RowKit Go.Shelf Sv
def zu(a b c:Nat):Nat:=(a*1000+b)*1000+c
def YR(a b c:Nat):Nat:=if a≠0 then zu (a+1) 0 0 else if b≠0 then zu a (b+1) 0 else zu a b (c+1)
def ZY(g:List UInt8)(a b c:Nat):Except Int (List zh) :=
 if g=[]\/g=[61] then .ok (zw (zu a b c) (zu a b c+1))
 else if g=[33] then .ok (nt (zw (zu a b c) (zu a b c+1)))
 else if g=[60] then .ok (zw 0 (zu a b c))
 else if g=[60,61] then .ok (zw 0 (zu a b c+1))
 else if g=[62] then .ok (zw (zu a b c+1) ALL)
 else if g=[62,61] then .ok (zw (zu a b c) ALL)
 else if g=[94] then .ok (zw (zu a b c) (YR a b c))
 else if g=[126] then .ok (zw (zu a b c) (zu a (b+1) 0))
 else .error 3
theorem Z3{a b c:Nat}(ha:a<=999)(hb:b<=999)(hc:c<=999):zu a b c<ALL:=by unfold zu ALL;omega
theorem zhf{a b c:Nat}(ha:a<=999)(hb:b<=999)(hc:c<=999):YR a b c<=ALL:=by
 unfold YR zu ALL;split
 ·omega
 ·split<;>omega
theorem zlE{g:List UInt8}{a b c:Nat}(ha:a<=999)(hb:b<=999)(hc:c<=999){l:List zh}(h:ZY g a b c=.ok l):Rg l:=by
 have h1:=Z3 ha hb hc;have h2:=zhf ha hb hc;have h3:zu a (b+1) 0<=ALL:=by unfold zu ALL;omega
 unfold ZY at h
 repeat' split at h
 all_goals first
  |(cases h;exact Kq (by omega))
  |(cases h;exact Kq zN)
  |(cases h;exact ZO (Kq (by omega)))
  |cases h
def yH(w:World)(x:Except Int (List zh))(e:Ending)(w':World):Prop :=
 match x with
 |.ok l=>∃v',e=.returned (.tuple #[.agg #[v'],.nilIface])/\zi w' v' l/\(∀g,v'.ownBlock=some g->w.heap.size<=g)/\zB w w'
 |.error k=>e=.returned (.tuple #[.agg #[.slice none 0 0],.iface 76 (.int .i64 k)])/\zB w w'
theorem ZF(w:World)(A B C:Value):∃W0:World,((w.alloc (.cells #[A,B,C] 93)).alloc (.cells #[.slice none 0 0] 96))=W0/\Blk W0 w.heap.size 93 #[A,B,C]/\Blk W0 (w.heap.size+1) 96 #[.slice none 0 0]/\zB w W0/\W0.heap.size=w.heap.size+2:=by
 have k0:=(Blk.new w 93 #[A,B,C]).alloc (.cells #[.slice none 0 0] 96);have k1:=Blk.new (w.alloc (.cells #[A,B,C] 93)) 96 #[.slice none 0 0];rw[World.size_alloc] at k1;exact⟨_,rfl,k0,k1,((Below.refl _ w).alloc zN _).alloc (by simp only[World.size_alloc];omega) _,by simp only[World.size_alloc]⟩
theorem ZS(x y:Nat)(W:World):zC 181 #[.int .i64 x,.int .i64 y] W fun e w'=>∃a' c',e=.returned (.agg #[.slice a' (zw x y).length c'])/\zi w' (.slice a' (zw x y).length c') (zw x y)/\(∀g,(Value.slice a' (zw x y).length c').ownBlock=some g->W.heap.size<=g)/\zB W w' :=
 (zeF x y W).mono fun e w' ⟨v',he,hs,hn,hb⟩=>by obtain⟨a',c',rfl⟩:=hs.form;exact⟨a',c',he,hs,hn,hb⟩
theorem zk0(l:List zh)(hl:Rg l)(v:Value)(W:World)(hv:zi W v l):zC 146 #[.agg #[v]] W fun e w'=>∃a' c',e=.returned (.agg #[.slice a' (nt l).length c'])/\zi w' (.slice a' (nt l).length c') (nt l)/\(∀g,(Value.slice a' (nt l).length c').ownBlock=some g->W.heap.size<=g)/\zB W w' :=
 (Kf l hl v W hv).mono fun e w' ⟨v',he,hs,hn,hb⟩=>by obtain⟨a',c',rfl⟩:=hs.form;exact⟨a',c',he,hs,hn,hb⟩
theorem zil(g:ByteArray)(a b c:Nat)(ha:a<=999)(hb:b<=999)(hc:c<=999)(w:World)(hg:g.toList=[]) :
  zC 183 #[.string g,.agg #[.int .i64 a,.int .i64 b,.int .i64 c]] w (yH w (.ok (zw (zu a b c) (zu a b c+1)))):=by
 have HN:Hid (∀W,zR 113 #[.agg #[.int .i64 a,.int .i64 b,.int .i64 c]] W (.int .i64 (zu a b c:Nat))):=fun W=>xA a b c (by omega) (by omega) (by omega) W;have hlt:=Z3 ha hb hc;generalize zu a b c=n at *;have hlt':(n:Int)<1000000000:=by unfold ALL at hlt;omega
 obtain⟨W0,hW0,k0,k1,hB,hs0⟩:=ZF w (.int .i64 a) (.int .i64 b) (.int .i64 c);have HR:=zH (fun W=>ZS n (n+1) W);have HW0:=zH hW0;have HK0:=zH k0;have HK1:=zH k1;have HB:=zH hB;have HS:=zH hs0;have HLT:=zH hlt;clear hW0 k0 k1 hB hs0 hlt;go_enter Tryz.func183,Tryz.ntmps183;go_wp2_with fail;rw[HW0.out];refine(HN.out _).mono ?_;rintro e w1 ⟨rfl,hb1⟩;have D1:=zH hb1;clear hb1;go_wp2_with fail;refine(HR.out _).mono ?_;rintro e wK ⟨a',c',rfl,hsK,hnn,hbK⟩;have hn2:∀g,(Value.slice a' (zw n (n+1)).length c').ownBlock=some g->W0.heap.size<=g:=fun g hg=>Nat.le_trans D1.out.size (hnn g hg);have DK:zB W0 wK:=zT D1.out hbK;have hl1:w.heap.size+1<W0.heap.size:=by have:=HS.out;omega
 have hc4:wK.cell? ⟨w.heap.size+1,0,none⟩=some (.slice none 0 0):=(HK1.out.below DK hl1).cell 0;have hf4:=(HK1.out.below DK hl1).frozen 0;have HP:=zH (Za HB.out (HK1.out.cell 0) (Nat.le_succ _) hl1 hsK hn2 DK);clear hsK hnn hbK hn2 DK hl1;go_wp2;obtain⟨h3,h4,h5,h6⟩:=HP.out;refine bodyPost_ret (v:=.tuple #[.agg #[.slice a' (zw n (n+1)).length c'],.nilIface]) (by simp[results,Tryz.results183,go_sem,h3]) rfl ?_;exact⟨_,rfl,h4,h5,h6⟩
theorem zll(g:ByteArray)(a b c:Nat)(ha:a<=999)(hb:b<=999)(hc:c<=999)(w:World)(hg:g.toList=[61]) :
  zC 183 #[.string g,.agg #[.int .i64 a,.int .i64 b,.int .i64 c]] w (yH w (.ok (zw (zu a b c) (zu a b c+1)))):=by
 have HN:Hid (∀W,zR 113 #[.agg #[.int .i64 a,.int .i64 b,.int .i64 c]] W (.int .i64 (zu a b c:Nat))):=fun W=>xA a b c (by omega) (by omega) (by omega) W;have hlt:=Z3 ha hb hc;generalize zu a b c=n at *;have hlt':(n:Int)<1000000000:=by unfold ALL at hlt;omega
 obtain⟨W0,hW0,k0,k1,hB,hs0⟩:=ZF w (.int .i64 a) (.int .i64 b) (.int .i64 c);have HR:=zH (fun W=>ZS n (n+1) W);have HW0:=zH hW0;have HK0:=zH k0;have HK1:=zH k1;have HB:=zH hB;have HS:=zH hs0;have HLT:=zH hlt;clear hW0 k0 k1 hB hs0 hlt;go_enter Tryz.func183,Tryz.ntmps183;go_wp2_with fail;rw[HW0.out];refine(HN.out _).mono ?_;rintro e w1 ⟨rfl,hb1⟩;have D1:=zH hb1;clear hb1;go_wp2_with fail;refine(HR.out _).mono ?_;rintro e wK ⟨a',c',rfl,hsK,hnn,hbK⟩;have hn2:∀g,(Value.slice a' (zw n (n+1)).length c').ownBlock=some g->W0.heap.size<=g:=fun g hg=>Nat.le_trans D1.out.size (hnn g hg);have DK:zB W0 wK:=zT D1.out hbK;have hl1:w.heap.size+1<W0.heap.size:=by have:=HS.out;omega
 have hc4:wK.cell? ⟨w.heap.size+1,0,none⟩=some (.slice none 0 0):=(HK1.out.below DK hl1).cell 0;have hf4:=(HK1.out.below DK hl1).frozen 0;have HP:=zH (Za HB.out (HK1.out.cell 0) (Nat.le_succ _) hl1 hsK hn2 DK);clear hsK hnn hbK hn2 DK hl1;go_wp2;obtain⟨h3,h4,h5,h6⟩:=HP.out;refine bodyPost_ret (v:=.tuple #[.agg #[.slice a' (zw n (n+1)).length c'],.nilIface]) (by simp[results,Tryz.results183,go_sem,h3]) rfl ?_;exact⟨_,rfl,h4,h5,h6⟩
theorem znk(g:ByteArray)(a b c:Nat)(ha:a<=999)(hb:b<=999)(hc:c<=999)(w:World)(hg:g.toList=[60]) :
  zC 183 #[.string g,.agg #[.int .i64 a,.int .i64 b,.int .i64 c]] w (yH w (.ok (zw 0 (zu a b c)))):=by
 have HN:Hid (∀W,zR 113 #[.agg #[.int .i64 a,.int .i64 b,.int .i64 c]] W (.int .i64 (zu a b c:Nat))):=fun W=>xA a b c (by omega) (by omega) (by omega) W;have hlt:=Z3 ha hb hc;generalize zu a b c=n at *;have hlt':(n:Int)<1000000000:=by unfold ALL at hlt;omega
 obtain⟨W0,hW0,k0,k1,hB,hs0⟩:=ZF w (.int .i64 a) (.int .i64 b) (.int .i64 c);have HR:=zH (fun W=>ZS 0 n W);have HW0:=zH hW0;have HK0:=zH k0;have HK1:=zH k1;have HB:=zH hB;have HS:=zH hs0;have HLT:=zH hlt;clear hW0 k0 k1 hB hs0 hlt;go_enter Tryz.func183,Tryz.ntmps183;go_wp2_with fail;rw[HW0.out];refine(HN.out _).mono ?_;rintro e w1 ⟨rfl,hb1⟩;have D1:=zH hb1;clear hb1;go_wp2_with fail;refine(HR.out _).mono ?_;rintro e wK ⟨a',c',rfl,hsK,hnn,hbK⟩;have hn2:∀g,(Value.slice a' (zw 0 n).length c').ownBlock=some g->W0.heap.size<=g:=fun g hg=>Nat.le_trans D1.out.size (hnn g hg);have DK:zB W0 wK:=zT D1.out hbK;have hl1:w.heap.size+1<W0.heap.size:=by have:=HS.out;omega
 have hc4:wK.cell? ⟨w.heap.size+1,0,none⟩=some (.slice none 0 0):=(HK1.out.below DK hl1).cell 0;have hf4:=(HK1.out.below DK hl1).frozen 0;have HP:=zH (Za HB.out (HK1.out.cell 0) (Nat.le_succ _) hl1 hsK hn2 DK);clear hsK hnn hbK hn2 DK hl1;go_wp2;obtain⟨h3,h4,h5,h6⟩:=HP.out;refine bodyPost_ret (v:=.tuple #[.agg #[.slice a' (zw 0 n).length c'],.nilIface]) (by simp[results,Tryz.results183,go_sem,h3]) rfl ?_;exact⟨_,rfl,h4,h5,h6⟩
theorem znU(g:ByteArray)(a b c:Nat)(ha:a<=999)(hb:b<=999)(hc:c<=999)(w:World)(hg:g.toList=[60,61]) :
  zC 183 #[.string g,.agg #[.int .i64 a,.int .i64 b,.int .i64 c]] w (yH w (.ok (zw 0 (zu a b c+1)))):=by
 have HN:Hid (∀W,zR 113 #[.agg #[.int .i64 a,.int .i64 b,.int .i64 c]] W (.int .i64 (zu a b c:Nat))):=fun W=>xA a b c (by omega) (by omega) (by omega) W;have hlt:=Z3 ha hb hc;generalize zu a b c=n at *;have hlt':(n:Int)<1000000000:=by unfold ALL at hlt;omega
 obtain⟨W0,hW0,k0,k1,hB,hs0⟩:=ZF w (.int .i64 a) (.int .i64 b) (.int .i64 c);have HR:=zH (fun W=>ZS 0 (n+1) W);have HW0:=zH hW0;have HK0:=zH k0;have HK1:=zH k1;have HB:=zH hB;have HS:=zH hs0;have HLT:=zH hlt;clear hW0 k0 k1 hB hs0 hlt;go_enter Tryz.func183,Tryz.ntmps183;go_wp2_with fail;rw[HW0.out];refine(HN.out _).mono ?_;rintro e w1 ⟨rfl,hb1⟩;have D1:=zH hb1;clear hb1;go_wp2_with fail;refine(HR.out _).mono ?_;rintro e wK ⟨a',c',rfl,hsK,hnn,hbK⟩;have hn2:∀g,(Value.slice a' (zw 0 (n+1)).length c').ownBlock=some g->W0.heap.size<=g:=fun g hg=>Nat.le_trans D1.out.size (hnn g hg);have DK:zB W0 wK:=zT D1.out hbK;have hl1:w.heap.size+1<W0.heap.size:=by have:=HS.out;omega
 have hc4:wK.cell? ⟨w.heap.size+1,0,none⟩=some (.slice none 0 0):=(HK1.out.below DK hl1).cell 0;have hf4:=(HK1.out.below DK hl1).frozen 0;have HP:=zH (Za HB.out (HK1.out.cell 0) (Nat.le_succ _) hl1 hsK hn2 DK);clear hsK hnn hbK hn2 DK hl1;go_wp2;obtain⟨h3,h4,h5,h6⟩:=HP.out;refine bodyPost_ret (v:=.tuple #[.agg #[.slice a' (zw 0 (n+1)).length c'],.nilIface]) (by simp[results,Tryz.results183,go_sem,h3]) rfl ?_;exact⟨_,rfl,h4,h5,h6⟩
theorem zmO(g:ByteArray)(a b c:Nat)(ha:a<=999)(hb:b<=999)(hc:c<=999)(w:World)(hg:g.toList=[62]) :
  zC 183 #[.string g,.agg #[.int .i64 a,.int .i64 b,.int .i64 c]] w (yH w (.ok (zw (zu a b c+1) 1000000000))):=by
 have HN:Hid (∀W,zR 113 #[.agg #[.int .i64 a,.int .i64 b,.int .i64 c]] W (.int .i64 (zu a b c:Nat))):=fun W=>xA a b c (by omega) (by omega) (by omega) W;have hlt:=Z3 ha hb hc;generalize zu a b c=n at *;have hlt':(n:Int)<1000000000:=by unfold ALL at hlt;omega
 obtain⟨W0,hW0,k0,k1,hB,hs0⟩:=ZF w (.int .i64 a) (.int .i64 b) (.int .i64 c);have HR:=zH (fun W=>ZS (n+1) 1000000000 W);have HW0:=zH hW0;have HK0:=zH k0;have HK1:=zH k1;have HB:=zH hB;have HS:=zH hs0;have HLT:=zH hlt;clear hW0 k0 k1 hB hs0 hlt;go_enter Tryz.func183,Tryz.ntmps183;go_wp2_with fail;rw[HW0.out];refine(HN.out _).mono ?_;rintro e w1 ⟨rfl,hb1⟩;have D1:=zH hb1;clear hb1;go_wp2_with fail;refine(HR.out _).mono ?_;rintro e wK ⟨a',c',rfl,hsK,hnn,hbK⟩;have hn2:∀g,(Value.slice a' (zw (n+1) 1000000000).length c').ownBlock=some g->W0.heap.size<=g:=fun g hg=>Nat.le_trans D1.out.size (hnn g hg);have DK:zB W0 wK:=zT D1.out hbK;have hl1:w.heap.size+1<W0.heap.size:=by have:=HS.out;omega
 have hc4:wK.cell? ⟨w.heap.size+1,0,none⟩=some (.slice none 0 0):=(HK1.out.below DK hl1).cell 0;have hf4:=(HK1.out.below DK hl1).frozen 0;have HP:=zH (Za HB.out (HK1.out.cell 0) (Nat.le_succ _) hl1 hsK hn2 DK);clear hsK hnn hbK hn2 DK hl1;go_wp2;obtain⟨h3,h4,h5,h6⟩:=HP.out;refine bodyPost_ret (v:=.tuple #[.agg #[.slice a' (zw (n+1) 1000000000).length c'],.nilIface]) (by simp[results,Tryz.results183,go_sem,h3]) rfl ?_;exact⟨_,rfl,h4,h5,h6⟩
theorem zgd(g:ByteArray)(a b c:Nat)(ha:a<=999)(hb:b<=999)(hc:c<=999)(w:World)(hg:g.toList=[62,61]) :
  zC 183 #[.string g,.agg #[.int .i64 a,.int .i64 b,.int .i64 c]] w (yH w (.ok (zw (zu a b c) 1000000000))):=by
 have HN:Hid (∀W,zR 113 #[.agg #[.int .i64 a,.int .i64 b,.int .i64 c]] W (.int .i64 (zu a b c:Nat))):=fun W=>xA a b c (by omega) (by omega) (by omega) W;have hlt:=Z3 ha hb hc;generalize zu a b c=n at *;have hlt':(n:Int)<1000000000:=by unfold ALL at hlt;omega
 obtain⟨W0,hW0,k0,k1,hB,hs0⟩:=ZF w (.int .i64 a) (.int .i64 b) (.int .i64 c);have HR:=zH (fun W=>ZS n 1000000000 W);have HW0:=zH hW0;have HK0:=zH k0;have HK1:=zH k1;have HB:=zH hB;have HS:=zH hs0;have HLT:=zH hlt;clear hW0 k0 k1 hB hs0 hlt;go_enter Tryz.func183,Tryz.ntmps183;go_wp2_with fail;rw[HW0.out];refine(HN.out _).mono ?_;rintro e w1 ⟨rfl,hb1⟩;have D1:=zH hb1;clear hb1;go_wp2_with fail;refine(HR.out _).mono ?_;rintro e wK ⟨a',c',rfl,hsK,hnn,hbK⟩;have hn2:∀g,(Value.slice a' (zw n 1000000000).length c').ownBlock=some g->W0.heap.size<=g:=fun g hg=>Nat.le_trans D1.out.size (hnn g hg);have DK:zB W0 wK:=zT D1.out hbK;have hl1:w.heap.size+1<W0.heap.size:=by have:=HS.out;omega
 have hc4:wK.cell? ⟨w.heap.size+1,0,none⟩=some (.slice none 0 0):=(HK1.out.below DK hl1).cell 0;have hf4:=(HK1.out.below DK hl1).frozen 0;have HP:=zH (Za HB.out (HK1.out.cell 0) (Nat.le_succ _) hl1 hsK hn2 DK);clear hsK hnn hbK hn2 DK hl1;go_wp2;obtain⟨h3,h4,h5,h6⟩:=HP.out;refine bodyPost_ret (v:=.tuple #[.agg #[.slice a' (zw n 1000000000).length c'],.nilIface]) (by simp[results,Tryz.results183,go_sem,h3]) rfl ?_;exact⟨_,rfl,h4,h5,h6⟩
theorem zms(g:ByteArray)(a b c:Nat)(ha:a<=999)(hb:b<=999)(hc:c<=999)(w:World)(hg:g.toList=[33]) :
  zC 183 #[.string g,.agg #[.int .i64 a,.int .i64 b,.int .i64 c]] w (yH w (.ok (nt (zw (zu a b c) (zu a b c+1))))):=by
 have HN:Hid (∀W,zR 113 #[.agg #[.int .i64 a,.int .i64 b,.int .i64 c]] W (.int .i64 (zu a b c:Nat))):=fun W=>xA a b c (by omega) (by omega) (by omega) W;have hlt:=Z3 ha hb hc;generalize zu a b c=n at *;have hlt':(n:Int)<1000000000:=by unfold ALL at hlt;omega
 obtain⟨W0,hW0,k0,k1,hB,hs0⟩:=ZF w (.int .i64 a) (.int .i64 b) (.int .i64 c);have HR:=zH (fun W=>ZS n (n+1) W);have HT:Hid (∀v W,zi W v (zw n (n+1))->zC 146 #[.agg #[v]] W fun e w'=>∃a' c',e=.returned (.agg #[.slice a' (nt (zw n (n+1))).length c'])/\zi w' (.slice a' (nt (zw n (n+1))).length c') (nt (zw n (n+1)))/\(∀g,(Value.slice a' (nt (zw n (n+1))).length c').ownBlock=some g->W.heap.size<=g)/\zB W w'):=fun v W h=>zk0 _ (Kq (by omega)) v W h;have HW0:=zH hW0;have HK0:=zH k0;have HK1:=zH k1;have HB:=zH hB;have HS:=zH hs0;have HLT:=zH hlt;clear hW0 k0 k1 hB hs0 hlt;go_enter Tryz.func183,Tryz.ntmps183;go_wp2_with fail;rw[HW0.out];refine(HN.out _).mono ?_;rintro e w1 ⟨rfl,hb1⟩;have D1:=zH hb1;clear hb1;go_wp2_with fail;refine(HR.out _).mono ?_;rintro e w2 ⟨a2,c2,rfl,hs2,-,hb2⟩;have D2:Hid (zB W0 w2):=zT D1.out hb2;have HT2:=zH (HT.out _ _ hs2);clear hs2 hb2 HT HR;go_wp2_with fail;refine HT2.out.mono ?_;rintro e wK ⟨a',c',rfl,hsK,hnn,hbK⟩;have hn2:∀g,(Value.slice a' (nt (zw n (n+1))).length c').ownBlock=some g->W0.heap.size<=g:=fun g hg=>Nat.le_trans D2.out.size (hnn g hg);have DK:zB W0 wK:=zT D2.out hbK;have hl1:w.heap.size+1<W0.heap.size:=by have:=HS.out;omega
 have hc4:wK.cell? ⟨w.heap.size+1,0,none⟩=some (.slice none 0 0):=(HK1.out.below DK hl1).cell 0;have hf4:=(HK1.out.below DK hl1).frozen 0;have HP:=zH (Za HB.out (HK1.out.cell 0) (Nat.le_succ _) hl1 hsK hn2 DK);clear hsK hnn hbK hn2 DK hl1;go_wp2;obtain⟨h3,h4,h5,h6⟩:=HP.out;refine bodyPost_ret (v:=.tuple #[.agg #[.slice a' (nt (zw n (n+1))).length c'],.nilIface]) (by simp[results,Tryz.results183,go_sem,h3]) rfl ?_;exact⟨_,rfl,h4,h5,h6⟩
end
section
open Go.RowKit Go.Shelf Sv
theorem zfc(g:ByteArray)(a b c:Nat)(ha:a<=999)(hb:b<=999)(hc:c<=999)(w:World)(hg:g.toList=[126]) :
  zC 183 #[.string g,.agg #[.int .i64 a,.int .i64 b,.int .i64 c]] w (yH w (.ok (zw (zu a b c) (zu a (b+1) 0)))):=by
 have HN:Hid (∀W,zR 113 #[.agg #[.int .i64 a,.int .i64 b,.int .i64 c]] W (.int .i64 (zu a b c:Nat))):=fun W=>xA a b c (by omega) (by omega) (by omega) W;have HX:=zH (fun W=>zcZ a b c hb W);have HM:Hid (∀W,zR 113 #[.agg #[.int .i64 a,.int .i64 ((b+1:Nat):Int),.int .i64 0]] W (.int .i64 (zu a (b+1) 0:Nat))):=fun W=>xA a (b+1) 0 (by omega) (by omega) (by omega) W;generalize zu a (b+1) 0=m at *;generalize zu a b c=n at *;generalize ((b+1:Nat):Int)=b1 at *;obtain⟨W0,hW0,k0,k1,hB,hs0⟩:=ZF w (.int .i64 a) (.int .i64 b) (.int .i64 c);have HR:=zH (fun W=>ZS n m W);have HW0:=zH hW0;have HK0:=zH k0;have HK1:=zH k1;have HB:=zH hB;have HS:=zH hs0;clear hW0 k0 k1 hB hs0;go_enter Tryz.func183,Tryz.ntmps183;go_wp2_with fail;rw[HW0.out];refine(HN.out _).mono ?_;rintro e w1 ⟨rfl,hb1⟩;have D1:=zH hb1;have hl0:w.heap.size<W0.heap.size:=by have:=HS.out;omega
 have q0:w1.cell? ⟨w.heap.size,0,none⟩=some (.int .i64 a):=(HK0.out.below hb1 hl0).cell 0;have q1:w1.cell? ⟨w.heap.size,1,none⟩=some (.int .i64 b):=(HK0.out.below hb1 hl0).cell 1;have q2:w1.cell? ⟨w.heap.size,2,none⟩=some (.int .i64 c):=(HK0.out.below hb1 hl0).cell 2;clear hb1 hl0;go_wp2_with fail;refine(HX.out _).mono ?_;rintro e w2 ⟨rfl,hb2⟩;have D2:Hid (zB W0 w2):=zT D1.out hb2;clear hb2 q0 q1 q2;go_wp2_with fail;refine(HM.out _).mono ?_;rintro e w3 ⟨rfl,hb3⟩;have D3:Hid (zB W0 w3):=zT D2.out hb3;clear hb3;go_wp2_with fail;refine(HR.out _).mono ?_;rintro e wK ⟨a',c',rfl,hsK,hnn,hbK⟩;have hn2:∀g,(Value.slice a' (zw n m).length c').ownBlock=some g->W0.heap.size<=g:=fun g hg=>Nat.le_trans D3.out.size (hnn g hg);have DK:zB W0 wK:=zT D3.out hbK;have hl1:w.heap.size+1<W0.heap.size:=by have:=HS.out;omega
 have hc4:wK.cell? ⟨w.heap.size+1,0,none⟩=some (.slice none 0 0):=(HK1.out.below DK hl1).cell 0;have hf4:=(HK1.out.below DK hl1).frozen 0;have HP:=zH (Za HB.out (HK1.out.cell 0) (Nat.le_succ _) hl1 hsK hn2 DK);clear hsK hnn hbK hn2 DK hl1;go_wp2;obtain⟨h3,h4,h5,h6⟩:=HP.out;refine bodyPost_ret (v:=.tuple #[.agg #[.slice a' (zw n m).length c'],.nilIface]) (by simp[results,Tryz.results183,go_sem,h3]) rfl ?_;exact⟨_,rfl,h4,h5,h6⟩
theorem Jf(g:ByteArray)(a b c:Nat)(ha:a<=999)(hb:b<=999)(hc:c<=999)(w:World)(hg:g.toList=[94])(pl:Int)(x y z:Int)(m:Nat)(HL:Hid (∀W,zR 211 #[.agg #[.int .i64 a,.int .i64 b,.int .i64 c]] W (.int .i64 pl)))
  (HX:Hid (∀W,zR 210 #[.agg #[.int .i64 a,.int .i64 b,.int .i64 c],.int .i64 pl] W (.agg #[.int .i64 x,.int .i64 y,.int .i64 z])))
  (HM:Hid (∀W,zR 113 #[.agg #[.int .i64 x,.int .i64 y,.int .i64 z]] W (.int .i64 m))) :
  zC 183 #[.string g,.agg #[.int .i64 a,.int .i64 b,.int .i64 c]] w (yH w (.ok (zw (zu a b c) m))):=by
 have HN:Hid (∀W,zR 113 #[.agg #[.int .i64 a,.int .i64 b,.int .i64 c]] W (.int .i64 (zu a b c:Nat))):=fun W=>xA a b c (by omega) (by omega) (by omega) W;generalize zu a b c=n at *;obtain⟨W0,hW0,k0,k1,hB,hs0⟩:=ZF w (.int .i64 a) (.int .i64 b) (.int .i64 c);have HR:=zH (fun W=>ZS n m W);have HW0:=zH hW0;have HK0:=zH k0;have HK1:=zH k1;have HB:=zH hB;have HS:=zH hs0;clear hW0 k0 k1 hB hs0;go_enter Tryz.func183,Tryz.ntmps183;go_wp2_with fail;rw[HW0.out];refine(HN.out _).mono ?_;rintro e w1 ⟨rfl,hb1⟩;have D1:=zH hb1;have hl0:w.heap.size<W0.heap.size:=by have:=HS.out;omega
 have q0:w1.cell? ⟨w.heap.size,0,none⟩=some (.int .i64 a):=(HK0.out.below hb1 hl0).cell 0;have q1:w1.cell? ⟨w.heap.size,1,none⟩=some (.int .i64 b):=(HK0.out.below hb1 hl0).cell 1;have q2:w1.cell? ⟨w.heap.size,2,none⟩=some (.int .i64 c):=(HK0.out.below hb1 hl0).cell 2;clear hb1 hl0;have HS0:=HS.out;have L1:Hid (w.heap.size+1<W0.heap.size):=by show w.heap.size+1<W0.heap.size;omega
 have L0:Hid (w.heap.size+1<=W0.heap.size):=by show w.heap.size+1<=W0.heap.size;omega
 have SC:Hid (∀W,Below (w.heap.size+1) W0 W->W.cell? ⟨w.heap.size,0,none⟩=some (.int .i64 a)/\W.cell? ⟨w.heap.size,1,none⟩=some (.int .i64 b)/\W.cell? ⟨w.heap.size,2,none⟩=some (.int .i64 c)):=fun W hb=>⟨(HK0.out.below hb (Nat.lt_succ_self _)).cell 0,(HK0.out.below hb (Nat.lt_succ_self _)).cell 1,(HK0.out.below hb (Nat.lt_succ_self _)).cell 2⟩;have HC0:Hid (W0.cell? ⟨w.heap.size+1,0,none⟩=some (.slice none 0 0)):=HK1.out.cell 0;have HF0:Hid (W0.frozen? ⟨w.heap.size+1,0,none⟩=false):=HK1.out.frozen 0;have E0:zB W0 w1.drew:=D1.out.drew;clear HS0 q0 q1 q2;go_wp2_with fail;go_region_held3 (fun w'=>w'.cell? ⟨w.heap.size,0,none⟩=some (.int .i64 a)/\w'.cell? ⟨w.heap.size,1,none⟩=some (.int .i64 b)/\w'.cell? ⟨w.heap.size,2,none⟩=some (.int .i64 c)) (first|exact SC.out _ (E0.mono L0.out)|exact SC.out _ (E1.mono L0.out)|exact SC.out _ (E2.mono L0.out)|exact SC.out _ (E3.mono L0.out)|exact SC.out _ (E4.mono L0.out)|exact SC.out _ E5)
  (first
   |((with_reducible refine(HL.out _).mono ?_);rintro e w2 ⟨rfl,hb2⟩;have E1:zB W0 w2:=zT E0 hb2;clear HL)
   |((with_reducible refine(HX.out _).mono ?_);rintro e w3 ⟨rfl,hb3⟩;have E2:zB W0 w3:=zT E1 hb3;clear HX)
   |((with_reducible refine(HM.out _).mono ?_);rintro e w4 ⟨rfl,hb4⟩;have E3:zB W0 w4:=zT E2 hb4;clear HM)
   | ((with_reducible refine (HR.out _).mono ?_);rintro e wK ⟨a',c',rfl,hsK,hnn,hbK⟩;have E4:zB W0 wK:=zT E3 hbK;have hc4:=(E4.cell (p:=⟨w.heap.size + 1,0,none⟩) L1.out).trans HC0.out;have hf4:=(E4.frozen (p:=⟨w.heap.size + 1,0,none⟩) L1.out).trans HF0.out;have E5:Below (w.heap.size + 1) W0 (wK.setCell ⟨w.heap.size + 1,0,none⟩ (.slice a' (zw n m).length c')):=(E4.mono L0.out).setCell (p:=⟨w.heap.size + 1,0,none⟩) zN _;clear HR))
 have hn2:∀g,(Value.slice a' (zw n m).length c').ownBlock=some g->W0.heap.size<=g:=fun g hg=>Nat.le_trans E3.size (hnn g hg);have HP:=zH (Za HB.out HC0.out (Nat.le_succ _) L1.out hsK hn2 E4);clear hsK hnn hbK hn2 E0 E1 E2 E3 E4 E5 hb2 hb3 hb4;go_wp2;obtain⟨h3,h4,h5,h6⟩:=HP.out;refine bodyPost_ret (v:=.tuple #[.agg #[.slice a' (zw n m).length c'],.nilIface]) (by simp[results,Tryz.results183,go_sem,h3]) rfl ?_;exact⟨_,rfl,h4,h5,h6⟩
theorem zhj(g:ByteArray)(a b c:Nat)(ha:a<=999)(hb:b<=999)(hc:c<=999)(w:World)(hg:g.toList=[94]) :
  zC 183 #[.string g,.agg #[.int .i64 a,.int .i64 b,.int .i64 c]] w (yH w (.ok (zw (zu a b c) (YR a b c)))):=by
 unfold YR
 by_cases h0:a≠0
 ·rw[if_pos h0];exact Jf g a b c ha hb hc w hg 0 ((a+1:Nat):Int) 0 0 _ (fun W=>by have:=zax a b c W;rw[if_pos h0] at this;exact this) (fun W=>zi8 a b c ha W) (fun W=>xA (a+1) 0 0 (by omega) (by omega) (by omega) W)
 ·rw[if_neg h0]
  by_cases h1:b≠0
  ·rw[if_pos h1];exact Jf g a b c ha hb hc w hg 1 (a:Int) ((b+1:Nat):Int) 0 _ (fun W=>by have:=zax a b c W;rw[if_neg h0,if_pos h1] at this;exact this) (fun W=>zcZ a b c hb W) (fun W=>xA a (b+1) 0 (by omega) (by omega) (by omega) W)
  ·rw[if_neg h1];exact Jf g a b c ha hb hc w hg 2 (a:Int) (b:Int) ((c+1:Nat):Int) _ (fun W=>by have:=zax a b c W;rw[if_neg h0,if_neg h1] at this;exact this) (fun W=>znx a b c hc W) (fun W=>xA a b (c+1) (by omega) (by omega) (by omega) W)
theorem zln(g:ByteArray)(a b c:Nat)(ha:a<=999)(hb:b<=999)(hc:c<=999)(w:World)(g0:(g.toList==[])=false)(g1:(g.toList==[61])=false)(g2:(g.toList==[33])=false)(g3:(g.toList==[60])=false)(g4:(g.toList==[60,61])=false)(g5:(g.toList==[62])=false)(g6:(g.toList==[62,61])=false)(g7:(g.toList==[94])=false)(g8:(g.toList==[126])=false) :
  zC 183 #[.string g,.agg #[.int .i64 a,.int .i64 b,.int .i64 c]] w (yH w (.error 3)):=by
 have HN:Hid (∀W,zR 113 #[.agg #[.int .i64 a,.int .i64 b,.int .i64 c]] W (.int .i64 (zu a b c:Nat))):=fun W=>xA a b c (by omega) (by omega) (by omega) W;generalize zu a b c=n at *;have ge:g.toList.isEmpty=false:=by
  cases h:g.toList with
  |nil=>rw[h] at g0;cases g0
  |cons x l=>rfl
 obtain⟨W0,hW0,k0,k1,hB,hs0⟩:=ZF w (.int .i64 a) (.int .i64 b) (.int .i64 c);have HW0:=zH hW0;have HK1:=zH k1;have HB:=zH hB;have HS:=zH hs0;clear hW0 k0 k1 hB hs0 g0;go_enter Tryz.func183,Tryz.ntmps183;go_wp2_with fail;rw[HW0.out];refine(HN.out _).mono ?_;rintro e w1 ⟨rfl,hb1⟩;have hl1:w.heap.size+1<W0.heap.size:=by have:=HS.out;omega
 have m1:=HK1.out.below hb1 hl1;have hc4:_=some (Value.slice none 0 0):=m1.cell 0;have hf4:=m1.frozen 0;have hset:(w1.setCell ⟨w.heap.size+1,0,none⟩ (.slice none 0 0)).cell? ⟨w.heap.size+1,0,none⟩=some (.slice none 0 0):=(m1.set (i:=0)).cell 0;have hB2:zB w (w1.setCell ⟨w.heap.size+1,0,none⟩ (.slice none 0 0)):=(zT HB.out hb1).setCell (p:=⟨w.heap.size+1,0,none⟩) (Nat.le_succ _) _;have HSET:=zH hset;have HB2:=zH hB2;clear hb1 hl1 m1 hset hB2;go_wp2;have h3:=HSET.out;refine bodyPost_ret (v:=.tuple #[.agg #[.slice none 0 0],.iface 76 (.int .i64 3)]) (by simp[results,Tryz.results183,go_sem,h3]) rfl ?_;exact⟨rfl,HB2.out⟩
theorem ziz(g:ByteArray)(a b c:Nat)(ha:a<=999)(hb:b<=999)(hc:c<=999)(w:World) :
  zC 183 #[.string g,.agg #[.int .i64 a,.int .i64 b,.int .i64 c]] w (yH w (ZY g.toList a b c)):=by
 unfold ZY
 by_cases h0:g.toList=[]\/g.toList=[61]
 ·rw[if_pos h0];rcases h0 with h0|h0
  ·exact zil g a b c ha hb hc w h0
  ·exact zll g a b c ha hb hc w h0
 rw[if_neg h0]
 by_cases h1:g.toList=[33]
 ·rw[if_pos h1];exact zms g a b c ha hb hc w h1
 rw[if_neg h1]
 by_cases h2:g.toList=[60]
 ·rw[if_pos h2];exact znk g a b c ha hb hc w h2
 rw[if_neg h2]
 by_cases h3:g.toList=[60,61]
 ·rw[if_pos h3];exact znU g a b c ha hb hc w h3
 rw[if_neg h3]
 by_cases h4:g.toList=[62]
 ·rw[if_pos h4];exact zmO g a b c ha hb hc w h4
 rw[if_neg h4]
 by_cases h5:g.toList=[62,61]
 ·rw[if_pos h5];exact zgd g a b c ha hb hc w h5
 rw[if_neg h5]
 by_cases h6:g.toList=[94]
 ·rw[if_pos h6];exact zhj g a b c ha hb hc w h6
 rw[if_neg h6]
 by_cases h7:g.toList=[126]
 ·rw[if_pos h7];exact zfc g a b c ha hb hc w h7
 rw[if_neg h7];exact zln g a b c ha hb hc w (by simpa using fun e=>h0 (.inl e)) (by simpa using fun e=>h0 (.inr e)) (by simpa using h1) (by simpa using h2) (by simpa using h3) (by simpa using h4) (by simpa using h5) (by simpa using h6) (by simpa using h7)
end
section
open Go.RowKit Go.Shelf Sv
abbrev Yw:ByteArray:=⟨#[61,33,60,62,94,126]⟩
def xG(s:ByteArray):ByteArray:=⟨(Lib.trimLeftS s.data.toList Yw.data.toList).toArray⟩
theorem Jg(s:ByteArray):(xG s).size<=s.size:=by
 show (Lib.trimLeftS s.data.toList Yw.data.toList).toArray.size<=s.data.size;unfold Lib.trimLeftS;simp only[List.size_toArray];have:=(List.dropWhile_sublist (l:=s.data.toList) (fun x=>Yw.data.toList.contains x)).length_le;simpa using this
def Qh(s:ByteArray):Except Int (List zh) :=
 if s.toList=[97,110,121] then .ok zq
 else if s.toList=[110,111,110,101] then .ok []
 else match xM (xG s) with
  |.error k=>.error k
  |.ok ns=>ZY (s.extract 0 (s.size-(xG s).size)).toList (ns.getD 0 0) (ns.getD 1 0) (ns.getD 2 0)
theorem zbU{ns:List Nat}(h:ns.length=3):∃a b c,ns=[a,b,c]:=by
 match ns,h with
 |[a,b,c],_=>exact⟨a,b,c,rfl⟩
theorem zcX{s:ByteArray}{l:List zh}(h:Qh s=.ok l):Rg l:=by
 unfold Qh at h;split at h
 ·cases h;exact KC
 ·split at h
  ·cases h;exact KB
  ·split at h
   ·cases h
   ·rename_i ns hns;obtain⟨h3,h9⟩:=zdg hns;obtain⟨a,b,c,rfl⟩:=zbU h3;exact zlE (h9 a (by simp)) (h9 b (by simp)) (h9 c (by simp)) h
theorem zjw:(Tryz.prog.info? (Tryz.lays161_ren.t 116)).map (fun i=>(i.zero,i.size))=some (some (.agg (Array.replicate 256 (.bool false))),256):=by kernel_rfl
theorem zhA:∀(j:Nat) (b:UInt8),Yw.data.toList[j]?=some b->b.toNat<128:=ascii_of_all (by decide)
theorem zbQ(s:ByteArray)(W:World):zR 182 #[.string s,.string Yw] W (.string (xG s)) :=
 Any.strings_TrimLeft_laid Tryz.lays161 zjw s Yw W (by decide) zhA
theorem zg9(s:ByteArray)(w:World)(h:s.toList=[97,110,121]):zC 144 #[.string s] w (yH w (.ok zq)):=by
 have HA:Hid (∀W,zC 143 #[] W fun e w'=>∃a' c',e=.returned (.agg #[.slice a' zq.length c'])/\zi w' (.slice a' zq.length c') zq/\(∀g,(Value.slice a' zq.length c').ownBlock=some g->W.heap.size<=g)/\zB W w'):=fun W=>(Yv W).mono fun e w' ⟨v',he,hs,hn,hb⟩=>by obtain⟨a',c',rfl⟩:=hs.form;exact⟨a',c',he,hs,hn,hb⟩
 have k0:=Blk.new w 96 #[.slice none 0 0];have hB:zB w (w.alloc (.cells #[.slice none 0 0] 96)):=zF.alloc zN _;have hs0:(w.alloc (.cells #[.slice none 0 0] 96)).heap.size=w.heap.size+1:=World.size_alloc _ _;have hc4:Hid ((w.alloc (.cells #[.slice none 0 0] 96)).cell? ⟨w.heap.size,0,none⟩=some (.slice none 0 0)):=k0.cell 0;have hf4:Hid ((w.alloc (.cells #[.slice none 0 0] 96)).frozen? ⟨w.heap.size,0,none⟩=false):=k0.frozen 0;have HB:=zH hB;have L1:Hid (w.heap.size<(w.alloc (.cells #[.slice none 0 0] 96)).heap.size):=by show w.heap.size<_;omega
 clear k0 hB hs0;go_enter Tryz.func144,Tryz.ntmps144;go_wp2_with fail;generalize w.alloc (.cells #[.slice none 0 0] 96)=W0 at *;refine(HA.out _).mono ?_;rintro e wK ⟨a',c',rfl,hsK,hnn,hbK⟩;have hc5:=(hbK.cell (p:=⟨w.heap.size,0,none⟩) L1.out).trans hc4.out;have hf5:=(hbK.frozen (p:=⟨w.heap.size,0,none⟩) L1.out).trans hf4.out;have HP:=zH (Za HB.out hc4.out zN L1.out hsK hnn hbK);clear hsK hnn hbK HA;go_wp2;obtain⟨h3,h4,h5,h6⟩:=HP.out;refine bodyPost_ret (v:=.tuple #[.agg #[.slice a' zq.length c'],.nilIface]) (by simp[results,Tryz.results144,go_sem,h3]) rfl ?_;exact⟨_,rfl,h4,h5,h6⟩
theorem zhi(s:ByteArray)(w:World)(h:s.toList=[110,111,110,101]):zC 144 #[.string s] w (yH w (.ok [])):=by
 have hB:zB w (w.alloc (.cells #[.slice none 0 0] 96)):=zF.alloc zN _;have k0:(w.alloc (.cells #[.slice none 0 0] 96)).cell? ⟨w.heap.size,0,none⟩=some (.slice none 0 0):=(Blk.new w 96 #[.slice none 0 0]).cell 0;have HB:=zH hB;have HK:=zH k0;clear hB k0;go_enter Tryz.func144,Tryz.ntmps144;go_wp2;have h3:=HK.out;refine bodyPost_ret (v:=.tuple #[.agg #[.slice none 0 0],.nilIface]) (by simp[results,Tryz.results144,go_sem]) rfl ?_;exact⟨_,rfl,Kg _,fun g hg=>by simp[Value.ownBlock] at hg,HB.out⟩
theorem zkb(s:ByteArray)(w:World)(hs:s.size<=100000)(hw:Lb w)(h1:(s.toList==[97,110,121])=false)(h2:(s.toList==[110,111,110,101])=false)(k:Int)(hv:xM (xG s)=.error k):zC 144 #[.string s] w (yH w (.error k)):=by
 have HT:=zH (fun W=>zbQ s W);have HP:Hid (∀W,zB w W->zR 68 #[.string (xG s)] W (.tuple #[.agg #[.int .i64 0,.int .i64 0,.int .i64 0],.iface 76 (.int .i64 k)])):=fun W hb=>by have:=XL (xG s) W (Nat.le_trans (Jg s) hs) (hw.below hb);rw[hv] at this;exact this
 have k0:=Blk.new w 96 #[.slice none 0 0];have hB:zB w (w.alloc (.cells #[.slice none 0 0] 96)):=zF.alloc zN _;have HK0:=zH k0;have HB:=zH hB;generalize xG s=t at *;clear hw hv k0 hB;go_enter Tryz.func144,Tryz.ntmps144;go_wp2_with fail;generalize w.alloc (.cells #[.slice none 0 0] 96)=W0 at *;refine(HT.out _).mono ?_;rintro e w1 ⟨rfl,hb1⟩;have hb01:zB w w1:=zT HB.out hb1;have H2:=zH (HP.out _ hb01);have HB1:=zH hb1;have HB01:=zH hb01;clear hb1 hb01 HP;go_wp2_with fail;refine H2.out.mono ?_;rintro e w2 ⟨rfl,hb2⟩;have hl:=HK0.out.lt;have m1:=(HK0.out.below HB1.out hl).below hb2 (HK0.out.below HB1.out hl).lt;have m2:=m1.alloc (.cells z3 93);have hc4:(w2.alloc (.cells z3 93)).cell? ⟨w.heap.size,0,none⟩=some (.slice none 0 0):=m2.cell 0;have hf4:=m2.frozen 0;have hb02:zB w w2:=zT HB01.out hb2;have hset:((w2.alloc (.cells z3 93)).setCell ⟨w.heap.size,0,none⟩ (.slice none 0 0)).cell? ⟨w.heap.size,0,none⟩=some (.slice none 0 0):=(m2.set (i:=0)).cell 0;have hB2:zB w ((w2.alloc (.cells z3 93)).setCell ⟨w.heap.size,0,none⟩ (.slice none 0 0)):=(zL hb02).setCell (p:=⟨w.heap.size,0,none⟩) zN _;have HSET:=zH hset;have HB2:=zH hB2;clear hb2 hl m1 m2 H2 hset hB2 hb02;go_wp2;have h3:=HSET.out;refine bodyPost_ret (v:=.tuple #[.agg #[.slice none 0 0],.iface 76 (.int .i64 k)]) (by simp[results,Tryz.results144,go_sem,h3]) rfl ?_;exact⟨rfl,HB2.out⟩
theorem zgs(g:ByteArray)(a b c:Nat)(ha:a<=999)(hb:b<=999)(hc:c<=999)(W:World):zC 183 #[.string g,.agg #[.int .i64 a,.int .i64 b,.int .i64 c]] W fun e w'=>∃a' n' c' er,e=.returned (.tuple #[.agg #[.slice a' n' c'],er])/\zB W w'/\(∀g,(Value.slice a' n' c').ownBlock=some g->W.heap.size<=g) /\
  (match ZY g.toList a b c with
   |.ok l=>er=.nilIface/\zi w' (.slice a' n' c') l
   | .error k=>er=.iface 76 (.int .i64 k)/\Value.slice a' n' c'=.slice none 0 0):=(ziz g a b c ha hb hc W).mono fun e w' h=>by
 unfold yH at h;cases hs:ZY g.toList a b c with
 |ok l =>rw[hs] at h;obtain⟨v',he,h1,h2,h3⟩:=h;obtain⟨a',c',rfl⟩:=h1.form;exact⟨a',_,c',_,he,h3,h2,rfl,h1⟩
 |error k =>rw[hs] at h;obtain⟨he,h3⟩:=h;exact⟨none,0,0,_,he,h3,fun g hg=>by simp[Value.ownBlock] at hg,rfl,rfl⟩
theorem zi2(s:ByteArray)(w:World)(hs:s.size<=100000)(hw:Lb w)(h1:(s.toList==[97,110,121])=false)(h2:(s.toList==[110,111,110,101])=false)(a b c:Nat)(ha:a<=999)(hb:b<=999)(hc:c<=999)(hv:xM (xG s)=.ok [a,b,c]):zC 144 #[.string s] w (yH w (ZY (s.extract 0 (s.size-(xG s).size)).toList a b c)):=by
 have HT:=zH (fun W=>zbQ s W);have HP:Hid (∀W,zB w W->zR 68 #[.string (xG s)] W (.tuple #[.agg #[.int .i64 a,.int .i64 b,.int .i64 c],.nilIface])):=fun W hb=>by have:=XL (xG s) W (Nat.le_trans (Jg s) hs) (hw.below hb);rw[hv] at this;exact this
 have hts:=Jg s;have k0:=Blk.new w 96 #[.slice none 0 0];have hB:zB w (w.alloc (.cells #[.slice none 0 0] 96)):=zF.alloc zN _;have HK0:=zH k0;have HB:=zH hB;generalize xG s=t at *;have HG:=zH (fun W=>zgs (s.extract 0 (s.size-t.size)) a b c ha hb hc W);have hq:(s.size:Int)-(t.size:Int)=((s.size-t.size:Nat):Int):=by omega
 have hqs:s.size-t.size<=s.size:=by omega
 generalize ZY (s.extract 0 (s.size-t.size)).toList a b c=X at *;generalize s.size-t.size=q at *;have i0:(0:Int)<=(q:Int):=by omega
 have i2:(q:Int)<=(s.size:Int):=by omega
 have hsl:=fun W'=>run_slice_string_h (P:=Tryz.prog) W' 9 s Tryz.underlying9 .i64 (q:Int) i0 i2;simp only[Int.toNat_natCast] at hsl;have hw1:wrap64 ((s.size:Int)-(t.size:Int))=(q:Int):=by rw[hq];unfold wrap64;omega
 have hw2:IntKind.i64.wrap ((s.size:Int)-(t.size:Int))=(q:Int):=by rw[IntKind.wrap_i64];unfold wrap64 at hw1;exact hw1
 clear hw hv k0 hB hts hq;go_enter Tryz.func144,Tryz.ntmps144;go_wp2_with fail;generalize w.alloc (.cells #[.slice none 0 0] 96)=W0 at *;refine(HT.out _).mono ?_;rintro e w1 ⟨rfl,hb1⟩;have hb01:zB w w1:=zT HB.out hb1;have H2:=zH (HP.out _ hb01);have HB1:=zH hb1;have HB01:=zH hb01;clear hb1 hb01 HP;go_wp2_with fail;refine H2.out.mono ?_;rintro e w2 ⟨rfl,hb2⟩;have hl:=HK0.out.lt;have m1:=((HK0.out.below HB1.out hl).below hb2 (HK0.out.below HB1.out hl).lt).alloc (.cells #[.int .i64 a,.int .i64 b,.int .i64 c] 93);have hb02:zB w w2:=zT HB01.out hb2;have hb03:=hb02.alloc hb02.size (.cells #[.int .i64 a,.int .i64 b,.int .i64 c] 93);have kv:=Blk.new w2 93 #[.int .i64 a,.int .i64 b,.int .i64 c];have HM1:=zH m1;have HB03:=zH hb03;have HKV:=zH kv;have hne:w.heap.size<w2.heap.size:=Nat.lt_of_lt_of_le (HK0.out.below HB1.out hl).lt hb2.size;have L1:=zH hne;clear hb2 hl m1 H2 hb02 hb03 kv hne;go_wp2_with fail;generalize w2.alloc (.cells #[.int .i64 a,.int .i64 b,.int .i64 c] 93)=W3 at *;have SC:Hid (∀W,zB W3 W->W.cell? ⟨w2.heap.size,0,none⟩=some (.int .i64 a)/\W.cell? ⟨w2.heap.size,1,none⟩=some (.int .i64 b)/\W.cell? ⟨w2.heap.size,2,none⟩=some (.int .i64 c)):=fun W hb=>⟨(HKV.out.below hb HKV.out.lt).cell 0,(HKV.out.below hb HKV.out.lt).cell 1,(HKV.out.below hb HKV.out.lt).cell 2⟩;have E0:zB W3 W3.drew:=zF.drew;go_region_held3 (fun w'=>w'.cell? ⟨w2.heap.size,0,none⟩=some (.int .i64 a)/\w'.cell? ⟨w2.heap.size,1,none⟩=some (.int .i64 b)/\w'.cell? ⟨w2.heap.size,2,none⟩=some (.int .i64 c)) (first|exact SC.out _ E0|exact SC.out _ E1|exact S5)
  (first
   | ((with_reducible refine (HG.out _).mono ?_);rintro e wK ⟨a',n',c',er,rfl,hbK,hnK,hmK⟩;have E1:zB W3 wK:=E0.trans hbK;have mK:=HM1.out.below E1 HM1.out.lt;have hc4:_=some (Value.slice none 0 0):=mK.cell 0;have hf4:=mK.frozen 0;have S5:(wK.setCell ⟨w.heap.size,0,none⟩ (.slice a' n' c')).cell? ⟨w2.heap.size,0,none⟩=some (.int .i64 a)/\(wK.setCell ⟨w.heap.size,0,none⟩ (.slice a' n' c')).cell? ⟨w2.heap.size,1,none⟩=some (.int .i64 b)/\(wK.setCell ⟨w.heap.size,0,none⟩ (.slice a' n' c')).cell? ⟨w2.heap.size,2,none⟩=some (.int .i64 c):=⟨(yB (Nat.ne_of_gt L1.out)).trans (SC.out _ E1).1,(yB (Nat.ne_of_gt L1.out)).trans (SC.out _ E1).2.1,(yB (Nat.ne_of_gt L1.out)).trans (SC.out _ E1).2.2⟩;clear HG))
 have hset:(wK.setCell ⟨w.heap.size,0,none⟩ (.slice a' n' c')).cell? ⟨w.heap.size,0,none⟩=some (.slice a' n' c'):=(mK.set (i:=0)).cell 0;have hBF:zB w (wK.setCell ⟨w.heap.size,0,none⟩ (.slice a' n' c')):=(zT HB03.out E1).setCell (p:=⟨w.heap.size,0,none⟩) zN _;have hlt3:w.heap.size<W3.heap.size:=HM1.out.lt;have hnb:(Value.slice a' n' c').ownBlock≠some w.heap.size:=fun e=>by have:W3.heap.size<=w.heap.size:=hnK _ e;omega
 have hown:∀g,(Value.slice a' n' c').ownBlock=some g->w.heap.size<=g:=fun g e=>by have:W3.heap.size<=g:=hnK _ e;omega
 have HSET:=zH hset;have HBF:=zH hBF;have HNB:=zH hnb;have HOWN:=zH hown;have HMK:=zH hmK;clear hset hBF hlt3 hnb hown hmK hnK hbK mK S5 E0 E1;go_wp2;have h3:=HSET.out;refine bodyPost_ret (v:=.tuple #[.agg #[.slice a' n' c'],er]) (by simp[results,Tryz.results144,go_sem,h3]) rfl ?_;have hm:=HMK.out;cases X with
 |ok l =>obtain⟨rfl,hsp⟩:=hm;exact⟨_,rfl,hsp.set HNB.out,HOWN.out,HBF.out⟩
 |error k =>obtain⟨rfl,hsl⟩:=hm;have hb:=HBF.out;rw[hsl] at hb ⊢;exact⟨rfl,hb⟩
theorem zlZ(s:ByteArray)(w:World)(hs:s.size<=100000)(hw:Lb w):zC 144 #[.string s] w (yH w (Qh s)):=by
 unfold Qh
 by_cases h1:s.toList=[97,110,121]
 ·rw[if_pos h1];exact zg9 s w h1
 rw[if_neg h1]
 by_cases h2:s.toList=[110,111,110,101]
 ·rw[if_pos h2];exact zhi s w h2
 rw[if_neg h2];cases hv:xM (xG s) with
 |error k=>exact zkb s w hs hw (by simpa using h1) (by simpa using h2) k hv
 |ok ns =>obtain⟨h3,h9⟩:=zdg hv;obtain⟨a,b,c,rfl⟩:=zbU h3;exact zi2 s w hs hw (by simpa using h1) (by simpa using h2) a b c (h9 a (by simp)) (h9 b (by simp)) (h9 c (by simp)) hv
end
end Go.Proofs.YtjmfeefogikdfaaGreatDoor
