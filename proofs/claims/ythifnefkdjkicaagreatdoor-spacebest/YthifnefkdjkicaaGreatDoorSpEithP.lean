import Derived.Test.YthifnefkdjkicaaGreatDoorSvSigned
namespace Go.Proofs.YthifnefkdjkicaaGreatDoor
set_option maxHeartbeats 1000000
set_option maxRecDepth 1000000
section
open Go.RowKit Go.Shelf Sv
theorem ziw(g:ByteArray)(a b c:Nat)(ha:a<=999)(hb:b<=999)(hc:c<=999)(w:World)(hg:g.toList=[126]) :
  zC 196 #[.string g,.agg #[a,b,c]] w (yN w (.ok (zh (ze a b c) (ze a (b+1) 0)))):=by
 have HN:Hid (∀W,zR 127 #[.agg #[a,b,c]] W (.int .i64 (ze a b c:Nat))):=fun W=>xL a b c (by omega) (by omega) (by omega) W;have HX:=zH (fun W=>zfG a b c hb W);have HM:Hid (∀W,zR 127 #[.agg #[a,.int .i64 ((b+1:Nat):Int),(0:Int)]] W (.int .i64 (ze a (b+1) 0:Nat))):=fun W=>xL a (b+1) 0 (by omega) (by omega) (by omega) W;generalize ze a (b+1) 0=m at *;generalize ze a b c=n at *;generalize ((b+1:Nat):Int)=b1 at *;obtain⟨W0,y,k0,k1,hB,U⟩:=Qd w (.int .i64 a) (.int .i64 b) (.int .i64 c);have HR:=zH (fun W=>Qr n m W);have X:=zH y;have q:=zH k0;have u:=zH k1;have HB:=zH hB;have HS:=zH U;clear y k0 k1 hB U;go_enter Tryz.func196,Tryz.ntmps196;go_wp2_with fail;rw[X.out];refine(HN.out _).mono ?_;rintro e w1 ⟨rfl,j⟩;have D1:=zH j;have o:w.heap.size<W0.heap.size:=by have:=HS.out;omega
 have q0:w1.cell? w.heap.size=some (.int .i64 a):=(q.out.below j o).cell 0;have q1:w1.cell? ⟨w.heap.size,1,none⟩=some (.int .i64 b):=(q.out.below j o).cell 1;have q2:w1.cell? ⟨w.heap.size,2,none⟩=some (.int .i64 c):=(q.out.below j o).cell 2;clear j o;go_wp2_with fail;refine(HX.out _).mono ?_;rintro e w2 ⟨rfl,C⟩;have D2:Hid (zB W0 w2):=zT D1.out C;clear C q0 q1 q2;go_wp2_with fail;refine(HM.out _).mono ?_;rintro e w3 ⟨rfl,J⟩;have D3:Hid (zB W0 w3):=zT D2.out J;clear J;go_wp2_with fail;refine(HR.out _).mono ?_;rintro e wK ⟨a',c',rfl,V,R,K⟩;have M:∀g,(Value.slice a' (zh n m).length c').ownBlock=some g->W0.heap.size<=g:=fun g hg=>Nat.le_trans D3.out.size (R g hg);have DK:zB W0 wK:=zT D3.out K;have p:w.heap.size+1<W0.heap.size:=by have:=HS.out;omega
 have Y:wK.cell? ⟨w.heap.size+1,0,none⟩=some (.slice none 0 0):=(u.out.below DK p).cell 0;have Z:=(u.out.below DK p).frozen 0;have HP:=zH (ZG HB.out (u.out.cell 0) (Nat.le_succ _) p V M DK);clear V R K M DK p;go_wp2;obtain⟨h3,h4,h5,h6⟩:=HP.out;refine bodyPost_ret (v:=.tuple #[.agg #[.slice a' (zh n m).length c'],.nilIface]) (by simp[results,Tryz.results196,go_sem,h3]) rfl ?_;exact⟨_,rfl,h4,h5,h6⟩
theorem zaQ(g:ByteArray)(a b c:Nat)(ha:a<=999)(hb:b<=999)(hc:c<=999)(w:World)(hg:g.toList=[94])(pl:Int)(x y z:Int)(m:Nat)(HL:Hid (∀W,zR 224 #[.agg #[a,b,c]] W (.int .i64 pl)))
  (HX:Hid (∀W,zR 223 #[.agg #[a,b,c],pl] W (.agg #[x,y,z])))
  (HM:Hid (∀W,zR 127 #[.agg #[x,y,z]] W (.int .i64 m))) :
  zC 196 #[.string g,.agg #[a,b,c]] w (yN w (.ok (zh (ze a b c) m))):=by
 have HN:Hid (∀W,zR 127 #[.agg #[a,b,c]] W (.int .i64 (ze a b c:Nat))):=fun W=>xL a b c (by omega) (by omega) (by omega) W;generalize ze a b c=n at *;obtain⟨W0,J,k0,k1,hB,Y⟩:=Qd w (.int .i64 a) (.int .i64 b) (.int .i64 c);have HR:=zH (fun W=>Qr n m W);have a2:=zH J;have j:=zH k0;have C:=zH k1;have HB:=zH hB;have HS:=zH Y;clear J k0 k1 hB Y;go_enter Tryz.func196,Tryz.ntmps196;go_wp2_with fail;rw[a2.out];refine(HN.out _).mono ?_;rintro e w1 ⟨rfl,o⟩;have D1:=zH o;have q:w.heap.size<W0.heap.size:=by have:=HS.out;omega
 have q0:w1.cell? w.heap.size=some (.int .i64 a):=(j.out.below o q).cell 0;have q1:w1.cell? ⟨w.heap.size,1,none⟩=some (.int .i64 b):=(j.out.below o q).cell 1;have q2:w1.cell? ⟨w.heap.size,2,none⟩=some (.int .i64 c):=(j.out.below o q).cell 2;clear o q;have a1:=HS.out;have L1:Hid (w.heap.size+1<W0.heap.size):=by show w.heap.size+1<W0.heap.size;omega
 have L0:Hid (w.heap.size+1<=W0.heap.size):=by show w.heap.size+1<=W0.heap.size;omega
 have SC:Hid (∀W,Below (w.heap.size+1) W0 W->W.cell? w.heap.size=some (.int .i64 a)/\W.cell? ⟨w.heap.size,1,none⟩=some (.int .i64 b)/\W.cell? ⟨w.heap.size,2,none⟩=some (.int .i64 c)):=fun W hb=>⟨(j.out.below hb (Nat.lt_succ_self _)).cell 0,(j.out.below hb (Nat.lt_succ_self _)).cell 1,(j.out.below hb (Nat.lt_succ_self _)).cell 2⟩;have u:Hid (W0.cell? ⟨w.heap.size+1,0,none⟩=some (.slice none 0 0)):=C.out.cell 0;have a0:Hid (W0.frozen? ⟨w.heap.size+1,0,none⟩=false):=C.out.frozen 0;have E0:zB W0 w1.drew:=D1.out.drew;clear a1 q0 q1 q2;go_wp2_with fail;go_region_held3 (fun w'=>w'.cell? w.heap.size=some (.int .i64 a)/\w'.cell? ⟨w.heap.size,1,none⟩=some (.int .i64 b)/\w'.cell? ⟨w.heap.size,2,none⟩=some (.int .i64 c)) (first|exact SC.out _ (E0.mono L0.out)|exact SC.out _ (E1.mono L0.out)|exact SC.out _ (E2.mono L0.out)|exact SC.out _ (E3.mono L0.out)|exact SC.out _ (E4.mono L0.out)|exact SC.out _ E5)
  (first
   |((with_reducible refine(HL.out _).mono ?_);rintro e w2 ⟨rfl,K⟩;have E1:zB W0 w2:=zT E0 K;clear HL)
   |((with_reducible refine(HX.out _).mono ?_);rintro e w3 ⟨rfl,M⟩;have E2:zB W0 w3:=zT E1 M;clear HX)
   |((with_reducible refine(HM.out _).mono ?_);rintro e w4 ⟨rfl,R⟩;have E3:zB W0 w4:=zT E2 R;clear HM)
   | ((with_reducible refine (HR.out _).mono ?_);rintro e wK ⟨a',c',rfl,Z,X,U⟩;have E4:zB W0 wK:=zT E3 U;have a3:=(E4.cell (p:=⟨w.heap.size + 1,0,none⟩) L1.out).trans u.out;have a4:=(E4.frozen (p:=⟨w.heap.size + 1,0,none⟩) L1.out).trans a0.out;have E5:Below (w.heap.size + 1) W0 (wK.setCell ⟨w.heap.size + 1,0,none⟩ (.slice a' (zh n m).length c')):=(E4.mono L0.out).setCell (p:=⟨w.heap.size + 1,0,none⟩) zN _;clear HR))
 have V:∀g,(Value.slice a' (zh n m).length c').ownBlock=some g->W0.heap.size<=g:=fun g hg=>Nat.le_trans E3.size (X g hg);have HP:=zH (ZG HB.out u.out (Nat.le_succ _) L1.out Z V E4);clear Z X U V E0 E1 E2 E3 E4 E5 K M R;go_wp2;obtain⟨h3,h4,h5,h6⟩:=HP.out;refine bodyPost_ret (v:=.tuple #[.agg #[.slice a' (zh n m).length c'],.nilIface]) (by simp[results,Tryz.results196,go_sem,h3]) rfl ?_;exact⟨_,rfl,h4,h5,h6⟩
theorem zhe(g:ByteArray)(a b c:Nat)(ha:a<=999)(hb:b<=999)(hc:c<=999)(w:World)(hg:g.toList=[94]) :
  zC 196 #[g,.agg #[a,b,c]] w (yN w (.ok (zh (ze a b c) (Yw a b c)))):=by
 unfold Yw
 by_cases h0:a≠0
 ·rw[zA2 h0];exact zaQ g a b c ha hb hc w hg 0 ((a+1:Nat):Int) 0 0 _ (fun W=>by have:=zaL a b c W;rw[zA2 h0] at this;exact this) (fun W=>zpx a b c ha W) (fun W=>xL (a+1) 0 0 (by omega) (by omega) (by omega) W)
 ·rw[zA1 h0]
  by_cases h1:b≠0
  ·rw[zA2 h1];exact zaQ g a b c ha hb hc w hg 1 (a:Int) ((b+1:Nat):Int) 0 _ (fun W=>by have:=zaL a b c W;rw[zA1 h0,zA2 h1] at this;exact this) (fun W=>zfG a b c hb W) (fun W=>xL a (b+1) 0 (by omega) (by omega) (by omega) W)
  ·rw[zA1 h1];exact zaQ g a b c ha hb hc w hg 2 (a:Int) (b:Int) ((c+1:Nat):Int) _ (fun W=>by have:=zaL a b c W;rw[zA1 h0,zA1 h1] at this;exact this) (fun W=>zmc a b c hc W) (fun W=>xL a b (c+1) (by omega) (by omega) (by omega) W)
theorem zgz(g:ByteArray)(a b c:Nat)(ha:a<=999)(hb:b<=999)(hc:c<=999)(w:World)(g0:(g.toList==[])=false)(g1:(g.toList==[61])=false)(g2:(g.toList==[33])=false)(g3:(g.toList==[60])=false)(g4:(g.toList==[60,61])=false)(g5:(g.toList==[62])=false)(g6:(g.toList==[62,61])=false)(g7:(g.toList==[94])=false)(g8:(g.toList==[126])=false) :
  zC 196 #[g,.agg #[a,b,c]] w (yN w (.error 3)):=by
 have HN:Hid (∀W,zR 127 #[.agg #[a,b,c]] W (.int .i64 (ze a b c:Nat))):=fun W=>xL a b c (by omega) (by omega) (by omega) W;generalize ze a b c=n at *;have ge:g.toList.isEmpty=false:=by
  cases h:g.toList with
  |nil=>rw[h] at g0;cases g0
  |cons x l=>rfl
 obtain⟨W0,y,k0,k1,hB,J⟩:=Qd w (.int .i64 a) (.int .i64 b) (.int .i64 c);have R:=zH y;have M:=zH k1;have HB:=zH hB;have HS:=zH J;clear y k0 k1 hB J g0;go_enter Tryz.func196,Tryz.ntmps196;go_wp2_with fail;rw[R.out];refine(HN.out _).mono ?_;rintro e w1 ⟨rfl,q⟩;have C:w.heap.size+1<W0.heap.size:=by have:=HS.out;omega
 have m1:=M.out.below q C;have U:_=some (Value.slice none 0 0):=m1.cell 0;have V:=m1.frozen 0;have j:(w1.setCell ⟨w.heap.size+1,0,none⟩ (.slice none 0 0)).cell? ⟨w.heap.size+1,0,none⟩=some (.slice none 0 0):=(m1.set (i:=0)).cell 0;have u:zB w (w1.setCell ⟨w.heap.size+1,0,none⟩ (.slice none 0 0)):=(zT HB.out q).setCell (p:=⟨w.heap.size+1,0,none⟩) (Nat.le_succ _) _;have o:=zH j;have K:=zH u;clear q C m1 j u;go_wp2;have h3:=o.out;refine bodyPost_ret (v:=.tuple #[.agg #[.slice none 0 0],.iface 42 (.int .i64 3)]) (by simp[results,Tryz.results196,go_sem,h3]) rfl ?_;exact⟨rfl,K.out⟩
theorem zlP(g:ByteArray)(a b c:Nat)(ha:a<=999)(hb:b<=999)(hc:c<=999)(w:World) :
  zC 196 #[g,.agg #[a,b,c]] w (yN w (xQ g.toList a b c)):=by
 unfold xQ
 by_cases h0:g.toList=[]\/g.toList=[61]
 ·rw[zA2 h0];rcases h0 with h0|h0
  ·exact znk g a b c ha hb hc w h0
  ·exact zik g a b c ha hb hc w h0
 rw[zA1 h0]
 by_cases h1:g.toList=[33]
 ·rw[zA2 h1];exact zjV g a b c ha hb hc w h1
 rw[zA1 h1]
 by_cases h2:g.toList=[60]
 ·rw[zA2 h2];exact zps g a b c ha hb hc w h2
 rw[zA1 h2]
 by_cases h3:g.toList=[60,61]
 ·rw[zA2 h3];exact zhi g a b c ha hb hc w h3
 rw[zA1 h3]
 by_cases h4:g.toList=[62]
 ·rw[zA2 h4];exact zjo g a b c ha hb hc w h4
 rw[zA1 h4]
 by_cases h5:g.toList=[62,61]
 ·rw[zA2 h5];exact zkG g a b c ha hb hc w h5
 rw[zA1 h5]
 by_cases h6:g.toList=[94]
 ·rw[zA2 h6];exact zhe g a b c ha hb hc w h6
 rw[zA1 h6]
 by_cases h7:g.toList=[126]
 ·rw[zA2 h7];exact ziw g a b c ha hb hc w h7
 rw[zA1 h7];exact zgz g a b c ha hb hc w (by simpa using fun e=>h0 (.inl e)) (by simpa using fun e=>h0 (.inr e)) (by simpa using h1) (by simpa using h2) (by simpa using h3) (by simpa using h4) (by simpa using h5) (by simpa using h6) (by simpa using h7)
end
section
open Go.RowKit Go.Shelf Sv
abbrev YK:ByteArray:=⟨#[61,33,60,62,94,126]⟩
def zi(s:ByteArray):ByteArray:=⟨(Lib.trimLeftS s.data.toList YK.data.toList).toArray⟩
theorem qK(s:ByteArray):(zi s).size<=s.size:=by
 show (Lib.trimLeftS s.data.toList YK.data.toList).toArray.size<=s.data.size;unfold Lib.trimLeftS;simp only[List.size_toArray];have:=(List.dropWhile_sublist (l:=s.data.toList) (fun x=>YK.data.toList.contains x)).length_le;simpa using this
def xS(s:ByteArray):Except Int (List zf) :=
 if s.toList=[97,110,121] then .ok zn
 else if s.toList=[110,111,110,101] then .ok []
 else match zS (zi s) with
  |.error k=>.error k
  |.ok ns=>xQ (s.extract 0 (s.size-(zi s).size)).toList (ns.getD 0 0) (ns.getD 1 0) (ns.getD 2 0)
theorem Ys{ns:List Nat}(h:ns.length=3):∃a b c,ns=[a,b,c]:=by
 match ns,h with
 |[a,b,c],_=>exact⟨a,b,c,rfl⟩
theorem za2{s:ByteArray}{l:List zf}(h:xS s=.ok l):Rg l:=by
 unfold xS at h;split at h
 ·cases h;exact XG
 ·split at h
  ·cases h;exact Ze
  ·split at h
   ·cases h
   ·rename_i ns hns;obtain⟨h3,h9⟩:=YO hns;obtain⟨a,b,c,rfl⟩:=Ys h3;exact zgk (h9 a (by simp)) (h9 b (by simp)) (h9 c (by simp)) h
theorem zpT:(Tryz.prog.info? (Tryz.lays161_ren.t 116)).map (fun i=>(i.zero,i.size))=some (some (.agg (Array.replicate 256 (.bool false))),256):=by kernel_rfl
theorem zih:∀(j:Nat) (b:UInt8),YK.data.toList[j]?=some b->b.toNat<128:=ascii_of_all (by decide)
theorem xz(s:ByteArray)(W:World):zR 150 #[s,YK] W (.string (zi s)) :=
 Any.strings_TrimLeft_laid Tryz.lays161 zpT s YK W (by decide) zih
theorem zn0(s:ByteArray)(w:World)(h:s.toList=[97,110,121]):zC 157 #[s] w (yN w (.ok zn)):=by
 have HA:Hid (∀W,zC 156 #[] W fun e w'=>∃a' c',e=.returned (.agg #[.slice a' zn.length c'])/\zk w' (.slice a' zn.length c') zn/\(∀g,(Value.slice a' zn.length c').ownBlock=some g->W.heap.size<=g)/\zB W w'):=fun W=>(YT W).mono fun e w' ⟨v',he,hs,hn,hb⟩=>by obtain⟨a',c',rfl⟩:=hs.form;exact⟨a',c',he,hs,hn,hb⟩
 have k0:=Blk.new w 95 #[.slice none 0 0];have hB:zB w (w.alloc (.cells #[.slice none 0 0] 95)):=zF.alloc zN _;have C:(w.alloc (.cells #[.slice none 0 0] 95)).heap.size=w.heap.size+1:=zA0 _ _;have o:Hid ((w.alloc (.cells #[.slice none 0 0] 95)).cell? w.heap.size=some (.slice none 0 0)):=k0.cell 0;have y:Hid ((w.alloc (.cells #[.slice none 0 0] 95)).frozen? w.heap.size=false):=k0.frozen 0;have HB:=zH hB;have L1:Hid (w.heap.size<(w.alloc (.cells #[.slice none 0 0] 95)).heap.size):=by show w.heap.size<_;omega
 clear k0 hB C;go_enter Tryz.func157,Tryz.ntmps157;go_wp2_with fail;generalize w.alloc (.cells #[.slice none 0 0] 95)=W0 at *;refine(HA.out _).mono ?_;rintro e wK ⟨a',c',rfl,u,q,j⟩;have J:=(j.cell (p:=w.heap.size) L1.out).trans o.out;have K:=(j.frozen (p:=w.heap.size) L1.out).trans y.out;have HP:=zH (ZG HB.out o.out zN L1.out u q j);clear u q j HA;go_wp2;obtain⟨h3,h4,h5,h6⟩:=HP.out;refine bodyPost_ret (v:=.tuple #[.agg #[.slice a' zn.length c'],.nilIface]) (by simp[results,Tryz.results157,go_sem,h3]) rfl ?_;exact⟨_,rfl,h4,h5,h6⟩
theorem zjx(s:ByteArray)(w:World)(h:s.toList=[110,111,110,101]):zC 157 #[s] w (yN w (.ok [])):=by
 have hB:zB w (w.alloc (.cells #[.slice none 0 0] 95)):=zF.alloc zN _;have k0:(w.alloc (.cells #[.slice none 0 0] 95)).cell? w.heap.size=some (.slice none 0 0):=(Blk.new w 95 #[.slice none 0 0]).cell 0;have HB:=zH hB;have HK:=zH k0;clear hB k0;go_enter Tryz.func157,Tryz.ntmps157;go_wp2;have h3:=HK.out;refine bodyPost_ret (v:=.tuple #[.agg #[.slice none 0 0],.nilIface]) (by simp[results,Tryz.results157,go_sem]) rfl ?_;exact⟨_,rfl,Jg _,fun g hg=>by simp[Value.ownBlock] at hg,HB.out⟩
theorem zi3(s:ByteArray)(w:World)(hs:s.size<=100000)(hw:Lb w)(h1:(s.toList==[97,110,121])=false)(h2:(s.toList==[110,111,110,101])=false)(k:Int)(hv:zS (zi s)=.error k):zC 157 #[s] w (yN w (.error k)):=by
 have HT:=zH (fun W=>xz s W);have HP:Hid (∀W,zB w W->zR 75 #[.string (zi s)] W (.tuple #[.agg #[(0:Int),(0:Int),(0:Int)],.iface 42 (.int .i64 k)])):=fun W hb=>by have:=JA (zi s) W (Nat.le_trans (qK s) hs) (hw.below hb);rw[hv] at this;exact this
 have k0:=Blk.new w 95 #[.slice none 0 0];have hB:zB w (w.alloc (.cells #[.slice none 0 0] 95)):=zF.alloc zN _;have y:=zH k0;have HB:=zH hB;generalize zi s=t at *;clear hw hv k0 hB;go_enter Tryz.func157,Tryz.ntmps157;go_wp2_with fail;generalize w.alloc (.cells #[.slice none 0 0] 95)=W0 at *;refine(HT.out _).mono ?_;rintro e w1 ⟨rfl,J⟩;have j:zB w w1:=zT HB.out J;have H2:=zH (HP.out _ j);have M:=zH J;have u:=zH j;clear J j HP;go_wp2_with fail;refine H2.out.mono ?_;rintro e w2 ⟨rfl,K⟩;have hl:=y.out.lt;have m1:=(y.out.below M.out hl).below K (y.out.below M.out hl).lt;have m2:=m1.alloc (.cells z3 92);have V:(w2.alloc (.cells z3 92)).cell? w.heap.size=some (.slice none 0 0):=m2.cell 0;have X:=m2.frozen 0;have o:zB w w2:=zT u.out K;have q:((w2.alloc (.cells z3 92)).setCell w.heap.size (.slice none 0 0)).cell? w.heap.size=some (.slice none 0 0):=(m2.set (i:=0)).cell 0;have R:zB w ((w2.alloc (.cells z3 92)).setCell w.heap.size (.slice none 0 0)):=(zL o).setCell (p:=w.heap.size) zN _;have C:=zH q;have U:=zH R;clear K hl m1 m2 H2 q R o;go_wp2;have h3:=C.out;refine bodyPost_ret (v:=.tuple #[.agg #[.slice none 0 0],.iface 42 (.int .i64 k)]) (by simp[results,Tryz.results157,go_sem,h3]) rfl ?_;exact⟨rfl,U.out⟩
theorem zoR(g:ByteArray)(a b c:Nat)(ha:a<=999)(hb:b<=999)(hc:c<=999)(W:World):zC 196 #[.string g,.agg #[a,b,c]] W fun e w'=>∃a' n' c' er,e=.returned (.tuple #[.agg #[.slice a' n' c'],er])/\zB W w'/\(∀g,(Value.slice a' n' c').ownBlock=some g->W.heap.size<=g) /\
  (match xQ g.toList a b c with
   |.ok l=>er=.nilIface/\zk w' (.slice a' n' c') l
   | .error k=>er=.iface 42 (.int .i64 k)/\Value.slice a' n' c'=.slice none 0 0):=(zlP g a b c ha hb hc W).mono fun e w' h=>by
 unfold yN at h;cases hs:xQ g.toList a b c with
 |ok l =>rw[hs] at h;obtain⟨v',he,h1,h2,h3⟩:=h;obtain⟨a',c',rfl⟩:=h1.form;exact⟨a',_,c',_,he,h3,h2,rfl,h1⟩
 |error k =>rw[hs] at h;obtain⟨he,h3⟩:=h;exact⟨none,0,0,_,he,h3,fun g hg=>by simp[Value.ownBlock] at hg,rfl,rfl⟩
theorem znL(s:ByteArray)(w:World)(hs:s.size<=100000)(hw:Lb w)(h1:(s.toList==[97,110,121])=false)(h2:(s.toList==[110,111,110,101])=false)(a b c:Nat)(ha:a<=999)(hb:b<=999)(hc:c<=999)(hv:zS (zi s)=.ok [a,b,c]):zC 157 #[s] w (yN w (xQ (s.extract 0 (s.size-(zi s).size)).toList a b c)):=by
 have HT:=zH (fun W=>xz s W);have HP:Hid (∀W,zB w W->zR 75 #[.string (zi s)] W (.tuple #[.agg #[a,b,c],.nilIface])):=fun W hb=>by have:=JA (zi s) W (Nat.le_trans (qK s) hs) (hw.below hb);rw[hv] at this;exact this
 have af:=qK s;have k0:=Blk.new w 95 #[.slice none 0 0];have hB:zB w (w.alloc (.cells #[.slice none 0 0] 95)):=zF.alloc zN _;have K:=zH k0;have HB:=zH hB;generalize zi s=t at *;have HG:=zH (fun W=>zoR (s.extract 0 (s.size-t.size)) a b c ha hb hc W);have hq:(s.size:Int)-(t.size:Int)=((s.size-t.size:Nat):Int):=by omega
 have ai:s.size-t.size<=s.size:=by omega
 generalize xQ (s.extract 0 (s.size-t.size)).toList a b c=X at *;generalize s.size-t.size=q at *;have i0:(0:Int)<=(q:Int):=by omega
 have i2:(q:Int)<=(s.size:Int):=by omega
 have a4:=fun W'=>run_slice_string_h (P:=Tryz.prog) W' 9 s Tryz.underlying9 .i64 (q:Int) i0 i2;simp only[Int.toNat_natCast] at a4;have ab:wrap64 ((s.size:Int)-(t.size:Int))=(q:Int):=by rw[hq];unfold wrap64;omega
 have aj:IntKind.i64.wrap ((s.size:Int)-(t.size:Int))=(q:Int):=by rw[IntKind.wrap_i64];unfold wrap64 at ab;exact ab
 clear hw hv k0 hB af hq;go_enter Tryz.func157,Tryz.ntmps157;go_wp2_with fail;generalize w.alloc (.cells #[.slice none 0 0] 95)=W0 at *;refine(HT.out _).mono ?_;rintro e w1 ⟨rfl,a1⟩;have j:zB w w1:=zT HB.out a1;have H2:=zH (HP.out _ j);have V:=zH a1;have R:=zH j;clear a1 j HP;go_wp2_with fail;refine H2.out.mono ?_;rintro e w2 ⟨rfl,M⟩;have hl:=K.out.lt;have m1:=((K.out.below V.out hl).below M (K.out.below V.out hl).lt).alloc (.cells #[a,b,c] 92);have o:zB w w2:=zT R.out M;have y:=o.alloc o.size (.cells #[a,b,c] 92);have kv:=Blk.new w2 92 #[a,b,c];have Y:=zH m1;have U:=zH y;have u:=zH kv;have aa:w.heap.size<w2.heap.size:=Nat.lt_of_lt_of_le (K.out.below V.out hl).lt M.size;have L1:=zH aa;clear M hl m1 H2 o y kv aa;go_wp2_with fail;generalize w2.alloc (.cells #[a,b,c] 92)=W3 at *;have SC:Hid (∀W,zB W3 W->W.cell? w2.heap.size=some (.int .i64 a)/\W.cell? ⟨w2.heap.size,1,none⟩=some (.int .i64 b)/\W.cell? ⟨w2.heap.size,2,none⟩=some (.int .i64 c)):=fun W hb=>⟨(u.out.below hb u.out.lt).cell 0,(u.out.below hb u.out.lt).cell 1,(u.out.below hb u.out.lt).cell 2⟩;have E0:zB W3 W3.drew:=zF.drew;go_region_held3 (fun w'=>w'.cell? w2.heap.size=some (.int .i64 a)/\w'.cell? ⟨w2.heap.size,1,none⟩=some (.int .i64 b)/\w'.cell? ⟨w2.heap.size,2,none⟩=some (.int .i64 c)) (first|exact SC.out _ E0|exact SC.out _ E1|exact S5)
  (first
   | ((with_reducible refine (HG.out _).mono ?_);rintro e wK ⟨a',n',c',er,rfl,a7,a3,a8⟩;have E1:zB W3 wK:=E0.trans a7;have mK:=Y.out.below E1 Y.out.lt;have ag:_=some (Value.slice none 0 0):=mK.cell 0;have ah:=mK.frozen 0;have S5:(wK.setCell w.heap.size (.slice a' n' c')).cell? w2.heap.size=some (.int .i64 a)/\(wK.setCell w.heap.size (.slice a' n' c')).cell? ⟨w2.heap.size,1,none⟩=some (.int .i64 b)/\(wK.setCell w.heap.size (.slice a' n' c')).cell? ⟨w2.heap.size,2,none⟩=some (.int .i64 c):=⟨(qq (Nat.ne_of_gt L1.out)).trans (SC.out _ E1).1,(qq (Nat.ne_of_gt L1.out)).trans (SC.out _ E1).2.1,(qq (Nat.ne_of_gt L1.out)).trans (SC.out _ E1).2.2⟩;clear HG))
 have J:(wK.setCell w.heap.size (.slice a' n' c')).cell? w.heap.size=some (.slice a' n' c'):=(mK.set (i:=0)).cell 0;have a6:zB w (wK.setCell w.heap.size (.slice a' n' c')):=(zT U.out E1).setCell (p:=w.heap.size) zN _;have a2:w.heap.size<W3.heap.size:=Y.out.lt;have a9:(Value.slice a' n' c').ownBlock≠some w.heap.size:=fun e=>by have:W3.heap.size<=w.heap.size:=a3 _ e;omega
 have C:∀g,(Value.slice a' n' c').ownBlock=some g->w.heap.size<=g:=fun g e=>by have:W3.heap.size<=g:=a3 _ e;omega
 have a0:=zH J;have a5:=zH a6;have ad:=zH a9;have Z:=zH C;have ac:=zH a8;clear J a6 a2 a9 C a8 a3 a7 mK S5 E0 E1;go_wp2;have h3:=a0.out;refine bodyPost_ret (v:=.tuple #[.agg #[.slice a' n' c'],er]) (by simp[results,Tryz.results157,go_sem,h3]) rfl ?_;have hm:=ac.out;cases X with
 |ok l =>obtain⟨rfl,ae⟩:=hm;exact⟨_,rfl,ae.set ad.out,Z.out,a5.out⟩
 |error k =>obtain⟨rfl,a4⟩:=hm;have hb:=a5.out;rw[a4] at hb ⊢;exact⟨rfl,hb⟩
theorem zgu(s:ByteArray)(w:World)(hs:s.size<=100000)(hw:Lb w):zC 157 #[s] w (yN w (xS s)):=by
 unfold xS
 by_cases h1:s.toList=[97,110,121]
 ·rw[zA2 h1];exact zn0 s w h1
 rw[zA1 h1]
 by_cases h2:s.toList=[110,111,110,101]
 ·rw[zA2 h2];exact zjx s w h2
 rw[zA1 h2];cases hv:zS (zi s) with
 |error k=>exact zi3 s w hs hw (by simpa using h1) (by simpa using h2) k hv
 |ok ns =>obtain⟨h3,h9⟩:=YO hv;obtain⟨a,b,c,rfl⟩:=Ys h3;exact znL s w hs hw (by simpa using h1) (by simpa using h2) a b c (h9 a (by simp)) (h9 b (by simp)) (h9 c (by simp)) hv
end
section
open Go.RowKit Go.Shelf
section
variable {n:Nat} {P:Program} {ops:Array Oper} {Q:Exit->Act->World->Prop} {md:Region.Mode} {l:Nat}
theorem zhV{i:Nat}{K K':Act->World->Prop}{a:Act}{w:World}(hnd:∀(j:Nat) (o:Oper),ops[j]?=some o->∀c,o.op≠.defer c)(hK:∀a w,K a w->K' a w)(h:wpOpIn Fence.wide n P ops Q i K a w):wpOpIn (Fence.wide.inRound l) n P ops Q i K' a w:=by
 have h2:=wpOpIn_mono hK h;clear h hK;unfold wpOpIn at *;cases ho:ops[i]? with
 |none=>simp only[ho] at h2 ⊢;exact h2
 |some o =>
  simp only[ho] at h2 ⊢;split
  ·rename_i hw;rw[zA2 hw] at h2;refine⟨h2.1,?_⟩;have h3:=h2.2;rw[Oper.semAt_eq _ _ _ (hnd i o ho)] at h3 ⊢;cases hr:(execOp a.eval o).run P w with
   |ok x w' =>rw[hr] at h3;cases x<;>exact h3
   |halt x w' =>rw[hr] at h3;exact h3
  ·rename_i hw;rw[zA1 hw] at h2;exact h2
theorem zjF(hnd:∀(j:Nat) (o:Oper),ops[j]?=some o->∀c,o.op≠.defer c) :
  ∀(fuel:Nat) (listed:Array Bool) (a:Act) (w:World),wpAnyIn Fence.wide n P md ops Q fuel listed a w->wpAnyIn (Fence.wide.inRound l) n P md ops Q fuel listed a w:=by
 intro fuel
 induction fuel with
 |zero=>intro listed a w h;exact h
 |succ fuel ih =>intro listed a w h;exact⟨h.1,fun i hi=>zhV hnd (fun a w h=>ih _ a w h) (h.2 i hi)⟩
theorem zfu{id:Nat}{a:Act}{w:World}(hm:P.follows .mixedOrders=true)(hnd:∀(j:Nat) (o:Oper),ops[j]?=some o->∀c,o.op≠.defer c)
  (h:wpAnyIn Fence.wide n P .any ops Q ops.size (Array.replicate ops.size false) a w.drew):(Code.region id ops true).wpIn (Fence.wide.inRound l) n P Q a w :=
 wpIn_region_any hm (zjF hnd _ _ _ _ h)
end
end
namespace Bd
open Go.RowKit Go.Maps Go.Deep
theorem zaR{W:World}{k:Nat}(h:qi W k)(a:Addr)(v:Value):qi (W.setCell a v) k:=by
 obtain⟨o,h1,h2⟩:=h
 by_cases e:k=a.block
 ·subst e;obtain⟨j,hk⟩:=Array.getElem?_eq_some_iff.1 h1;cases o with
  |cells c elem frozen =>refine⟨Obj.cells (if a.spot.isSome=true then c else c.setIfInBounds a.off v) elem frozen,?_,rfl⟩;show (W.heap.modify a.block _)[a.block]?=_;rw[Array.getElem?_eq_getElem (by rw[Array.size_modify];exact j),Array.getElem_modify_self,hk]
  |_=>cases h2
 ·exact⟨o,(Below.heap_setCell W a v k e).trans h1,h2⟩
theorem zmp{W:World}{k D:Nat}(h:qi W k)(hD:¬qi W D)(o:Obj):qi (W.putObj D o) k:=by
 obtain⟨o',h1,h2⟩:=h;have:k≠D:=fun e=>hD (e▸⟨o',h1,h2⟩);exact⟨o',(World.putObj_heap_other this).trans h1,h2⟩
theorem Xq{W:World}{D:Nat}{o:Obj}(h:W.heap[D]?=some o)(ho:o.isCells=false):¬qi W D:=by
 rintro⟨o',h1,h2⟩;rw[h] at h1;cases h1;rw[ho] at h2;cases h2
section
variable {B s b dm vars:Nat} {O0 O O':Nat->Prop} {room:Int} {ns:List Nd} {W0 W W':World}
theorem MM.set(h:MM O0 O dm W0 W)(v:Value):MM O0 O dm W0 (W.setCell dm v) :=
 h.trans ⟨zc.setCell W dm v (.inr rfl),fun _ h=>.inl h,fun k hk=>(Classical.em (qi W k)).imp (fun c=>zaR c _ _) (fun n=>⟨hk,n⟩)⟩
theorem MM.refl(O:Nat->Prop)(dm:Nat)(w:World):MM O O dm w w:=MM.of_moves (zV.refl O w)
theorem MM.from(h:MM O0 O dm W0 W)(h0:∀k,O0 k->k<W0.heap.size){k:Nat}(hk:O k)(hge:W0.heap.size<=k):qi W k:=by
 rcases h.map k hk with h1|⟨h1,-⟩
 ·exact h1
 ·have:=h0 k h1;omega
theorem MM.out(h:MM O0 O dm W0 W)(h0:∀k,O0 k->k<W0.heap.size){k:Nat}(hge:W0.heap.size<=k)(hn:¬qi W k):¬O k:=fun hk=>hn (h.from h0 hk hge)
theorem Kq(hm:zV O O' W W'){B0:Nat}(hO:∀k,O k->B0<=k->qi W k):KeepsFrom B0 W W' :=
 ⟨hm.size,fun k _ hB hk ho=>(hm.kept.block k (Array.getElem?_eq_some_iff.1 hk).1 (fun j=>Xq hk ho (hO k j hB))).trans hk⟩
theorem K5{R:Nat->Prop}(hm:zV O O' W W')(hR:∀k,R k->k<W.heap.size/\¬O k):KpR R W W':=fun k hk=>hm.kept.block k (hR k hk).1 (hR k hk).2
theorem zfU{R:Nat->Prop}{dm:Nat}(hR:∀k,R k->k≠dm)(W:World)(v:Value):KpR R W (W.setCell dm v):=fun k hk=>Below.heap_setCell W dm v k (hR k hk)
theorem zfD{R:Nat->Prop}(W:World):KpR R W W.drew:=fun _ _=>rfl
def xe{Q:Int->Prop}(pre:List (PQ Q)):List Int:=((Zr pre).map Prod.snd).reverse
def EI(B s b vars:Nat)(room:Int)(O0:Nat->Prop)(dm:Nat)(W0:World)(ns:List Nd)(ys:List Int)(W:World):Prop :=
 ∃O,zx B W s b O vars room (yh ns ys).1/\MM O0 O dm W0 W/\W.cell? dm=some (.int .i64 (yh ns ys).2)/\W.frozen? dm=false
theorem Xx{W W':World}{a:Addr}(h:W'.heap[a.block]?=W.heap[a.block]?):W'.frozen? a=W.frozen? a:=by
 unfold World.frozen?;rw[h]
theorem JR{W W':World}{a:Addr}(h:W'.heap[a.block]?=W.heap[a.block]?):W'.cell? a=W.cell? a:=by
 unfold World.cell?;rw[h]
theorem zng{row:Option Nat}(h:MM O0 O dm W0 W)(hg:W.grownBy W' row)(hr:∀r,row=some r->W0.heap.size<=r/\∃o:Obj,W.heap[r]?=some o/\o.isCells=false):MM O0 O dm W0 W' :=
 ⟨h.kept.andThen (zc.of_grown (S:=fun i=>row=some i) hg (fun i e=>e)) (fun i e hi=>by have:=(hr i e).1;omega),h.own,fun k hk=>by
  rcases h.map k hk with h1|h1
  ·refine .inl (h1.kept (zc.of_grown (S:=fun i=>row=some i) hg (fun i e=>e)) (fun e=>?_));obtain⟨-,o,ho,hc⟩:=hr k e;exact Xq ho hc h1
  ·exact .inr h1⟩
theorem zoW{row:Option Nat}(h0:∀k,O0 k->k<W0.heap.size)(h:MM O0 O dm W0 W)(hS:zx B W s b O vars room ns)(hs:s<W0.heap.size)(hg:W.grownBy W' row)(hr:∀r,row=some r->W0.heap.size<=r/\∃o:Obj,W.heap[r]?=some o/\o.isCells=false):zx B W' s b O vars room ns :=
 hS.kept (zc.of_grown (S:=fun i=>row=some i) hg (fun i e=>e)) (fun k hk e=>by
  obtain⟨hB,o,ho,hc⟩:=hr k e;exact h.out h0 hB (Xq ho hc) hk) (fun e=>by have:=(hr s e).1;omega)
theorem EI.own{Q:Int->Prop}(h0:∀k,O0 k->k<W0.heap.size)(hs:s<W0.heap.size)(hd:dm<W0.heap.size)(ns:List Nd):OwnFrom W0.heap.size (fun (pre:List (PQ Q)) W=>EI B s b vars room O0 dm W0 ns (xe pre) W):=by
 rintro pre W W' row ⟨O,h1,h2,h3,h4⟩ hg hr;have j:¬row=some dm:=fun e=>by have:=(hr dm e).1;omega
 have hb:W'.heap[dm]?=W.heap[dm]?:=(zc.of_grown (S:=fun i=>row=some i) hg (fun i e=>e)).block dm (Nat.lt_of_lt_of_le hd h2.size) j;exact⟨O,zoW h0 h2 h1 hs hg hr,zng h2 hg hr,(JR (a:=dm) hb).trans h3,(Xx (a:=dm) hb).trans h4⟩
theorem ziH{w w':World}(hb:zB w W0)(hd:w.heap.size<=dm)(h:MM O0 O dm W0 W)(hk:zc (fun k=>w.heap.size<=k) W w')(hc:∀k,qi W k->qi w' k):zV O0 O w w' :=
 ⟨((zc.of_below hb O0).andThen h.kept (fun i hi o=>hi.elim id (fun e=>by omega))).andThen hk (fun i hi o=>by omega),fun k j=>by
  rcases h.own k j with h1|h1
  ·exact .inl h1
  ·exact .inr (Nat.le_trans hb.size h1),fun k j=>by
  rcases h.map k j with h1|⟨h1,h2⟩
  ·exact .inl (hc k h1)
  ·exact .inr ⟨h1,fun c=>h2 (c.below hb)⟩⟩
end
theorem zgg{Q:Int->Prop}(pre:List (PQ Q))(x:PQ Q):xe (pre++[x])=x.1.2 :: xe pre:=by simp[xe,Zr]
theorem zjK{Q:Int->Prop}(pre:List (PQ Q)):∀x∈xe pre,Q x:=by
 intro x hx;unfold xe Zr at hx;rw[List.mem_reverse,List.mem_map] at hx;obtain⟨p,hp,rfl⟩:=hx;obtain⟨q,-,rfl⟩:=List.mem_map.1 hp;exact q.2
theorem zoc{Q:Int->Prop}(pre:List (PQ Q)):(xe pre).length=pre.length:=by simp[xe,Zr]
theorem zeb(xs:List Int):∀k,k<=xs.length->((bkF xs k).map Prod.snd).reverse=xs.take k
 |0,_=>by simp[bkF]
 |k+1,h=>by
  rw[bkF,List.map_cons,List.reverse_cons,zeb xs k (by omega),List.take_succ_eq_append_getElem (by omega)];simp[List.getD_eq_getElem?_getD,List.getElem?_eq_getElem (show k<xs.length by omega)]
theorem zpg{Q:Int->Prop}{xs:List Int}{ys:List (PQ Q)}(h:Zr ys=bkF xs xs.length):xe ys=xs:=by
 unfold xe;rw[h,zeb xs xs.length zN,List.take_length]
end Bd
end Go.Proofs.YthifnefkdjkicaaGreatDoor
