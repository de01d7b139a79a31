/- A region that draws its order, in a round: it goes as outside of one, where it defers nothing. -/
import Derived.Test.YtapobpgbcbplbaaGreatDoorSvSigned
set_option maxHeartbeats 1000000
set_option maxRecDepth 1000000
namespace Go.Proofs.YtapobpgbcbplbaaGreatDoor
section
open Go.RowKit Go.Shelf Sv
theorem zmE(g:ByteArray)(a b c:Nat)(ha:a<=999)(hb:b<=999)(hc:c<=999)(w:World)(hg:g.toList=[126]) :
  zC 181 #[.string g,.agg #[.int .i64 a,.int .i64 b,.int .i64 c]] w (yp w (.ok (zG (zx a b c) (zx a (b+1) 0)))):=by
 have HN:Hid (∀W,zR 97 #[.agg #[.int .i64 a,.int .i64 b,.int .i64 c]] W (.int .i64 (zx a b c:Nat))):=fun W=>y9 a b c (by omega) (by omega) (by omega) W;have HX:=zH (fun W=>zcH a b c hb W);have HM:Hid (∀W,zR 97 #[.agg #[.int .i64 a,.int .i64 ((b+1:Nat):Int),.int .i64 0]] W (.int .i64 (zx a (b+1) 0:Nat))):=fun W=>y9 a (b+1) 0 (by omega) (by omega) (by omega) W;generalize zx a (b+1) 0=m at *;generalize zx a b c=n at *;generalize ((b+1:Nat):Int)=b1 at *;obtain⟨W0,hW0,k0,k1,hB,hs0⟩:=Zh w (.int .i64 a) (.int .i64 b) (.int .i64 c);have HR:=zH (fun W=>ZC n m W);have HW0:=zH hW0;have HK0:=zH k0;have HK1:=zH k1;have HB:=zH hB;have HS:=zH hs0;clear hW0 k0 k1 hB hs0;go_enter Tryz.func181,Tryz.ntmps181;go_wp2_with fail;rw[HW0.out];refine(HN.out _).mono ?_;rintro e w1 ⟨rfl,hb1⟩;have D1:=zH hb1;have hl0:w.heap.size<W0.heap.size:=by have:=HS.out;omega
 have q0:w1.cell? ⟨w.heap.size,0,none⟩=some (.int .i64 a):=(HK0.out.below hb1 hl0).cell 0;have q1:w1.cell? ⟨w.heap.size,1,none⟩=some (.int .i64 b):=(HK0.out.below hb1 hl0).cell 1;have q2:w1.cell? ⟨w.heap.size,2,none⟩=some (.int .i64 c):=(HK0.out.below hb1 hl0).cell 2;clear hb1 hl0;go_wp2_with fail;refine(HX.out _).mono ?_;rintro e w2 ⟨rfl,hb2⟩;have D2:Hid (zB W0 w2):=zT D1.out hb2;clear hb2 q0 q1 q2;go_wp2_with fail;refine(HM.out _).mono ?_;rintro e w3 ⟨rfl,hb3⟩;have D3:Hid (zB W0 w3):=zT D2.out hb3;clear hb3;go_wp2_with fail;refine(HR.out _).mono ?_;rintro e wK ⟨a',c',rfl,hsK,hnn,hbK⟩;have hn2:∀g,(Value.slice a' (zG n m).length c').ownBlock=some g->W0.heap.size<=g:=fun g hg=>Nat.le_trans D3.out.size (hnn g hg);have DK:zB W0 wK:=zT D3.out hbK;have hl1:w.heap.size+1<W0.heap.size:=by have:=HS.out;omega
 have hc4:wK.cell? ⟨w.heap.size+1,0,none⟩=some (.slice none 0 0):=(HK1.out.below DK hl1).cell 0;have hf4:=(HK1.out.below DK hl1).frozen 0;have HP:=zH (xK HB.out (HK1.out.cell 0) (Nat.le_succ _) hl1 hsK hn2 DK);clear hsK hnn hbK hn2 DK hl1;go_wp2;obtain⟨h3,h4,h5,h6⟩:=HP.out;refine bodyPost_ret (v:=.tuple #[.agg #[.slice a' (zG n m).length c'],.nilIface]) (by simp[results,Tryz.results181,go_sem,h3]) rfl ?_;exact⟨_,rfl,h4,h5,h6⟩
theorem Jv(g:ByteArray)(a b c:Nat)(ha:a<=999)(hb:b<=999)(hc:c<=999)(w:World)(hg:g.toList=[94])(pl:Int)(x y z:Int)(m:Nat)(HL:Hid (∀W,zR 215 #[.agg #[.int .i64 a,.int .i64 b,.int .i64 c]] W (.int .i64 pl)))
  (HX:Hid (∀W,zR 214 #[.agg #[.int .i64 a,.int .i64 b,.int .i64 c],.int .i64 pl] W (.agg #[.int .i64 x,.int .i64 y,.int .i64 z])))
  (HM:Hid (∀W,zR 97 #[.agg #[.int .i64 x,.int .i64 y,.int .i64 z]] W (.int .i64 m))) :
  zC 181 #[.string g,.agg #[.int .i64 a,.int .i64 b,.int .i64 c]] w (yp w (.ok (zG (zx a b c) m))):=by
 have HN:Hid (∀W,zR 97 #[.agg #[.int .i64 a,.int .i64 b,.int .i64 c]] W (.int .i64 (zx a b c:Nat))):=fun W=>y9 a b c (by omega) (by omega) (by omega) W;generalize zx a b c=n at *;obtain⟨W0,hW0,k0,k1,hB,hs0⟩:=Zh w (.int .i64 a) (.int .i64 b) (.int .i64 c);have HR:=zH (fun W=>ZC n m W);have HW0:=zH hW0;have HK0:=zH k0;have HK1:=zH k1;have HB:=zH hB;have HS:=zH hs0;clear hW0 k0 k1 hB hs0;go_enter Tryz.func181,Tryz.ntmps181;go_wp2_with fail;rw[HW0.out];refine(HN.out _).mono ?_;rintro e w1 ⟨rfl,hb1⟩;have D1:=zH hb1;have hl0:w.heap.size<W0.heap.size:=by have:=HS.out;omega
 have q0:w1.cell? ⟨w.heap.size,0,none⟩=some (.int .i64 a):=(HK0.out.below hb1 hl0).cell 0;have q1:w1.cell? ⟨w.heap.size,1,none⟩=some (.int .i64 b):=(HK0.out.below hb1 hl0).cell 1;have q2:w1.cell? ⟨w.heap.size,2,none⟩=some (.int .i64 c):=(HK0.out.below hb1 hl0).cell 2;clear hb1 hl0;have HS0:=HS.out;have L1:Hid (w.heap.size+1<W0.heap.size):=by show w.heap.size+1<W0.heap.size;omega
 have L0:Hid (w.heap.size+1<=W0.heap.size):=by show w.heap.size+1<=W0.heap.size;omega
 have SC:Hid (∀W,Below (w.heap.size+1) W0 W->W.cell? ⟨w.heap.size,0,none⟩=some (.int .i64 a)/\W.cell? ⟨w.heap.size,1,none⟩=some (.int .i64 b)/\W.cell? ⟨w.heap.size,2,none⟩=some (.int .i64 c)):=fun W hb=>⟨(HK0.out.below hb (Nat.lt_succ_self _)).cell 0,(HK0.out.below hb (Nat.lt_succ_self _)).cell 1,(HK0.out.below hb (Nat.lt_succ_self _)).cell 2⟩;have HC0:Hid (W0.cell? ⟨w.heap.size+1,0,none⟩=some (.slice none 0 0)):=HK1.out.cell 0;have HF0:Hid (W0.frozen? ⟨w.heap.size+1,0,none⟩=false):=HK1.out.frozen 0;have E0:zB W0 w1.drew:=D1.out.drew;clear HS0 q0 q1 q2;go_wp2_with fail;go_region_held3 (fun w'=>w'.cell? ⟨w.heap.size,0,none⟩=some (.int .i64 a)/\w'.cell? ⟨w.heap.size,1,none⟩=some (.int .i64 b)/\w'.cell? ⟨w.heap.size,2,none⟩=some (.int .i64 c)) (first|exact SC.out _ (E0.mono L0.out)|exact SC.out _ (E1.mono L0.out)|exact SC.out _ (E2.mono L0.out)|exact SC.out _ (E3.mono L0.out)|exact SC.out _ (E4.mono L0.out)|exact SC.out _ E5)
  (first
   |((with_reducible refine(HL.out _).mono ?_);rintro e w2 ⟨rfl,hb2⟩;have E1:zB W0 w2:=zT E0 hb2;clear HL)
   |((with_reducible refine(HX.out _).mono ?_);rintro e w3 ⟨rfl,hb3⟩;have E2:zB W0 w3:=zT E1 hb3;clear HX)
   |((with_reducible refine(HM.out _).mono ?_);rintro e w4 ⟨rfl,hb4⟩;have E3:zB W0 w4:=zT E2 hb4;clear HM)
   | ((with_reducible refine (HR.out _).mono ?_);rintro e wK ⟨a',c',rfl,hsK,hnn,hbK⟩;have E4:zB W0 wK:=zT E3 hbK;have hc4:=(E4.cell (p:=⟨w.heap.size + 1,0,none⟩) L1.out).trans HC0.out;have hf4:=(E4.frozen (p:=⟨w.heap.size + 1,0,none⟩) L1.out).trans HF0.out;have E5:Below (w.heap.size + 1) W0 (wK.setCell ⟨w.heap.size + 1,0,none⟩ (.slice a' (zG n m).length c')):=(E4.mono L0.out).setCell (p:=⟨w.heap.size + 1,0,none⟩) zN _;clear HR))
 have hn2:∀g,(Value.slice a' (zG n m).length c').ownBlock=some g->W0.heap.size<=g:=fun g hg=>Nat.le_trans E3.size (hnn g hg);have HP:=zH (xK HB.out HC0.out (Nat.le_succ _) L1.out hsK hn2 E4);clear hsK hnn hbK hn2 E0 E1 E2 E3 E4 E5 hb2 hb3 hb4;go_wp2;obtain⟨h3,h4,h5,h6⟩:=HP.out;refine bodyPost_ret (v:=.tuple #[.agg #[.slice a' (zG n m).length c'],.nilIface]) (by simp[results,Tryz.results181,go_sem,h3]) rfl ?_;exact⟨_,rfl,h4,h5,h6⟩
theorem zna(g:ByteArray)(a b c:Nat)(ha:a<=999)(hb:b<=999)(hc:c<=999)(w:World)(hg:g.toList=[94]) :
  zC 181 #[.string g,.agg #[.int .i64 a,.int .i64 b,.int .i64 c]] w (yp w (.ok (zG (zx a b c) (Xd a b c)))):=by
 unfold Xd
 by_cases h0:a≠0
 ·rw[if_pos h0];exact Jv g a b c ha hb hc w hg 0 ((a+1:Nat):Int) 0 0 _ (fun W=>by have:=zaw a b c W;rw[if_pos h0] at this;exact this) (fun W=>zjK a b c ha W) (fun W=>y9 (a+1) 0 0 (by omega) (by omega) (by omega) W)
 ·rw[if_neg h0]
  by_cases h1:b≠0
  ·rw[if_pos h1];exact Jv g a b c ha hb hc w hg 1 (a:Int) ((b+1:Nat):Int) 0 _ (fun W=>by have:=zaw a b c W;rw[if_neg h0,if_pos h1] at this;exact this) (fun W=>zcH a b c hb W) (fun W=>y9 a (b+1) 0 (by omega) (by omega) (by omega) W)
  ·rw[if_neg h1];exact Jv g a b c ha hb hc w hg 2 (a:Int) (b:Int) ((c+1:Nat):Int) _ (fun W=>by have:=zaw a b c W;rw[if_neg h0,if_neg h1] at this;exact this) (fun W=>zfJ a b c hc W) (fun W=>y9 a b (c+1) (by omega) (by omega) (by omega) W)
theorem znd(g:ByteArray)(a b c:Nat)(ha:a<=999)(hb:b<=999)(hc:c<=999)(w:World)(g0:(g.toList==[])=false)(g1:(g.toList==[61])=false)(g2:(g.toList==[33])=false)(g3:(g.toList==[60])=false)(g4:(g.toList==[60,61])=false)(g5:(g.toList==[62])=false)(g6:(g.toList==[62,61])=false)(g7:(g.toList==[94])=false)(g8:(g.toList==[126])=false) :
  zC 181 #[.string g,.agg #[.int .i64 a,.int .i64 b,.int .i64 c]] w (yp w (.error 3)):=by
 have HN:Hid (∀W,zR 97 #[.agg #[.int .i64 a,.int .i64 b,.int .i64 c]] W (.int .i64 (zx a b c:Nat))):=fun W=>y9 a b c (by omega) (by omega) (by omega) W;generalize zx a b c=n at *;have ge:g.toList.isEmpty=false:=by
  cases h:g.toList with
  |nil=>rw[h] at g0;cases g0
  |cons x l=>rfl
 obtain⟨W0,hW0,k0,k1,hB,hs0⟩:=Zh w (.int .i64 a) (.int .i64 b) (.int .i64 c);have HW0:=zH hW0;have HK1:=zH k1;have HB:=zH hB;have HS:=zH hs0;clear hW0 k0 k1 hB hs0 g0;go_enter Tryz.func181,Tryz.ntmps181;go_wp2_with fail;rw[HW0.out];refine(HN.out _).mono ?_;rintro e w1 ⟨rfl,hb1⟩;have hl1:w.heap.size+1<W0.heap.size:=by have:=HS.out;omega
 have m1:=HK1.out.below hb1 hl1;have hc4:_=some (Value.slice none 0 0):=m1.cell 0;have hf4:=m1.frozen 0;have hset:(w1.setCell ⟨w.heap.size+1,0,none⟩ (.slice none 0 0)).cell? ⟨w.heap.size+1,0,none⟩=some (.slice none 0 0):=(m1.set (i:=0)).cell 0;have hB2:zB w (w1.setCell ⟨w.heap.size+1,0,none⟩ (.slice none 0 0)):=(zT HB.out hb1).setCell (p:=⟨w.heap.size+1,0,none⟩) (Nat.le_succ _) _;have HSET:=zH hset;have HB2:=zH hB2;clear hb1 hl1 m1 hset hB2;go_wp2;have h3:=HSET.out;refine bodyPost_ret (v:=.tuple #[.agg #[.slice none 0 0],.iface 64 (.int .i64 3)]) (by simp[results,Tryz.results181,go_sem,h3]) rfl ?_;exact⟨rfl,HB2.out⟩
theorem zhg(g:ByteArray)(a b c:Nat)(ha:a<=999)(hb:b<=999)(hc:c<=999)(w:World) :
  zC 181 #[.string g,.agg #[.int .i64 a,.int .i64 b,.int .i64 c]] w (yp w (ZT g.toList a b c)):=by
 unfold ZT
 by_cases h0:g.toList=[]\/g.toList=[61]
 ·rw[if_pos h0];rcases h0 with h0|h0
  ·exact zhd g a b c ha hb hc w h0
  ·exact zmF g a b c ha hb hc w h0
 rw[if_neg h0]
 by_cases h1:g.toList=[33]
 ·rw[if_pos h1];exact zk8 g a b c ha hb hc w h1
 rw[if_neg h1]
 by_cases h2:g.toList=[60]
 ·rw[if_pos h2];exact zif g a b c ha hb hc w h2
 rw[if_neg h2]
 by_cases h3:g.toList=[60,61]
 ·rw[if_pos h3];exact ziX g a b c ha hb hc w h3
 rw[if_neg h3]
 by_cases h4:g.toList=[62]
 ·rw[if_pos h4];exact zhV g a b c ha hb hc w h4
 rw[if_neg h4]
 by_cases h5:g.toList=[62,61]
 ·rw[if_pos h5];exact zip g a b c ha hb hc w h5
 rw[if_neg h5]
 by_cases h6:g.toList=[94]
 ·rw[if_pos h6];exact zna g a b c ha hb hc w h6
 rw[if_neg h6]
 by_cases h7:g.toList=[126]
 ·rw[if_pos h7];exact zmE g a b c ha hb hc w h7
 rw[if_neg h7];exact znd g a b c ha hb hc w (by simpa using fun e=>h0 (.inl e)) (by simpa using fun e=>h0 (.inr e)) (by simpa using h1) (by simpa using h2) (by simpa using h3) (by simpa using h4) (by simpa using h5) (by simpa using h6) (by simpa using h7)
end
section
open Go.RowKit Go.Shelf Sv
abbrev QS:ByteArray:=⟨#[61,33,60,62,94,126]⟩
def xi(s:ByteArray):ByteArray:=⟨(Lib.trimLeftS s.data.toList QS.data.toList).toArray⟩
theorem Jd(s:ByteArray):(xi s).size<=s.size:=by
 show (Lib.trimLeftS s.data.toList QS.data.toList).toArray.size<=s.data.size;unfold Lib.trimLeftS;simp only[List.size_toArray];have:=(List.dropWhile_sublist (l:=s.data.toList) (fun x=>QS.data.toList.contains x)).length_le;simpa using this
def ZU(s:ByteArray):Except Int (List zh) :=
 if s.toList=[97,110,121] then .ok zr
 else if s.toList=[110,111,110,101] then .ok []
 else match xC (xi s) with
  |.error k=>.error k
  |.ok ns=>ZT (s.extract 0 (s.size-(xi s).size)).toList (ns.getD 0 0) (ns.getD 1 0) (ns.getD 2 0)
theorem zbl{ns:List Nat}(h:ns.length=3):∃a b c,ns=[a,b,c]:=by
 match ns,h with
 |[a,b,c],_=>exact⟨a,b,c,rfl⟩
theorem zek{s:ByteArray}{l:List zh}(h:ZU s=.ok l):Rg l:=by
 unfold ZU at h;split at h
 ·cases h;exact Xm
 ·split at h
  ·cases h;exact KA
  ·split at h
   ·cases h
   ·rename_i ns hns;obtain⟨h3,h9⟩:=zev hns;obtain⟨a,b,c,rfl⟩:=zbl h3;exact zm3 (h9 a (by simp)) (h9 b (by simp)) (h9 c (by simp)) h
theorem zoN:(Tryz.prog.info? (Tryz.lays161_ren.t 116)).map (fun i=>(i.zero,i.size))=some (some (.agg (Array.replicate 256 (.bool false))),256):=by kernel_rfl
theorem zjL:∀(j:Nat) (b:UInt8),QS.data.toList[j]?=some b->b.toNat<128:=ascii_of_all (by decide)
theorem zb4(s:ByteArray)(W:World):zR 180 #[.string s,.string QS] W (.string (xi s)) :=
 Any.strings_TrimLeft_laid Tryz.lays161 zoN s QS W (by decide) zjL
theorem zmf(s:ByteArray)(w:World)(h:s.toList=[97,110,121]):zC 146 #[.string s] w (yp w (.ok zr)):=by
 have HA:Hid (∀W,zC 145 #[] W fun e w'=>∃a' c',e=.returned (.agg #[.slice a' zr.length c'])/\zi w' (.slice a' zr.length c') zr/\(∀g,(Value.slice a' zr.length c').ownBlock=some g->W.heap.size<=g)/\zB W w'):=fun W=>(QH W).mono fun e w' ⟨v',he,hs,hn,hb⟩=>by obtain⟨a',c',rfl⟩:=hs.form;exact⟨a',c',he,hs,hn,hb⟩
 have k0:=Blk.new w 36 #[.slice none 0 0];have hB:zB w (w.alloc (.cells #[.slice none 0 0] 36)):=zF.alloc zN _;have hs0:(w.alloc (.cells #[.slice none 0 0] 36)).heap.size=w.heap.size+1:=World.size_alloc _ _;have hc4:Hid ((w.alloc (.cells #[.slice none 0 0] 36)).cell? ⟨w.heap.size,0,none⟩=some (.slice none 0 0)):=k0.cell 0;have hf4:Hid ((w.alloc (.cells #[.slice none 0 0] 36)).frozen? ⟨w.heap.size,0,none⟩=false):=k0.frozen 0;have HB:=zH hB;have L1:Hid (w.heap.size<(w.alloc (.cells #[.slice none 0 0] 36)).heap.size):=by show w.heap.size<_;omega
 clear k0 hB hs0;go_enter Tryz.func146,Tryz.ntmps146;go_wp2_with fail;generalize w.alloc (.cells #[.slice none 0 0] 36)=W0 at *;refine(HA.out _).mono ?_;rintro e wK ⟨a',c',rfl,hsK,hnn,hbK⟩;have hc5:=(hbK.cell (p:=⟨w.heap.size,0,none⟩) L1.out).trans hc4.out;have hf5:=(hbK.frozen (p:=⟨w.heap.size,0,none⟩) L1.out).trans hf4.out;have HP:=zH (xK HB.out hc4.out zN L1.out hsK hnn hbK);clear hsK hnn hbK HA;go_wp2;obtain⟨h3,h4,h5,h6⟩:=HP.out;refine bodyPost_ret (v:=.tuple #[.agg #[.slice a' zr.length c'],.nilIface]) (by simp[results,Tryz.results146,go_sem,h3]) rfl ?_;exact⟨_,rfl,h4,h5,h6⟩
theorem znJ(s:ByteArray)(w:World)(h:s.toList=[110,111,110,101]):zC 146 #[.string s] w (yp w (.ok [])):=by
 have hB:zB w (w.alloc (.cells #[.slice none 0 0] 36)):=zF.alloc zN _;have k0:(w.alloc (.cells #[.slice none 0 0] 36)).cell? ⟨w.heap.size,0,none⟩=some (.slice none 0 0):=(Blk.new w 36 #[.slice none 0 0]).cell 0;have HB:=zH hB;have HK:=zH k0;clear hB k0;go_enter Tryz.func146,Tryz.ntmps146;go_wp2;have h3:=HK.out;refine bodyPost_ret (v:=.tuple #[.agg #[.slice none 0 0],.nilIface]) (by simp[results,Tryz.results146,go_sem]) rfl ?_;exact⟨_,rfl,XG _,fun g hg=>by simp[Value.ownBlock] at hg,HB.out⟩
theorem zfC(s:ByteArray)(w:World)(hs:s.size<=100000)(hw:Lb w)(h1:(s.toList==[97,110,121])=false)(h2:(s.toList==[110,111,110,101])=false)(k:Int)(hv:xC (xi s)=.error k):zC 146 #[.string s] w (yp w (.error k)):=by
 have HT:=zH (fun W=>zb4 s W);have HP:Hid (∀W,zB w W->zR 52 #[.string (xi s)] W (.tuple #[.agg #[.int .i64 0,.int .i64 0,.int .i64 0],.iface 64 (.int .i64 k)])):=fun W hb=>by have:=Km (xi s) W (Nat.le_trans (Jd s) hs) (hw.below hb);rw[hv] at this;exact this
 have k0:=Blk.new w 36 #[.slice none 0 0];have hB:zB w (w.alloc (.cells #[.slice none 0 0] 36)):=zF.alloc zN _;have HK0:=zH k0;have HB:=zH hB;generalize xi s=t at *;clear hw hv k0 hB;go_enter Tryz.func146,Tryz.ntmps146;go_wp2_with fail;generalize w.alloc (.cells #[.slice none 0 0] 36)=W0 at *;refine(HT.out _).mono ?_;rintro e w1 ⟨rfl,hb1⟩;have hb01:zB w w1:=zT HB.out hb1;have H2:=zH (HP.out _ hb01);have HB1:=zH hb1;have HB01:=zH hb01;clear hb1 hb01 HP;go_wp2_with fail;refine H2.out.mono ?_;rintro e w2 ⟨rfl,hb2⟩;have hl:=HK0.out.lt;have m1:=(HK0.out.below HB1.out hl).below hb2 (HK0.out.below HB1.out hl).lt;have m2:=m1.alloc (.cells z3 33);have hc4:(w2.alloc (.cells z3 33)).cell? ⟨w.heap.size,0,none⟩=some (.slice none 0 0):=m2.cell 0;have hf4:=m2.frozen 0;have hb02:zB w w2:=zT HB01.out hb2;have hset:((w2.alloc (.cells z3 33)).setCell ⟨w.heap.size,0,none⟩ (.slice none 0 0)).cell? ⟨w.heap.size,0,none⟩=some (.slice none 0 0):=(m2.set (i:=0)).cell 0;have hB2:zB w ((w2.alloc (.cells z3 33)).setCell ⟨w.heap.size,0,none⟩ (.slice none 0 0)):=(zL hb02).setCell (p:=⟨w.heap.size,0,none⟩) zN _;have HSET:=zH hset;have HB2:=zH hB2;clear hb2 hl m1 m2 H2 hset hB2 hb02;go_wp2;have h3:=HSET.out;refine bodyPost_ret (v:=.tuple #[.agg #[.slice none 0 0],.iface 64 (.int .i64 k)]) (by simp[results,Tryz.results146,go_sem,h3]) rfl ?_;exact⟨rfl,HB2.out⟩
theorem zm9(g:ByteArray)(a b c:Nat)(ha:a<=999)(hb:b<=999)(hc:c<=999)(W:World):zC 181 #[.string g,.agg #[.int .i64 a,.int .i64 b,.int .i64 c]] W fun e w'=>∃a' n' c' er,e=.returned (.tuple #[.agg #[.slice a' n' c'],er])/\zB W w'/\(∀g,(Value.slice a' n' c').ownBlock=some g->W.heap.size<=g) /\
  (match ZT g.toList a b c with
   |.ok l=>er=.nilIface/\zi w' (.slice a' n' c') l
   | .error k=>er=.iface 64 (.int .i64 k)/\Value.slice a' n' c'=.slice none 0 0):=(zhg g a b c ha hb hc W).mono fun e w' h=>by
 unfold yp at h;cases hs:ZT g.toList a b c with
 |ok l =>rw[hs] at h;obtain⟨v',he,h1,h2,h3⟩:=h;obtain⟨a',c',rfl⟩:=h1.form;exact⟨a',_,c',_,he,h3,h2,rfl,h1⟩
 |error k =>rw[hs] at h;obtain⟨he,h3⟩:=h;exact⟨none,0,0,_,he,h3,fun g hg=>by simp[Value.ownBlock] at hg,rfl,rfl⟩
theorem zno(s:ByteArray)(w:World)(hs:s.size<=100000)(hw:Lb w)(h1:(s.toList==[97,110,121])=false)(h2:(s.toList==[110,111,110,101])=false)(a b c:Nat)(ha:a<=999)(hb:b<=999)(hc:c<=999)(hv:xC (xi s)=.ok [a,b,c]):zC 146 #[.string s] w (yp w (ZT (s.extract 0 (s.size-(xi s).size)).toList a b c)):=by
 have HT:=zH (fun W=>zb4 s W);have HP:Hid (∀W,zB w W->zR 52 #[.string (xi s)] W (.tuple #[.agg #[.int .i64 a,.int .i64 b,.int .i64 c],.nilIface])):=fun W hb=>by have:=Km (xi s) W (Nat.le_trans (Jd s) hs) (hw.below hb);rw[hv] at this;exact this
 have hts:=Jd s;have k0:=Blk.new w 36 #[.slice none 0 0];have hB:zB w (w.alloc (.cells #[.slice none 0 0] 36)):=zF.alloc zN _;have HK0:=zH k0;have HB:=zH hB;generalize xi s=t at *;have HG:=zH (fun W=>zm9 (s.extract 0 (s.size-t.size)) a b c ha hb hc W);have hq:(s.size:Int)-(t.size:Int)=((s.size-t.size:Nat):Int):=by omega
 have hqs:s.size-t.size<=s.size:=by omega
 generalize ZT (s.extract 0 (s.size-t.size)).toList a b c=X at *;generalize s.size-t.size=q at *;have i0:(0:Int)<=(q:Int):=by omega
 have i2:(q:Int)<=(s.size:Int):=by omega
 have hsl:=fun W'=>run_slice_string_h (P:=Tryz.prog) W' 9 s Tryz.underlying9 .i64 (q:Int) i0 i2;simp only[Int.toNat_natCast] at hsl;have hw1:wrap64 ((s.size:Int)-(t.size:Int))=(q:Int):=by rw[hq];unfold wrap64;omega
 have hw2:IntKind.i64.wrap ((s.size:Int)-(t.size:Int))=(q:Int):=by rw[IntKind.wrap_i64];unfold wrap64 at hw1;exact hw1
 clear hw hv k0 hB hts hq;go_enter Tryz.func146,Tryz.ntmps146;go_wp2_with fail;generalize w.alloc (.cells #[.slice none 0 0] 36)=W0 at *;refine(HT.out _).mono ?_;rintro e w1 ⟨rfl,hb1⟩;have hb01:zB w w1:=zT HB.out hb1;have H2:=zH (HP.out _ hb01);have HB1:=zH hb1;have HB01:=zH hb01;clear hb1 hb01 HP;go_wp2_with fail;refine H2.out.mono ?_;rintro e w2 ⟨rfl,hb2⟩;have hl:=HK0.out.lt;have m1:=((HK0.out.below HB1.out hl).below hb2 (HK0.out.below HB1.out hl).lt).alloc (.cells #[.int .i64 a,.int .i64 b,.int .i64 c] 33);have hb02:zB w w2:=zT HB01.out hb2;have hb03:=hb02.alloc hb02.size (.cells #[.int .i64 a,.int .i64 b,.int .i64 c] 33);have kv:=Blk.new w2 33 #[.int .i64 a,.int .i64 b,.int .i64 c];have HM1:=zH m1;have HB03:=zH hb03;have HKV:=zH kv;have hne:w.heap.size<w2.heap.size:=Nat.lt_of_lt_of_le (HK0.out.below HB1.out hl).lt hb2.size;have L1:=zH hne;clear hb2 hl m1 H2 hb02 hb03 kv hne;go_wp2_with fail;generalize w2.alloc (.cells #[.int .i64 a,.int .i64 b,.int .i64 c] 33)=W3 at *;have SC:Hid (∀W,zB W3 W->W.cell? ⟨w2.heap.size,0,none⟩=some (.int .i64 a)/\W.cell? ⟨w2.heap.size,1,none⟩=some (.int .i64 b)/\W.cell? ⟨w2.heap.size,2,none⟩=some (.int .i64 c)):=fun W hb=>⟨(HKV.out.below hb HKV.out.lt).cell 0,(HKV.out.below hb HKV.out.lt).cell 1,(HKV.out.below hb HKV.out.lt).cell 2⟩;have E0:zB W3 W3.drew:=zF.drew;go_region_held3 (fun w'=>w'.cell? ⟨w2.heap.size,0,none⟩=some (.int .i64 a)/\w'.cell? ⟨w2.heap.size,1,none⟩=some (.int .i64 b)/\w'.cell? ⟨w2.heap.size,2,none⟩=some (.int .i64 c)) (first|exact SC.out _ E0|exact SC.out _ E1|exact S5)
  (first
   | ((with_reducible refine (HG.out _).mono ?_);rintro e wK ⟨a',n',c',er,rfl,hbK,hnK,hmK⟩;have E1:zB W3 wK:=E0.trans hbK;have mK:=HM1.out.below E1 HM1.out.lt;have hc4:_=some (Value.slice none 0 0):=mK.cell 0;have hf4:=mK.frozen 0;have S5:(wK.setCell ⟨w.heap.size,0,none⟩ (.slice a' n' c')).cell? ⟨w2.heap.size,0,none⟩=some (.int .i64 a)/\(wK.setCell ⟨w.heap.size,0,none⟩ (.slice a' n' c')).cell? ⟨w2.heap.size,1,none⟩=some (.int .i64 b)/\(wK.setCell ⟨w.heap.size,0,none⟩ (.slice a' n' c')).cell? ⟨w2.heap.size,2,none⟩=some (.int .i64 c):=⟨(yj (Nat.ne_of_gt L1.out)).trans (SC.out _ E1).1,(yj (Nat.ne_of_gt L1.out)).trans (SC.out _ E1).2.1,(yj (Nat.ne_of_gt L1.out)).trans (SC.out _ E1).2.2⟩;clear HG))
 have hset:(wK.setCell ⟨w.heap.size,0,none⟩ (.slice a' n' c')).cell? ⟨w.heap.size,0,none⟩=some (.slice a' n' c'):=(mK.set (i:=0)).cell 0;have hBF:zB w (wK.setCell ⟨w.heap.size,0,none⟩ (.slice a' n' c')):=(zT HB03.out E1).setCell (p:=⟨w.heap.size,0,none⟩) zN _;have hlt3:w.heap.size<W3.heap.size:=HM1.out.lt;have hnb:(Value.slice a' n' c').ownBlock≠some w.heap.size:=fun e=>by have:W3.heap.size<=w.heap.size:=hnK _ e;omega
 have hown:∀g,(Value.slice a' n' c').ownBlock=some g->w.heap.size<=g:=fun g e=>by have:W3.heap.size<=g:=hnK _ e;omega
 have HSET:=zH hset;have HBF:=zH hBF;have HNB:=zH hnb;have HOWN:=zH hown;have HMK:=zH hmK;clear hset hBF hlt3 hnb hown hmK hnK hbK mK S5 E0 E1;go_wp2;have h3:=HSET.out;refine bodyPost_ret (v:=.tuple #[.agg #[.slice a' n' c'],er]) (by simp[results,Tryz.results146,go_sem,h3]) rfl ?_;have hm:=HMK.out;cases X with
 |ok l =>obtain⟨rfl,hsp⟩:=hm;exact⟨_,rfl,hsp.set HNB.out,HOWN.out,HBF.out⟩
 |error k =>obtain⟨rfl,hsl⟩:=hm;have hb:=HBF.out;rw[hsl] at hb ⊢;exact⟨rfl,hb⟩
theorem zkD(s:ByteArray)(w:World)(hs:s.size<=100000)(hw:Lb w):zC 146 #[.string s] w (yp w (ZU s)):=by
 unfold ZU
 by_cases h1:s.toList=[97,110,121]
 ·rw[if_pos h1];exact zmf s w h1
 rw[if_neg h1]
 by_cases h2:s.toList=[110,111,110,101]
 ·rw[if_pos h2];exact znJ s w h2
 rw[if_neg h2];cases hv:xC (xi s) with
 |error k=>exact zfC s w hs hw (by simpa using h1) (by simpa using h2) k hv
 |ok ns =>obtain⟨h3,h9⟩:=zev hv;obtain⟨a,b,c,rfl⟩:=zbl h3;exact zno s w hs hw (by simpa using h1) (by simpa using h2) a b c (h9 a (by simp)) (h9 b (by simp)) (h9 c (by simp)) hv
end
section
open Go.RowKit Go.Shelf
section
variable {n:Nat} {P:Program} {ops:Array Oper} {Q:Exit->Act->World->Prop} {md:Region.Mode} {l:Nat}
theorem zol{i:Nat}{K K':Act->World->Prop}{a:Act}{w:World}(hnd:∀(j:Nat) (o:Oper),ops[j]?=some o->∀c,o.op≠.defer c)(hK:∀a w,K a w->K' a w)(h:wpOpIn Fence.wide n P ops Q i K a w):wpOpIn (Fence.wide.inRound l) n P ops Q i K' a w:=by
 have h2:=wpOpIn_mono hK h;clear h hK;unfold wpOpIn at *;cases ho:ops[i]? with
 |none=>simp only[ho] at h2 ⊢;exact h2
 |some o =>
  simp only[ho] at h2 ⊢;split
  ·rename_i hw;rw[if_pos hw] at h2;refine⟨h2.1,?_⟩;have h3:=h2.2;rw[Oper.semAt_eq _ _ _ (hnd i o ho)] at h3 ⊢;cases hr:(execOp a.eval o).run P w with
   |ok x w' =>rw[hr] at h3;cases x<;>exact h3
   |halt x w' =>rw[hr] at h3;exact h3
  ·rename_i hw;rw[if_neg hw] at h2;exact h2
theorem zfZ(hnd:∀(j:Nat) (o:Oper),ops[j]?=some o->∀c,o.op≠.defer c) :
  ∀(fuel:Nat) (listed:Array Bool) (a:Act) (w:World),wpAnyIn Fence.wide n P md ops Q fuel listed a w->wpAnyIn (Fence.wide.inRound l) n P md ops Q fuel listed a w:=by
 intro fuel
 induction fuel with
 |zero=>intro listed a w h;exact h
 |succ fuel ih =>intro listed a w h;exact⟨h.1,fun i hi=>zol hnd (fun a w h=>ih _ a w h) (h.2 i hi)⟩
theorem zmi{id:Nat}{a:Act}{w:World}(hm:P.follows .mixedOrders=true)(hnd:∀(j:Nat) (o:Oper),ops[j]?=some o->∀c,o.op≠.defer c)
  (h:wpAnyIn Fence.wide n P .any ops Q ops.size (Array.replicate ops.size false) a w.drew):(Code.region id ops true).wpIn (Fence.wide.inRound l) n P Q a w :=
 wpIn_region_any hm (zfZ hnd _ _ _ _ h)
end
end
end Go.Proofs.YtapobpgbcbplbaaGreatDoor
