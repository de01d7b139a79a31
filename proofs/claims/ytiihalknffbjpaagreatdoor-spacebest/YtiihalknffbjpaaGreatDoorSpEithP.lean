/- space: either: what a round keeps. -/
import Derived.Test.YtiihalknffbjpaaGreatDoorSvSigned
namespace Go.Proofs.YtiihalknffbjpaaGreatDoor
set_option maxHeartbeats 1000000
set_option maxRecDepth 1000000
section
open Go.RowKit Go.Shelf Sv
theorem zmB(g:ByteArray)(a b c:Nat)(ha:a<=999)(hb:b<=999)(hc:c<=999)(w:World)(hg:g.toList=[126]) :
  zC 304 #[.string g,.agg #[.int .i64 a,.int .i64 b,.int .i64 c]] w (zdq w (.ok (zb2 (zbP a b c) (zbP a (b+1) 0)))):=by
 have HN:Hid (∀W,zR 278 #[.agg #[.int .i64 a,.int .i64 b,.int .i64 c]] W (.int .i64 (zbP a b c:Nat))):=fun W=>zaK a b c (by omega) (by omega) (by omega) W;have HX:=zH (fun W=>zsS a b c hb W);have HM:Hid (∀W,zR 278 #[.agg #[.int .i64 a,.int .i64 ((b+1:Nat):Int),.int .i64 0]] W (.int .i64 (zbP a (b+1) 0:Nat))):=fun W=>zaK a (b+1) 0 (by omega) (by omega) (by omega) W;generalize zbP a (b+1) 0=m at *;generalize zbP a b c=n at *;generalize ((b+1:Nat):Int)=b1 at *;obtain⟨W0,hW0,k0,k1,hB,hs0⟩:=zca w (.int .i64 a) (.int .i64 b) (.int .i64 c);have HR:=zH (fun W=>zbV n m W);have HW0:=zH hW0;have HK0:=zH k0;have HK1:=zH k1;have HB:=zH hB;have HS:=zH hs0;clear hW0 k0 k1 hB hs0;go_enter Tryz.func304,Tryz.ntmps304;go_wp2_with fail;rw[HW0.out];refine(HN.out _).mono ?_;rintro e w1 ⟨rfl,hb1⟩;have D1:=zH hb1;have hl0:w.heap.size<W0.heap.size:=by have:=HS.out;omega
 have q0:w1.cell? ⟨w.heap.size,0,none⟩=some (.int .i64 a):=(HK0.out.below hb1 hl0).cell 0;have q1:w1.cell? ⟨w.heap.size,1,none⟩=some (.int .i64 b):=(HK0.out.below hb1 hl0).cell 1;have q2:w1.cell? ⟨w.heap.size,2,none⟩=some (.int .i64 c):=(HK0.out.below hb1 hl0).cell 2;clear hb1 hl0;go_wp2_with fail;refine(HX.out _).mono ?_;rintro e w2 ⟨rfl,hb2⟩;have D2:Hid (zB W0 w2):=zT D1.out hb2;clear hb2 q0 q1 q2;go_wp2_with fail;refine(HM.out _).mono ?_;rintro e w3 ⟨rfl,hb3⟩;have D3:Hid (zB W0 w3):=zT D2.out hb3;clear hb3;go_wp2_with fail;refine(HR.out _).mono ?_;rintro e wK ⟨a',c',rfl,hsK,hnn,hbK⟩;have hn2:∀g,(Value.slice a' (zb2 n m).length c').ownBlock=some g->W0.heap.size<=g:=fun g hg=>Nat.le_trans D3.out.size (hnn g hg);have DK:zB W0 wK:=zT D3.out hbK;have hl1:w.heap.size+1<W0.heap.size:=by have:=HS.out;omega
 have hc4:wK.cell? ⟨w.heap.size+1,0,none⟩=some (.slice none 0 0):=(HK1.out.below DK hl1).cell 0;have hf4:=(HK1.out.below DK hl1).frozen 0;have HP:=zH (zcm HB.out (HK1.out.cell 0) (Nat.le_succ _) hl1 hsK hn2 DK);clear hsK hnn hbK hn2 DK hl1;go_wp2;obtain⟨h3,h4,h5,h6⟩:=HP.out;refine bodyPost_ret (v:=.tuple #[.agg #[.slice a' (zb2 n m).length c'],.nilIface]) (by simp[results,Tryz.results304,go_sem,h3]) rfl ?_;exact⟨_,rfl,h4,h5,h6⟩
theorem zeh(g:ByteArray)(a b c:Nat)(ha:a<=999)(hb:b<=999)(hc:c<=999)(w:World)(hg:g.toList=[94])(pl:Int)(x y z:Int)(m:Nat)(HL:Hid (∀W,zR 332 #[.agg #[.int .i64 a,.int .i64 b,.int .i64 c]] W (.int .i64 pl)))
  (HX:Hid (∀W,zR 331 #[.agg #[.int .i64 a,.int .i64 b,.int .i64 c],.int .i64 pl] W (.agg #[.int .i64 x,.int .i64 y,.int .i64 z])))
  (HM:Hid (∀W,zR 278 #[.agg #[.int .i64 x,.int .i64 y,.int .i64 z]] W (.int .i64 m))) :
  zC 304 #[.string g,.agg #[.int .i64 a,.int .i64 b,.int .i64 c]] w (zdq w (.ok (zb2 (zbP a b c) m))):=by
 have HN:Hid (∀W,zR 278 #[.agg #[.int .i64 a,.int .i64 b,.int .i64 c]] W (.int .i64 (zbP a b c:Nat))):=fun W=>zaK a b c (by omega) (by omega) (by omega) W;generalize zbP a b c=n at *;obtain⟨W0,hW0,k0,k1,hB,hs0⟩:=zca w (.int .i64 a) (.int .i64 b) (.int .i64 c);have HR:=zH (fun W=>zbV n m W);have HW0:=zH hW0;have HK0:=zH k0;have HK1:=zH k1;have HB:=zH hB;have HS:=zH hs0;clear hW0 k0 k1 hB hs0;go_enter Tryz.func304,Tryz.ntmps304;go_wp2_with fail;rw[HW0.out];refine(HN.out _).mono ?_;rintro e w1 ⟨rfl,hb1⟩;have D1:=zH hb1;have hl0:w.heap.size<W0.heap.size:=by have:=HS.out;omega
 have q0:w1.cell? ⟨w.heap.size,0,none⟩=some (.int .i64 a):=(HK0.out.below hb1 hl0).cell 0;have q1:w1.cell? ⟨w.heap.size,1,none⟩=some (.int .i64 b):=(HK0.out.below hb1 hl0).cell 1;have q2:w1.cell? ⟨w.heap.size,2,none⟩=some (.int .i64 c):=(HK0.out.below hb1 hl0).cell 2;clear hb1 hl0;have HS0:=HS.out;have L1:Hid (w.heap.size+1<W0.heap.size):=by show w.heap.size+1<W0.heap.size;omega
 have L0:Hid (w.heap.size+1<=W0.heap.size):=by show w.heap.size+1<=W0.heap.size;omega
 have SC:Hid (∀W,Below (w.heap.size+1) W0 W->W.cell? ⟨w.heap.size,0,none⟩=some (.int .i64 a)/\W.cell? ⟨w.heap.size,1,none⟩=some (.int .i64 b)/\W.cell? ⟨w.heap.size,2,none⟩=some (.int .i64 c)):=fun W hb=>⟨(HK0.out.below hb (Nat.lt_succ_self _)).cell 0,(HK0.out.below hb (Nat.lt_succ_self _)).cell 1,(HK0.out.below hb (Nat.lt_succ_self _)).cell 2⟩;have HC0:Hid (W0.cell? ⟨w.heap.size+1,0,none⟩=some (.slice none 0 0)):=HK1.out.cell 0;have HF0:Hid (W0.frozen? ⟨w.heap.size+1,0,none⟩=false):=HK1.out.frozen 0;have E0:zB W0 w1.drew:=D1.out.drew;clear HS0 q0 q1 q2;go_wp2_with fail;go_region_held3 (fun w'=>w'.cell? ⟨w.heap.size,0,none⟩=some (.int .i64 a)/\w'.cell? ⟨w.heap.size,1,none⟩=some (.int .i64 b)/\w'.cell? ⟨w.heap.size,2,none⟩=some (.int .i64 c)) (first|exact SC.out _ (E0.mono L0.out)|exact SC.out _ (E1.mono L0.out)|exact SC.out _ (E2.mono L0.out)|exact SC.out _ (E3.mono L0.out)|exact SC.out _ (E4.mono L0.out)|exact SC.out _ E5)
  (first
   |((with_reducible refine(HL.out _).mono ?_);rintro e w2 ⟨rfl,hb2⟩;have E1:zB W0 w2:=zT E0 hb2;clear HL)
   |((with_reducible refine(HX.out _).mono ?_);rintro e w3 ⟨rfl,hb3⟩;have E2:zB W0 w3:=zT E1 hb3;clear HX)
   |((with_reducible refine(HM.out _).mono ?_);rintro e w4 ⟨rfl,hb4⟩;have E3:zB W0 w4:=zT E2 hb4;clear HM)
   | ((with_reducible refine (HR.out _).mono ?_);rintro e wK ⟨a',c',rfl,hsK,hnn,hbK⟩;have E4:zB W0 wK:=zT E3 hbK;have hc4:=(E4.cell (p:=⟨w.heap.size + 1,0,none⟩) L1.out).trans HC0.out;have hf4:=(E4.frozen (p:=⟨w.heap.size + 1,0,none⟩) L1.out).trans HF0.out;have E5:Below (w.heap.size + 1) W0 (wK.setCell ⟨w.heap.size + 1,0,none⟩ (.slice a' (zb2 n m).length c')):=(E4.mono L0.out).setCell (p:=⟨w.heap.size + 1,0,none⟩) zN _;clear HR))
 have hn2:∀g,(Value.slice a' (zb2 n m).length c').ownBlock=some g->W0.heap.size<=g:=fun g hg=>Nat.le_trans E3.size (hnn g hg);have HP:=zH (zcm HB.out HC0.out (Nat.le_succ _) L1.out hsK hn2 E4);clear hsK hnn hbK hn2 E0 E1 E2 E3 E4 E5 hb2 hb3 hb4;go_wp2;obtain⟨h3,h4,h5,h6⟩:=HP.out;refine bodyPost_ret (v:=.tuple #[.agg #[.slice a' (zb2 n m).length c'],.nilIface]) (by simp[results,Tryz.results304,go_sem,h3]) rfl ?_;exact⟨_,rfl,h4,h5,h6⟩
theorem zoW(g:ByteArray)(a b c:Nat)(ha:a<=999)(hb:b<=999)(hc:c<=999)(w:World)(hg:g.toList=[94]) :
  zC 304 #[.string g,.agg #[.int .i64 a,.int .i64 b,.int .i64 c]] w (zdq w (.ok (zb2 (zbP a b c) (znc a b c)))):=by
 unfold znc
 by_cases h0:a≠0
 ·rw[if_pos h0];exact zeh g a b c ha hb hc w hg 0 ((a+1:Nat):Int) 0 0 _ (fun W=>by have:=zh0 a b c W;rw[if_pos h0] at this;exact this) (fun W=>zvE a b c ha W) (fun W=>zaK (a+1) 0 0 (by omega) (by omega) (by omega) W)
 ·rw[if_neg h0]
  by_cases h1:b≠0
  ·rw[if_pos h1];exact zeh g a b c ha hb hc w hg 1 (a:Int) ((b+1:Nat):Int) 0 _ (fun W=>by have:=zh0 a b c W;rw[if_neg h0,if_pos h1] at this;exact this) (fun W=>zsS a b c hb W) (fun W=>zaK a (b+1) 0 (by omega) (by omega) (by omega) W)
  ·rw[if_neg h1];exact zeh g a b c ha hb hc w hg 2 (a:Int) (b:Int) ((c+1:Nat):Int) _ (fun W=>by have:=zh0 a b c W;rw[if_neg h0,if_neg h1] at this;exact this) (fun W=>zv0 a b c hc W) (fun W=>zaK a b (c+1) (by omega) (by omega) (by omega) W)
theorem zst(g:ByteArray)(a b c:Nat)(ha:a<=999)(hb:b<=999)(hc:c<=999)(w:World)(g0:(g.toList==[])=false)(g1:(g.toList==[61])=false)(g2:(g.toList==[33])=false)(g3:(g.toList==[60])=false)(g4:(g.toList==[60,61])=false)(g5:(g.toList==[62])=false)(g6:(g.toList==[62,61])=false)(g7:(g.toList==[94])=false)(g8:(g.toList==[126])=false) :
  zC 304 #[.string g,.agg #[.int .i64 a,.int .i64 b,.int .i64 c]] w (zdq w (.error 3)):=by
 have HN:Hid (∀W,zR 278 #[.agg #[.int .i64 a,.int .i64 b,.int .i64 c]] W (.int .i64 (zbP a b c:Nat))):=fun W=>zaK a b c (by omega) (by omega) (by omega) W;generalize zbP a b c=n at *;have ge:g.toList.isEmpty=false:=by
  cases h:g.toList with
  |nil=>rw[h] at g0;cases g0
  |cons x l=>rfl
 obtain⟨W0,hW0,k0,k1,hB,hs0⟩:=zca w (.int .i64 a) (.int .i64 b) (.int .i64 c);have HW0:=zH hW0;have HK1:=zH k1;have HB:=zH hB;have HS:=zH hs0;clear hW0 k0 k1 hB hs0 g0;go_enter Tryz.func304,Tryz.ntmps304;go_wp2_with fail;rw[HW0.out];refine(HN.out _).mono ?_;rintro e w1 ⟨rfl,hb1⟩;have hl1:w.heap.size+1<W0.heap.size:=by have:=HS.out;omega
 have m1:=HK1.out.below hb1 hl1;have hc4:_=some (Value.slice none 0 0):=m1.cell 0;have hf4:=m1.frozen 0;have hset:(w1.setCell ⟨w.heap.size+1,0,none⟩ (.slice none 0 0)).cell? ⟨w.heap.size+1,0,none⟩=some (.slice none 0 0):=(m1.set (i:=0)).cell 0;have hB2:zB w (w1.setCell ⟨w.heap.size+1,0,none⟩ (.slice none 0 0)):=(zT HB.out hb1).setCell (p:=⟨w.heap.size+1,0,none⟩) (Nat.le_succ _) _;have HSET:=zH hset;have HB2:=zH hB2;clear hb1 hl1 m1 hset hB2;go_wp2;have h3:=HSET.out;refine bodyPost_ret (v:=.tuple #[.agg #[.slice none 0 0],.iface 57 (.int .i64 3)]) (by simp[results,Tryz.results304,go_sem,h3]) rfl ?_;exact⟨rfl,HB2.out⟩
theorem znF(g:ByteArray)(a b c:Nat)(ha:a<=999)(hb:b<=999)(hc:c<=999)(w:World) :
  zC 304 #[.string g,.agg #[.int .i64 a,.int .i64 b,.int .i64 c]] w (zdq w (zeT g.toList a b c)):=by
 unfold zeT
 by_cases h0:g.toList=[]\/g.toList=[61]
 ·rw[if_pos h0];rcases h0 with h0|h0
  ·exact zn2 g a b c ha hb hc w h0
  ·exact zvf g a b c ha hb hc w h0
 rw[if_neg h0]
 by_cases h1:g.toList=[33]
 ·rw[if_pos h1];exact zrN g a b c ha hb hc w h1
 rw[if_neg h1]
 by_cases h2:g.toList=[60]
 ·rw[if_pos h2];exact ztZ g a b c ha hb hc w h2
 rw[if_neg h2]
 by_cases h3:g.toList=[60,61]
 ·rw[if_pos h3];exact zuN g a b c ha hb hc w h3
 rw[if_neg h3]
 by_cases h4:g.toList=[62]
 ·rw[if_pos h4];exact zth g a b c ha hb hc w h4
 rw[if_neg h4]
 by_cases h5:g.toList=[62,61]
 ·rw[if_pos h5];exact ztA g a b c ha hb hc w h5
 rw[if_neg h5]
 by_cases h6:g.toList=[94]
 ·rw[if_pos h6];exact zoW g a b c ha hb hc w h6
 rw[if_neg h6]
 by_cases h7:g.toList=[126]
 ·rw[if_pos h7];exact zmB g a b c ha hb hc w h7
 rw[if_neg h7];exact zst g a b c ha hb hc w (by simpa using fun e=>h0 (.inl e)) (by simpa using fun e=>h0 (.inr e)) (by simpa using h1) (by simpa using h2) (by simpa using h3) (by simpa using h4) (by simpa using h5) (by simpa using h6) (by simpa using h7)
end
section
open Go.RowKit Go.Shelf Sv
abbrev zhi:ByteArray:=⟨#[61,33,60,62,94,126]⟩
def zck(s:ByteArray):ByteArray:=⟨(Lib.trimLeftS s.data.toList zhi.data.toList).toArray⟩
theorem zcw(s:ByteArray):(zck s).size<=s.size:=by
 show (Lib.trimLeftS s.data.toList zhi.data.toList).toArray.size<=s.data.size;unfold Lib.trimLeftS;simp only[List.size_toArray];have:=(List.dropWhile_sublist (l:=s.data.toList) (fun x=>zhi.data.toList.contains x)).length_le;simpa using this
def zek(s:ByteArray):Except Int (List zau) :=
 if s.toList=[97,110,121] then .ok zbd
 else if s.toList=[110,111,110,101] then .ok []
 else match zce (zck s) with
  |.error k=>.error k
  |.ok ns=>zeT (s.extract 0 (s.size-(zck s).size)).toList (ns.getD 0 0) (ns.getD 1 0) (ns.getD 2 0)
theorem zuM{ns:List Nat}(h:ns.length=3):∃a b c,ns=[a,b,c]:=by
 match ns,h with
 |[a,b,c],_=>exact⟨a,b,c,rfl⟩
theorem zix{s:ByteArray}{l:List zau}(h:zek s=.ok l):Rg l:=by
 unfold zek at h;split at h
 ·cases h;exact zjd
 ·split at h
  ·cases h;exact zdJ
  ·split at h
   ·cases h
   ·rename_i ns hns;obtain⟨h3,h9⟩:=zc7 hns;obtain⟨a,b,c,rfl⟩:=zuM h3;exact zr3 (h9 a (by simp)) (h9 b (by simp)) (h9 c (by simp)) h
theorem zqU:(Tryz.prog.info? (Tryz.lays161_ren.t 116)).map (fun i=>(i.zero,i.size))=some (some (.agg (Array.replicate 256 (.bool false))),256):=by kernel_rfl
theorem zkb:∀(j:Nat) (b:UInt8),zhi.data.toList[j]?=some b->b.toNat<128:=ascii_of_all (by decide)
theorem zgc(s:ByteArray)(W:World):zR 188 #[.string s,.string zhi] W (.string (zck s)) :=
 Any.strings_TrimLeft_laid Tryz.lays161 zqU s zhi W (by decide) zkb
theorem zpB(s:ByteArray)(w:World)(h:s.toList=[97,110,121]):zC 260 #[.string s] w (zdq w (.ok zbd)):=by
 have HA:Hid (∀W,zC 259 #[] W fun e w'=>∃a' c',e=.returned (.agg #[.slice a' zbd.length c'])/\zaW w' (.slice a' zbd.length c') zbd/\(∀g,(Value.slice a' zbd.length c').ownBlock=some g->W.heap.size<=g)/\zB W w'):=fun W=>(ze2 W).mono fun e w' ⟨v',he,hs,hn,hb⟩=>by obtain⟨a',c',rfl⟩:=hs.form;exact⟨a',c',he,hs,hn,hb⟩
 have k0:=Blk.new w 128 #[.slice none 0 0];have hB:zB w (w.alloc (.cells #[.slice none 0 0] 128)):=zF.alloc zN _;have hs0:(w.alloc (.cells #[.slice none 0 0] 128)).heap.size=w.heap.size+1:=World.size_alloc _ _;have hc4:Hid ((w.alloc (.cells #[.slice none 0 0] 128)).cell? ⟨w.heap.size,0,none⟩=some (.slice none 0 0)):=k0.cell 0;have hf4:Hid ((w.alloc (.cells #[.slice none 0 0] 128)).frozen? ⟨w.heap.size,0,none⟩=false):=k0.frozen 0;have HB:=zH hB;have L1:Hid (w.heap.size<(w.alloc (.cells #[.slice none 0 0] 128)).heap.size):=by show w.heap.size<_;omega
 clear k0 hB hs0;go_enter Tryz.func260,Tryz.ntmps260;go_wp2_with fail;generalize w.alloc (.cells #[.slice none 0 0] 128)=W0 at *;refine(HA.out _).mono ?_;rintro e wK ⟨a',c',rfl,hsK,hnn,hbK⟩;have hc5:=(hbK.cell (p:=⟨w.heap.size,0,none⟩) L1.out).trans hc4.out;have hf5:=(hbK.frozen (p:=⟨w.heap.size,0,none⟩) L1.out).trans hf4.out;have HP:=zH (zcm HB.out hc4.out zN L1.out hsK hnn hbK);clear hsK hnn hbK HA;go_wp2;obtain⟨h3,h4,h5,h6⟩:=HP.out;refine bodyPost_ret (v:=.tuple #[.agg #[.slice a' zbd.length c'],.nilIface]) (by simp[results,Tryz.results260,go_sem,h3]) rfl ?_;exact⟨_,rfl,h4,h5,h6⟩
theorem zpW(s:ByteArray)(w:World)(h:s.toList=[110,111,110,101]):zC 260 #[.string s] w (zdq w (.ok [])):=by
 have hB:zB w (w.alloc (.cells #[.slice none 0 0] 128)):=zF.alloc zN _;have k0:(w.alloc (.cells #[.slice none 0 0] 128)).cell? ⟨w.heap.size,0,none⟩=some (.slice none 0 0):=(Blk.new w 128 #[.slice none 0 0]).cell 0;have HB:=zH hB;have HK:=zH k0;clear hB k0;go_enter Tryz.func260,Tryz.ntmps260;go_wp2;have h3:=HK.out;refine bodyPost_ret (v:=.tuple #[.agg #[.slice none 0 0],.nilIface]) (by simp[results,Tryz.results260,go_sem]) rfl ?_;exact⟨_,rfl,zfS _,fun g hg=>by simp[Value.ownBlock] at hg,HB.out⟩
theorem zrH(s:ByteArray)(w:World)(hs:s.size<=100000)(hw:Lb w)(h1:(s.toList==[97,110,121])=false)(h2:(s.toList==[110,111,110,101])=false)(k:Int)(hv:zce (zck s)=.error k):zC 260 #[.string s] w (zdq w (.error k)):=by
 have HT:=zH (fun W=>zgc s W);have HP:Hid (∀W,zB w W->zR 134 #[.string (zck s)] W (.tuple #[.agg #[.int .i64 0,.int .i64 0,.int .i64 0],.iface 57 (.int .i64 k)])):=fun W hb=>by have:=zgd (zck s) W (Nat.le_trans (zcw s) hs) (hw.below hb);rw[hv] at this;exact this
 have k0:=Blk.new w 128 #[.slice none 0 0];have hB:zB w (w.alloc (.cells #[.slice none 0 0] 128)):=zF.alloc zN _;have HK0:=zH k0;have HB:=zH hB;generalize zck s=t at *;clear hw hv k0 hB;go_enter Tryz.func260,Tryz.ntmps260;go_wp2_with fail;generalize w.alloc (.cells #[.slice none 0 0] 128)=W0 at *;refine(HT.out _).mono ?_;rintro e w1 ⟨rfl,hb1⟩;have hb01:zB w w1:=zT HB.out hb1;have H2:=zH (HP.out _ hb01);have HB1:=zH hb1;have HB01:=zH hb01;clear hb1 hb01 HP;go_wp2_with fail;refine H2.out.mono ?_;rintro e w2 ⟨rfl,hb2⟩;have hl:=HK0.out.lt;have m1:=(HK0.out.below HB1.out hl).below hb2 (HK0.out.below HB1.out hl).lt;have m2:=m1.alloc (.cells z3 84);have hc4:(w2.alloc (.cells z3 84)).cell? ⟨w.heap.size,0,none⟩=some (.slice none 0 0):=m2.cell 0;have hf4:=m2.frozen 0;have hb02:zB w w2:=zT HB01.out hb2;have hset:((w2.alloc (.cells z3 84)).setCell ⟨w.heap.size,0,none⟩ (.slice none 0 0)).cell? ⟨w.heap.size,0,none⟩=some (.slice none 0 0):=(m2.set (i:=0)).cell 0;have hB2:zB w ((w2.alloc (.cells z3 84)).setCell ⟨w.heap.size,0,none⟩ (.slice none 0 0)):=(zL hb02).setCell (p:=⟨w.heap.size,0,none⟩) zN _;have HSET:=zH hset;have HB2:=zH hB2;clear hb2 hl m1 m2 H2 hset hB2 hb02;go_wp2;have h3:=HSET.out;refine bodyPost_ret (v:=.tuple #[.agg #[.slice none 0 0],.iface 57 (.int .i64 k)]) (by simp[results,Tryz.results260,go_sem,h3]) rfl ?_;exact⟨rfl,HB2.out⟩
theorem zo8(g:ByteArray)(a b c:Nat)(ha:a<=999)(hb:b<=999)(hc:c<=999)(W:World):zC 304 #[.string g,.agg #[.int .i64 a,.int .i64 b,.int .i64 c]] W fun e w'=>∃a' n' c' er,e=.returned (.tuple #[.agg #[.slice a' n' c'],er])/\zB W w'/\(∀g,(Value.slice a' n' c').ownBlock=some g->W.heap.size<=g) /\
  (match zeT g.toList a b c with
   |.ok l=>er=.nilIface/\zaW w' (.slice a' n' c') l
   | .error k=>er=.iface 57 (.int .i64 k)/\Value.slice a' n' c'=.slice none 0 0):=(znF g a b c ha hb hc W).mono fun e w' h=>by
 unfold zdq at h;cases hs:zeT g.toList a b c with
 |ok l =>rw[hs] at h;obtain⟨v',he,h1,h2,h3⟩:=h;obtain⟨a',c',rfl⟩:=h1.form;exact⟨a',_,c',_,he,h3,h2,rfl,h1⟩
 |error k =>rw[hs] at h;obtain⟨he,h3⟩:=h;exact⟨none,0,0,_,he,h3,fun g hg=>by simp[Value.ownBlock] at hg,rfl,rfl⟩
theorem zp8(s:ByteArray)(w:World)(hs:s.size<=100000)(hw:Lb w)(h1:(s.toList==[97,110,121])=false)(h2:(s.toList==[110,111,110,101])=false)(a b c:Nat)(ha:a<=999)(hb:b<=999)(hc:c<=999)(hv:zce (zck s)=.ok [a,b,c]):zC 260 #[.string s] w (zdq w (zeT (s.extract 0 (s.size-(zck s).size)).toList a b c)):=by
 have HT:=zH (fun W=>zgc s W);have HP:Hid (∀W,zB w W->zR 134 #[.string (zck s)] W (.tuple #[.agg #[.int .i64 a,.int .i64 b,.int .i64 c],.nilIface])):=fun W hb=>by have:=zgd (zck s) W (Nat.le_trans (zcw s) hs) (hw.below hb);rw[hv] at this;exact this
 have hts:=zcw s;have k0:=Blk.new w 128 #[.slice none 0 0];have hB:zB w (w.alloc (.cells #[.slice none 0 0] 128)):=zF.alloc zN _;have HK0:=zH k0;have HB:=zH hB;generalize zck s=t at *;have HG:=zH (fun W=>zo8 (s.extract 0 (s.size-t.size)) a b c ha hb hc W);have hq:(s.size:Int)-(t.size:Int)=((s.size-t.size:Nat):Int):=by omega
 have hqs:s.size-t.size<=s.size:=by omega
 generalize zeT (s.extract 0 (s.size-t.size)).toList a b c=X at *;generalize s.size-t.size=q at *;have i0:(0:Int)<=(q:Int):=by omega
 have i2:(q:Int)<=(s.size:Int):=by omega
 have hsl:=fun W'=>run_slice_string_h (P:=Tryz.prog) W' 9 s Tryz.underlying9 .i64 (q:Int) i0 i2;simp only[Int.toNat_natCast] at hsl;have hw1:wrap64 ((s.size:Int)-(t.size:Int))=(q:Int):=by rw[hq];unfold wrap64;omega
 have hw2:IntKind.i64.wrap ((s.size:Int)-(t.size:Int))=(q:Int):=by rw[IntKind.wrap_i64];unfold wrap64 at hw1;exact hw1
 clear hw hv k0 hB hts hq;go_enter Tryz.func260,Tryz.ntmps260;go_wp2_with fail;generalize w.alloc (.cells #[.slice none 0 0] 128)=W0 at *;refine(HT.out _).mono ?_;rintro e w1 ⟨rfl,hb1⟩;have hb01:zB w w1:=zT HB.out hb1;have H2:=zH (HP.out _ hb01);have HB1:=zH hb1;have HB01:=zH hb01;clear hb1 hb01 HP;go_wp2_with fail;refine H2.out.mono ?_;rintro e w2 ⟨rfl,hb2⟩;have hl:=HK0.out.lt;have m1:=((HK0.out.below HB1.out hl).below hb2 (HK0.out.below HB1.out hl).lt).alloc (.cells #[.int .i64 a,.int .i64 b,.int .i64 c] 84);have hb02:zB w w2:=zT HB01.out hb2;have hb03:=hb02.alloc hb02.size (.cells #[.int .i64 a,.int .i64 b,.int .i64 c] 84);have kv:=Blk.new w2 84 #[.int .i64 a,.int .i64 b,.int .i64 c];have HM1:=zH m1;have HB03:=zH hb03;have HKV:=zH kv;have hne:w.heap.size<w2.heap.size:=Nat.lt_of_lt_of_le (HK0.out.below HB1.out hl).lt hb2.size;have L1:=zH hne;clear hb2 hl m1 H2 hb02 hb03 kv hne;go_wp2_with fail;generalize w2.alloc (.cells #[.int .i64 a,.int .i64 b,.int .i64 c] 84)=W3 at *;have SC:Hid (∀W,zB W3 W->W.cell? ⟨w2.heap.size,0,none⟩=some (.int .i64 a)/\W.cell? ⟨w2.heap.size,1,none⟩=some (.int .i64 b)/\W.cell? ⟨w2.heap.size,2,none⟩=some (.int .i64 c)):=fun W hb=>⟨(HKV.out.below hb HKV.out.lt).cell 0,(HKV.out.below hb HKV.out.lt).cell 1,(HKV.out.below hb HKV.out.lt).cell 2⟩;have E0:zB W3 W3.drew:=zF.drew;go_region_held3 (fun w'=>w'.cell? ⟨w2.heap.size,0,none⟩=some (.int .i64 a)/\w'.cell? ⟨w2.heap.size,1,none⟩=some (.int .i64 b)/\w'.cell? ⟨w2.heap.size,2,none⟩=some (.int .i64 c)) (first|exact SC.out _ E0|exact SC.out _ E1|exact S5)
  (first
   | ((with_reducible refine (HG.out _).mono ?_);rintro e wK ⟨a',n',c',er,rfl,hbK,hnK,hmK⟩;have E1:zB W3 wK:=E0.trans hbK;have mK:=HM1.out.below E1 HM1.out.lt;have hc4:_=some (Value.slice none 0 0):=mK.cell 0;have hf4:=mK.frozen 0;have S5:(wK.setCell ⟨w.heap.size,0,none⟩ (.slice a' n' c')).cell? ⟨w2.heap.size,0,none⟩=some (.int .i64 a)/\(wK.setCell ⟨w.heap.size,0,none⟩ (.slice a' n' c')).cell? ⟨w2.heap.size,1,none⟩=some (.int .i64 b)/\(wK.setCell ⟨w.heap.size,0,none⟩ (.slice a' n' c')).cell? ⟨w2.heap.size,2,none⟩=some (.int .i64 c):=⟨(zab (Nat.ne_of_gt L1.out)).trans (SC.out _ E1).1,(zab (Nat.ne_of_gt L1.out)).trans (SC.out _ E1).2.1,(zab (Nat.ne_of_gt L1.out)).trans (SC.out _ E1).2.2⟩;clear HG))
 have hset:(wK.setCell ⟨w.heap.size,0,none⟩ (.slice a' n' c')).cell? ⟨w.heap.size,0,none⟩=some (.slice a' n' c'):=(mK.set (i:=0)).cell 0;have hBF:zB w (wK.setCell ⟨w.heap.size,0,none⟩ (.slice a' n' c')):=(zT HB03.out E1).setCell (p:=⟨w.heap.size,0,none⟩) zN _;have hlt3:w.heap.size<W3.heap.size:=HM1.out.lt;have hnb:(Value.slice a' n' c').ownBlock≠some w.heap.size:=fun e=>by have:W3.heap.size<=w.heap.size:=hnK _ e;omega
 have hown:∀g,(Value.slice a' n' c').ownBlock=some g->w.heap.size<=g:=fun g e=>by have:W3.heap.size<=g:=hnK _ e;omega
 have HSET:=zH hset;have HBF:=zH hBF;have HNB:=zH hnb;have HOWN:=zH hown;have HMK:=zH hmK;clear hset hBF hlt3 hnb hown hmK hnK hbK mK S5 E0 E1;go_wp2;have h3:=HSET.out;refine bodyPost_ret (v:=.tuple #[.agg #[.slice a' n' c'],er]) (by simp[results,Tryz.results260,go_sem,h3]) rfl ?_;have hm:=HMK.out;cases X with
 |ok l =>obtain⟨rfl,hsp⟩:=hm;exact⟨_,rfl,hsp.set HNB.out,HOWN.out,HBF.out⟩
 |error k =>obtain⟨rfl,hsl⟩:=hm;have hb:=HBF.out;rw[hsl] at hb ⊢;exact⟨rfl,hb⟩
theorem zsc(s:ByteArray)(w:World)(hs:s.size<=100000)(hw:Lb w):zC 260 #[.string s] w (zdq w (zek s)):=by
 unfold zek
 by_cases h1:s.toList=[97,110,121]
 ·rw[if_pos h1];exact zpB s w h1
 rw[if_neg h1]
 by_cases h2:s.toList=[110,111,110,101]
 ·rw[if_pos h2];exact zpW s w h2
 rw[if_neg h2];cases hv:zce (zck s) with
 |error k=>exact zrH s w hs hw (by simpa using h1) (by simpa using h2) k hv
 |ok ns =>obtain⟨h3,h9⟩:=zc7 hv;obtain⟨a,b,c,rfl⟩:=zuM h3;exact zp8 s w hs hw (by simpa using h1) (by simpa using h2) a b c (h9 a (by simp)) (h9 b (by simp)) (h9 c (by simp)) hv
end
section
open Go.RowKit Go.Shelf
section
variable {n:Nat} {P:Program} {ops:Array Oper} {Q:Exit->Act->World->Prop} {md:Region.Mode} {l:Nat}
theorem zmU{i:Nat}{K K':Act->World->Prop}{a:Act}{w:World}(hnd:∀(j:Nat) (o:Oper),ops[j]?=some o->∀c,o.op≠.defer c)(hK:∀a w,K a w->K' a w)(h:wpOpIn Fence.wide n P ops Q i K a w):wpOpIn (Fence.wide.inRound l) n P ops Q i K' a w:=by
 have h2:=wpOpIn_mono hK h;clear h hK;unfold wpOpIn at *;cases ho:ops[i]? with
 |none=>simp only[ho] at h2 ⊢;exact h2
 |some o =>
  simp only[ho] at h2 ⊢;split
  ·rename_i hw;rw[if_pos hw] at h2;refine⟨h2.1,?_⟩;have h3:=h2.2;rw[Oper.semAt_eq _ _ _ (hnd i o ho)] at h3 ⊢;cases hr:(execOp a.eval o).run P w with
   |ok x w' =>rw[hr] at h3;cases x<;>exact h3
   |halt x w' =>rw[hr] at h3;exact h3
  ·rename_i hw;rw[if_neg hw] at h2;exact h2
theorem zj3(hnd:∀(j:Nat) (o:Oper),ops[j]?=some o->∀c,o.op≠.defer c) :
  ∀(fuel:Nat) (listed:Array Bool) (a:Act) (w:World),wpAnyIn Fence.wide n P md ops Q fuel listed a w->wpAnyIn (Fence.wide.inRound l) n P md ops Q fuel listed a w:=by
 intro fuel
 induction fuel with
 |zero=>intro listed a w h;exact h
 |succ fuel ih =>intro listed a w h;exact⟨h.1,fun i hi=>zmU hnd (fun a w h=>ih _ a w h) (h.2 i hi)⟩
theorem zfy{id:Nat}{a:Act}{w:World}(hm:P.follows .mixedOrders=true)(hnd:∀(j:Nat) (o:Oper),ops[j]?=some o->∀c,o.op≠.defer c)
  (h:wpAnyIn Fence.wide n P .any ops Q ops.size (Array.replicate ops.size false) a w.drew):(Code.region id ops true).wpIn (Fence.wide.inRound l) n P Q a w :=
 wpIn_region_any hm (zj3 hnd _ _ _ _ h)
end
end
namespace Bd
open Go.RowKit Go.Maps Go.Deep
theorem zgY{W:World}{k:Nat}(h:zaw W k)(a:Addr)(v:Value):zaw (W.setCell a v) k:=by
 obtain⟨o,h1,h2⟩:=h
 by_cases e:k=a.block
 ·subst e;obtain⟨hlt,hk⟩:=Array.getElem?_eq_some_iff.1 h1;cases o with
  |cells c elem frozen =>refine⟨Obj.cells (if a.spot.isSome=true then c else c.setIfInBounds a.off v) elem frozen,?_,rfl⟩;show (W.heap.modify a.block _)[a.block]?=_;rw[Array.getElem?_eq_getElem (by rw[Array.size_modify];exact hlt),Array.getElem_modify_self,hk]
  |_=>cases h2
 ·exact⟨o,(Below.heap_setCell W a v k e).trans h1,h2⟩
theorem zpT{W:World}{k D:Nat}(h:zaw W k)(hD:¬zaw W D)(o:Obj):zaw (W.putObj D o) k:=by
 obtain⟨o',h1,h2⟩:=h;have:k≠D:=fun e=>hD (e▸⟨o',h1,h2⟩);exact⟨o',(World.putObj_heap_other this).trans h1,h2⟩
theorem zdG{W:World}{D:Nat}{o:Obj}(h:W.heap[D]?=some o)(ho:o.isCells=false):¬zaw W D:=by
 rintro⟨o',h1,h2⟩;rw[h] at h1;cases h1;rw[ho] at h2;cases h2
section
variable {B s b dm vars:Nat} {O0 O O':Nat->Prop} {room:Int} {ns:List Nd} {W0 W W':World}
theorem MM.set(h:MM O0 O dm W0 W)(v:Value):MM O0 O dm W0 (W.setCell ⟨dm,0,none⟩ v) :=
 h.trans ⟨zan.setCell W ⟨dm,0,none⟩ v (.inr rfl),fun _ h=>.inl h,fun k hk=>(Classical.em (zaw W k)).imp (fun c=>zgY c _ _) (fun n=>⟨hk,n⟩)⟩
theorem MM.refl(O:Nat->Prop)(dm:Nat)(w:World):MM O O dm w w:=MM.of_moves (za2.refl O w)
theorem MM.from(h:MM O0 O dm W0 W)(h0:∀k,O0 k->k<W0.heap.size){k:Nat}(hk:O k)(hge:W0.heap.size<=k):zaw W k:=by
 rcases h.map k hk with h1|⟨h1,-⟩
 ·exact h1
 ·have:=h0 k h1;omega
theorem MM.out(h:MM O0 O dm W0 W)(h0:∀k,O0 k->k<W0.heap.size){k:Nat}(hge:W0.heap.size<=k)(hn:¬zaw W k):¬O k:=fun hk=>hn (h.from h0 hk hge)
theorem zfO(hm:za2 O O' W W'){B0:Nat}(hO:∀k,O k->B0<=k->zaw W k):KeepsFrom B0 W W' :=
 ⟨hm.size,fun k _ hB hk ho=>(hm.kept.block k (Array.getElem?_eq_some_iff.1 hk).1 (fun hk'=>zdG hk ho (hO k hk' hB))).trans hk⟩
theorem zga{R:Nat->Prop}(hm:za2 O O' W W')(hR:∀k,R k->k<W.heap.size/\¬O k):KpR R W W':=fun k hk=>hm.kept.block k (hR k hk).1 (hR k hk).2
theorem zsF{R:Nat->Prop}{dm:Nat}(hR:∀k,R k->k≠dm)(W:World)(v:Value):KpR R W (W.setCell ⟨dm,0,none⟩ v):=fun k hk=>Below.heap_setCell W ⟨dm,0,none⟩ v k (hR k hk)
theorem zpS{R:Nat->Prop}(W:World):KpR R W W.drew:=fun _ _=>rfl
def zdB{Q:Int->Prop}(pre:List (PQ Q)):List Int:=((znO pre).map Prod.snd).reverse
def EI(B s b vars:Nat)(room:Int)(O0:Nat->Prop)(dm:Nat)(W0:World)(ns:List Nd)(ys:List Int)(W:World):Prop :=
 ∃O,zag B W s b O vars room (zcB ns ys).1/\MM O0 O dm W0 W/\W.cell? ⟨dm,0,none⟩=some (.int .i64 (zcB ns ys).2)/\W.frozen? ⟨dm,0,none⟩=false
theorem zcC{W W':World}{a:Addr}(h:W'.heap[a.block]?=W.heap[a.block]?):W'.frozen? a=W.frozen? a:=by
 unfold World.frozen?;rw[h]
theorem zgy{W W':World}{a:Addr}(h:W'.heap[a.block]?=W.heap[a.block]?):W'.cell? a=W.cell? a:=by
 unfold World.cell?;rw[h]
theorem zsi{row:Option Nat}(h:MM O0 O dm W0 W)(hg:W.grownBy W' row)(hr:∀r,row=some r->W0.heap.size<=r/\∃o:Obj,W.heap[r]?=some o/\o.isCells=false):MM O0 O dm W0 W' :=
 ⟨h.kept.andThen (zan.of_grown (S:=fun i=>row=some i) hg (fun i e=>e)) (fun i e hi=>by have:=(hr i e).1;omega),h.own,fun k hk=>by
  rcases h.map k hk with h1|h1
  ·refine .inl (h1.kept (zan.of_grown (S:=fun i=>row=some i) hg (fun i e=>e)) (fun e=>?_));obtain⟨-,o,ho,hc⟩:=hr k e;exact zdG ho hc h1
  ·exact .inr h1⟩
theorem zki{row:Option Nat}(h0:∀k,O0 k->k<W0.heap.size)(h:MM O0 O dm W0 W)(hS:zag B W s b O vars room ns)(hs:s<W0.heap.size)(hg:W.grownBy W' row)(hr:∀r,row=some r->W0.heap.size<=r/\∃o:Obj,W.heap[r]?=some o/\o.isCells=false):zag B W' s b O vars room ns :=
 hS.kept (zan.of_grown (S:=fun i=>row=some i) hg (fun i e=>e)) (fun k hk e=>by
  obtain⟨hB,o,ho,hc⟩:=hr k e;exact h.out h0 hB (zdG ho hc) hk) (fun e=>by have:=(hr s e).1;omega)
theorem EI.own{Q:Int->Prop}(h0:∀k,O0 k->k<W0.heap.size)(hs:s<W0.heap.size)(hd:dm<W0.heap.size)(ns:List Nd):OwnFrom W0.heap.size (fun (pre:List (PQ Q)) W=>EI B s b vars room O0 dm W0 ns (zdB pre) W):=by
 rintro pre W W' row ⟨O,h1,h2,h3,h4⟩ hg hr;have hne:¬row=some dm:=fun e=>by have:=(hr dm e).1;omega
 have hb:W'.heap[dm]?=W.heap[dm]?:=(zan.of_grown (S:=fun i=>row=some i) hg (fun i e=>e)).block dm (Nat.lt_of_lt_of_le hd h2.size) hne;exact⟨O,zki h0 h2 h1 hs hg hr,zsi h2 hg hr,(zgy (a:=⟨dm,0,none⟩) hb).trans h3,(zcC (a:=⟨dm,0,none⟩) hb).trans h4⟩
theorem zpv{w w':World}(hb:zB w W0)(hd:w.heap.size<=dm)(h:MM O0 O dm W0 W)(hk:zan (fun k=>w.heap.size<=k) W w')(hc:∀k,zaw W k->zaw w' k):za2 O0 O w w' :=
 ⟨((zan.of_below hb O0).andThen h.kept (fun i hi hlt=>hi.elim id (fun e=>by omega))).andThen hk (fun i hi hlt=>by omega),fun k hk'=>by
  rcases h.own k hk' with h1|h1
  ·exact .inl h1
  ·exact .inr (Nat.le_trans hb.size h1),fun k hk'=>by
  rcases h.map k hk' with h1|⟨h1,h2⟩
  ·exact .inl (hc k h1)
  ·exact .inr ⟨h1,fun c=>h2 (c.below hb)⟩⟩
end
theorem zmQ{Q:Int->Prop}(pre:List (PQ Q))(x:PQ Q):zdB (pre++[x])=x.1.2 :: zdB pre:=by simp[zdB,znO]
theorem zpa{Q:Int->Prop}(pre:List (PQ Q)):∀x∈zdB pre,Q x:=by
 intro x hx;unfold zdB znO at hx;rw[List.mem_reverse,List.mem_map] at hx;obtain⟨p,hp,rfl⟩:=hx;obtain⟨q,-,rfl⟩:=List.mem_map.1 hp;exact q.2
theorem zop{Q:Int->Prop}(pre:List (PQ Q)):(zdB pre).length=pre.length:=by simp[zdB,znO]
theorem zoy(xs:List Int):∀k,k<=xs.length->((bkF xs k).map Prod.snd).reverse=xs.take k
 |0,_=>by simp[bkF]
 |k+1,h=>by
  rw[bkF,List.map_cons,List.reverse_cons,zoy xs k (by omega),List.take_succ_eq_append_getElem (by omega)];simp[List.getD_eq_getElem?_getD,List.getElem?_eq_getElem (show k<xs.length by omega)]
theorem zkB{Q:Int->Prop}{xs:List Int}{ys:List (PQ Q)}(h:znO ys=bkF xs xs.length):zdB ys=xs:=by
 unfold zdB;rw[h,zoy xs xs.length zN,List.take_length]
end Bd
end Go.Proofs.YtiihalknffbjpaaGreatDoor
