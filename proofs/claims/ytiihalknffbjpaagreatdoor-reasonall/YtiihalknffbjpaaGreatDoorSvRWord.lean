/- The reference: a word of a range. -/
import Derived.Test.YtiihalknffbjpaaGreatDoorSvRgW
import Derived.Test.YtiihalknffbjpaaGreatDoorSvShelfC
set_option maxHeartbeats 1000000
set_option maxRecDepth 100000
namespace Go.Proofs.YtiihalknffbjpaaGreatDoor
open Go.RowKit Go.Shelf Sv
theorem zgu{l:List UInt8}{k:Int}(h:q8 l=.error k):k≠0:=by
 unfold q8 at h;split at h
 ·split at h
  ·cases h;decide
  ·split at h
   ·cases h;decide
   ·cases h
 ·cases h;decide
theorem zdT:∀{l:List (Nat × ByteArray)} {k:Int},qk l=.error k->k≠0:=by
 intro l
 induction l with
 |nil=>intro k h;cases h
 |cons x l ih =>
  intro k h;unfold qk at h;split at h
  ·rename_i hx;cases h;exact zgu hx
  ·split at h
   ·rename_i hx;cases h;exact ih hx
   ·cases h
theorem Y3{s:ByteArray}{k:Int}(h:zz s=.error k):k≠0:=by
 unfold zz at h;split at h
 ·exact zdT h
 ·cases h;decide
theorem zhw{g:List UInt8}{a b c:Nat}{k:Int}(h:xm g a b c=.error k):k=3:=by
 unfold xm at h
 repeat(split at h;· cases h)
 cases h;rfl
theorem zag{s:ByteArray}{k:Int}(h:xp s=.error k):k≠0:=by
 unfold xp at h;split at h
 ·cases h
 ·split at h
  ·cases h
  ·split at h
   ·rename_i hx;cases h;exact Y3 hx
   ·rw[zhw h];decide
def zgl(m:List Nat)(k:Int):Except Int (List zc)->Prop
 |.ok l=>m=tp l/\k=0
 |.error q=>m=[]/\k=q
def yQ(w:World)(x:Except Int (List zc))(e:Ending)(w':World):Prop:=∃(m:List Nat) (a:Option Addr) (c:Nat) (k:Int),e=.returned (.tuple #[.slice a m.length c,.int .i64 k])/\zr w' (.slice a m.length c) m/\(∀g,(Value.slice a m.length c).ownBlock=some g->w.heap.size<=g)/\zB w w'/\zgl m k x
theorem zlb(s:ByteArray)(w:World)(h:s.toList=[97,110,121]):zC 115 #[.string s] w (yQ w (.ok zi)):=by
 have h1:(s.toList==[97,110,121])=true:=by rw[h];rfl
 have HR:=zH (xx 0 1000000000 w);have he:ze 0 1000000000=zi:=rfl;rw[he] at HR;have HRR:Hid (zC 114 #[.int .i64 0,.int .i64 1000000000] w (yo w (tp zi))):=HR.out;clear HR he h;generalize zi=L at *;go_enter Tryz.func115,Tryz.ntmps115;go_wp2_with fail;refine HRR.out.mono ?_;rintro e w' ⟨a,c,rfl,q1,q2,q3⟩;have Q1:=zH q1;have Q2:=zH q2;have Q3:=zH q3;clear q1 q2 q3;go_wp2;refine bodyPost_ret (v:=.tuple #[.slice a (tp L).length c,.int .i64 0]) (by simp[results,Tryz.results115,go_sem]) rfl ?_;exact⟨_,a,c,0,rfl,Q1.out,Q2.out,Q3.out,rfl,rfl⟩
theorem zfb(s:ByteArray)(w:World)(h:s.toList=[110,111,110,101]):zC 115 #[.string s] w (yQ w (.ok [])):=by
 have h1:(s.toList==[97,110,121])=false:=by rw[h];rfl
 have h2:(s.toList==[110,111,110,101])=true:=by rw[h];rfl
 clear h;go_enter Tryz.func115,Tryz.ntmps115;go_wp2;refine bodyPost_ret (v:=.tuple #[.slice none 0 0,.int .i64 0]) (by simp[results,Tryz.results115,go_sem]) rfl ?_;exact⟨[],none,0,0,rfl,xj _,fun g hg=>by simp[Value.ownBlock] at hg,Below.refl _ _,rfl,rfl⟩
theorem zfU(s:ByteArray)(w:World)(hs:s.size<=100000)(hw:Lb w)(h1:(s.toList==[97,110,121])=false)(h2:(s.toList==[110,111,110,101])=false)(k:Int)(hv:zz (zf s)=.error k):zC 115 #[.string s] w (yQ w (.error k)):=by
 have HT:=zH (y7 s w);have HP:Hid (∀W,zB w W->zR 131 #[.string (zf s)] W (.tuple #[.agg #[.int .i64 0,.int .i64 0,.int .i64 0],.int .i64 k])):=fun W hb=>by have:=yF yA (zf s) W (Nat.le_trans (qo s) hs) (hw.below hb);rw[hv] at this;exact this
 have hk:=Y3 hv;have hk':(k != 0)=true:=by simpa using hk
 clear hv hw hk;generalize zf s=t at *;go_enter Tryz.func115,Tryz.ntmps115;go_wp2_with fail;refine HT.out.mono ?_;rintro e w1 ⟨rfl,hb1⟩;have H2:=zH (HP.out _ hb1);have HB1:=zH hb1;clear hb1 HP HT;go_wp2_with fail;refine H2.out.mono ?_;rintro e w2 ⟨rfl,hb2⟩;have HB2:Hid (zB w (w2.alloc (.cells #[.int .i64 0,.int .i64 0,.int .i64 0] 91))):=(zT HB1.out hb2).alloc (by have:=HB1.out.size;have:=hb2.size;omega) _;clear hb2 H2;go_wp2;refine bodyPost_ret (v:=.tuple #[.slice none 0 0,.int .i64 k]) (by simp[results,Tryz.results115,go_sem]) rfl ?_;exact⟨[],none,0,k,rfl,xj _,fun g hg=>by simp[Value.ownBlock] at hg,HB2.out,rfl,rfl⟩
theorem zgB(s:ByteArray)(w:World)(hs:s.size<=100000)(hw:Lb w)(h1:(s.toList==[97,110,121])=false)(h2:(s.toList==[110,111,110,101])=false)(a b c:Nat)(ha:a<=999)(hb:b<=999)(hc:c<=999)(hv:zz (zf s)=.ok [a,b,c])(hg:(s.extract 0 (s.size-(zf s).size)).toList=[]):zC 115 #[.string s] w (yQ w (.ok (ze (zb a b c) (zb a b c+1)))):=by
 have HT:=zH (y7 s w);have HP:Hid (∀W,zB w W->zR 131 #[.string (zf s)] W (.tuple #[.agg #[.int .i64 a,.int .i64 b,.int .i64 c],.int .i64 0])):=fun W hb=>by have:=yF yA (zf s) W (Nat.le_trans (qo s) hs) (hw.below hb);rw[hv] at this;exact this
 have HN:Hid (∀W,zR 189 #[.agg #[.int .i64 a,.int .i64 b,.int .i64 c]] W (.int .i64 (zb a b c))):=fun W=>yG a b c (by omega) (by omega) (by omega) W;have hN:=yh ha hb hc;have hNi:(zb a b c:Int)<1000000000:=by unfold ALL at hN;omega
 have HROW:Hid (∀W,zC 114 #[.int .i64 ((zb a b c:Nat):Int),.int .i64 (((zb a b c:Nat):Int)+1)] W (yo W (tp (ze (zb a b c) (zb a b c+1))))):=fun W=>xx (zb a b c) (zb a b c+1) W;have hts:=qo s;generalize zf s=t at *;have hq:(s.size:Int)-(t.size:Int)=((s.size-t.size:Nat):Int):=by omega
 have hqs:s.size-t.size<=s.size:=by omega
 generalize s.size-t.size=q at *;have i0:(0:Int)<=(q:Int):=by omega
 have i2:(q:Int)<=(s.size:Int):=by omega
 have hsl:=fun W'=>run_slice_string_h (P:=Tryz.prog) W' 9 s Tryz.underlying9 .i64 (q:Int) i0 i2;simp only[Int.toNat_natCast] at hsl;have hw1:wrap64 ((s.size:Int)-(t.size:Int))=(q:Int):=by rw[hq];unfold wrap64;omega
 have hw2:IntKind.i64.wrap ((s.size:Int)-(t.size:Int))=(q:Int):=by rw[IntKind.wrap_i64];unfold wrap64 at hw1;exact hw1
 have g0:((s.extract 0 q).toList==[])=true:=by rw[hg];rfl
 clear hg;clear hv hw hts hq hN;generalize zb a b c=N at *;go_enter Tryz.func115,Tryz.ntmps115;go_wp2_with fail;refine HT.out.mono ?_;rintro e w1 ⟨rfl,hb1⟩;have H2:=zH (HP.out _ hb1);have HB1:=zH hb1;clear hb1 HP HT;go_wp2_with fail;refine H2.out.mono ?_;rintro e w2 ⟨rfl,hb2⟩;have HB2:Hid (zB w (w2.alloc (.cells #[.int .i64 a,.int .i64 b,.int .i64 c] 91))):=(zT HB1.out hb2).alloc (by have:=HB1.out.size;have:=hb2.size;omega) _;have kv:=Blk.new w2 91 #[.int .i64 a,.int .i64 b,.int .i64 c];clear hb2 H2;go_wp2_with fail;generalize w2.alloc (.cells #[.int .i64 a,.int .i64 b,.int .i64 c] 91)=W3 at *;refine(HN.out _).mono ?_;rintro e w4 ⟨rfl,hb4⟩;have HB4:Hid (zB w w4):=zT HB2.out hb4;have kv4:=kv.below hb4 kv.lt;have HKV:=zH kv4;clear hb4 HN kv kv4 HB2;go_wp2_with fail;refine(HROW.out _).mono ?_;rintro e w5 ⟨x,y,rfl,q1,q2,q3⟩;have Q1:=zH q1;have Q2:Hid (∀g,(Value.slice x (tp (ze N (N+1))).length y).ownBlock=some g->w.heap.size<=g):=fun g hg=>Nat.le_trans HB4.out.size (q2 g hg);have Q3:Hid (zB w w5):=zT HB4.out q3;clear q1 q2 q3;go_wp2;refine bodyPost_ret (v:=.tuple #[.slice x (tp (ze N (N+1))).length y,.int .i64 0]) (by simp[results,Tryz.results115,go_sem]) rfl ?_;exact⟨_,x,y,0,rfl,Q1.out,Q2.out,Q3.out,rfl,rfl⟩
theorem zju(s:ByteArray)(w:World)(hs:s.size<=100000)(hw:Lb w)(h1:(s.toList==[97,110,121])=false)(h2:(s.toList==[110,111,110,101])=false)(a b c:Nat)(ha:a<=999)(hb:b<=999)(hc:c<=999)(hv:zz (zf s)=.ok [a,b,c])(hg:(s.extract 0 (s.size-(zf s).size)).toList=[61]):zC 115 #[.string s] w (yQ w (.ok (ze (zb a b c) (zb a b c+1)))):=by
 have HT:=zH (y7 s w);have HP:Hid (∀W,zB w W->zR 131 #[.string (zf s)] W (.tuple #[.agg #[.int .i64 a,.int .i64 b,.int .i64 c],.int .i64 0])):=fun W hb=>by have:=yF yA (zf s) W (Nat.le_trans (qo s) hs) (hw.below hb);rw[hv] at this;exact this
 have HN:Hid (∀W,zR 189 #[.agg #[.int .i64 a,.int .i64 b,.int .i64 c]] W (.int .i64 (zb a b c))):=fun W=>yG a b c (by omega) (by omega) (by omega) W;have hN:=yh ha hb hc;have hNi:(zb a b c:Int)<1000000000:=by unfold ALL at hN;omega
 have HROW:Hid (∀W,zC 114 #[.int .i64 ((zb a b c:Nat):Int),.int .i64 (((zb a b c:Nat):Int)+1)] W (yo W (tp (ze (zb a b c) (zb a b c+1))))):=fun W=>xx (zb a b c) (zb a b c+1) W;have hts:=qo s;generalize zf s=t at *;have hq:(s.size:Int)-(t.size:Int)=((s.size-t.size:Nat):Int):=by omega
 have hqs:s.size-t.size<=s.size:=by omega
 generalize s.size-t.size=q at *;have i0:(0:Int)<=(q:Int):=by omega
 have i2:(q:Int)<=(s.size:Int):=by omega
 have hsl:=fun W'=>run_slice_string_h (P:=Tryz.prog) W' 9 s Tryz.underlying9 .i64 (q:Int) i0 i2;simp only[Int.toNat_natCast] at hsl;have hw1:wrap64 ((s.size:Int)-(t.size:Int))=(q:Int):=by rw[hq];unfold wrap64;omega
 have hw2:IntKind.i64.wrap ((s.size:Int)-(t.size:Int))=(q:Int):=by rw[IntKind.wrap_i64];unfold wrap64 at hw1;exact hw1
 have g0:((s.extract 0 q).toList==[])=false:=by rw[hg];rfl
 have g1:((s.extract 0 q).toList==[61])=true:=by rw[hg];rfl
 clear hg;clear hv hw hts hq hN;generalize zb a b c=N at *;go_enter Tryz.func115,Tryz.ntmps115;go_wp2_with fail;refine HT.out.mono ?_;rintro e w1 ⟨rfl,hb1⟩;have H2:=zH (HP.out _ hb1);have HB1:=zH hb1;clear hb1 HP HT;go_wp2_with fail;refine H2.out.mono ?_;rintro e w2 ⟨rfl,hb2⟩;have HB2:Hid (zB w (w2.alloc (.cells #[.int .i64 a,.int .i64 b,.int .i64 c] 91))):=(zT HB1.out hb2).alloc (by have:=HB1.out.size;have:=hb2.size;omega) _;have kv:=Blk.new w2 91 #[.int .i64 a,.int .i64 b,.int .i64 c];clear hb2 H2;go_wp2_with fail;generalize w2.alloc (.cells #[.int .i64 a,.int .i64 b,.int .i64 c] 91)=W3 at *;refine(HN.out _).mono ?_;rintro e w4 ⟨rfl,hb4⟩;have HB4:Hid (zB w w4):=zT HB2.out hb4;have kv4:=kv.below hb4 kv.lt;have HKV:=zH kv4;clear hb4 HN kv kv4 HB2;go_wp2_with fail;refine(HROW.out _).mono ?_;rintro e w5 ⟨x,y,rfl,q1,q2,q3⟩;have Q1:=zH q1;have Q2:Hid (∀g,(Value.slice x (tp (ze N (N+1))).length y).ownBlock=some g->w.heap.size<=g):=fun g hg=>Nat.le_trans HB4.out.size (q2 g hg);have Q3:Hid (zB w w5):=zT HB4.out q3;clear q1 q2 q3;go_wp2;refine bodyPost_ret (v:=.tuple #[.slice x (tp (ze N (N+1))).length y,.int .i64 0]) (by simp[results,Tryz.results115,go_sem]) rfl ?_;exact⟨_,x,y,0,rfl,Q1.out,Q2.out,Q3.out,rfl,rfl⟩
theorem zeQ(s:ByteArray)(w:World)(hs:s.size<=100000)(hw:Lb w)(h1:(s.toList==[97,110,121])=false)(h2:(s.toList==[110,111,110,101])=false)(a b c:Nat)(ha:a<=999)(hb:b<=999)(hc:c<=999)(hv:zz (zf s)=.ok [a,b,c])(hg:(s.extract 0 (s.size-(zf s).size)).toList=[60]):zC 115 #[.string s] w (yQ w (.ok (ze 0 (zb a b c)))):=by
 have HT:=zH (y7 s w);have HP:Hid (∀W,zB w W->zR 131 #[.string (zf s)] W (.tuple #[.agg #[.int .i64 a,.int .i64 b,.int .i64 c],.int .i64 0])):=fun W hb=>by have:=yF yA (zf s) W (Nat.le_trans (qo s) hs) (hw.below hb);rw[hv] at this;exact this
 have HN:Hid (∀W,zR 189 #[.agg #[.int .i64 a,.int .i64 b,.int .i64 c]] W (.int .i64 (zb a b c))):=fun W=>yG a b c (by omega) (by omega) (by omega) W;have hN:=yh ha hb hc;have hNi:(zb a b c:Int)<1000000000:=by unfold ALL at hN;omega
 have HROW:Hid (∀W,zC 114 #[.int .i64 (0),.int .i64 ((zb a b c:Nat):Int)] W (yo W (tp (ze (0) (zb a b c))))):=fun W=>xx (0) (zb a b c) W;have hts:=qo s;generalize zf s=t at *;have hq:(s.size:Int)-(t.size:Int)=((s.size-t.size:Nat):Int):=by omega
 have hqs:s.size-t.size<=s.size:=by omega
 generalize s.size-t.size=q at *;have i0:(0:Int)<=(q:Int):=by omega
 have i2:(q:Int)<=(s.size:Int):=by omega
 have hsl:=fun W'=>run_slice_string_h (P:=Tryz.prog) W' 9 s Tryz.underlying9 .i64 (q:Int) i0 i2;simp only[Int.toNat_natCast] at hsl;have hw1:wrap64 ((s.size:Int)-(t.size:Int))=(q:Int):=by rw[hq];unfold wrap64;omega
 have hw2:IntKind.i64.wrap ((s.size:Int)-(t.size:Int))=(q:Int):=by rw[IntKind.wrap_i64];unfold wrap64 at hw1;exact hw1
 have g0:((s.extract 0 q).toList==[])=false:=by rw[hg];rfl
 have g1:((s.extract 0 q).toList==[61])=false:=by rw[hg];rfl
 have g2:((s.extract 0 q).toList==[33])=false:=by rw[hg];rfl
 have g3:((s.extract 0 q).toList==[60])=true:=by rw[hg];rfl
 clear hg;clear hv hw hts hq hN;generalize zb a b c=N at *;go_enter Tryz.func115,Tryz.ntmps115;go_wp2_with fail;refine HT.out.mono ?_;rintro e w1 ⟨rfl,hb1⟩;have H2:=zH (HP.out _ hb1);have HB1:=zH hb1;clear hb1 HP HT;go_wp2_with fail;refine H2.out.mono ?_;rintro e w2 ⟨rfl,hb2⟩;have HB2:Hid (zB w (w2.alloc (.cells #[.int .i64 a,.int .i64 b,.int .i64 c] 91))):=(zT HB1.out hb2).alloc (by have:=HB1.out.size;have:=hb2.size;omega) _;have kv:=Blk.new w2 91 #[.int .i64 a,.int .i64 b,.int .i64 c];clear hb2 H2;go_wp2_with fail;generalize w2.alloc (.cells #[.int .i64 a,.int .i64 b,.int .i64 c] 91)=W3 at *;refine(HN.out _).mono ?_;rintro e w4 ⟨rfl,hb4⟩;have HB4:Hid (zB w w4):=zT HB2.out hb4;have kv4:=kv.below hb4 kv.lt;have HKV:=zH kv4;clear hb4 HN kv kv4 HB2;go_wp2_with fail;refine(HROW.out _).mono ?_;rintro e w5 ⟨x,y,rfl,q1,q2,q3⟩;have Q1:=zH q1;have Q2:Hid (∀g,(Value.slice x (tp (ze 0 N)).length y).ownBlock=some g->w.heap.size<=g):=fun g hg=>Nat.le_trans HB4.out.size (q2 g hg);have Q3:Hid (zB w w5):=zT HB4.out q3;clear q1 q2 q3;go_wp2;refine bodyPost_ret (v:=.tuple #[.slice x (tp (ze 0 N)).length y,.int .i64 0]) (by simp[results,Tryz.results115,go_sem]) rfl ?_;exact⟨_,x,y,0,rfl,Q1.out,Q2.out,Q3.out,rfl,rfl⟩
theorem zlP(s:ByteArray)(w:World)(hs:s.size<=100000)(hw:Lb w)(h1:(s.toList==[97,110,121])=false)(h2:(s.toList==[110,111,110,101])=false)(a b c:Nat)(ha:a<=999)(hb:b<=999)(hc:c<=999)(hv:zz (zf s)=.ok [a,b,c])(hg:(s.extract 0 (s.size-(zf s).size)).toList=[60,61]):zC 115 #[.string s] w (yQ w (.ok (ze 0 (zb a b c+1)))):=by
 have HT:=zH (y7 s w);have HP:Hid (∀W,zB w W->zR 131 #[.string (zf s)] W (.tuple #[.agg #[.int .i64 a,.int .i64 b,.int .i64 c],.int .i64 0])):=fun W hb=>by have:=yF yA (zf s) W (Nat.le_trans (qo s) hs) (hw.below hb);rw[hv] at this;exact this
 have HN:Hid (∀W,zR 189 #[.agg #[.int .i64 a,.int .i64 b,.int .i64 c]] W (.int .i64 (zb a b c))):=fun W=>yG a b c (by omega) (by omega) (by omega) W;have hN:=yh ha hb hc;have hNi:(zb a b c:Int)<1000000000:=by unfold ALL at hN;omega
 have HROW:Hid (∀W,zC 114 #[.int .i64 (0),.int .i64 (((zb a b c:Nat):Int)+1)] W (yo W (tp (ze (0) (zb a b c+1))))):=fun W=>xx (0) (zb a b c+1) W;have hts:=qo s;generalize zf s=t at *;have hq:(s.size:Int)-(t.size:Int)=((s.size-t.size:Nat):Int):=by omega
 have hqs:s.size-t.size<=s.size:=by omega
 generalize s.size-t.size=q at *;have i0:(0:Int)<=(q:Int):=by omega
 have i2:(q:Int)<=(s.size:Int):=by omega
 have hsl:=fun W'=>run_slice_string_h (P:=Tryz.prog) W' 9 s Tryz.underlying9 .i64 (q:Int) i0 i2;simp only[Int.toNat_natCast] at hsl;have hw1:wrap64 ((s.size:Int)-(t.size:Int))=(q:Int):=by rw[hq];unfold wrap64;omega
 have hw2:IntKind.i64.wrap ((s.size:Int)-(t.size:Int))=(q:Int):=by rw[IntKind.wrap_i64];unfold wrap64 at hw1;exact hw1
 have g0:((s.extract 0 q).toList==[])=false:=by rw[hg];rfl
 have g1:((s.extract 0 q).toList==[61])=false:=by rw[hg];rfl
 have g2:((s.extract 0 q).toList==[33])=false:=by rw[hg];rfl
 have g3:((s.extract 0 q).toList==[60])=false:=by rw[hg];rfl
 have g4:((s.extract 0 q).toList==[60,61])=true:=by rw[hg];rfl
 clear hg;clear hv hw hts hq hN;generalize zb a b c=N at *;go_enter Tryz.func115,Tryz.ntmps115;go_wp2_with fail;refine HT.out.mono ?_;rintro e w1 ⟨rfl,hb1⟩;have H2:=zH (HP.out _ hb1);have HB1:=zH hb1;clear hb1 HP HT;go_wp2_with fail;refine H2.out.mono ?_;rintro e w2 ⟨rfl,hb2⟩;have HB2:Hid (zB w (w2.alloc (.cells #[.int .i64 a,.int .i64 b,.int .i64 c] 91))):=(zT HB1.out hb2).alloc (by have:=HB1.out.size;have:=hb2.size;omega) _;have kv:=Blk.new w2 91 #[.int .i64 a,.int .i64 b,.int .i64 c];clear hb2 H2;go_wp2_with fail;generalize w2.alloc (.cells #[.int .i64 a,.int .i64 b,.int .i64 c] 91)=W3 at *;refine(HN.out _).mono ?_;rintro e w4 ⟨rfl,hb4⟩;have HB4:Hid (zB w w4):=zT HB2.out hb4;have kv4:=kv.below hb4 kv.lt;have HKV:=zH kv4;clear hb4 HN kv kv4 HB2;go_wp2_with fail;refine(HROW.out _).mono ?_;rintro e w5 ⟨x,y,rfl,q1,q2,q3⟩;have Q1:=zH q1;have Q2:Hid (∀g,(Value.slice x (tp (ze 0 (N+1))).length y).ownBlock=some g->w.heap.size<=g):=fun g hg=>Nat.le_trans HB4.out.size (q2 g hg);have Q3:Hid (zB w w5):=zT HB4.out q3;clear q1 q2 q3;go_wp2;refine bodyPost_ret (v:=.tuple #[.slice x (tp (ze 0 (N+1))).length y,.int .i64 0]) (by simp[results,Tryz.results115,go_sem]) rfl ?_;exact⟨_,x,y,0,rfl,Q1.out,Q2.out,Q3.out,rfl,rfl⟩
theorem zkO(s:ByteArray)(w:World)(hs:s.size<=100000)(hw:Lb w)(h1:(s.toList==[97,110,121])=false)(h2:(s.toList==[110,111,110,101])=false)(a b c:Nat)(ha:a<=999)(hb:b<=999)(hc:c<=999)(hv:zz (zf s)=.ok [a,b,c])(hg:(s.extract 0 (s.size-(zf s).size)).toList=[62]):zC 115 #[.string s] w (yQ w (.ok (ze (zb a b c+1) 1000000000))):=by
 have HT:=zH (y7 s w);have HP:Hid (∀W,zB w W->zR 131 #[.string (zf s)] W (.tuple #[.agg #[.int .i64 a,.int .i64 b,.int .i64 c],.int .i64 0])):=fun W hb=>by have:=yF yA (zf s) W (Nat.le_trans (qo s) hs) (hw.below hb);rw[hv] at this;exact this
 have HN:Hid (∀W,zR 189 #[.agg #[.int .i64 a,.int .i64 b,.int .i64 c]] W (.int .i64 (zb a b c))):=fun W=>yG a b c (by omega) (by omega) (by omega) W;have hN:=yh ha hb hc;have hNi:(zb a b c:Int)<1000000000:=by unfold ALL at hN;omega
 have HROW:Hid (∀W,zC 114 #[.int .i64 (((zb a b c:Nat):Int)+1),.int .i64 (1000000000)] W (yo W (tp (ze (zb a b c+1) (1000000000))))):=fun W=>xx (zb a b c+1) (1000000000) W;have hts:=qo s;generalize zf s=t at *;have hq:(s.size:Int)-(t.size:Int)=((s.size-t.size:Nat):Int):=by omega
 have hqs:s.size-t.size<=s.size:=by omega
 generalize s.size-t.size=q at *;have i0:(0:Int)<=(q:Int):=by omega
 have i2:(q:Int)<=(s.size:Int):=by omega
 have hsl:=fun W'=>run_slice_string_h (P:=Tryz.prog) W' 9 s Tryz.underlying9 .i64 (q:Int) i0 i2;simp only[Int.toNat_natCast] at hsl;have hw1:wrap64 ((s.size:Int)-(t.size:Int))=(q:Int):=by rw[hq];unfold wrap64;omega
 have hw2:IntKind.i64.wrap ((s.size:Int)-(t.size:Int))=(q:Int):=by rw[IntKind.wrap_i64];unfold wrap64 at hw1;exact hw1
 have g0:((s.extract 0 q).toList==[])=false:=by rw[hg];rfl
 have g1:((s.extract 0 q).toList==[61])=false:=by rw[hg];rfl
 have g2:((s.extract 0 q).toList==[33])=false:=by rw[hg];rfl
 have g3:((s.extract 0 q).toList==[60])=false:=by rw[hg];rfl
 have g4:((s.extract 0 q).toList==[60,61])=false:=by rw[hg];rfl
 have g5:((s.extract 0 q).toList==[62])=true:=by rw[hg];rfl
 clear hg;clear hv hw hts hq hN;generalize zb a b c=N at *;go_enter Tryz.func115,Tryz.ntmps115;go_wp2_with fail;refine HT.out.mono ?_;rintro e w1 ⟨rfl,hb1⟩;have H2:=zH (HP.out _ hb1);have HB1:=zH hb1;clear hb1 HP HT;go_wp2_with fail;refine H2.out.mono ?_;rintro e w2 ⟨rfl,hb2⟩;have HB2:Hid (zB w (w2.alloc (.cells #[.int .i64 a,.int .i64 b,.int .i64 c] 91))):=(zT HB1.out hb2).alloc (by have:=HB1.out.size;have:=hb2.size;omega) _;have kv:=Blk.new w2 91 #[.int .i64 a,.int .i64 b,.int .i64 c];clear hb2 H2;go_wp2_with fail;generalize w2.alloc (.cells #[.int .i64 a,.int .i64 b,.int .i64 c] 91)=W3 at *;refine(HN.out _).mono ?_;rintro e w4 ⟨rfl,hb4⟩;have HB4:Hid (zB w w4):=zT HB2.out hb4;have kv4:=kv.below hb4 kv.lt;have HKV:=zH kv4;clear hb4 HN kv kv4 HB2;go_wp2_with fail;refine(HROW.out _).mono ?_;rintro e w5 ⟨x,y,rfl,q1,q2,q3⟩;have Q1:=zH q1;have Q2:Hid (∀g,(Value.slice x (tp (ze (N+1) 1000000000)).length y).ownBlock=some g->w.heap.size<=g):=fun g hg=>Nat.le_trans HB4.out.size (q2 g hg);have Q3:Hid (zB w w5):=zT HB4.out q3;clear q1 q2 q3;go_wp2;refine bodyPost_ret (v:=.tuple #[.slice x (tp (ze (N+1) 1000000000)).length y,.int .i64 0]) (by simp[results,Tryz.results115,go_sem]) rfl ?_;exact⟨_,x,y,0,rfl,Q1.out,Q2.out,Q3.out,rfl,rfl⟩
theorem zko(s:ByteArray)(w:World)(hs:s.size<=100000)(hw:Lb w)(h1:(s.toList==[97,110,121])=false)(h2:(s.toList==[110,111,110,101])=false)(a b c:Nat)(ha:a<=999)(hb:b<=999)(hc:c<=999)(hv:zz (zf s)=.ok [a,b,c])(hg:(s.extract 0 (s.size-(zf s).size)).toList=[62,61]):zC 115 #[.string s] w (yQ w (.ok (ze (zb a b c) 1000000000))):=by
 have HT:=zH (y7 s w);have HP:Hid (∀W,zB w W->zR 131 #[.string (zf s)] W (.tuple #[.agg #[.int .i64 a,.int .i64 b,.int .i64 c],.int .i64 0])):=fun W hb=>by have:=yF yA (zf s) W (Nat.le_trans (qo s) hs) (hw.below hb);rw[hv] at this;exact this
 have HN:Hid (∀W,zR 189 #[.agg #[.int .i64 a,.int .i64 b,.int .i64 c]] W (.int .i64 (zb a b c))):=fun W=>yG a b c (by omega) (by omega) (by omega) W;have hN:=yh ha hb hc;have hNi:(zb a b c:Int)<1000000000:=by unfold ALL at hN;omega
 have HROW:Hid (∀W,zC 114 #[.int .i64 ((zb a b c:Nat):Int),.int .i64 (1000000000)] W (yo W (tp (ze (zb a b c) (1000000000))))):=fun W=>xx (zb a b c) (1000000000) W;have hts:=qo s;generalize zf s=t at *;have hq:(s.size:Int)-(t.size:Int)=((s.size-t.size:Nat):Int):=by omega
 have hqs:s.size-t.size<=s.size:=by omega
 generalize s.size-t.size=q at *;have i0:(0:Int)<=(q:Int):=by omega
 have i2:(q:Int)<=(s.size:Int):=by omega
 have hsl:=fun W'=>run_slice_string_h (P:=Tryz.prog) W' 9 s Tryz.underlying9 .i64 (q:Int) i0 i2;simp only[Int.toNat_natCast] at hsl;have hw1:wrap64 ((s.size:Int)-(t.size:Int))=(q:Int):=by rw[hq];unfold wrap64;omega
 have hw2:IntKind.i64.wrap ((s.size:Int)-(t.size:Int))=(q:Int):=by rw[IntKind.wrap_i64];unfold wrap64 at hw1;exact hw1
 have g0:((s.extract 0 q).toList==[])=false:=by rw[hg];rfl
 have g1:((s.extract 0 q).toList==[61])=false:=by rw[hg];rfl
 have g2:((s.extract 0 q).toList==[33])=false:=by rw[hg];rfl
 have g3:((s.extract 0 q).toList==[60])=false:=by rw[hg];rfl
 have g4:((s.extract 0 q).toList==[60,61])=false:=by rw[hg];rfl
 have g5:((s.extract 0 q).toList==[62])=false:=by rw[hg];rfl
 have g6:((s.extract 0 q).toList==[62,61])=true:=by rw[hg];rfl
 clear hg;clear hv hw hts hq hN;generalize zb a b c=N at *;go_enter Tryz.func115,Tryz.ntmps115;go_wp2_with fail;refine HT.out.mono ?_;rintro e w1 ⟨rfl,hb1⟩;have H2:=zH (HP.out _ hb1);have HB1:=zH hb1;clear hb1 HP HT;go_wp2_with fail;refine H2.out.mono ?_;rintro e w2 ⟨rfl,hb2⟩;have HB2:Hid (zB w (w2.alloc (.cells #[.int .i64 a,.int .i64 b,.int .i64 c] 91))):=(zT HB1.out hb2).alloc (by have:=HB1.out.size;have:=hb2.size;omega) _;have kv:=Blk.new w2 91 #[.int .i64 a,.int .i64 b,.int .i64 c];clear hb2 H2;go_wp2_with fail;generalize w2.alloc (.cells #[.int .i64 a,.int .i64 b,.int .i64 c] 91)=W3 at *;refine(HN.out _).mono ?_;rintro e w4 ⟨rfl,hb4⟩;have HB4:Hid (zB w w4):=zT HB2.out hb4;have kv4:=kv.below hb4 kv.lt;have HKV:=zH kv4;clear hb4 HN kv kv4 HB2;go_wp2_with fail;refine(HROW.out _).mono ?_;rintro e w5 ⟨x,y,rfl,q1,q2,q3⟩;have Q1:=zH q1;have Q2:Hid (∀g,(Value.slice x (tp (ze N 1000000000)).length y).ownBlock=some g->w.heap.size<=g):=fun g hg=>Nat.le_trans HB4.out.size (q2 g hg);have Q3:Hid (zB w w5):=zT HB4.out q3;clear q1 q2 q3;go_wp2;refine bodyPost_ret (v:=.tuple #[.slice x (tp (ze N 1000000000)).length y,.int .i64 0]) (by simp[results,Tryz.results115,go_sem]) rfl ?_;exact⟨_,x,y,0,rfl,Q1.out,Q2.out,Q3.out,rfl,rfl⟩
theorem zjE(s:ByteArray)(w:World)(hs:s.size<=100000)(hw:Lb w)(h1:(s.toList==[97,110,121])=false)(h2:(s.toList==[110,111,110,101])=false)(a b c:Nat)(ha:a<=999)(hb:b<=999)(hc:c<=999)(hv:zz (zf s)=.ok [a,b,c])(hg:(s.extract 0 (s.size-(zf s).size)).toList=[33]):zC 115 #[.string s] w (yQ w (.ok (nt (ze (zb a b c) (zb a b c+1))))):=by
 have HT:=zH (y7 s w);have HP:Hid (∀W,zB w W->zR 131 #[.string (zf s)] W (.tuple #[.agg #[.int .i64 a,.int .i64 b,.int .i64 c],.int .i64 0])):=fun W hb=>by have:=yF yA (zf s) W (Nat.le_trans (qo s) hs) (hw.below hb);rw[hv] at this;exact this
 have HN:Hid (∀W,zR 189 #[.agg #[.int .i64 a,.int .i64 b,.int .i64 c]] W (.int .i64 (zb a b c))):=fun W=>yG a b c (by omega) (by omega) (by omega) W;have hN:=yh ha hb hc;have hNi:(zb a b c:Int)<1000000000:=by unfold ALL at hN;omega
 have HROW:Hid (∀W,zC 114 #[.int .i64 ((zb a b c:Nat):Int),.int .i64 (((zb a b c:Nat):Int)+1)] W (yo W (tp (ze (zb a b c) (zb a b c+1))))):=fun W=>xx (zb a b c) (zb a b c+1) W;have hts:=qo s;generalize zf s=t at *;have hq:(s.size:Int)-(t.size:Int)=((s.size-t.size:Nat):Int):=by omega
 have hqs:s.size-t.size<=s.size:=by omega
 generalize s.size-t.size=q at *;have i0:(0:Int)<=(q:Int):=by omega
 have i2:(q:Int)<=(s.size:Int):=by omega
 have hsl:=fun W'=>run_slice_string_h (P:=Tryz.prog) W' 9 s Tryz.underlying9 .i64 (q:Int) i0 i2;simp only[Int.toNat_natCast] at hsl;have hw1:wrap64 ((s.size:Int)-(t.size:Int))=(q:Int):=by rw[hq];unfold wrap64;omega
 have hw2:IntKind.i64.wrap ((s.size:Int)-(t.size:Int))=(q:Int):=by rw[IntKind.wrap_i64];unfold wrap64 at hw1;exact hw1
 have g0:((s.extract 0 q).toList==[])=false:=by rw[hg];rfl
 have g1:((s.extract 0 q).toList==[61])=false:=by rw[hg];rfl
 have g2:((s.extract 0 q).toList==[33])=true:=by rw[hg];rfl
 clear hg;clear hv hw hts hq hN;generalize zb a b c=N at *;go_enter Tryz.func115,Tryz.ntmps115;go_wp2_with fail;refine HT.out.mono ?_;rintro e w1 ⟨rfl,hb1⟩;have H2:=zH (HP.out _ hb1);have HB1:=zH hb1;clear hb1 HP HT;go_wp2_with fail;refine H2.out.mono ?_;rintro e w2 ⟨rfl,hb2⟩;have HB2:Hid (zB w (w2.alloc (.cells #[.int .i64 a,.int .i64 b,.int .i64 c] 91))):=(zT HB1.out hb2).alloc (by have:=HB1.out.size;have:=hb2.size;omega) _;have kv:=Blk.new w2 91 #[.int .i64 a,.int .i64 b,.int .i64 c];clear hb2 H2;go_wp2_with fail;generalize w2.alloc (.cells #[.int .i64 a,.int .i64 b,.int .i64 c] 91)=W3 at *;refine(HN.out _).mono ?_;rintro e w4 ⟨rfl,hb4⟩;have HB4:Hid (zB w w4):=zT HB2.out hb4;have kv4:=kv.below hb4 kv.lt;have HKV:=zH kv4;clear hb4 HN kv kv4 HB2;go_wp2_with fail;refine(HROW.out _).mono ?_;rintro e w5 ⟨x,y,rfl,q1,q2,q3⟩;have HB5:Hid (zB w w5):=zT HB4.out q3;have HNOT:=zH (zkH (ze N (N+1)) (Yc (by unfold ALL;omega)) _ w5 q1);clear q1 q2 q3;go_wp2_with fail;refine HNOT.out.mono ?_;rintro e w6 ⟨x6,y6,rfl,q1,q2,q3⟩;have Q1:=zH q1;have Q2:Hid (∀g,(Value.slice x6 (tp (nt (ze N (N+1)))).length y6).ownBlock=some g->w.heap.size<=g):=fun g hg=>Nat.le_trans HB5.out.size (q2 g hg);have Q3:Hid (zB w w6):=zT HB5.out q3;clear q1 q2 q3;go_wp2;refine bodyPost_ret (v:=.tuple #[.slice x6 (tp (nt (ze N (N+1)))).length y6,.int .i64 0]) (by simp[results,Tryz.results115,go_sem]) rfl ?_;exact⟨_,x6,y6,0,rfl,Q1.out,Q2.out,Q3.out,rfl,rfl⟩
theorem zkm(s:ByteArray)(w:World)(hs:s.size<=100000)(hw:Lb w)(h1:(s.toList==[97,110,121])=false)(h2:(s.toList==[110,111,110,101])=false)(a b c:Nat)(ha:a<=999)(hb:b<=999)(hc:c<=999)(hv:zz (zf s)=.ok [a,b,c])(hg:(s.extract 0 (s.size-(zf s).size)).toList=[126]):zC 115 #[.string s] w (yQ w (.ok (ze (zb a b c) (zb a (b+1) 0)))):=by
 have HT:=zH (y7 s w);have HP:Hid (∀W,zB w W->zR 131 #[.string (zf s)] W (.tuple #[.agg #[.int .i64 a,.int .i64 b,.int .i64 c],.int .i64 0])):=fun W hb=>by have:=yF yA (zf s) W (Nat.le_trans (qo s) hs) (hw.below hb);rw[hv] at this;exact this
 have HN:Hid (∀W,zR 189 #[.agg #[.int .i64 a,.int .i64 b,.int .i64 c]] W (.int .i64 (zb a b c))):=fun W=>yG a b c (by omega) (by omega) (by omega) W;have hN:=yh ha hb hc;have hNi:(zb a b c:Int)<1000000000:=by unfold ALL at hN;omega
 have HM:Hid (∀W,zR 189 #[.agg #[.int .i64 a,.int .i64 ((b:Int)+1),.int .i64 0]] W (.int .i64 (zb a (b+1) 0:Int))):=fun W=>yG a (b+1) 0 (by omega) (by omega) (by omega) W;have HROW:Hid (∀W,zC 114 #[.int .i64 ((zb a b c:Nat):Int),.int .i64 ((zb a (b+1) 0:Nat):Int)] W (yo W (tp (ze (zb a b c) (zb a (b+1) 0))))):=fun W=>xx (zb a b c) (zb a (b+1) 0) W;obtain⟨M,hM⟩:∃M,zb a (b+1) 0=M:=⟨_,rfl⟩;rw[hM] at HM HROW ⊢;clear hM;have hts:=qo s;generalize zf s=t at *;have hq:(s.size:Int)-(t.size:Int)=((s.size-t.size:Nat):Int):=by omega
 have hqs:s.size-t.size<=s.size:=by omega
 generalize s.size-t.size=q at *;have i0:(0:Int)<=(q:Int):=by omega
 have i2:(q:Int)<=(s.size:Int):=by omega
 have hsl:=fun W'=>run_slice_string_h (P:=Tryz.prog) W' 9 s Tryz.underlying9 .i64 (q:Int) i0 i2;simp only[Int.toNat_natCast] at hsl;have hw1:wrap64 ((s.size:Int)-(t.size:Int))=(q:Int):=by rw[hq];unfold wrap64;omega
 have hw2:IntKind.i64.wrap ((s.size:Int)-(t.size:Int))=(q:Int):=by rw[IntKind.wrap_i64];unfold wrap64 at hw1;exact hw1
 have g0:((s.extract 0 q).toList==[])=false:=by rw[hg];rfl
 have g1:((s.extract 0 q).toList==[61])=false:=by rw[hg];rfl
 have g2:((s.extract 0 q).toList==[33])=false:=by rw[hg];rfl
 have g3:((s.extract 0 q).toList==[60])=false:=by rw[hg];rfl
 have g4:((s.extract 0 q).toList==[60,61])=false:=by rw[hg];rfl
 have g5:((s.extract 0 q).toList==[62])=false:=by rw[hg];rfl
 have g6:((s.extract 0 q).toList==[62,61])=false:=by rw[hg];rfl
 have g7:((s.extract 0 q).toList==[126])=true:=by rw[hg];rfl
 clear hg;clear hv hw hts hq hN;generalize zb a b c=N at *;go_enter Tryz.func115,Tryz.ntmps115;go_wp2_with fail;refine HT.out.mono ?_;rintro e w1 ⟨rfl,hb1⟩;have H2:=zH (HP.out _ hb1);have HB1:=zH hb1;clear hb1 HP HT;go_wp2_with fail;refine H2.out.mono ?_;rintro e w2 ⟨rfl,hb2⟩;have HB2:Hid (zB w (w2.alloc (.cells #[.int .i64 a,.int .i64 b,.int .i64 c] 91))):=(zT HB1.out hb2).alloc (by have:=HB1.out.size;have:=hb2.size;omega) _;have kv:=Blk.new w2 91 #[.int .i64 a,.int .i64 b,.int .i64 c];clear hb2 H2;go_wp2_with fail;generalize w2.alloc (.cells #[.int .i64 a,.int .i64 b,.int .i64 c] 91)=W3 at *;refine(HN.out _).mono ?_;rintro e w4 ⟨rfl,hb4⟩;have HB4:Hid (zB w w4):=zT HB2.out hb4;have kv4:=kv.below hb4 kv.lt;have HKV:=zH kv4;clear hb4 HN kv kv4 HB2;have c0:=HKV.out.cell 0;have c1:=HKV.out.cell 1;go_wp2_with fail;refine(HM.out _).mono ?_;rintro e w7 ⟨rfl,hb7⟩;have HB7:Hid (zB w w7):=zT HB4.out hb7;clear hb7 c0 c1;go_wp2_with fail;refine(HROW.out _).mono ?_;rintro e w5 ⟨x,y,rfl,q1,q2,q3⟩;have Q1:=zH q1;have Q2:Hid (∀g,(Value.slice x (tp (ze N M)).length y).ownBlock=some g->w.heap.size<=g):=fun g hg=>Nat.le_trans HB7.out.size (q2 g hg);have Q3:Hid (zB w w5):=zT HB7.out q3;clear q1 q2 q3;go_wp2;refine bodyPost_ret (v:=.tuple #[.slice x (tp (ze N M)).length y,.int .i64 0]) (by simp[results,Tryz.results115,go_sem]) rfl ?_;exact⟨_,x,y,0,rfl,Q1.out,Q2.out,Q3.out,rfl,rfl⟩
theorem ziq(s:ByteArray)(w:World)(hs:s.size<=100000)(hw:Lb w)(h1:(s.toList==[97,110,121])=false)(h2:(s.toList==[110,111,110,101])=false)(a b c:Nat)(ha:a<=999)(hb:b<=999)(hc:c<=999)(hv:zz (zf s)=.ok [a,b,c])(ha0:0<a)(hb0:0<b)(hg:(s.extract 0 (s.size-(zf s).size)).toList=[94]):zC 115 #[.string s] w (yQ w (.ok (ze (zb a b c) (zb (a+1) (0) (0))))):=by
 have HT:=zH (y7 s w);have HP:Hid (∀W,zB w W->zR 131 #[.string (zf s)] W (.tuple #[.agg #[.int .i64 a,.int .i64 b,.int .i64 c],.int .i64 0])):=fun W hb=>by have:=yF yA (zf s) W (Nat.le_trans (qo s) hs) (hw.below hb);rw[hv] at this;exact this
 have HN:Hid (∀W,zR 189 #[.agg #[.int .i64 a,.int .i64 b,.int .i64 c]] W (.int .i64 (zb a b c))):=fun W=>yG a b c (by omega) (by omega) (by omega) W;have hN:=yh ha hb hc;have hNi:(zb a b c:Int)<1000000000:=by unfold ALL at hN;omega
 have HM:Hid (∀W,zR 189 #[.agg #[.int .i64 ((a:Int)+1),.int .i64 (0),.int .i64 (0)]] W (.int .i64 (zb (a+1) (0) (0):Int))):=fun W=>yG (a+1) (0) (0) (by omega) (by omega) (by omega) W;have HROW:Hid (∀W,zC 114 #[.int .i64 ((zb a b c:Nat):Int),.int .i64 ((zb (a+1) (0) (0):Nat):Int)] W (yo W (tp (ze (zb a b c) (zb (a+1) (0) (0)))))):=fun W=>xx (zb a b c) (zb (a+1) (0) (0)) W;obtain⟨M,hM⟩:∃M,zb (a+1) (0) (0)=M:=⟨_,rfl⟩;rw[hM] at HM HROW ⊢;clear hM;have ha0':(0:Int)<(a:Int):=by omega
 have hb0':(0:Int)<(b:Int):=by omega
 have hts:=qo s;generalize zf s=t at *;have hq:(s.size:Int)-(t.size:Int)=((s.size-t.size:Nat):Int):=by omega
 have hqs:s.size-t.size<=s.size:=by omega
 generalize s.size-t.size=q at *;have i0:(0:Int)<=(q:Int):=by omega
 have i2:(q:Int)<=(s.size:Int):=by omega
 have hsl:=fun W'=>run_slice_string_h (P:=Tryz.prog) W' 9 s Tryz.underlying9 .i64 (q:Int) i0 i2;simp only[Int.toNat_natCast] at hsl;have hw1:wrap64 ((s.size:Int)-(t.size:Int))=(q:Int):=by rw[hq];unfold wrap64;omega
 have hw2:IntKind.i64.wrap ((s.size:Int)-(t.size:Int))=(q:Int):=by rw[IntKind.wrap_i64];unfold wrap64 at hw1;exact hw1
 have g0:((s.extract 0 q).toList==[])=false:=by rw[hg];rfl
 have g1:((s.extract 0 q).toList==[61])=false:=by rw[hg];rfl
 have g2:((s.extract 0 q).toList==[33])=false:=by rw[hg];rfl
 have g3:((s.extract 0 q).toList==[60])=false:=by rw[hg];rfl
 have g4:((s.extract 0 q).toList==[60,61])=false:=by rw[hg];rfl
 have g5:((s.extract 0 q).toList==[62])=false:=by rw[hg];rfl
 have g6:((s.extract 0 q).toList==[62,61])=false:=by rw[hg];rfl
 have g7:((s.extract 0 q).toList==[126])=false:=by rw[hg];rfl
 have g8:((s.extract 0 q).toList==[94])=true:=by rw[hg];rfl
 clear hg;clear hv hw hts hq hN;generalize zb a b c=N at *;go_enter Tryz.func115,Tryz.ntmps115;go_wp2_with fail;refine HT.out.mono ?_;rintro e w1 ⟨rfl,hb1⟩;have H2:=zH (HP.out _ hb1);have HB1:=zH hb1;clear hb1 HP HT;go_wp2_with fail;refine H2.out.mono ?_;rintro e w2 ⟨rfl,hb2⟩;have HB2:Hid (zB w (w2.alloc (.cells #[.int .i64 a,.int .i64 b,.int .i64 c] 91))):=(zT HB1.out hb2).alloc (by have:=HB1.out.size;have:=hb2.size;omega) _;have kv:=Blk.new w2 91 #[.int .i64 a,.int .i64 b,.int .i64 c];clear hb2 H2;go_wp2_with fail;generalize w2.alloc (.cells #[.int .i64 a,.int .i64 b,.int .i64 c] 91)=W3 at *;refine(HN.out _).mono ?_;rintro e w4 ⟨rfl,hb4⟩;have HB4:Hid (zB w w4):=zT HB2.out hb4;have kv4:=kv.below hb4 kv.lt;have HKV:=zH kv4;clear hb4 HN kv kv4 HB2;have c0:=HKV.out.cell 0;have c1:=HKV.out.cell 1;have c2:=HKV.out.cell 2;have hl4:=HKV.out.lt;have d0:=(HKV.out.alloc (.cells #[.int .i64 a,.int .i64 b,.int .i64 ((c:Int)+1)] 91)).cell 0;have d1:=(HKV.out.alloc (.cells #[.int .i64 a,.int .i64 b,.int .i64 ((c:Int)+1)] 91)).cell 1;have e0:=(HKV.out.alloc (.cells #[.int .i64 a,.int .i64 ((b:Int)+1),.int .i64 0] 91)).cell 0;go_wp2_with fail;have HB6:Hid (zB w (w4.alloc (.cells #[.int .i64 ((a:Int)+1),.int .i64 (0),.int .i64 (0)] 91))):=zL HB4.out;generalize w4.alloc (.cells #[.int .i64 ((a:Int)+1),.int .i64 (0),.int .i64 (0)] 91)=W6 at *;refine(HM.out _).mono ?_;rintro e w7 ⟨rfl,hb7⟩;have HB7:Hid (zB w w7):=zT HB6.out hb7;clear hb7 c0 c1 c2 d0 d1;go_wp2_with fail;refine(HROW.out _).mono ?_;rintro e w5 ⟨x,y,rfl,q1,q2,q3⟩;have Q1:=zH q1;have Q2:Hid (∀g,(Value.slice x (tp (ze N M)).length y).ownBlock=some g->w.heap.size<=g):=fun g hg=>Nat.le_trans HB7.out.size (q2 g hg);have Q3:Hid (zB w w5):=zT HB7.out q3;clear q1 q2 q3;go_wp2;refine bodyPost_ret (v:=.tuple #[.slice x (tp (ze N M)).length y,.int .i64 0]) (by simp[results,Tryz.results115,go_sem]) rfl ?_;exact⟨_,x,y,0,rfl,Q1.out,Q2.out,Q3.out,rfl,rfl⟩
theorem zh0(s:ByteArray)(w:World)(hs:s.size<=100000)(hw:Lb w)(h1:(s.toList==[97,110,121])=false)(h2:(s.toList==[110,111,110,101])=false)(a b c:Nat)(ha:a<=999)(hb:b<=999)(hc:c<=999)(hv:zz (zf s)=.ok [a,b,c])(ha0:0<a)(hb0:¬0<b)(hg:(s.extract 0 (s.size-(zf s).size)).toList=[94]):zC 115 #[.string s] w (yQ w (.ok (ze (zb a b c) (zb (a+1) (0) (0))))):=by
 have HT:=zH (y7 s w);have HP:Hid (∀W,zB w W->zR 131 #[.string (zf s)] W (.tuple #[.agg #[.int .i64 a,.int .i64 b,.int .i64 c],.int .i64 0])):=fun W hb=>by have:=yF yA (zf s) W (Nat.le_trans (qo s) hs) (hw.below hb);rw[hv] at this;exact this
 have HN:Hid (∀W,zR 189 #[.agg #[.int .i64 a,.int .i64 b,.int .i64 c]] W (.int .i64 (zb a b c))):=fun W=>yG a b c (by omega) (by omega) (by omega) W;have hN:=yh ha hb hc;have hNi:(zb a b c:Int)<1000000000:=by unfold ALL at hN;omega
 have HM:Hid (∀W,zR 189 #[.agg #[.int .i64 ((a:Int)+1),.int .i64 (0),.int .i64 (0)]] W (.int .i64 (zb (a+1) (0) (0):Int))):=fun W=>yG (a+1) (0) (0) (by omega) (by omega) (by omega) W;have HROW:Hid (∀W,zC 114 #[.int .i64 ((zb a b c:Nat):Int),.int .i64 ((zb (a+1) (0) (0):Nat):Int)] W (yo W (tp (ze (zb a b c) (zb (a+1) (0) (0)))))):=fun W=>xx (zb a b c) (zb (a+1) (0) (0)) W;obtain⟨M,hM⟩:∃M,zb (a+1) (0) (0)=M:=⟨_,rfl⟩;rw[hM] at HM HROW ⊢;clear hM;have ha0':(0:Int)<(a:Int):=by omega
 have hb0':¬(0:Int)<(b:Int):=by omega
 have hts:=qo s;generalize zf s=t at *;have hq:(s.size:Int)-(t.size:Int)=((s.size-t.size:Nat):Int):=by omega
 have hqs:s.size-t.size<=s.size:=by omega
 generalize s.size-t.size=q at *;have i0:(0:Int)<=(q:Int):=by omega
 have i2:(q:Int)<=(s.size:Int):=by omega
 have hsl:=fun W'=>run_slice_string_h (P:=Tryz.prog) W' 9 s Tryz.underlying9 .i64 (q:Int) i0 i2;simp only[Int.toNat_natCast] at hsl;have hw1:wrap64 ((s.size:Int)-(t.size:Int))=(q:Int):=by rw[hq];unfold wrap64;omega
 have hw2:IntKind.i64.wrap ((s.size:Int)-(t.size:Int))=(q:Int):=by rw[IntKind.wrap_i64];unfold wrap64 at hw1;exact hw1
 have g0:((s.extract 0 q).toList==[])=false:=by rw[hg];rfl
 have g1:((s.extract 0 q).toList==[61])=false:=by rw[hg];rfl
 have g2:((s.extract 0 q).toList==[33])=false:=by rw[hg];rfl
 have g3:((s.extract 0 q).toList==[60])=false:=by rw[hg];rfl
 have g4:((s.extract 0 q).toList==[60,61])=false:=by rw[hg];rfl
 have g5:((s.extract 0 q).toList==[62])=false:=by rw[hg];rfl
 have g6:((s.extract 0 q).toList==[62,61])=false:=by rw[hg];rfl
 have g7:((s.extract 0 q).toList==[126])=false:=by rw[hg];rfl
 have g8:((s.extract 0 q).toList==[94])=true:=by rw[hg];rfl
 clear hg;clear hv hw hts hq hN;generalize zb a b c=N at *;go_enter Tryz.func115,Tryz.ntmps115;go_wp2_with fail;refine HT.out.mono ?_;rintro e w1 ⟨rfl,hb1⟩;have H2:=zH (HP.out _ hb1);have HB1:=zH hb1;clear hb1 HP HT;go_wp2_with fail;refine H2.out.mono ?_;rintro e w2 ⟨rfl,hb2⟩;have HB2:Hid (zB w (w2.alloc (.cells #[.int .i64 a,.int .i64 b,.int .i64 c] 91))):=(zT HB1.out hb2).alloc (by have:=HB1.out.size;have:=hb2.size;omega) _;have kv:=Blk.new w2 91 #[.int .i64 a,.int .i64 b,.int .i64 c];clear hb2 H2;go_wp2_with fail;generalize w2.alloc (.cells #[.int .i64 a,.int .i64 b,.int .i64 c] 91)=W3 at *;refine(HN.out _).mono ?_;rintro e w4 ⟨rfl,hb4⟩;have HB4:Hid (zB w w4):=zT HB2.out hb4;have kv4:=kv.below hb4 kv.lt;have HKV:=zH kv4;clear hb4 HN kv kv4 HB2;have c0:=HKV.out.cell 0;have c1:=HKV.out.cell 1;have c2:=HKV.out.cell 2;have hl4:=HKV.out.lt;have d0:=(HKV.out.alloc (.cells #[.int .i64 a,.int .i64 b,.int .i64 ((c:Int)+1)] 91)).cell 0;have d1:=(HKV.out.alloc (.cells #[.int .i64 a,.int .i64 b,.int .i64 ((c:Int)+1)] 91)).cell 1;go_wp2_with fail;have HB6:Hid (zB w (w4.alloc (.cells #[.int .i64 ((a:Int)+1),.int .i64 (0),.int .i64 (0)] 91))):=zL HB4.out;generalize w4.alloc (.cells #[.int .i64 ((a:Int)+1),.int .i64 (0),.int .i64 (0)] 91)=W6 at *;refine(HM.out _).mono ?_;rintro e w7 ⟨rfl,hb7⟩;have HB7:Hid (zB w w7):=zT HB6.out hb7;clear hb7 c0 c1 c2 d0 d1;go_wp2_with fail;refine(HROW.out _).mono ?_;rintro e w5 ⟨x,y,rfl,q1,q2,q3⟩;have Q1:=zH q1;have Q2:Hid (∀g,(Value.slice x (tp (ze N M)).length y).ownBlock=some g->w.heap.size<=g):=fun g hg=>Nat.le_trans HB7.out.size (q2 g hg);have Q3:Hid (zB w w5):=zT HB7.out q3;clear q1 q2 q3;go_wp2;refine bodyPost_ret (v:=.tuple #[.slice x (tp (ze N M)).length y,.int .i64 0]) (by simp[results,Tryz.results115,go_sem]) rfl ?_;exact⟨_,x,y,0,rfl,Q1.out,Q2.out,Q3.out,rfl,rfl⟩
theorem zhP(s:ByteArray)(w:World)(hs:s.size<=100000)(hw:Lb w)(h1:(s.toList==[97,110,121])=false)(h2:(s.toList==[110,111,110,101])=false)(a b c:Nat)(ha:a<=999)(hb:b<=999)(hc:c<=999)(hv:zz (zf s)=.ok [a,b,c])(ha0:¬0<a)(hb0:0<b)(hg:(s.extract 0 (s.size-(zf s).size)).toList=[94]):zC 115 #[.string s] w (yQ w (.ok (ze (zb a b c) (zb (a) (b+1) (0))))):=by
 have HT:=zH (y7 s w);have HP:Hid (∀W,zB w W->zR 131 #[.string (zf s)] W (.tuple #[.agg #[.int .i64 a,.int .i64 b,.int .i64 c],.int .i64 0])):=fun W hb=>by have:=yF yA (zf s) W (Nat.le_trans (qo s) hs) (hw.below hb);rw[hv] at this;exact this
 have HN:Hid (∀W,zR 189 #[.agg #[.int .i64 a,.int .i64 b,.int .i64 c]] W (.int .i64 (zb a b c))):=fun W=>yG a b c (by omega) (by omega) (by omega) W;have hN:=yh ha hb hc;have hNi:(zb a b c:Int)<1000000000:=by unfold ALL at hN;omega
 have HM:Hid (∀W,zR 189 #[.agg #[.int .i64 a,.int .i64 ((b:Int)+1),.int .i64 (0)]] W (.int .i64 (zb (a) (b+1) (0):Int))):=fun W=>yG (a) (b+1) (0) (by omega) (by omega) (by omega) W;have HROW:Hid (∀W,zC 114 #[.int .i64 ((zb a b c:Nat):Int),.int .i64 ((zb (a) (b+1) (0):Nat):Int)] W (yo W (tp (ze (zb a b c) (zb (a) (b+1) (0)))))):=fun W=>xx (zb a b c) (zb (a) (b+1) (0)) W;obtain⟨M,hM⟩:∃M,zb (a) (b+1) (0)=M:=⟨_,rfl⟩;rw[hM] at HM HROW ⊢;clear hM;have ha0':¬(0:Int)<(a:Int):=by omega
 have hb0':(0:Int)<(b:Int):=by omega
 have hts:=qo s;generalize zf s=t at *;have hq:(s.size:Int)-(t.size:Int)=((s.size-t.size:Nat):Int):=by omega
 have hqs:s.size-t.size<=s.size:=by omega
 generalize s.size-t.size=q at *;have i0:(0:Int)<=(q:Int):=by omega
 have i2:(q:Int)<=(s.size:Int):=by omega
 have hsl:=fun W'=>run_slice_string_h (P:=Tryz.prog) W' 9 s Tryz.underlying9 .i64 (q:Int) i0 i2;simp only[Int.toNat_natCast] at hsl;have hw1:wrap64 ((s.size:Int)-(t.size:Int))=(q:Int):=by rw[hq];unfold wrap64;omega
 have hw2:IntKind.i64.wrap ((s.size:Int)-(t.size:Int))=(q:Int):=by rw[IntKind.wrap_i64];unfold wrap64 at hw1;exact hw1
 have g0:((s.extract 0 q).toList==[])=false:=by rw[hg];rfl
 have g1:((s.extract 0 q).toList==[61])=false:=by rw[hg];rfl
 have g2:((s.extract 0 q).toList==[33])=false:=by rw[hg];rfl
 have g3:((s.extract 0 q).toList==[60])=false:=by rw[hg];rfl
 have g4:((s.extract 0 q).toList==[60,61])=false:=by rw[hg];rfl
 have g5:((s.extract 0 q).toList==[62])=false:=by rw[hg];rfl
 have g6:((s.extract 0 q).toList==[62,61])=false:=by rw[hg];rfl
 have g7:((s.extract 0 q).toList==[126])=false:=by rw[hg];rfl
 have g8:((s.extract 0 q).toList==[94])=true:=by rw[hg];rfl
 clear hg;clear hv hw hts hq hN;generalize zb a b c=N at *;go_enter Tryz.func115,Tryz.ntmps115;go_wp2_with fail;refine HT.out.mono ?_;rintro e w1 ⟨rfl,hb1⟩;have H2:=zH (HP.out _ hb1);have HB1:=zH hb1;clear hb1 HP HT;go_wp2_with fail;refine H2.out.mono ?_;rintro e w2 ⟨rfl,hb2⟩;have HB2:Hid (zB w (w2.alloc (.cells #[.int .i64 a,.int .i64 b,.int .i64 c] 91))):=(zT HB1.out hb2).alloc (by have:=HB1.out.size;have:=hb2.size;omega) _;have kv:=Blk.new w2 91 #[.int .i64 a,.int .i64 b,.int .i64 c];clear hb2 H2;go_wp2_with fail;generalize w2.alloc (.cells #[.int .i64 a,.int .i64 b,.int .i64 c] 91)=W3 at *;refine(HN.out _).mono ?_;rintro e w4 ⟨rfl,hb4⟩;have HB4:Hid (zB w w4):=zT HB2.out hb4;have kv4:=kv.below hb4 kv.lt;have HKV:=zH kv4;clear hb4 HN kv kv4 HB2;have c0:=HKV.out.cell 0;have c1:=HKV.out.cell 1;have c2:=HKV.out.cell 2;have hl4:=HKV.out.lt;have d0:=(HKV.out.alloc (.cells #[.int .i64 a,.int .i64 b,.int .i64 ((c:Int)+1)] 91)).cell 0;have d1:=(HKV.out.alloc (.cells #[.int .i64 a,.int .i64 b,.int .i64 ((c:Int)+1)] 91)).cell 1;have e0:=(HKV.out.alloc (.cells #[.int .i64 a,.int .i64 ((b:Int)+1),.int .i64 0] 91)).cell 0;go_wp2_with fail;have HB6:Hid (zB w (w4.alloc (.cells #[.int .i64 a,.int .i64 ((b:Int)+1),.int .i64 (0)] 91))):=zL HB4.out;generalize w4.alloc (.cells #[.int .i64 a,.int .i64 ((b:Int)+1),.int .i64 (0)] 91)=W6 at *;refine(HM.out _).mono ?_;rintro e w7 ⟨rfl,hb7⟩;have HB7:Hid (zB w w7):=zT HB6.out hb7;clear hb7 c0 c1 c2 d0 d1;go_wp2_with fail;refine(HROW.out _).mono ?_;rintro e w5 ⟨x,y,rfl,q1,q2,q3⟩;have Q1:=zH q1;have Q2:Hid (∀g,(Value.slice x (tp (ze N M)).length y).ownBlock=some g->w.heap.size<=g):=fun g hg=>Nat.le_trans HB7.out.size (q2 g hg);have Q3:Hid (zB w w5):=zT HB7.out q3;clear q1 q2 q3;go_wp2;refine bodyPost_ret (v:=.tuple #[.slice x (tp (ze N M)).length y,.int .i64 0]) (by simp[results,Tryz.results115,go_sem]) rfl ?_;exact⟨_,x,y,0,rfl,Q1.out,Q2.out,Q3.out,rfl,rfl⟩
theorem zdK(s:ByteArray)(w:World)(hs:s.size<=100000)(hw:Lb w)(h1:(s.toList==[97,110,121])=false)(h2:(s.toList==[110,111,110,101])=false)(a b c:Nat)(ha:a<=999)(hb:b<=999)(hc:c<=999)(hv:zz (zf s)=.ok [a,b,c])(ha0:¬0<a)(hb0:¬0<b)(hg:(s.extract 0 (s.size-(zf s).size)).toList=[94]):zC 115 #[.string s] w (yQ w (.ok (ze (zb a b c) (zb (a) (b) (c+1))))):=by
 have HT:=zH (y7 s w);have HP:Hid (∀W,zB w W->zR 131 #[.string (zf s)] W (.tuple #[.agg #[.int .i64 a,.int .i64 b,.int .i64 c],.int .i64 0])):=fun W hb=>by have:=yF yA (zf s) W (Nat.le_trans (qo s) hs) (hw.below hb);rw[hv] at this;exact this
 have HN:Hid (∀W,zR 189 #[.agg #[.int .i64 a,.int .i64 b,.int .i64 c]] W (.int .i64 (zb a b c))):=fun W=>yG a b c (by omega) (by omega) (by omega) W;have hN:=yh ha hb hc;have hNi:(zb a b c:Int)<1000000000:=by unfold ALL at hN;omega
 have HM:Hid (∀W,zR 189 #[.agg #[.int .i64 a,.int .i64 b,.int .i64 ((c:Int)+1)]] W (.int .i64 (zb (a) (b) (c+1):Int))):=fun W=>yG (a) (b) (c+1) (by omega) (by omega) (by omega) W;have HROW:Hid (∀W,zC 114 #[.int .i64 ((zb a b c:Nat):Int),.int .i64 ((zb (a) (b) (c+1):Nat):Int)] W (yo W (tp (ze (zb a b c) (zb (a) (b) (c+1)))))):=fun W=>xx (zb a b c) (zb (a) (b) (c+1)) W;obtain⟨M,hM⟩:∃M,zb (a) (b) (c+1)=M:=⟨_,rfl⟩;rw[hM] at HM HROW ⊢;clear hM;have ha0':¬(0:Int)<(a:Int):=by omega
 have hb0':¬(0:Int)<(b:Int):=by omega
 have hts:=qo s;generalize zf s=t at *;have hq:(s.size:Int)-(t.size:Int)=((s.size-t.size:Nat):Int):=by omega
 have hqs:s.size-t.size<=s.size:=by omega
 generalize s.size-t.size=q at *;have i0:(0:Int)<=(q:Int):=by omega
 have i2:(q:Int)<=(s.size:Int):=by omega
 have hsl:=fun W'=>run_slice_string_h (P:=Tryz.prog) W' 9 s Tryz.underlying9 .i64 (q:Int) i0 i2;simp only[Int.toNat_natCast] at hsl;have hw1:wrap64 ((s.size:Int)-(t.size:Int))=(q:Int):=by rw[hq];unfold wrap64;omega
 have hw2:IntKind.i64.wrap ((s.size:Int)-(t.size:Int))=(q:Int):=by rw[IntKind.wrap_i64];unfold wrap64 at hw1;exact hw1
 have g0:((s.extract 0 q).toList==[])=false:=by rw[hg];rfl
 have g1:((s.extract 0 q).toList==[61])=false:=by rw[hg];rfl
 have g2:((s.extract 0 q).toList==[33])=false:=by rw[hg];rfl
 have g3:((s.extract 0 q).toList==[60])=false:=by rw[hg];rfl
 have g4:((s.extract 0 q).toList==[60,61])=false:=by rw[hg];rfl
 have g5:((s.extract 0 q).toList==[62])=false:=by rw[hg];rfl
 have g6:((s.extract 0 q).toList==[62,61])=false:=by rw[hg];rfl
 have g7:((s.extract 0 q).toList==[126])=false:=by rw[hg];rfl
 have g8:((s.extract 0 q).toList==[94])=true:=by rw[hg];rfl
 clear hg;clear hv hw hts hq hN;generalize zb a b c=N at *;go_enter Tryz.func115,Tryz.ntmps115;go_wp2_with fail;refine HT.out.mono ?_;rintro e w1 ⟨rfl,hb1⟩;have H2:=zH (HP.out _ hb1);have HB1:=zH hb1;clear hb1 HP HT;go_wp2_with fail;refine H2.out.mono ?_;rintro e w2 ⟨rfl,hb2⟩;have HB2:Hid (zB w (w2.alloc (.cells #[.int .i64 a,.int .i64 b,.int .i64 c] 91))):=(zT HB1.out hb2).alloc (by have:=HB1.out.size;have:=hb2.size;omega) _;have kv:=Blk.new w2 91 #[.int .i64 a,.int .i64 b,.int .i64 c];clear hb2 H2;go_wp2_with fail;generalize w2.alloc (.cells #[.int .i64 a,.int .i64 b,.int .i64 c] 91)=W3 at *;refine(HN.out _).mono ?_;rintro e w4 ⟨rfl,hb4⟩;have HB4:Hid (zB w w4):=zT HB2.out hb4;have kv4:=kv.below hb4 kv.lt;have HKV:=zH kv4;clear hb4 HN kv kv4 HB2;have c0:=HKV.out.cell 0;have c1:=HKV.out.cell 1;have c2:=HKV.out.cell 2;have hl4:=HKV.out.lt;have d0:=(HKV.out.alloc (.cells #[.int .i64 a,.int .i64 b,.int .i64 ((c:Int)+1)] 91)).cell 0;have d1:=(HKV.out.alloc (.cells #[.int .i64 a,.int .i64 b,.int .i64 ((c:Int)+1)] 91)).cell 1;go_wp2_with fail;have HB6:Hid (zB w (w4.alloc (.cells #[.int .i64 a,.int .i64 b,.int .i64 ((c:Int)+1)] 91))):=zL HB4.out;generalize w4.alloc (.cells #[.int .i64 a,.int .i64 b,.int .i64 ((c:Int)+1)] 91)=W6 at *;refine(HM.out _).mono ?_;rintro e w7 ⟨rfl,hb7⟩;have HB7:Hid (zB w w7):=zT HB6.out hb7;clear hb7 c0 c1 c2 d0 d1;go_wp2_with fail;refine(HROW.out _).mono ?_;rintro e w5 ⟨x,y,rfl,q1,q2,q3⟩;have Q1:=zH q1;have Q2:Hid (∀g,(Value.slice x (tp (ze N M)).length y).ownBlock=some g->w.heap.size<=g):=fun g hg=>Nat.le_trans HB7.out.size (q2 g hg);have Q3:Hid (zB w w5):=zT HB7.out q3;clear q1 q2 q3;go_wp2;refine bodyPost_ret (v:=.tuple #[.slice x (tp (ze N M)).length y,.int .i64 0]) (by simp[results,Tryz.results115,go_sem]) rfl ?_;exact⟨_,x,y,0,rfl,Q1.out,Q2.out,Q3.out,rfl,rfl⟩
theorem zfV(s:ByteArray)(w:World)(hs:s.size<=100000)(hw:Lb w)(h1:(s.toList==[97,110,121])=false)(h2:(s.toList==[110,111,110,101])=false)(a b c:Nat)(ha:a<=999)(hb:b<=999)(hc:c<=999)(hv:zz (zf s)=.ok [a,b,c])(hg0:(s.extract 0 (s.size-(zf s).size)).toList≠[])(hg1:(s.extract 0 (s.size-(zf s).size)).toList≠[61])(hg2:(s.extract 0 (s.size-(zf s).size)).toList≠[33])(hg3:(s.extract 0 (s.size-(zf s).size)).toList≠[60])(hg4:(s.extract 0 (s.size-(zf s).size)).toList≠[60,61])(hg5:(s.extract 0 (s.size-(zf s).size)).toList≠[62])(hg6:(s.extract 0 (s.size-(zf s).size)).toList≠[62,61])(hg7:(s.extract 0 (s.size-(zf s).size)).toList≠[126])(hg8:(s.extract 0 (s.size-(zf s).size)).toList≠[94]):zC 115 #[.string s] w (yQ w (.error 3)):=by
 have HT:=zH (y7 s w);have HP:Hid (∀W,zB w W->zR 131 #[.string (zf s)] W (.tuple #[.agg #[.int .i64 a,.int .i64 b,.int .i64 c],.int .i64 0])):=fun W hb=>by have:=yF yA (zf s) W (Nat.le_trans (qo s) hs) (hw.below hb);rw[hv] at this;exact this
 have HN:Hid (∀W,zR 189 #[.agg #[.int .i64 a,.int .i64 b,.int .i64 c]] W (.int .i64 (zb a b c))):=fun W=>yG a b c (by omega) (by omega) (by omega) W;have hN:=yh ha hb hc;have hNi:(zb a b c:Int)<1000000000:=by unfold ALL at hN;omega
 have hts:=qo s;generalize zf s=t at *;have hq:(s.size:Int)-(t.size:Int)=((s.size-t.size:Nat):Int):=by omega
 have hqs:s.size-t.size<=s.size:=by omega
 generalize s.size-t.size=q at *;have i0:(0:Int)<=(q:Int):=by omega
 have i2:(q:Int)<=(s.size:Int):=by omega
 have hsl:=fun W'=>run_slice_string_h (P:=Tryz.prog) W' 9 s Tryz.underlying9 .i64 (q:Int) i0 i2;simp only[Int.toNat_natCast] at hsl;have hw1:wrap64 ((s.size:Int)-(t.size:Int))=(q:Int):=by rw[hq];unfold wrap64;omega
 have hw2:IntKind.i64.wrap ((s.size:Int)-(t.size:Int))=(q:Int):=by rw[IntKind.wrap_i64];unfold wrap64 at hw1;exact hw1
 have g0:((s.extract 0 q).toList==[])=false:=by rw[beq_eq_false_iff_ne];exact hg0
 have g1:((s.extract 0 q).toList==[61])=false:=by rw[beq_eq_false_iff_ne];exact hg1
 have g2:((s.extract 0 q).toList==[33])=false:=by rw[beq_eq_false_iff_ne];exact hg2
 have g3:((s.extract 0 q).toList==[60])=false:=by rw[beq_eq_false_iff_ne];exact hg3
 have g4:((s.extract 0 q).toList==[60,61])=false:=by rw[beq_eq_false_iff_ne];exact hg4
 have g5:((s.extract 0 q).toList==[62])=false:=by rw[beq_eq_false_iff_ne];exact hg5
 have g6:((s.extract 0 q).toList==[62,61])=false:=by rw[beq_eq_false_iff_ne];exact hg6
 have g7:((s.extract 0 q).toList==[126])=false:=by rw[beq_eq_false_iff_ne];exact hg7
 have g8:((s.extract 0 q).toList==[94])=false:=by rw[beq_eq_false_iff_ne];exact hg8
 clear hg0 hg1 hg2 hg3 hg4 hg5 hg6 hg7 hg8;clear hv hw hts hq hN;generalize zb a b c=N at *;go_enter Tryz.func115,Tryz.ntmps115;go_wp2_with fail;refine HT.out.mono ?_;rintro e w1 ⟨rfl,hb1⟩;have H2:=zH (HP.out _ hb1);have HB1:=zH hb1;clear hb1 HP HT;go_wp2_with fail;refine H2.out.mono ?_;rintro e w2 ⟨rfl,hb2⟩;have HB2:Hid (zB w (w2.alloc (.cells #[.int .i64 a,.int .i64 b,.int .i64 c] 91))):=(zT HB1.out hb2).alloc (by have:=HB1.out.size;have:=hb2.size;omega) _;have kv:=Blk.new w2 91 #[.int .i64 a,.int .i64 b,.int .i64 c];clear hb2 H2;go_wp2_with fail;generalize w2.alloc (.cells #[.int .i64 a,.int .i64 b,.int .i64 c] 91)=W3 at *;refine(HN.out _).mono ?_;rintro e w4 ⟨rfl,hb4⟩;have HB4:Hid (zB w w4):=zT HB2.out hb4;have kv4:=kv.below hb4 kv.lt;have HKV:=zH kv4;clear hb4 HN kv kv4 HB2;go_wp2_with fail;refine bodyPost_ret (v:=.tuple #[.slice none 0 0,.int .i64 3]) (by simp[results,Tryz.results115,go_sem]) rfl ?_;exact⟨[],none,0,3,rfl,xj _,fun g hg=>by simp[Value.ownBlock] at hg,HB4.out,rfl,rfl⟩
theorem zdv(s:ByteArray)(w:World)(hs:s.size<=100000)(hw:Lb w)(h1:(s.toList==[97,110,121])=false)(h2:(s.toList==[110,111,110,101])=false)(a b c:Nat)(ha:a<=999)(hb:b<=999)(hc:c<=999)(hv:zz (zf s)=.ok [a,b,c]):zC 115 #[.string s] w (yQ w (xm (s.extract 0 (s.size-(zf s).size)).toList a b c)):=by
 by_cases g0:(s.extract 0 (s.size-(zf s).size)).toList=[]
 ·rw[g0];exact zgB s w hs hw h1 h2 a b c ha hb hc hv g0
 by_cases g1:(s.extract 0 (s.size-(zf s).size)).toList=[61]
 ·rw[g1];exact zju s w hs hw h1 h2 a b c ha hb hc hv g1
 by_cases g2:(s.extract 0 (s.size-(zf s).size)).toList=[33]
 ·rw[g2];exact zjE s w hs hw h1 h2 a b c ha hb hc hv g2
 by_cases g3:(s.extract 0 (s.size-(zf s).size)).toList=[60]
 ·rw[g3];exact zeQ s w hs hw h1 h2 a b c ha hb hc hv g3
 by_cases g4:(s.extract 0 (s.size-(zf s).size)).toList=[60,61]
 ·rw[g4];exact zlP s w hs hw h1 h2 a b c ha hb hc hv g4
 by_cases g5:(s.extract 0 (s.size-(zf s).size)).toList=[62]
 ·rw[g5];exact zkO s w hs hw h1 h2 a b c ha hb hc hv g5
 by_cases g6:(s.extract 0 (s.size-(zf s).size)).toList=[62,61]
 ·rw[g6];exact zko s w hs hw h1 h2 a b c ha hb hc hv g6
 by_cases g7:(s.extract 0 (s.size-(zf s).size)).toList=[126]
 ·rw[g7];exact zkm s w hs hw h1 h2 a b c ha hb hc hv g7
 by_cases g8:(s.extract 0 (s.size-(zf s).size)).toList=[94]
 ·rw[g8];have e:xm [94] a b c=.ok (ze (zb a b c) (Z7 a b c)):=rfl;rw[e];unfold Z7
  by_cases ha0:0<a
  ·rw[if_pos (by omega)]
   by_cases hb0:0<b
   ·exact ziq s w hs hw h1 h2 a b c ha hb hc hv ha0 hb0 g8
   ·exact zh0 s w hs hw h1 h2 a b c ha hb hc hv ha0 hb0 g8
  ·rw[if_neg (by omega)]
   by_cases hb0:0<b
   ·rw[if_pos (by omega)];exact zhP s w hs hw h1 h2 a b c ha hb hc hv ha0 hb0 g8
   ·rw[if_neg (by omega)];exact zdK s w hs hw h1 h2 a b c ha hb hc hv ha0 hb0 g8
 have e:xm (s.extract 0 (s.size-(zf s).size)).toList a b c=.error 3:=by
  unfold xm;simp[g0,g1,g2,g3,g4,g5,g6,g7,g8]
 rw[e];exact zfV s w hs hw h1 h2 a b c ha hb hc hv g0 g1 g2 g3 g4 g5 g6 g7 g8
theorem zgA(s:ByteArray)(w:World)(hs:s.size<=100000)(hw:Lb w):zC 115 #[.string s] w (yQ w (xp s)):=by
 unfold xp
 by_cases h1:s.toList=[97,110,121]
 ·rw[if_pos h1];exact zlb s w h1
 rw[if_neg h1]
 by_cases h2:s.toList=[110,111,110,101]
 ·rw[if_pos h2];exact zfb s w h2
 rw[if_neg h2];have q1:(s.toList==[97,110,121])=false:=by rw[beq_eq_false_iff_ne];exact h1
 have q2:(s.toList==[110,111,110,101])=false:=by rw[beq_eq_false_iff_ne];exact h2
 cases hv:zz (zf s) with
 |error k=>exact zfU s w hs hw q1 q2 k hv
 |ok ns =>obtain⟨hl,hn⟩:=QE hv;obtain⟨a,b,c,rfl⟩:=Qs hl;exact zdv s w hs hw q1 q2 a b c (hn a (by simp)) (hn b (by simp)) (hn c (by simp)) hv
end Go.Proofs.YtiihalknffbjpaaGreatDoor
