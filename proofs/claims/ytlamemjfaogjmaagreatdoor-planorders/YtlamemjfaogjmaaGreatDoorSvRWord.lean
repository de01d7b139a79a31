/- The reference: a word of a range. -/
import Derived.Test.YtlamemjfaogjmaaGreatDoorSvShelfC
set_option maxHeartbeats 1000000
set_option maxRecDepth 100000
namespace Go.Proofs.YtlamemjfaogjmaaGreatDoor
open Go.RowKit Go.Shelf Sv
theorem zh3{l:List UInt8}{k:Int}(h:qw l=.error k):k≠0:=by
 unfold qw at h;split at h
 ·split at h
  ·cases h;decide
  ·split at h
   ·cases h;decide
   ·cases h
 ·cases h;decide
theorem zfh:∀{l:List (Nat × ByteArray)} {k:Int},zU l=.error k->k≠0:=by
 intro l
 induction l with
 |nil=>intro k h;cases h
 |cons x l ih =>
  intro k h;unfold zU at h;split at h
  ·rename_i hx;cases h;exact zh3 hx
  ·split at h
   ·rename_i hx;cases h;exact ih hx
   ·cases h
theorem Qt{s:ByteArray}{k:Int}(h:versF s=.error k):k≠0:=by
 unfold versF at h;split at h
 ·exact zfh h
 ·cases h;decide
theorem zb3{g:List UInt8}{a b c:Nat}{k:Int}(h:yk g a b c=.error k):k=3:=by
 unfold yk at h
 repeat(split at h;· cases h)
 cases h;rfl
theorem JF{s:ByteArray}{k:Int}(h:yu s=.error k):k≠0:=by
 unfold yu at h;split at h
 ·cases h
 ·split at h
  ·cases h
  ·split at h
   ·rename_i hx;cases h;exact Qt hx
   ·rw[zb3 h];decide
def za6(m:List Nat)(k:Int):Except Int (List Span)->Prop
 |.ok l=>m=tp l/\k=0
 |.error q=>m=[]/\k=q
def qY(w:World)(x:Except Int (List Span))(e:Ending)(w':World):Prop:=∃(m:List Nat) (a:Option Addr) (c:Nat) (k:Int),e=.returned (.tuple #[.slice a m.length c,.int .i64 k])/\NsAt w' (.slice a m.length c) m/\(∀g,(Value.slice a m.length c).ownBlock=some g->w.heap.size<=g)/\zB w w'/\za6 m k x
theorem zbO(s:ByteArray)(w:World)(h:s.toList=[97,110,121]):zC 82 #[.string s] w (qY w (.ok zd)):=by
 have h1:(s.toList==[97,110,121])=true:=by rw[h];rfl
 have HR:=zH (yA 0 1000000000 w);have he:zc 0 1000000000=zd:=rfl;rw[he] at HR;have HRR:Hid (zC 81 #[.int .i64 0,.int .i64 1000000000] w (qM w (tp zd))):=HR.out;clear HR he h;generalize zd=L at *;go_enter Tryz.func82,Tryz.ntmps82;go_wp2_with fail;refine HRR.out.mono ?_;rintro e w' ⟨a,c,rfl,q1,q2,q3⟩;have Q1:=zH q1;have Q2:=zH q2;have Q3:=zH q3;clear q1 q2 q3;go_wp2;refine bodyPost_ret (v:=.tuple #[.slice a (tp L).length c,.int .i64 0]) (by simp[results,Tryz.results82,go_sem]) rfl ?_;exact⟨_,a,c,0,rfl,Q1.out,Q2.out,Q3.out,rfl,rfl⟩
theorem zd7(s:ByteArray)(w:World)(h:s.toList=[110,111,110,101]):zC 82 #[.string s] w (qY w (.ok [])):=by
 have h1:(s.toList==[97,110,121])=false:=by rw[h];rfl
 have h2:(s.toList==[110,111,110,101])=true:=by rw[h];rfl
 clear h;go_enter Tryz.func82,Tryz.ntmps82;go_wp2;refine bodyPost_ret (v:=.tuple #[.slice none 0 0,.int .i64 0]) (by simp[results,Tryz.results82,go_sem]) rfl ?_;exact⟨[],none,0,0,rfl,nsAt_nil _,fun g hg=>by simp[Value.ownBlock] at hg,Below.refl _ _,rfl,rfl⟩
theorem ze2(s:ByteArray)(w:World)(hs:s.size<=100000)(hw:Lb w)(h1:(s.toList==[97,110,121])=false)(h2:(s.toList==[110,111,110,101])=false)(k:Int)(hv:versF (ze s)=.error k):zC 82 #[.string s] w (qY w (.error k)):=by
 have HT:=zH (yh s w);have HP:Hid (∀W,zB w W->zR 52 #[.string (ze s)] W (.tuple #[.agg #[.int .i64 0,.int .i64 0,.int .i64 0],.int .i64 k])):=fun W hb=>by have:=rvparse_any splitC (ze s) W (Nat.le_trans (zX s) hs) (hw.below hb);rw[hv] at this;exact this
 have hk:=Qt hv;have hk':(k != 0)=true:=by simpa using hk
 clear hv hw hk;generalize ze s=t at *;go_enter Tryz.func82,Tryz.ntmps82;go_wp2_with fail;refine HT.out.mono ?_;rintro e w1 ⟨rfl,hb1⟩;have H2:=zH (HP.out _ hb1);have HB1:=zH hb1;clear hb1 HP HT;go_wp2_with fail;refine H2.out.mono ?_;rintro e w2 ⟨rfl,hb2⟩;have HB2:Hid (zB w (w2.alloc (.cells #[.int .i64 0,.int .i64 0,.int .i64 0] 56))):=(zT HB1.out hb2).alloc (by have:=HB1.out.size;have:=hb2.size;omega) _;clear hb2 H2;go_wp2;refine bodyPost_ret (v:=.tuple #[.slice none 0 0,.int .i64 k]) (by simp[results,Tryz.results82,go_sem]) rfl ?_;exact⟨[],none,0,k,rfl,nsAt_nil _,fun g hg=>by simp[Value.ownBlock] at hg,HB2.out,rfl,rfl⟩
theorem zdn(s:ByteArray)(w:World)(hs:s.size<=100000)(hw:Lb w)(h1:(s.toList==[97,110,121])=false)(h2:(s.toList==[110,111,110,101])=false)(a b c:Nat)(ha:a<=999)(hb:b<=999)(hc:c<=999)(hv:versF (ze s)=.ok [a,b,c])(hg:(s.extract 0 (s.size-(ze s).size)).toList=[]):zC 82 #[.string s] w (qY w (.ok (zc (za a b c) (za a b c+1)))):=by
 have HT:=zH (yh s w);have HP:Hid (∀W,zB w W->zR 52 #[.string (ze s)] W (.tuple #[.agg #[.int .i64 a,.int .i64 b,.int .i64 c],.int .i64 0])):=fun W hb=>by have:=rvparse_any splitC (ze s) W (Nat.le_trans (zX s) hs) (hw.below hb);rw[hv] at this;exact this
 have HN:Hid (∀W,zR 68 #[.agg #[.int .i64 a,.int .i64 b,.int .i64 c]] W (.int .i64 (za a b c))):=fun W=>qT a b c (by omega) (by omega) (by omega) W;have hN:=qJ ha hb hc;have hNi:(za a b c:Int)<1000000000:=by unfold ALL at hN;omega
 have HROW:Hid (∀W,zC 81 #[.int .i64 ((za a b c:Nat):Int),.int .i64 (((za a b c:Nat):Int)+1)] W (qM W (tp (zc (za a b c) (za a b c+1))))):=fun W=>yA (za a b c) (za a b c+1) W;have hts:=zX s;generalize ze s=t at *;have hq:(s.size:Int)-(t.size:Int)=((s.size-t.size:Nat):Int):=by omega
 have hqs:s.size-t.size<=s.size:=by omega
 generalize s.size-t.size=q at *;have i0:(0:Int)<=(q:Int):=by omega
 have i2:(q:Int)<=(s.size:Int):=by omega
 have hsl:=fun W'=>run_slice_string_h (P:=Tryz.prog) W' 9 s Tryz.underlying9 .i64 (q:Int) i0 i2;simp only[Int.toNat_natCast] at hsl;have hw1:wrap64 ((s.size:Int)-(t.size:Int))=(q:Int):=by rw[hq];unfold wrap64;omega
 have hw2:IntKind.i64.wrap ((s.size:Int)-(t.size:Int))=(q:Int):=by rw[IntKind.wrap_i64];unfold wrap64 at hw1;exact hw1
 have g0:((s.extract 0 q).toList==[])=true:=by rw[hg];rfl
 clear hg;clear hv hw hts hq hN;generalize za a b c=N at *;go_enter Tryz.func82,Tryz.ntmps82;go_wp2_with fail;refine HT.out.mono ?_;rintro e w1 ⟨rfl,hb1⟩;have H2:=zH (HP.out _ hb1);have HB1:=zH hb1;clear hb1 HP HT;go_wp2_with fail;refine H2.out.mono ?_;rintro e w2 ⟨rfl,hb2⟩;have HB2:Hid (zB w (w2.alloc (.cells #[.int .i64 a,.int .i64 b,.int .i64 c] 56))):=(zT HB1.out hb2).alloc (by have:=HB1.out.size;have:=hb2.size;omega) _;have kv:=Blk.new w2 56 #[.int .i64 a,.int .i64 b,.int .i64 c];clear hb2 H2;go_wp2_with fail;generalize w2.alloc (.cells #[.int .i64 a,.int .i64 b,.int .i64 c] 56)=W3 at *;refine(HN.out _).mono ?_;rintro e w4 ⟨rfl,hb4⟩;have HB4:Hid (zB w w4):=zT HB2.out hb4;have kv4:=kv.below hb4 kv.lt;have HKV:=zH kv4;clear hb4 HN kv kv4 HB2;go_wp2_with fail;refine(HROW.out _).mono ?_;rintro e w5 ⟨x,y,rfl,q1,q2,q3⟩;have Q1:=zH q1;have Q2:Hid (∀g,(Value.slice x (tp (zc N (N+1))).length y).ownBlock=some g->w.heap.size<=g):=fun g hg=>Nat.le_trans HB4.out.size (q2 g hg);have Q3:Hid (zB w w5):=zT HB4.out q3;clear q1 q2 q3;go_wp2;refine bodyPost_ret (v:=.tuple #[.slice x (tp (zc N (N+1))).length y,.int .i64 0]) (by simp[results,Tryz.results82,go_sem]) rfl ?_;exact⟨_,x,y,0,rfl,Q1.out,Q2.out,Q3.out,rfl,rfl⟩
theorem zdH(s:ByteArray)(w:World)(hs:s.size<=100000)(hw:Lb w)(h1:(s.toList==[97,110,121])=false)(h2:(s.toList==[110,111,110,101])=false)(a b c:Nat)(ha:a<=999)(hb:b<=999)(hc:c<=999)(hv:versF (ze s)=.ok [a,b,c])(hg:(s.extract 0 (s.size-(ze s).size)).toList=[61]):zC 82 #[.string s] w (qY w (.ok (zc (za a b c) (za a b c+1)))):=by
 have HT:=zH (yh s w);have HP:Hid (∀W,zB w W->zR 52 #[.string (ze s)] W (.tuple #[.agg #[.int .i64 a,.int .i64 b,.int .i64 c],.int .i64 0])):=fun W hb=>by have:=rvparse_any splitC (ze s) W (Nat.le_trans (zX s) hs) (hw.below hb);rw[hv] at this;exact this
 have HN:Hid (∀W,zR 68 #[.agg #[.int .i64 a,.int .i64 b,.int .i64 c]] W (.int .i64 (za a b c))):=fun W=>qT a b c (by omega) (by omega) (by omega) W;have hN:=qJ ha hb hc;have hNi:(za a b c:Int)<1000000000:=by unfold ALL at hN;omega
 have HROW:Hid (∀W,zC 81 #[.int .i64 ((za a b c:Nat):Int),.int .i64 (((za a b c:Nat):Int)+1)] W (qM W (tp (zc (za a b c) (za a b c+1))))):=fun W=>yA (za a b c) (za a b c+1) W;have hts:=zX s;generalize ze s=t at *;have hq:(s.size:Int)-(t.size:Int)=((s.size-t.size:Nat):Int):=by omega
 have hqs:s.size-t.size<=s.size:=by omega
 generalize s.size-t.size=q at *;have i0:(0:Int)<=(q:Int):=by omega
 have i2:(q:Int)<=(s.size:Int):=by omega
 have hsl:=fun W'=>run_slice_string_h (P:=Tryz.prog) W' 9 s Tryz.underlying9 .i64 (q:Int) i0 i2;simp only[Int.toNat_natCast] at hsl;have hw1:wrap64 ((s.size:Int)-(t.size:Int))=(q:Int):=by rw[hq];unfold wrap64;omega
 have hw2:IntKind.i64.wrap ((s.size:Int)-(t.size:Int))=(q:Int):=by rw[IntKind.wrap_i64];unfold wrap64 at hw1;exact hw1
 have g0:((s.extract 0 q).toList==[])=false:=by rw[hg];rfl
 have g1:((s.extract 0 q).toList==[61])=true:=by rw[hg];rfl
 clear hg;clear hv hw hts hq hN;generalize za a b c=N at *;go_enter Tryz.func82,Tryz.ntmps82;go_wp2_with fail;refine HT.out.mono ?_;rintro e w1 ⟨rfl,hb1⟩;have H2:=zH (HP.out _ hb1);have HB1:=zH hb1;clear hb1 HP HT;go_wp2_with fail;refine H2.out.mono ?_;rintro e w2 ⟨rfl,hb2⟩;have HB2:Hid (zB w (w2.alloc (.cells #[.int .i64 a,.int .i64 b,.int .i64 c] 56))):=(zT HB1.out hb2).alloc (by have:=HB1.out.size;have:=hb2.size;omega) _;have kv:=Blk.new w2 56 #[.int .i64 a,.int .i64 b,.int .i64 c];clear hb2 H2;go_wp2_with fail;generalize w2.alloc (.cells #[.int .i64 a,.int .i64 b,.int .i64 c] 56)=W3 at *;refine(HN.out _).mono ?_;rintro e w4 ⟨rfl,hb4⟩;have HB4:Hid (zB w w4):=zT HB2.out hb4;have kv4:=kv.below hb4 kv.lt;have HKV:=zH kv4;clear hb4 HN kv kv4 HB2;go_wp2_with fail;refine(HROW.out _).mono ?_;rintro e w5 ⟨x,y,rfl,q1,q2,q3⟩;have Q1:=zH q1;have Q2:Hid (∀g,(Value.slice x (tp (zc N (N+1))).length y).ownBlock=some g->w.heap.size<=g):=fun g hg=>Nat.le_trans HB4.out.size (q2 g hg);have Q3:Hid (zB w w5):=zT HB4.out q3;clear q1 q2 q3;go_wp2;refine bodyPost_ret (v:=.tuple #[.slice x (tp (zc N (N+1))).length y,.int .i64 0]) (by simp[results,Tryz.results82,go_sem]) rfl ?_;exact⟨_,x,y,0,rfl,Q1.out,Q2.out,Q3.out,rfl,rfl⟩
theorem zbw(s:ByteArray)(w:World)(hs:s.size<=100000)(hw:Lb w)(h1:(s.toList==[97,110,121])=false)(h2:(s.toList==[110,111,110,101])=false)(a b c:Nat)(ha:a<=999)(hb:b<=999)(hc:c<=999)(hv:versF (ze s)=.ok [a,b,c])(hg:(s.extract 0 (s.size-(ze s).size)).toList=[60]):zC 82 #[.string s] w (qY w (.ok (zc 0 (za a b c)))):=by
 have HT:=zH (yh s w);have HP:Hid (∀W,zB w W->zR 52 #[.string (ze s)] W (.tuple #[.agg #[.int .i64 a,.int .i64 b,.int .i64 c],.int .i64 0])):=fun W hb=>by have:=rvparse_any splitC (ze s) W (Nat.le_trans (zX s) hs) (hw.below hb);rw[hv] at this;exact this
 have HN:Hid (∀W,zR 68 #[.agg #[.int .i64 a,.int .i64 b,.int .i64 c]] W (.int .i64 (za a b c))):=fun W=>qT a b c (by omega) (by omega) (by omega) W;have hN:=qJ ha hb hc;have hNi:(za a b c:Int)<1000000000:=by unfold ALL at hN;omega
 have HROW:Hid (∀W,zC 81 #[.int .i64 (0),.int .i64 ((za a b c:Nat):Int)] W (qM W (tp (zc (0) (za a b c))))):=fun W=>yA (0) (za a b c) W;have hts:=zX s;generalize ze s=t at *;have hq:(s.size:Int)-(t.size:Int)=((s.size-t.size:Nat):Int):=by omega
 have hqs:s.size-t.size<=s.size:=by omega
 generalize s.size-t.size=q at *;have i0:(0:Int)<=(q:Int):=by omega
 have i2:(q:Int)<=(s.size:Int):=by omega
 have hsl:=fun W'=>run_slice_string_h (P:=Tryz.prog) W' 9 s Tryz.underlying9 .i64 (q:Int) i0 i2;simp only[Int.toNat_natCast] at hsl;have hw1:wrap64 ((s.size:Int)-(t.size:Int))=(q:Int):=by rw[hq];unfold wrap64;omega
 have hw2:IntKind.i64.wrap ((s.size:Int)-(t.size:Int))=(q:Int):=by rw[IntKind.wrap_i64];unfold wrap64 at hw1;exact hw1
 have g0:((s.extract 0 q).toList==[])=false:=by rw[hg];rfl
 have g1:((s.extract 0 q).toList==[61])=false:=by rw[hg];rfl
 have g2:((s.extract 0 q).toList==[33])=false:=by rw[hg];rfl
 have g3:((s.extract 0 q).toList==[60])=true:=by rw[hg];rfl
 clear hg;clear hv hw hts hq hN;generalize za a b c=N at *;go_enter Tryz.func82,Tryz.ntmps82;go_wp2_with fail;refine HT.out.mono ?_;rintro e w1 ⟨rfl,hb1⟩;have H2:=zH (HP.out _ hb1);have HB1:=zH hb1;clear hb1 HP HT;go_wp2_with fail;refine H2.out.mono ?_;rintro e w2 ⟨rfl,hb2⟩;have HB2:Hid (zB w (w2.alloc (.cells #[.int .i64 a,.int .i64 b,.int .i64 c] 56))):=(zT HB1.out hb2).alloc (by have:=HB1.out.size;have:=hb2.size;omega) _;have kv:=Blk.new w2 56 #[.int .i64 a,.int .i64 b,.int .i64 c];clear hb2 H2;go_wp2_with fail;generalize w2.alloc (.cells #[.int .i64 a,.int .i64 b,.int .i64 c] 56)=W3 at *;refine(HN.out _).mono ?_;rintro e w4 ⟨rfl,hb4⟩;have HB4:Hid (zB w w4):=zT HB2.out hb4;have kv4:=kv.below hb4 kv.lt;have HKV:=zH kv4;clear hb4 HN kv kv4 HB2;go_wp2_with fail;refine(HROW.out _).mono ?_;rintro e w5 ⟨x,y,rfl,q1,q2,q3⟩;have Q1:=zH q1;have Q2:Hid (∀g,(Value.slice x (tp (zc 0 N)).length y).ownBlock=some g->w.heap.size<=g):=fun g hg=>Nat.le_trans HB4.out.size (q2 g hg);have Q3:Hid (zB w w5):=zT HB4.out q3;clear q1 q2 q3;go_wp2;refine bodyPost_ret (v:=.tuple #[.slice x (tp (zc 0 N)).length y,.int .i64 0]) (by simp[results,Tryz.results82,go_sem]) rfl ?_;exact⟨_,x,y,0,rfl,Q1.out,Q2.out,Q3.out,rfl,rfl⟩
theorem zgU(s:ByteArray)(w:World)(hs:s.size<=100000)(hw:Lb w)(h1:(s.toList==[97,110,121])=false)(h2:(s.toList==[110,111,110,101])=false)(a b c:Nat)(ha:a<=999)(hb:b<=999)(hc:c<=999)(hv:versF (ze s)=.ok [a,b,c])(hg:(s.extract 0 (s.size-(ze s).size)).toList=[60,61]):zC 82 #[.string s] w (qY w (.ok (zc 0 (za a b c+1)))):=by
 have HT:=zH (yh s w);have HP:Hid (∀W,zB w W->zR 52 #[.string (ze s)] W (.tuple #[.agg #[.int .i64 a,.int .i64 b,.int .i64 c],.int .i64 0])):=fun W hb=>by have:=rvparse_any splitC (ze s) W (Nat.le_trans (zX s) hs) (hw.below hb);rw[hv] at this;exact this
 have HN:Hid (∀W,zR 68 #[.agg #[.int .i64 a,.int .i64 b,.int .i64 c]] W (.int .i64 (za a b c))):=fun W=>qT a b c (by omega) (by omega) (by omega) W;have hN:=qJ ha hb hc;have hNi:(za a b c:Int)<1000000000:=by unfold ALL at hN;omega
 have HROW:Hid (∀W,zC 81 #[.int .i64 (0),.int .i64 (((za a b c:Nat):Int)+1)] W (qM W (tp (zc (0) (za a b c+1))))):=fun W=>yA (0) (za a b c+1) W;have hts:=zX s;generalize ze s=t at *;have hq:(s.size:Int)-(t.size:Int)=((s.size-t.size:Nat):Int):=by omega
 have hqs:s.size-t.size<=s.size:=by omega
 generalize s.size-t.size=q at *;have i0:(0:Int)<=(q:Int):=by omega
 have i2:(q:Int)<=(s.size:Int):=by omega
 have hsl:=fun W'=>run_slice_string_h (P:=Tryz.prog) W' 9 s Tryz.underlying9 .i64 (q:Int) i0 i2;simp only[Int.toNat_natCast] at hsl;have hw1:wrap64 ((s.size:Int)-(t.size:Int))=(q:Int):=by rw[hq];unfold wrap64;omega
 have hw2:IntKind.i64.wrap ((s.size:Int)-(t.size:Int))=(q:Int):=by rw[IntKind.wrap_i64];unfold wrap64 at hw1;exact hw1
 have g0:((s.extract 0 q).toList==[])=false:=by rw[hg];rfl
 have g1:((s.extract 0 q).toList==[61])=false:=by rw[hg];rfl
 have g2:((s.extract 0 q).toList==[33])=false:=by rw[hg];rfl
 have g3:((s.extract 0 q).toList==[60])=false:=by rw[hg];rfl
 have g4:((s.extract 0 q).toList==[60,61])=true:=by rw[hg];rfl
 clear hg;clear hv hw hts hq hN;generalize za a b c=N at *;go_enter Tryz.func82,Tryz.ntmps82;go_wp2_with fail;refine HT.out.mono ?_;rintro e w1 ⟨rfl,hb1⟩;have H2:=zH (HP.out _ hb1);have HB1:=zH hb1;clear hb1 HP HT;go_wp2_with fail;refine H2.out.mono ?_;rintro e w2 ⟨rfl,hb2⟩;have HB2:Hid (zB w (w2.alloc (.cells #[.int .i64 a,.int .i64 b,.int .i64 c] 56))):=(zT HB1.out hb2).alloc (by have:=HB1.out.size;have:=hb2.size;omega) _;have kv:=Blk.new w2 56 #[.int .i64 a,.int .i64 b,.int .i64 c];clear hb2 H2;go_wp2_with fail;generalize w2.alloc (.cells #[.int .i64 a,.int .i64 b,.int .i64 c] 56)=W3 at *;refine(HN.out _).mono ?_;rintro e w4 ⟨rfl,hb4⟩;have HB4:Hid (zB w w4):=zT HB2.out hb4;have kv4:=kv.below hb4 kv.lt;have HKV:=zH kv4;clear hb4 HN kv kv4 HB2;go_wp2_with fail;refine(HROW.out _).mono ?_;rintro e w5 ⟨x,y,rfl,q1,q2,q3⟩;have Q1:=zH q1;have Q2:Hid (∀g,(Value.slice x (tp (zc 0 (N+1))).length y).ownBlock=some g->w.heap.size<=g):=fun g hg=>Nat.le_trans HB4.out.size (q2 g hg);have Q3:Hid (zB w w5):=zT HB4.out q3;clear q1 q2 q3;go_wp2;refine bodyPost_ret (v:=.tuple #[.slice x (tp (zc 0 (N+1))).length y,.int .i64 0]) (by simp[results,Tryz.results82,go_sem]) rfl ?_;exact⟨_,x,y,0,rfl,Q1.out,Q2.out,Q3.out,rfl,rfl⟩
theorem zhw(s:ByteArray)(w:World)(hs:s.size<=100000)(hw:Lb w)(h1:(s.toList==[97,110,121])=false)(h2:(s.toList==[110,111,110,101])=false)(a b c:Nat)(ha:a<=999)(hb:b<=999)(hc:c<=999)(hv:versF (ze s)=.ok [a,b,c])(hg:(s.extract 0 (s.size-(ze s).size)).toList=[62]):zC 82 #[.string s] w (qY w (.ok (zc (za a b c+1) 1000000000))):=by
 have HT:=zH (yh s w);have HP:Hid (∀W,zB w W->zR 52 #[.string (ze s)] W (.tuple #[.agg #[.int .i64 a,.int .i64 b,.int .i64 c],.int .i64 0])):=fun W hb=>by have:=rvparse_any splitC (ze s) W (Nat.le_trans (zX s) hs) (hw.below hb);rw[hv] at this;exact this
 have HN:Hid (∀W,zR 68 #[.agg #[.int .i64 a,.int .i64 b,.int .i64 c]] W (.int .i64 (za a b c))):=fun W=>qT a b c (by omega) (by omega) (by omega) W;have hN:=qJ ha hb hc;have hNi:(za a b c:Int)<1000000000:=by unfold ALL at hN;omega
 have HROW:Hid (∀W,zC 81 #[.int .i64 (((za a b c:Nat):Int)+1),.int .i64 (1000000000)] W (qM W (tp (zc (za a b c+1) (1000000000))))):=fun W=>yA (za a b c+1) (1000000000) W;have hts:=zX s;generalize ze s=t at *;have hq:(s.size:Int)-(t.size:Int)=((s.size-t.size:Nat):Int):=by omega
 have hqs:s.size-t.size<=s.size:=by omega
 generalize s.size-t.size=q at *;have i0:(0:Int)<=(q:Int):=by omega
 have i2:(q:Int)<=(s.size:Int):=by omega
 have hsl:=fun W'=>run_slice_string_h (P:=Tryz.prog) W' 9 s Tryz.underlying9 .i64 (q:Int) i0 i2;simp only[Int.toNat_natCast] at hsl;have hw1:wrap64 ((s.size:Int)-(t.size:Int))=(q:Int):=by rw[hq];unfold wrap64;omega
 have hw2:IntKind.i64.wrap ((s.size:Int)-(t.size:Int))=(q:Int):=by rw[IntKind.wrap_i64];unfold wrap64 at hw1;exact hw1
 have g0:((s.extract 0 q).toList==[])=false:=by rw[hg];rfl
 have g1:((s.extract 0 q).toList==[61])=false:=by rw[hg];rfl
 have g2:((s.extract 0 q).toList==[33])=false:=by rw[hg];rfl
 have g3:((s.extract 0 q).toList==[60])=false:=by rw[hg];rfl
 have g4:((s.extract 0 q).toList==[60,61])=false:=by rw[hg];rfl
 have g5:((s.extract 0 q).toList==[62])=true:=by rw[hg];rfl
 clear hg;clear hv hw hts hq hN;generalize za a b c=N at *;go_enter Tryz.func82,Tryz.ntmps82;go_wp2_with fail;refine HT.out.mono ?_;rintro e w1 ⟨rfl,hb1⟩;have H2:=zH (HP.out _ hb1);have HB1:=zH hb1;clear hb1 HP HT;go_wp2_with fail;refine H2.out.mono ?_;rintro e w2 ⟨rfl,hb2⟩;have HB2:Hid (zB w (w2.alloc (.cells #[.int .i64 a,.int .i64 b,.int .i64 c] 56))):=(zT HB1.out hb2).alloc (by have:=HB1.out.size;have:=hb2.size;omega) _;have kv:=Blk.new w2 56 #[.int .i64 a,.int .i64 b,.int .i64 c];clear hb2 H2;go_wp2_with fail;generalize w2.alloc (.cells #[.int .i64 a,.int .i64 b,.int .i64 c] 56)=W3 at *;refine(HN.out _).mono ?_;rintro e w4 ⟨rfl,hb4⟩;have HB4:Hid (zB w w4):=zT HB2.out hb4;have kv4:=kv.below hb4 kv.lt;have HKV:=zH kv4;clear hb4 HN kv kv4 HB2;go_wp2_with fail;refine(HROW.out _).mono ?_;rintro e w5 ⟨x,y,rfl,q1,q2,q3⟩;have Q1:=zH q1;have Q2:Hid (∀g,(Value.slice x (tp (zc (N+1) 1000000000)).length y).ownBlock=some g->w.heap.size<=g):=fun g hg=>Nat.le_trans HB4.out.size (q2 g hg);have Q3:Hid (zB w w5):=zT HB4.out q3;clear q1 q2 q3;go_wp2;refine bodyPost_ret (v:=.tuple #[.slice x (tp (zc (N+1) 1000000000)).length y,.int .i64 0]) (by simp[results,Tryz.results82,go_sem]) rfl ?_;exact⟨_,x,y,0,rfl,Q1.out,Q2.out,Q3.out,rfl,rfl⟩
theorem zdp(s:ByteArray)(w:World)(hs:s.size<=100000)(hw:Lb w)(h1:(s.toList==[97,110,121])=false)(h2:(s.toList==[110,111,110,101])=false)(a b c:Nat)(ha:a<=999)(hb:b<=999)(hc:c<=999)(hv:versF (ze s)=.ok [a,b,c])(hg:(s.extract 0 (s.size-(ze s).size)).toList=[62,61]):zC 82 #[.string s] w (qY w (.ok (zc (za a b c) 1000000000))):=by
 have HT:=zH (yh s w);have HP:Hid (∀W,zB w W->zR 52 #[.string (ze s)] W (.tuple #[.agg #[.int .i64 a,.int .i64 b,.int .i64 c],.int .i64 0])):=fun W hb=>by have:=rvparse_any splitC (ze s) W (Nat.le_trans (zX s) hs) (hw.below hb);rw[hv] at this;exact this
 have HN:Hid (∀W,zR 68 #[.agg #[.int .i64 a,.int .i64 b,.int .i64 c]] W (.int .i64 (za a b c))):=fun W=>qT a b c (by omega) (by omega) (by omega) W;have hN:=qJ ha hb hc;have hNi:(za a b c:Int)<1000000000:=by unfold ALL at hN;omega
 have HROW:Hid (∀W,zC 81 #[.int .i64 ((za a b c:Nat):Int),.int .i64 (1000000000)] W (qM W (tp (zc (za a b c) (1000000000))))):=fun W=>yA (za a b c) (1000000000) W;have hts:=zX s;generalize ze s=t at *;have hq:(s.size:Int)-(t.size:Int)=((s.size-t.size:Nat):Int):=by omega
 have hqs:s.size-t.size<=s.size:=by omega
 generalize s.size-t.size=q at *;have i0:(0:Int)<=(q:Int):=by omega
 have i2:(q:Int)<=(s.size:Int):=by omega
 have hsl:=fun W'=>run_slice_string_h (P:=Tryz.prog) W' 9 s Tryz.underlying9 .i64 (q:Int) i0 i2;simp only[Int.toNat_natCast] at hsl;have hw1:wrap64 ((s.size:Int)-(t.size:Int))=(q:Int):=by rw[hq];unfold wrap64;omega
 have hw2:IntKind.i64.wrap ((s.size:Int)-(t.size:Int))=(q:Int):=by rw[IntKind.wrap_i64];unfold wrap64 at hw1;exact hw1
 have g0:((s.extract 0 q).toList==[])=false:=by rw[hg];rfl
 have g1:((s.extract 0 q).toList==[61])=false:=by rw[hg];rfl
 have g2:((s.extract 0 q).toList==[33])=false:=by rw[hg];rfl
 have g3:((s.extract 0 q).toList==[60])=false:=by rw[hg];rfl
 have g4:((s.extract 0 q).toList==[60,61])=false:=by rw[hg];rfl
 have g5:((s.extract 0 q).toList==[62])=false:=by rw[hg];rfl
 have g6:((s.extract 0 q).toList==[62,61])=true:=by rw[hg];rfl
 clear hg;clear hv hw hts hq hN;generalize za a b c=N at *;go_enter Tryz.func82,Tryz.ntmps82;go_wp2_with fail;refine HT.out.mono ?_;rintro e w1 ⟨rfl,hb1⟩;have H2:=zH (HP.out _ hb1);have HB1:=zH hb1;clear hb1 HP HT;go_wp2_with fail;refine H2.out.mono ?_;rintro e w2 ⟨rfl,hb2⟩;have HB2:Hid (zB w (w2.alloc (.cells #[.int .i64 a,.int .i64 b,.int .i64 c] 56))):=(zT HB1.out hb2).alloc (by have:=HB1.out.size;have:=hb2.size;omega) _;have kv:=Blk.new w2 56 #[.int .i64 a,.int .i64 b,.int .i64 c];clear hb2 H2;go_wp2_with fail;generalize w2.alloc (.cells #[.int .i64 a,.int .i64 b,.int .i64 c] 56)=W3 at *;refine(HN.out _).mono ?_;rintro e w4 ⟨rfl,hb4⟩;have HB4:Hid (zB w w4):=zT HB2.out hb4;have kv4:=kv.below hb4 kv.lt;have HKV:=zH kv4;clear hb4 HN kv kv4 HB2;go_wp2_with fail;refine(HROW.out _).mono ?_;rintro e w5 ⟨x,y,rfl,q1,q2,q3⟩;have Q1:=zH q1;have Q2:Hid (∀g,(Value.slice x (tp (zc N 1000000000)).length y).ownBlock=some g->w.heap.size<=g):=fun g hg=>Nat.le_trans HB4.out.size (q2 g hg);have Q3:Hid (zB w w5):=zT HB4.out q3;clear q1 q2 q3;go_wp2;refine bodyPost_ret (v:=.tuple #[.slice x (tp (zc N 1000000000)).length y,.int .i64 0]) (by simp[results,Tryz.results82,go_sem]) rfl ?_;exact⟨_,x,y,0,rfl,Q1.out,Q2.out,Q3.out,rfl,rfl⟩
theorem zhN(s:ByteArray)(w:World)(hs:s.size<=100000)(hw:Lb w)(h1:(s.toList==[97,110,121])=false)(h2:(s.toList==[110,111,110,101])=false)(a b c:Nat)(ha:a<=999)(hb:b<=999)(hc:c<=999)(hv:versF (ze s)=.ok [a,b,c])(hg:(s.extract 0 (s.size-(ze s).size)).toList=[33]):zC 82 #[.string s] w (qY w (.ok (nt (zc (za a b c) (za a b c+1))))):=by
 have HT:=zH (yh s w);have HP:Hid (∀W,zB w W->zR 52 #[.string (ze s)] W (.tuple #[.agg #[.int .i64 a,.int .i64 b,.int .i64 c],.int .i64 0])):=fun W hb=>by have:=rvparse_any splitC (ze s) W (Nat.le_trans (zX s) hs) (hw.below hb);rw[hv] at this;exact this
 have HN:Hid (∀W,zR 68 #[.agg #[.int .i64 a,.int .i64 b,.int .i64 c]] W (.int .i64 (za a b c))):=fun W=>qT a b c (by omega) (by omega) (by omega) W;have hN:=qJ ha hb hc;have hNi:(za a b c:Int)<1000000000:=by unfold ALL at hN;omega
 have HROW:Hid (∀W,zC 81 #[.int .i64 ((za a b c:Nat):Int),.int .i64 (((za a b c:Nat):Int)+1)] W (qM W (tp (zc (za a b c) (za a b c+1))))):=fun W=>yA (za a b c) (za a b c+1) W;have hts:=zX s;generalize ze s=t at *;have hq:(s.size:Int)-(t.size:Int)=((s.size-t.size:Nat):Int):=by omega
 have hqs:s.size-t.size<=s.size:=by omega
 generalize s.size-t.size=q at *;have i0:(0:Int)<=(q:Int):=by omega
 have i2:(q:Int)<=(s.size:Int):=by omega
 have hsl:=fun W'=>run_slice_string_h (P:=Tryz.prog) W' 9 s Tryz.underlying9 .i64 (q:Int) i0 i2;simp only[Int.toNat_natCast] at hsl;have hw1:wrap64 ((s.size:Int)-(t.size:Int))=(q:Int):=by rw[hq];unfold wrap64;omega
 have hw2:IntKind.i64.wrap ((s.size:Int)-(t.size:Int))=(q:Int):=by rw[IntKind.wrap_i64];unfold wrap64 at hw1;exact hw1
 have g0:((s.extract 0 q).toList==[])=false:=by rw[hg];rfl
 have g1:((s.extract 0 q).toList==[61])=false:=by rw[hg];rfl
 have g2:((s.extract 0 q).toList==[33])=true:=by rw[hg];rfl
 clear hg;clear hv hw hts hq hN;generalize za a b c=N at *;go_enter Tryz.func82,Tryz.ntmps82;go_wp2_with fail;refine HT.out.mono ?_;rintro e w1 ⟨rfl,hb1⟩;have H2:=zH (HP.out _ hb1);have HB1:=zH hb1;clear hb1 HP HT;go_wp2_with fail;refine H2.out.mono ?_;rintro e w2 ⟨rfl,hb2⟩;have HB2:Hid (zB w (w2.alloc (.cells #[.int .i64 a,.int .i64 b,.int .i64 c] 56))):=(zT HB1.out hb2).alloc (by have:=HB1.out.size;have:=hb2.size;omega) _;have kv:=Blk.new w2 56 #[.int .i64 a,.int .i64 b,.int .i64 c];clear hb2 H2;go_wp2_with fail;generalize w2.alloc (.cells #[.int .i64 a,.int .i64 b,.int .i64 c] 56)=W3 at *;refine(HN.out _).mono ?_;rintro e w4 ⟨rfl,hb4⟩;have HB4:Hid (zB w w4):=zT HB2.out hb4;have kv4:=kv.below hb4 kv.lt;have HKV:=zH kv4;clear hb4 HN kv kv4 HB2;go_wp2_with fail;refine(HROW.out _).mono ?_;rintro e w5 ⟨x,y,rfl,q1,q2,q3⟩;have HB5:Hid (zB w w5):=zT HB4.out q3;have HNOT:=zH (ze8 (zc N (N+1)) (Qm (by unfold ALL;omega)) _ w5 q1);clear q1 q2 q3;go_wp2_with fail;refine HNOT.out.mono ?_;rintro e w6 ⟨x6,y6,rfl,q1,q2,q3⟩;have Q1:=zH q1;have Q2:Hid (∀g,(Value.slice x6 (tp (nt (zc N (N+1)))).length y6).ownBlock=some g->w.heap.size<=g):=fun g hg=>Nat.le_trans HB5.out.size (q2 g hg);have Q3:Hid (zB w w6):=zT HB5.out q3;clear q1 q2 q3;go_wp2;refine bodyPost_ret (v:=.tuple #[.slice x6 (tp (nt (zc N (N+1)))).length y6,.int .i64 0]) (by simp[results,Tryz.results82,go_sem]) rfl ?_;exact⟨_,x6,y6,0,rfl,Q1.out,Q2.out,Q3.out,rfl,rfl⟩
theorem zdC(s:ByteArray)(w:World)(hs:s.size<=100000)(hw:Lb w)(h1:(s.toList==[97,110,121])=false)(h2:(s.toList==[110,111,110,101])=false)(a b c:Nat)(ha:a<=999)(hb:b<=999)(hc:c<=999)(hv:versF (ze s)=.ok [a,b,c])(hg:(s.extract 0 (s.size-(ze s).size)).toList=[126]):zC 82 #[.string s] w (qY w (.ok (zc (za a b c) (za a (b+1) 0)))):=by
 have HT:=zH (yh s w);have HP:Hid (∀W,zB w W->zR 52 #[.string (ze s)] W (.tuple #[.agg #[.int .i64 a,.int .i64 b,.int .i64 c],.int .i64 0])):=fun W hb=>by have:=rvparse_any splitC (ze s) W (Nat.le_trans (zX s) hs) (hw.below hb);rw[hv] at this;exact this
 have HN:Hid (∀W,zR 68 #[.agg #[.int .i64 a,.int .i64 b,.int .i64 c]] W (.int .i64 (za a b c))):=fun W=>qT a b c (by omega) (by omega) (by omega) W;have hN:=qJ ha hb hc;have hNi:(za a b c:Int)<1000000000:=by unfold ALL at hN;omega
 have HM:Hid (∀W,zR 68 #[.agg #[.int .i64 a,.int .i64 ((b:Int)+1),.int .i64 0]] W (.int .i64 (za a (b+1) 0:Int))):=fun W=>qT a (b+1) 0 (by omega) (by omega) (by omega) W;have HROW:Hid (∀W,zC 81 #[.int .i64 ((za a b c:Nat):Int),.int .i64 ((za a (b+1) 0:Nat):Int)] W (qM W (tp (zc (za a b c) (za a (b+1) 0))))):=fun W=>yA (za a b c) (za a (b+1) 0) W;obtain⟨M,hM⟩:∃M,za a (b+1) 0=M:=⟨_,rfl⟩;rw[hM] at HM HROW ⊢;clear hM;have hts:=zX s;generalize ze s=t at *;have hq:(s.size:Int)-(t.size:Int)=((s.size-t.size:Nat):Int):=by omega
 have hqs:s.size-t.size<=s.size:=by omega
 generalize s.size-t.size=q at *;have i0:(0:Int)<=(q:Int):=by omega
 have i2:(q:Int)<=(s.size:Int):=by omega
 have hsl:=fun W'=>run_slice_string_h (P:=Tryz.prog) W' 9 s Tryz.underlying9 .i64 (q:Int) i0 i2;simp only[Int.toNat_natCast] at hsl;have hw1:wrap64 ((s.size:Int)-(t.size:Int))=(q:Int):=by rw[hq];unfold wrap64;omega
 have hw2:IntKind.i64.wrap ((s.size:Int)-(t.size:Int))=(q:Int):=by rw[IntKind.wrap_i64];unfold wrap64 at hw1;exact hw1
 have g0:((s.extract 0 q).toList==[])=false:=by rw[hg];rfl
 have g1:((s.extract 0 q).toList==[61])=false:=by rw[hg];rfl
 have g2:((s.extract 0 q).toList==[33])=false:=by rw[hg];rfl
 have g3:((s.extract 0 q).toList==[60])=false:=by rw[hg];rfl
 have g4:((s.extract 0 q).toList==[60,61])=false:=by rw[hg];rfl
 have g5:((s.extract 0 q).toList==[62])=false:=by rw[hg];rfl
 have g6:((s.extract 0 q).toList==[62,61])=false:=by rw[hg];rfl
 have g7:((s.extract 0 q).toList==[126])=true:=by rw[hg];rfl
 clear hg;clear hv hw hts hq hN;generalize za a b c=N at *;go_enter Tryz.func82,Tryz.ntmps82;go_wp2_with fail;refine HT.out.mono ?_;rintro e w1 ⟨rfl,hb1⟩;have H2:=zH (HP.out _ hb1);have HB1:=zH hb1;clear hb1 HP HT;go_wp2_with fail;refine H2.out.mono ?_;rintro e w2 ⟨rfl,hb2⟩;have HB2:Hid (zB w (w2.alloc (.cells #[.int .i64 a,.int .i64 b,.int .i64 c] 56))):=(zT HB1.out hb2).alloc (by have:=HB1.out.size;have:=hb2.size;omega) _;have kv:=Blk.new w2 56 #[.int .i64 a,.int .i64 b,.int .i64 c];clear hb2 H2;go_wp2_with fail;generalize w2.alloc (.cells #[.int .i64 a,.int .i64 b,.int .i64 c] 56)=W3 at *;refine(HN.out _).mono ?_;rintro e w4 ⟨rfl,hb4⟩;have HB4:Hid (zB w w4):=zT HB2.out hb4;have kv4:=kv.below hb4 kv.lt;have HKV:=zH kv4;clear hb4 HN kv kv4 HB2;have c0:=HKV.out.cell 0;have c1:=HKV.out.cell 1;go_wp2_with fail;refine(HM.out _).mono ?_;rintro e w7 ⟨rfl,hb7⟩;have HB7:Hid (zB w w7):=zT HB4.out hb7;clear hb7 c0 c1;go_wp2_with fail;refine(HROW.out _).mono ?_;rintro e w5 ⟨x,y,rfl,q1,q2,q3⟩;have Q1:=zH q1;have Q2:Hid (∀g,(Value.slice x (tp (zc N M)).length y).ownBlock=some g->w.heap.size<=g):=fun g hg=>Nat.le_trans HB7.out.size (q2 g hg);have Q3:Hid (zB w w5):=zT HB7.out q3;clear q1 q2 q3;go_wp2;refine bodyPost_ret (v:=.tuple #[.slice x (tp (zc N M)).length y,.int .i64 0]) (by simp[results,Tryz.results82,go_sem]) rfl ?_;exact⟨_,x,y,0,rfl,Q1.out,Q2.out,Q3.out,rfl,rfl⟩
theorem zhs(s:ByteArray)(w:World)(hs:s.size<=100000)(hw:Lb w)(h1:(s.toList==[97,110,121])=false)(h2:(s.toList==[110,111,110,101])=false)(a b c:Nat)(ha:a<=999)(hb:b<=999)(hc:c<=999)(hv:versF (ze s)=.ok [a,b,c])(ha0:0<a)(hb0:0<b)(hg:(s.extract 0 (s.size-(ze s).size)).toList=[94]):zC 82 #[.string s] w (qY w (.ok (zc (za a b c) (za (a+1) (0) (0))))):=by
 have HT:=zH (yh s w);have HP:Hid (∀W,zB w W->zR 52 #[.string (ze s)] W (.tuple #[.agg #[.int .i64 a,.int .i64 b,.int .i64 c],.int .i64 0])):=fun W hb=>by have:=rvparse_any splitC (ze s) W (Nat.le_trans (zX s) hs) (hw.below hb);rw[hv] at this;exact this
 have HN:Hid (∀W,zR 68 #[.agg #[.int .i64 a,.int .i64 b,.int .i64 c]] W (.int .i64 (za a b c))):=fun W=>qT a b c (by omega) (by omega) (by omega) W;have hN:=qJ ha hb hc;have hNi:(za a b c:Int)<1000000000:=by unfold ALL at hN;omega
 have HM:Hid (∀W,zR 68 #[.agg #[.int .i64 ((a:Int)+1),.int .i64 (0),.int .i64 (0)]] W (.int .i64 (za (a+1) (0) (0):Int))):=fun W=>qT (a+1) (0) (0) (by omega) (by omega) (by omega) W;have HROW:Hid (∀W,zC 81 #[.int .i64 ((za a b c:Nat):Int),.int .i64 ((za (a+1) (0) (0):Nat):Int)] W (qM W (tp (zc (za a b c) (za (a+1) (0) (0)))))):=fun W=>yA (za a b c) (za (a+1) (0) (0)) W;obtain⟨M,hM⟩:∃M,za (a+1) (0) (0)=M:=⟨_,rfl⟩;rw[hM] at HM HROW ⊢;clear hM;have ha0':(0:Int)<(a:Int):=by omega
 have hb0':(0:Int)<(b:Int):=by omega
 have hts:=zX s;generalize ze s=t at *;have hq:(s.size:Int)-(t.size:Int)=((s.size-t.size:Nat):Int):=by omega
 have hqs:s.size-t.size<=s.size:=by omega
 generalize s.size-t.size=q at *;have i0:(0:Int)<=(q:Int):=by omega
 have i2:(q:Int)<=(s.size:Int):=by omega
 have hsl:=fun W'=>run_slice_string_h (P:=Tryz.prog) W' 9 s Tryz.underlying9 .i64 (q:Int) i0 i2;simp only[Int.toNat_natCast] at hsl;have hw1:wrap64 ((s.size:Int)-(t.size:Int))=(q:Int):=by rw[hq];unfold wrap64;omega
 have hw2:IntKind.i64.wrap ((s.size:Int)-(t.size:Int))=(q:Int):=by rw[IntKind.wrap_i64];unfold wrap64 at hw1;exact hw1
 have g0:((s.extract 0 q).toList==[])=false:=by rw[hg];rfl
 have g1:((s.extract 0 q).toList==[61])=false:=by rw[hg];rfl
 have g2:((s.extract 0 q).toList==[33])=false:=by rw[hg];rfl
 have g3:((s.extract 0 q).toList==[60])=false:=by rw[hg];rfl
 have g4:((s.extract 0 q).toList==[60,61])=false:=by rw[hg];rfl
 have g5:((s.extract 0 q).toList==[62])=false:=by rw[hg];rfl
 have g6:((s.extract 0 q).toList==[62,61])=false:=by rw[hg];rfl
 have g7:((s.extract 0 q).toList==[126])=false:=by rw[hg];rfl
 have g8:((s.extract 0 q).toList==[94])=true:=by rw[hg];rfl
 clear hg;clear hv hw hts hq hN;generalize za a b c=N at *;go_enter Tryz.func82,Tryz.ntmps82;go_wp2_with fail;refine HT.out.mono ?_;rintro e w1 ⟨rfl,hb1⟩;have H2:=zH (HP.out _ hb1);have HB1:=zH hb1;clear hb1 HP HT;go_wp2_with fail;refine H2.out.mono ?_;rintro e w2 ⟨rfl,hb2⟩;have HB2:Hid (zB w (w2.alloc (.cells #[.int .i64 a,.int .i64 b,.int .i64 c] 56))):=(zT HB1.out hb2).alloc (by have:=HB1.out.size;have:=hb2.size;omega) _;have kv:=Blk.new w2 56 #[.int .i64 a,.int .i64 b,.int .i64 c];clear hb2 H2;go_wp2_with fail;generalize w2.alloc (.cells #[.int .i64 a,.int .i64 b,.int .i64 c] 56)=W3 at *;refine(HN.out _).mono ?_;rintro e w4 ⟨rfl,hb4⟩;have HB4:Hid (zB w w4):=zT HB2.out hb4;have kv4:=kv.below hb4 kv.lt;have HKV:=zH kv4;clear hb4 HN kv kv4 HB2;have c0:=HKV.out.cell 0;have c1:=HKV.out.cell 1;have c2:=HKV.out.cell 2;have hl4:=HKV.out.lt;have d0:=(HKV.out.alloc (.cells #[.int .i64 a,.int .i64 b,.int .i64 ((c:Int)+1)] 56)).cell 0;have d1:=(HKV.out.alloc (.cells #[.int .i64 a,.int .i64 b,.int .i64 ((c:Int)+1)] 56)).cell 1;have e0:=(HKV.out.alloc (.cells #[.int .i64 a,.int .i64 ((b:Int)+1),.int .i64 0] 56)).cell 0;go_wp2_with fail;have HB6:Hid (zB w (w4.alloc (.cells #[.int .i64 ((a:Int)+1),.int .i64 (0),.int .i64 (0)] 56))):=zL HB4.out;generalize w4.alloc (.cells #[.int .i64 ((a:Int)+1),.int .i64 (0),.int .i64 (0)] 56)=W6 at *;refine(HM.out _).mono ?_;rintro e w7 ⟨rfl,hb7⟩;have HB7:Hid (zB w w7):=zT HB6.out hb7;clear hb7 c0 c1 c2 d0 d1;go_wp2_with fail;refine(HROW.out _).mono ?_;rintro e w5 ⟨x,y,rfl,q1,q2,q3⟩;have Q1:=zH q1;have Q2:Hid (∀g,(Value.slice x (tp (zc N M)).length y).ownBlock=some g->w.heap.size<=g):=fun g hg=>Nat.le_trans HB7.out.size (q2 g hg);have Q3:Hid (zB w w5):=zT HB7.out q3;clear q1 q2 q3;go_wp2;refine bodyPost_ret (v:=.tuple #[.slice x (tp (zc N M)).length y,.int .i64 0]) (by simp[results,Tryz.results82,go_sem]) rfl ?_;exact⟨_,x,y,0,rfl,Q1.out,Q2.out,Q3.out,rfl,rfl⟩
theorem zfN(s:ByteArray)(w:World)(hs:s.size<=100000)(hw:Lb w)(h1:(s.toList==[97,110,121])=false)(h2:(s.toList==[110,111,110,101])=false)(a b c:Nat)(ha:a<=999)(hb:b<=999)(hc:c<=999)(hv:versF (ze s)=.ok [a,b,c])(ha0:0<a)(hb0:¬0<b)(hg:(s.extract 0 (s.size-(ze s).size)).toList=[94]):zC 82 #[.string s] w (qY w (.ok (zc (za a b c) (za (a+1) (0) (0))))):=by
 have HT:=zH (yh s w);have HP:Hid (∀W,zB w W->zR 52 #[.string (ze s)] W (.tuple #[.agg #[.int .i64 a,.int .i64 b,.int .i64 c],.int .i64 0])):=fun W hb=>by have:=rvparse_any splitC (ze s) W (Nat.le_trans (zX s) hs) (hw.below hb);rw[hv] at this;exact this
 have HN:Hid (∀W,zR 68 #[.agg #[.int .i64 a,.int .i64 b,.int .i64 c]] W (.int .i64 (za a b c))):=fun W=>qT a b c (by omega) (by omega) (by omega) W;have hN:=qJ ha hb hc;have hNi:(za a b c:Int)<1000000000:=by unfold ALL at hN;omega
 have HM:Hid (∀W,zR 68 #[.agg #[.int .i64 ((a:Int)+1),.int .i64 (0),.int .i64 (0)]] W (.int .i64 (za (a+1) (0) (0):Int))):=fun W=>qT (a+1) (0) (0) (by omega) (by omega) (by omega) W;have HROW:Hid (∀W,zC 81 #[.int .i64 ((za a b c:Nat):Int),.int .i64 ((za (a+1) (0) (0):Nat):Int)] W (qM W (tp (zc (za a b c) (za (a+1) (0) (0)))))):=fun W=>yA (za a b c) (za (a+1) (0) (0)) W;obtain⟨M,hM⟩:∃M,za (a+1) (0) (0)=M:=⟨_,rfl⟩;rw[hM] at HM HROW ⊢;clear hM;have ha0':(0:Int)<(a:Int):=by omega
 have hb0':¬(0:Int)<(b:Int):=by omega
 have hts:=zX s;generalize ze s=t at *;have hq:(s.size:Int)-(t.size:Int)=((s.size-t.size:Nat):Int):=by omega
 have hqs:s.size-t.size<=s.size:=by omega
 generalize s.size-t.size=q at *;have i0:(0:Int)<=(q:Int):=by omega
 have i2:(q:Int)<=(s.size:Int):=by omega
 have hsl:=fun W'=>run_slice_string_h (P:=Tryz.prog) W' 9 s Tryz.underlying9 .i64 (q:Int) i0 i2;simp only[Int.toNat_natCast] at hsl;have hw1:wrap64 ((s.size:Int)-(t.size:Int))=(q:Int):=by rw[hq];unfold wrap64;omega
 have hw2:IntKind.i64.wrap ((s.size:Int)-(t.size:Int))=(q:Int):=by rw[IntKind.wrap_i64];unfold wrap64 at hw1;exact hw1
 have g0:((s.extract 0 q).toList==[])=false:=by rw[hg];rfl
 have g1:((s.extract 0 q).toList==[61])=false:=by rw[hg];rfl
 have g2:((s.extract 0 q).toList==[33])=false:=by rw[hg];rfl
 have g3:((s.extract 0 q).toList==[60])=false:=by rw[hg];rfl
 have g4:((s.extract 0 q).toList==[60,61])=false:=by rw[hg];rfl
 have g5:((s.extract 0 q).toList==[62])=false:=by rw[hg];rfl
 have g6:((s.extract 0 q).toList==[62,61])=false:=by rw[hg];rfl
 have g7:((s.extract 0 q).toList==[126])=false:=by rw[hg];rfl
 have g8:((s.extract 0 q).toList==[94])=true:=by rw[hg];rfl
 clear hg;clear hv hw hts hq hN;generalize za a b c=N at *;go_enter Tryz.func82,Tryz.ntmps82;go_wp2_with fail;refine HT.out.mono ?_;rintro e w1 ⟨rfl,hb1⟩;have H2:=zH (HP.out _ hb1);have HB1:=zH hb1;clear hb1 HP HT;go_wp2_with fail;refine H2.out.mono ?_;rintro e w2 ⟨rfl,hb2⟩;have HB2:Hid (zB w (w2.alloc (.cells #[.int .i64 a,.int .i64 b,.int .i64 c] 56))):=(zT HB1.out hb2).alloc (by have:=HB1.out.size;have:=hb2.size;omega) _;have kv:=Blk.new w2 56 #[.int .i64 a,.int .i64 b,.int .i64 c];clear hb2 H2;go_wp2_with fail;generalize w2.alloc (.cells #[.int .i64 a,.int .i64 b,.int .i64 c] 56)=W3 at *;refine(HN.out _).mono ?_;rintro e w4 ⟨rfl,hb4⟩;have HB4:Hid (zB w w4):=zT HB2.out hb4;have kv4:=kv.below hb4 kv.lt;have HKV:=zH kv4;clear hb4 HN kv kv4 HB2;have c0:=HKV.out.cell 0;have c1:=HKV.out.cell 1;have c2:=HKV.out.cell 2;have hl4:=HKV.out.lt;have d0:=(HKV.out.alloc (.cells #[.int .i64 a,.int .i64 b,.int .i64 ((c:Int)+1)] 56)).cell 0;have d1:=(HKV.out.alloc (.cells #[.int .i64 a,.int .i64 b,.int .i64 ((c:Int)+1)] 56)).cell 1;go_wp2_with fail;have HB6:Hid (zB w (w4.alloc (.cells #[.int .i64 ((a:Int)+1),.int .i64 (0),.int .i64 (0)] 56))):=zL HB4.out;generalize w4.alloc (.cells #[.int .i64 ((a:Int)+1),.int .i64 (0),.int .i64 (0)] 56)=W6 at *;refine(HM.out _).mono ?_;rintro e w7 ⟨rfl,hb7⟩;have HB7:Hid (zB w w7):=zT HB6.out hb7;clear hb7 c0 c1 c2 d0 d1;go_wp2_with fail;refine(HROW.out _).mono ?_;rintro e w5 ⟨x,y,rfl,q1,q2,q3⟩;have Q1:=zH q1;have Q2:Hid (∀g,(Value.slice x (tp (zc N M)).length y).ownBlock=some g->w.heap.size<=g):=fun g hg=>Nat.le_trans HB7.out.size (q2 g hg);have Q3:Hid (zB w w5):=zT HB7.out q3;clear q1 q2 q3;go_wp2;refine bodyPost_ret (v:=.tuple #[.slice x (tp (zc N M)).length y,.int .i64 0]) (by simp[results,Tryz.results82,go_sem]) rfl ?_;exact⟨_,x,y,0,rfl,Q1.out,Q2.out,Q3.out,rfl,rfl⟩
theorem zge(s:ByteArray)(w:World)(hs:s.size<=100000)(hw:Lb w)(h1:(s.toList==[97,110,121])=false)(h2:(s.toList==[110,111,110,101])=false)(a b c:Nat)(ha:a<=999)(hb:b<=999)(hc:c<=999)(hv:versF (ze s)=.ok [a,b,c])(ha0:¬0<a)(hb0:0<b)(hg:(s.extract 0 (s.size-(ze s).size)).toList=[94]):zC 82 #[.string s] w (qY w (.ok (zc (za a b c) (za (a) (b+1) (0))))):=by
 have HT:=zH (yh s w);have HP:Hid (∀W,zB w W->zR 52 #[.string (ze s)] W (.tuple #[.agg #[.int .i64 a,.int .i64 b,.int .i64 c],.int .i64 0])):=fun W hb=>by have:=rvparse_any splitC (ze s) W (Nat.le_trans (zX s) hs) (hw.below hb);rw[hv] at this;exact this
 have HN:Hid (∀W,zR 68 #[.agg #[.int .i64 a,.int .i64 b,.int .i64 c]] W (.int .i64 (za a b c))):=fun W=>qT a b c (by omega) (by omega) (by omega) W;have hN:=qJ ha hb hc;have hNi:(za a b c:Int)<1000000000:=by unfold ALL at hN;omega
 have HM:Hid (∀W,zR 68 #[.agg #[.int .i64 a,.int .i64 ((b:Int)+1),.int .i64 (0)]] W (.int .i64 (za (a) (b+1) (0):Int))):=fun W=>qT (a) (b+1) (0) (by omega) (by omega) (by omega) W;have HROW:Hid (∀W,zC 81 #[.int .i64 ((za a b c:Nat):Int),.int .i64 ((za (a) (b+1) (0):Nat):Int)] W (qM W (tp (zc (za a b c) (za (a) (b+1) (0)))))):=fun W=>yA (za a b c) (za (a) (b+1) (0)) W;obtain⟨M,hM⟩:∃M,za (a) (b+1) (0)=M:=⟨_,rfl⟩;rw[hM] at HM HROW ⊢;clear hM;have ha0':¬(0:Int)<(a:Int):=by omega
 have hb0':(0:Int)<(b:Int):=by omega
 have hts:=zX s;generalize ze s=t at *;have hq:(s.size:Int)-(t.size:Int)=((s.size-t.size:Nat):Int):=by omega
 have hqs:s.size-t.size<=s.size:=by omega
 generalize s.size-t.size=q at *;have i0:(0:Int)<=(q:Int):=by omega
 have i2:(q:Int)<=(s.size:Int):=by omega
 have hsl:=fun W'=>run_slice_string_h (P:=Tryz.prog) W' 9 s Tryz.underlying9 .i64 (q:Int) i0 i2;simp only[Int.toNat_natCast] at hsl;have hw1:wrap64 ((s.size:Int)-(t.size:Int))=(q:Int):=by rw[hq];unfold wrap64;omega
 have hw2:IntKind.i64.wrap ((s.size:Int)-(t.size:Int))=(q:Int):=by rw[IntKind.wrap_i64];unfold wrap64 at hw1;exact hw1
 have g0:((s.extract 0 q).toList==[])=false:=by rw[hg];rfl
 have g1:((s.extract 0 q).toList==[61])=false:=by rw[hg];rfl
 have g2:((s.extract 0 q).toList==[33])=false:=by rw[hg];rfl
 have g3:((s.extract 0 q).toList==[60])=false:=by rw[hg];rfl
 have g4:((s.extract 0 q).toList==[60,61])=false:=by rw[hg];rfl
 have g5:((s.extract 0 q).toList==[62])=false:=by rw[hg];rfl
 have g6:((s.extract 0 q).toList==[62,61])=false:=by rw[hg];rfl
 have g7:((s.extract 0 q).toList==[126])=false:=by rw[hg];rfl
 have g8:((s.extract 0 q).toList==[94])=true:=by rw[hg];rfl
 clear hg;clear hv hw hts hq hN;generalize za a b c=N at *;go_enter Tryz.func82,Tryz.ntmps82;go_wp2_with fail;refine HT.out.mono ?_;rintro e w1 ⟨rfl,hb1⟩;have H2:=zH (HP.out _ hb1);have HB1:=zH hb1;clear hb1 HP HT;go_wp2_with fail;refine H2.out.mono ?_;rintro e w2 ⟨rfl,hb2⟩;have HB2:Hid (zB w (w2.alloc (.cells #[.int .i64 a,.int .i64 b,.int .i64 c] 56))):=(zT HB1.out hb2).alloc (by have:=HB1.out.size;have:=hb2.size;omega) _;have kv:=Blk.new w2 56 #[.int .i64 a,.int .i64 b,.int .i64 c];clear hb2 H2;go_wp2_with fail;generalize w2.alloc (.cells #[.int .i64 a,.int .i64 b,.int .i64 c] 56)=W3 at *;refine(HN.out _).mono ?_;rintro e w4 ⟨rfl,hb4⟩;have HB4:Hid (zB w w4):=zT HB2.out hb4;have kv4:=kv.below hb4 kv.lt;have HKV:=zH kv4;clear hb4 HN kv kv4 HB2;have c0:=HKV.out.cell 0;have c1:=HKV.out.cell 1;have c2:=HKV.out.cell 2;have hl4:=HKV.out.lt;have d0:=(HKV.out.alloc (.cells #[.int .i64 a,.int .i64 b,.int .i64 ((c:Int)+1)] 56)).cell 0;have d1:=(HKV.out.alloc (.cells #[.int .i64 a,.int .i64 b,.int .i64 ((c:Int)+1)] 56)).cell 1;have e0:=(HKV.out.alloc (.cells #[.int .i64 a,.int .i64 ((b:Int)+1),.int .i64 0] 56)).cell 0;go_wp2_with fail;have HB6:Hid (zB w (w4.alloc (.cells #[.int .i64 a,.int .i64 ((b:Int)+1),.int .i64 (0)] 56))):=zL HB4.out;generalize w4.alloc (.cells #[.int .i64 a,.int .i64 ((b:Int)+1),.int .i64 (0)] 56)=W6 at *;refine(HM.out _).mono ?_;rintro e w7 ⟨rfl,hb7⟩;have HB7:Hid (zB w w7):=zT HB6.out hb7;clear hb7 c0 c1 c2 d0 d1;go_wp2_with fail;refine(HROW.out _).mono ?_;rintro e w5 ⟨x,y,rfl,q1,q2,q3⟩;have Q1:=zH q1;have Q2:Hid (∀g,(Value.slice x (tp (zc N M)).length y).ownBlock=some g->w.heap.size<=g):=fun g hg=>Nat.le_trans HB7.out.size (q2 g hg);have Q3:Hid (zB w w5):=zT HB7.out q3;clear q1 q2 q3;go_wp2;refine bodyPost_ret (v:=.tuple #[.slice x (tp (zc N M)).length y,.int .i64 0]) (by simp[results,Tryz.results82,go_sem]) rfl ?_;exact⟨_,x,y,0,rfl,Q1.out,Q2.out,Q3.out,rfl,rfl⟩
theorem zgL(s:ByteArray)(w:World)(hs:s.size<=100000)(hw:Lb w)(h1:(s.toList==[97,110,121])=false)(h2:(s.toList==[110,111,110,101])=false)(a b c:Nat)(ha:a<=999)(hb:b<=999)(hc:c<=999)(hv:versF (ze s)=.ok [a,b,c])(ha0:¬0<a)(hb0:¬0<b)(hg:(s.extract 0 (s.size-(ze s).size)).toList=[94]):zC 82 #[.string s] w (qY w (.ok (zc (za a b c) (za (a) (b) (c+1))))):=by
 have HT:=zH (yh s w);have HP:Hid (∀W,zB w W->zR 52 #[.string (ze s)] W (.tuple #[.agg #[.int .i64 a,.int .i64 b,.int .i64 c],.int .i64 0])):=fun W hb=>by have:=rvparse_any splitC (ze s) W (Nat.le_trans (zX s) hs) (hw.below hb);rw[hv] at this;exact this
 have HN:Hid (∀W,zR 68 #[.agg #[.int .i64 a,.int .i64 b,.int .i64 c]] W (.int .i64 (za a b c))):=fun W=>qT a b c (by omega) (by omega) (by omega) W;have hN:=qJ ha hb hc;have hNi:(za a b c:Int)<1000000000:=by unfold ALL at hN;omega
 have HM:Hid (∀W,zR 68 #[.agg #[.int .i64 a,.int .i64 b,.int .i64 ((c:Int)+1)]] W (.int .i64 (za (a) (b) (c+1):Int))):=fun W=>qT (a) (b) (c+1) (by omega) (by omega) (by omega) W;have HROW:Hid (∀W,zC 81 #[.int .i64 ((za a b c:Nat):Int),.int .i64 ((za (a) (b) (c+1):Nat):Int)] W (qM W (tp (zc (za a b c) (za (a) (b) (c+1)))))):=fun W=>yA (za a b c) (za (a) (b) (c+1)) W;obtain⟨M,hM⟩:∃M,za (a) (b) (c+1)=M:=⟨_,rfl⟩;rw[hM] at HM HROW ⊢;clear hM;have ha0':¬(0:Int)<(a:Int):=by omega
 have hb0':¬(0:Int)<(b:Int):=by omega
 have hts:=zX s;generalize ze s=t at *;have hq:(s.size:Int)-(t.size:Int)=((s.size-t.size:Nat):Int):=by omega
 have hqs:s.size-t.size<=s.size:=by omega
 generalize s.size-t.size=q at *;have i0:(0:Int)<=(q:Int):=by omega
 have i2:(q:Int)<=(s.size:Int):=by omega
 have hsl:=fun W'=>run_slice_string_h (P:=Tryz.prog) W' 9 s Tryz.underlying9 .i64 (q:Int) i0 i2;simp only[Int.toNat_natCast] at hsl;have hw1:wrap64 ((s.size:Int)-(t.size:Int))=(q:Int):=by rw[hq];unfold wrap64;omega
 have hw2:IntKind.i64.wrap ((s.size:Int)-(t.size:Int))=(q:Int):=by rw[IntKind.wrap_i64];unfold wrap64 at hw1;exact hw1
 have g0:((s.extract 0 q).toList==[])=false:=by rw[hg];rfl
 have g1:((s.extract 0 q).toList==[61])=false:=by rw[hg];rfl
 have g2:((s.extract 0 q).toList==[33])=false:=by rw[hg];rfl
 have g3:((s.extract 0 q).toList==[60])=false:=by rw[hg];rfl
 have g4:((s.extract 0 q).toList==[60,61])=false:=by rw[hg];rfl
 have g5:((s.extract 0 q).toList==[62])=false:=by rw[hg];rfl
 have g6:((s.extract 0 q).toList==[62,61])=false:=by rw[hg];rfl
 have g7:((s.extract 0 q).toList==[126])=false:=by rw[hg];rfl
 have g8:((s.extract 0 q).toList==[94])=true:=by rw[hg];rfl
 clear hg;clear hv hw hts hq hN;generalize za a b c=N at *;go_enter Tryz.func82,Tryz.ntmps82;go_wp2_with fail;refine HT.out.mono ?_;rintro e w1 ⟨rfl,hb1⟩;have H2:=zH (HP.out _ hb1);have HB1:=zH hb1;clear hb1 HP HT;go_wp2_with fail;refine H2.out.mono ?_;rintro e w2 ⟨rfl,hb2⟩;have HB2:Hid (zB w (w2.alloc (.cells #[.int .i64 a,.int .i64 b,.int .i64 c] 56))):=(zT HB1.out hb2).alloc (by have:=HB1.out.size;have:=hb2.size;omega) _;have kv:=Blk.new w2 56 #[.int .i64 a,.int .i64 b,.int .i64 c];clear hb2 H2;go_wp2_with fail;generalize w2.alloc (.cells #[.int .i64 a,.int .i64 b,.int .i64 c] 56)=W3 at *;refine(HN.out _).mono ?_;rintro e w4 ⟨rfl,hb4⟩;have HB4:Hid (zB w w4):=zT HB2.out hb4;have kv4:=kv.below hb4 kv.lt;have HKV:=zH kv4;clear hb4 HN kv kv4 HB2;have c0:=HKV.out.cell 0;have c1:=HKV.out.cell 1;have c2:=HKV.out.cell 2;have hl4:=HKV.out.lt;have d0:=(HKV.out.alloc (.cells #[.int .i64 a,.int .i64 b,.int .i64 ((c:Int)+1)] 56)).cell 0;have d1:=(HKV.out.alloc (.cells #[.int .i64 a,.int .i64 b,.int .i64 ((c:Int)+1)] 56)).cell 1;go_wp2_with fail;have HB6:Hid (zB w (w4.alloc (.cells #[.int .i64 a,.int .i64 b,.int .i64 ((c:Int)+1)] 56))):=zL HB4.out;generalize w4.alloc (.cells #[.int .i64 a,.int .i64 b,.int .i64 ((c:Int)+1)] 56)=W6 at *;refine(HM.out _).mono ?_;rintro e w7 ⟨rfl,hb7⟩;have HB7:Hid (zB w w7):=zT HB6.out hb7;clear hb7 c0 c1 c2 d0 d1;go_wp2_with fail;refine(HROW.out _).mono ?_;rintro e w5 ⟨x,y,rfl,q1,q2,q3⟩;have Q1:=zH q1;have Q2:Hid (∀g,(Value.slice x (tp (zc N M)).length y).ownBlock=some g->w.heap.size<=g):=fun g hg=>Nat.le_trans HB7.out.size (q2 g hg);have Q3:Hid (zB w w5):=zT HB7.out q3;clear q1 q2 q3;go_wp2;refine bodyPost_ret (v:=.tuple #[.slice x (tp (zc N M)).length y,.int .i64 0]) (by simp[results,Tryz.results82,go_sem]) rfl ?_;exact⟨_,x,y,0,rfl,Q1.out,Q2.out,Q3.out,rfl,rfl⟩
theorem zez(s:ByteArray)(w:World)(hs:s.size<=100000)(hw:Lb w)(h1:(s.toList==[97,110,121])=false)(h2:(s.toList==[110,111,110,101])=false)(a b c:Nat)(ha:a<=999)(hb:b<=999)(hc:c<=999)(hv:versF (ze s)=.ok [a,b,c])(hg0:(s.extract 0 (s.size-(ze s).size)).toList≠[])(hg1:(s.extract 0 (s.size-(ze s).size)).toList≠[61])(hg2:(s.extract 0 (s.size-(ze s).size)).toList≠[33])(hg3:(s.extract 0 (s.size-(ze s).size)).toList≠[60])(hg4:(s.extract 0 (s.size-(ze s).size)).toList≠[60,61])(hg5:(s.extract 0 (s.size-(ze s).size)).toList≠[62])(hg6:(s.extract 0 (s.size-(ze s).size)).toList≠[62,61])(hg7:(s.extract 0 (s.size-(ze s).size)).toList≠[126])(hg8:(s.extract 0 (s.size-(ze s).size)).toList≠[94]):zC 82 #[.string s] w (qY w (.error 3)):=by
 have HT:=zH (yh s w);have HP:Hid (∀W,zB w W->zR 52 #[.string (ze s)] W (.tuple #[.agg #[.int .i64 a,.int .i64 b,.int .i64 c],.int .i64 0])):=fun W hb=>by have:=rvparse_any splitC (ze s) W (Nat.le_trans (zX s) hs) (hw.below hb);rw[hv] at this;exact this
 have HN:Hid (∀W,zR 68 #[.agg #[.int .i64 a,.int .i64 b,.int .i64 c]] W (.int .i64 (za a b c))):=fun W=>qT a b c (by omega) (by omega) (by omega) W;have hN:=qJ ha hb hc;have hNi:(za a b c:Int)<1000000000:=by unfold ALL at hN;omega
 have hts:=zX s;generalize ze s=t at *;have hq:(s.size:Int)-(t.size:Int)=((s.size-t.size:Nat):Int):=by omega
 have hqs:s.size-t.size<=s.size:=by omega
 generalize s.size-t.size=q at *;have i0:(0:Int)<=(q:Int):=by omega
 have i2:(q:Int)<=(s.size:Int):=by omega
 have hsl:=fun W'=>run_slice_string_h (P:=Tryz.prog) W' 9 s Tryz.underlying9 .i64 (q:Int) i0 i2;simp only[Int.toNat_natCast] at hsl;have hw1:wrap64 ((s.size:Int)-(t.size:Int))=(q:Int):=by rw[hq];unfold wrap64;omega
 have hw2:IntKind.i64.wrap ((s.size:Int)-(t.size:Int))=(q:Int):=by rw[IntKind.wrap_i64];unfold wrap64 at hw1;exact hw1
 have g0:((s.extract 0 q).toList==[])=false:=by rw[beq_eq_false_iff_ne];exact hg0
 have g1:((s.extract 0 q).toList==[61])=false:=by rw[beq_eq_false_iff_ne];exact hg1
 have g2:((s.extract 0 q).toList==[33])=false:=by rw[beq_eq_false_iff_ne];exact hg2
 have g3:((s.extract 0 q).toList==[60])=false:=by rw[beq_eq_false_iff_ne];exact hg3
 have g4:((s.extract 0 q).toList==[60,61])=false:=by rw[beq_eq_false_iff_ne];exact hg4
 have g5:((s.extract 0 q).toList==[62])=false:=by rw[beq_eq_false_iff_ne];exact hg5
 have g6:((s.extract 0 q).toList==[62,61])=false:=by rw[beq_eq_false_iff_ne];exact hg6
 have g7:((s.extract 0 q).toList==[126])=false:=by rw[beq_eq_false_iff_ne];exact hg7
 have g8:((s.extract 0 q).toList==[94])=false:=by rw[beq_eq_false_iff_ne];exact hg8
 clear hg0 hg1 hg2 hg3 hg4 hg5 hg6 hg7 hg8;clear hv hw hts hq hN;generalize za a b c=N at *;go_enter Tryz.func82,Tryz.ntmps82;go_wp2_with fail;refine HT.out.mono ?_;rintro e w1 ⟨rfl,hb1⟩;have H2:=zH (HP.out _ hb1);have HB1:=zH hb1;clear hb1 HP HT;go_wp2_with fail;refine H2.out.mono ?_;rintro e w2 ⟨rfl,hb2⟩;have HB2:Hid (zB w (w2.alloc (.cells #[.int .i64 a,.int .i64 b,.int .i64 c] 56))):=(zT HB1.out hb2).alloc (by have:=HB1.out.size;have:=hb2.size;omega) _;have kv:=Blk.new w2 56 #[.int .i64 a,.int .i64 b,.int .i64 c];clear hb2 H2;go_wp2_with fail;generalize w2.alloc (.cells #[.int .i64 a,.int .i64 b,.int .i64 c] 56)=W3 at *;refine(HN.out _).mono ?_;rintro e w4 ⟨rfl,hb4⟩;have HB4:Hid (zB w w4):=zT HB2.out hb4;have kv4:=kv.below hb4 kv.lt;have HKV:=zH kv4;clear hb4 HN kv kv4 HB2;go_wp2_with fail;refine bodyPost_ret (v:=.tuple #[.slice none 0 0,.int .i64 3]) (by simp[results,Tryz.results82,go_sem]) rfl ?_;exact⟨[],none,0,3,rfl,nsAt_nil _,fun g hg=>by simp[Value.ownBlock] at hg,HB4.out,rfl,rfl⟩
theorem zeM(s:ByteArray)(w:World)(hs:s.size<=100000)(hw:Lb w)(h1:(s.toList==[97,110,121])=false)(h2:(s.toList==[110,111,110,101])=false)(a b c:Nat)(ha:a<=999)(hb:b<=999)(hc:c<=999)(hv:versF (ze s)=.ok [a,b,c]):zC 82 #[.string s] w (qY w (yk (s.extract 0 (s.size-(ze s).size)).toList a b c)):=by
 by_cases g0:(s.extract 0 (s.size-(ze s).size)).toList=[]
 ·rw[g0];exact zdn s w hs hw h1 h2 a b c ha hb hc hv g0
 by_cases g1:(s.extract 0 (s.size-(ze s).size)).toList=[61]
 ·rw[g1];exact zdH s w hs hw h1 h2 a b c ha hb hc hv g1
 by_cases g2:(s.extract 0 (s.size-(ze s).size)).toList=[33]
 ·rw[g2];exact zhN s w hs hw h1 h2 a b c ha hb hc hv g2
 by_cases g3:(s.extract 0 (s.size-(ze s).size)).toList=[60]
 ·rw[g3];exact zbw s w hs hw h1 h2 a b c ha hb hc hv g3
 by_cases g4:(s.extract 0 (s.size-(ze s).size)).toList=[60,61]
 ·rw[g4];exact zgU s w hs hw h1 h2 a b c ha hb hc hv g4
 by_cases g5:(s.extract 0 (s.size-(ze s).size)).toList=[62]
 ·rw[g5];exact zhw s w hs hw h1 h2 a b c ha hb hc hv g5
 by_cases g6:(s.extract 0 (s.size-(ze s).size)).toList=[62,61]
 ·rw[g6];exact zdp s w hs hw h1 h2 a b c ha hb hc hv g6
 by_cases g7:(s.extract 0 (s.size-(ze s).size)).toList=[126]
 ·rw[g7];exact zdC s w hs hw h1 h2 a b c ha hb hc hv g7
 by_cases g8:(s.extract 0 (s.size-(ze s).size)).toList=[94]
 ·rw[g8];have e:yk [94] a b c=.ok (zc (za a b c) (xR a b c)):=rfl;rw[e];unfold xR
  by_cases ha0:0<a
  ·rw[if_pos (by omega)]
   by_cases hb0:0<b
   ·exact zhs s w hs hw h1 h2 a b c ha hb hc hv ha0 hb0 g8
   ·exact zfN s w hs hw h1 h2 a b c ha hb hc hv ha0 hb0 g8
  ·rw[if_neg (by omega)]
   by_cases hb0:0<b
   ·rw[if_pos (by omega)];exact zge s w hs hw h1 h2 a b c ha hb hc hv ha0 hb0 g8
   ·rw[if_neg (by omega)];exact zgL s w hs hw h1 h2 a b c ha hb hc hv ha0 hb0 g8
 have e:yk (s.extract 0 (s.size-(ze s).size)).toList a b c=.error 3:=by
  unfold yk;simp[g0,g1,g2,g3,g4,g5,g6,g7,g8]
 rw[e];exact zez s w hs hw h1 h2 a b c ha hb hc hv g0 g1 g2 g3 g4 g5 g6 g7 g8
theorem zhI(s:ByteArray)(w:World)(hs:s.size<=100000)(hw:Lb w):zC 82 #[.string s] w (qY w (yu s)):=by
 unfold yu
 by_cases h1:s.toList=[97,110,121]
 ·rw[if_pos h1];exact zbO s w h1
 rw[if_neg h1]
 by_cases h2:s.toList=[110,111,110,101]
 ·rw[if_pos h2];exact zd7 s w h2
 rw[if_neg h2];have q1:(s.toList==[97,110,121])=false:=by rw[beq_eq_false_iff_ne];exact h1
 have q2:(s.toList==[110,111,110,101])=false:=by rw[beq_eq_false_iff_ne];exact h2
 cases hv:versF (ze s) with
 |error k=>exact ze2 s w hs hw q1 q2 k hv
 |ok ns =>obtain⟨hl,hn⟩:=versF_len hv;obtain⟨a,b,c,rfl⟩:=len3 hl;exact zeM s w hs hw q1 q2 a b c (hn a (by simp)) (hn b (by simp)) (hn c (by simp)) hv
end Go.Proofs.YtlamemjfaogjmaaGreatDoor
