import Derived.Test.YtoffdbflfikcoaaGreatDoorav
open Go.Proofs.Tryz
set_option maxHeartbeats 1000000
set_option maxRecDepth 100000
namespace Go.Proofs.YtoffdbflfikcoaaGreatDoor
open Go.RowKit Go.Shelf Sv
theorem zqb{l:List UInt8}{k:Int}(h:yp l=.error k):k≠0:=by
 unfold yp at h;split at h
 ·split at h
  ·cases h;decide
  ·split at h
   ·cases h;decide
   ·cases h
 ·cases h;decide
theorem zjT:∀{l:List (Nat × ByteArray)} {k:Int},qJ l=.error k->k≠0:=by
 intro l
 induction l with
 |nil=>intro k h;cases h
 |cons x l ih =>
  intro k h;unfold qJ at h;split at h
  ·rename_i hx;cases h;exact zqb hx
  ·split at h
   ·rename_i hx;cases h;exact ih hx
   ·cases h
theorem Jg{s:ByteArray}{k:Int}(h:zO s=.error k):k≠0:=by
 unfold zO at h;split at h
 ·exact zjT h
 ·cases h;decide
theorem zmD{g:List UInt8}{a b c:Nat}{k:Int}(h:xS g a b c=.error k):k=3:=by
 unfold xS at h
 repeat(split at h;· cases h)
 cases h;rfl
theorem zdL{s:ByteArray}{k:Int}(h:Za s=.error k):k≠0:=by
 unfold Za at h;split at h
 ·cases h
 ·split at h
  ·cases h
  ·split at h
   ·rename_i hx;cases h;exact Jg hx
   ·rw[zmD h];decide
def zlf(m:List Nat)(k:Int):Except Int (List zf)->Prop
 |.ok l=>m=tp l/\k=0
 |.error q=>m=[]/\k=q
def xi(w:World)(x:Except Int (List zf))(e:Ending)(w':World):Prop:=∃(m:List Nat) (a:Option Addr) (c:Nat) (k:Int),e=.returned (.tuple #[.slice a m.length c,k])/\zE w' (.slice a m.length c) m/\(∀g,(Value.slice a m.length c).ownBlock=some g->w.heap.size<=g)/\zB w w'/\zlf m k x
theorem zjA(s:ByteArray)(w:World)(h:s.toList=[97,110,121]):zC 122 #[s] w (xi w (.ok zm)):=by
 have h1:(s.toList==[97,110,121])=true:=by rw[h];rfl
 have HR:=zH (Zc 0 1000000000 w);have he:zi 0 1000000000=zm:=rfl;rw[he] at HR;have j:Hid (zC 121 #[(0:Int),(1000000000:Int)] w (yM w (tp zm))):=HR.out;clear HR he h;generalize zm=L at *;go_enter zsw,zsl;go_wp2_with fail;refine j.out.mono ?_;rintro e w' ⟨a,c,rfl,q1,q2,q3⟩;have Q1:=zH q1;have Q2:=zH q2;have Q3:=zH q3;clear q1 q2 q3;go_wp2;refine zc4 (v:=.tuple #[.slice a (tp L).length c,(0:Int)]) (by simp[results,results122,go_sem]) rfl ?_;exact⟨_,a,c,0,rfl,Q1.out,Q2.out,Q3.out,rfl,rfl⟩
theorem zq2(s:ByteArray)(w:World)(h:s.toList=[110,111,110,101]):zC 122 #[s] w (xi w (.ok [])):=by
 have h1:(s.toList==[97,110,121])=false:=by rw[h];rfl
 have h2:(s.toList==[110,111,110,101])=true:=by rw[h];rfl
 clear h;go_enter zsw,zsl;go_wp2;refine zc4 (v:=.tuple #[.slice none 0 0,(0:Int)]) (by simp[results,results122,go_sem]) rfl ?_;exact⟨[],none,0,0,rfl,xM _,fun g hg=>by simp[Value.ownBlock] at hg,zf0 _ _,rfl,rfl⟩
theorem zqu(s:ByteArray)(w:World)(hs:s.size<=100000)(hw:Lb w)(h1:(s.toList==[97,110,121])=false)(h2:(s.toList==[110,111,110,101])=false)(k:Int)(hv:zO (zj s)=.error k):zC 122 #[s] w (xi w (.error k)):=by
 have HT:=zH (xE s w);have HP:Hid (∀W,zB w W->zR 75 #[.string (zj s)] W (.tuple #[.agg #[(0:Int),(0:Int),(0:Int)],k])):=fun W hb=>by have:=yU yP (zj s) W (zf1 (qL s) hs) (hw.below hb);rw[hv] at this;exact this
 have hk:=Jg hv;have hk':(k != 0)=true:=by simpa using hk
 clear hv hw hk;generalize zj s=t at *;go_enter zsw,zsl;go_wp2_with fail;refine HT.out.mono ?_;rintro e w1 ⟨rfl,j⟩;have H2:=zH (HP.out _ j);have p:=zH j;clear j HP HT;go_wp2_with fail;refine H2.out.mono ?_;rintro e w2 ⟨rfl,o⟩;have q:Hid (zB w (w2.alloc (.cells #[(0:Int),(0:Int),(0:Int)] 91))):=(zT p.out o).alloc (by have:=p.out.size;have:=o.size;omega) _;clear o H2;go_wp2;refine zc4 (v:=.tuple #[.slice none 0 0,k]) (by simp[results,results122,go_sem]) rfl ?_;exact⟨[],none,0,k,rfl,xM _,fun g hg=>by simp[Value.ownBlock] at hg,q.out,rfl,rfl⟩
theorem zlH(s:ByteArray)(w:World)(hs:s.size<=100000)(hw:Lb w)(h1:(s.toList==[97,110,121])=false)(h2:(s.toList==[110,111,110,101])=false)(a b c:Nat)(ha:a<=999)(hb:b<=999)(hc:c<=999)(hv:zO (zj s)=.ok [a,b,c])(hg:(s.extract 0 (s.size-(zj s).size)).toList=[]):zC 122 #[s] w (xi w (.ok (zi (ze a b c) (ze a b c+1)))):=by
 have HT:=zH (xE s w);have HP:Hid (∀W,zB w W->zR 75 #[.string (zj s)] W (.tuple #[.agg #[a,b,c],(0:Int)])):=fun W hb=>by have:=yU yP (zj s) W (zf1 (qL s) hs) (hw.below hb);rw[hv] at this;exact this
 have HN:Hid (∀W,zR 143 #[.agg #[a,b,c]] W (.int .i64 (ze a b c))):=fun W=>yZ a b c (by omega) (by omega) (by omega) W;have hN:=yH ha hb hc;have Y:(ze a b c:Int)<1000000000:=by unfold ALL at hN;omega
 have j:Hid (∀W,zC 121 #[.int .i64 ((ze a b c:Nat):Int),.int .i64 (((ze a b c:Nat):Int)+1)] W (yM W (tp (zi (ze a b c) (ze a b c+1))))):=fun W=>Zc (ze a b c) (ze a b c+1) W;have V:=qL s;generalize zj s=t at *;have hq:(s.size:Int)-(t.size:Int)=((s.size-t.size:Nat):Int):=by omega
 have Z:s.size-t.size<=s.size:=by omega
 generalize s.size-t.size=q at *;have i0:(0:Int)<=(q:Int):=by omega
 have i2:(q:Int)<=(s.size:Int):=by omega
 have U:=fun W'=>run_slice_string_h (P:=prog) W' 9 s zrf .i64 (q:Int) i0 i2;simp only[zrh] at U;have M:wrap64 ((s.size:Int)-(t.size:Int))=(q:Int):=by rw[hq];unfold wrap64;omega
 have a0:IntKind.i64.wrap ((s.size:Int)-(t.size:Int))=(q:Int):=by rw[zrl];unfold wrap64 at M;exact M
 have g0:((s.extract 0 q).toList==[])=true:=by rw[hg];rfl
 clear hg;clear hv hw V hq hN;generalize ze a b c=N at *;go_enter zsw,zsl;go_wp2_with fail;refine HT.out.mono ?_;rintro e w1 ⟨rfl,o⟩;have H2:=zH (HP.out _ o);have C:=zH o;clear o HP HT;go_wp2_with fail;refine H2.out.mono ?_;rintro e w2 ⟨rfl,p⟩;have J:Hid (zB w (w2.alloc (.cells #[a,b,c] 91))):=(zT C.out p).alloc (by have:=C.out.size;have:=p.size;omega) _;have kv:=Blk.new w2 91 #[a,b,c];clear p H2;go_wp2_with fail;generalize w2.alloc (.cells #[a,b,c] 91)=W3 at *;refine(HN.out _).mono ?_;rintro e w4 ⟨rfl,u⟩;have K:Hid (zB w w4):=zT J.out u;have R:=kv.below u kv.lt;have X:=zH R;clear u HN kv R J;go_wp2_with fail;refine(j.out _).mono ?_;rintro e w5 ⟨x,y,rfl,q1,q2,q3⟩;have Q1:=zH q1;have Q2:Hid (∀g,(Value.slice x (tp (zi N (N+1))).length y).ownBlock=some g->w.heap.size<=g):=fun g hg=>zf1 K.out.size (q2 g hg);have Q3:Hid (zB w w5):=zT K.out q3;clear q1 q2 q3;go_wp2;refine zc4 (v:=.tuple #[.slice x (tp (zi N (N+1))).length y,(0:Int)]) (by simp[results,results122,go_sem]) rfl ?_;exact⟨_,x,y,0,rfl,Q1.out,Q2.out,Q3.out,rfl,rfl⟩
theorem znb(s:ByteArray)(w:World)(hs:s.size<=100000)(hw:Lb w)(h1:(s.toList==[97,110,121])=false)(h2:(s.toList==[110,111,110,101])=false)(a b c:Nat)(ha:a<=999)(hb:b<=999)(hc:c<=999)(hv:zO (zj s)=.ok [a,b,c])(hg:(s.extract 0 (s.size-(zj s).size)).toList=[61]):zC 122 #[s] w (xi w (.ok (zi (ze a b c) (ze a b c+1)))):=by
 have HT:=zH (xE s w);have HP:Hid (∀W,zB w W->zR 75 #[.string (zj s)] W (.tuple #[.agg #[a,b,c],(0:Int)])):=fun W hb=>by have:=yU yP (zj s) W (zf1 (qL s) hs) (hw.below hb);rw[hv] at this;exact this
 have HN:Hid (∀W,zR 143 #[.agg #[a,b,c]] W (.int .i64 (ze a b c))):=fun W=>yZ a b c (by omega) (by omega) (by omega) W;have hN:=yH ha hb hc;have Y:(ze a b c:Int)<1000000000:=by unfold ALL at hN;omega
 have j:Hid (∀W,zC 121 #[.int .i64 ((ze a b c:Nat):Int),.int .i64 (((ze a b c:Nat):Int)+1)] W (yM W (tp (zi (ze a b c) (ze a b c+1))))):=fun W=>Zc (ze a b c) (ze a b c+1) W;have V:=qL s;generalize zj s=t at *;have hq:(s.size:Int)-(t.size:Int)=((s.size-t.size:Nat):Int):=by omega
 have Z:s.size-t.size<=s.size:=by omega
 generalize s.size-t.size=q at *;have i0:(0:Int)<=(q:Int):=by omega
 have i2:(q:Int)<=(s.size:Int):=by omega
 have U:=fun W'=>run_slice_string_h (P:=prog) W' 9 s zrf .i64 (q:Int) i0 i2;simp only[zrh] at U;have M:wrap64 ((s.size:Int)-(t.size:Int))=(q:Int):=by rw[hq];unfold wrap64;omega
 have a0:IntKind.i64.wrap ((s.size:Int)-(t.size:Int))=(q:Int):=by rw[zrl];unfold wrap64 at M;exact M
 have g0:((s.extract 0 q).toList==[])=false:=by rw[hg];rfl
 have g1:((s.extract 0 q).toList==[61])=true:=by rw[hg];rfl
 clear hg;clear hv hw V hq hN;generalize ze a b c=N at *;go_enter zsw,zsl;go_wp2_with fail;refine HT.out.mono ?_;rintro e w1 ⟨rfl,o⟩;have H2:=zH (HP.out _ o);have C:=zH o;clear o HP HT;go_wp2_with fail;refine H2.out.mono ?_;rintro e w2 ⟨rfl,p⟩;have J:Hid (zB w (w2.alloc (.cells #[a,b,c] 91))):=(zT C.out p).alloc (by have:=C.out.size;have:=p.size;omega) _;have kv:=Blk.new w2 91 #[a,b,c];clear p H2;go_wp2_with fail;generalize w2.alloc (.cells #[a,b,c] 91)=W3 at *;refine(HN.out _).mono ?_;rintro e w4 ⟨rfl,u⟩;have K:Hid (zB w w4):=zT J.out u;have R:=kv.below u kv.lt;have X:=zH R;clear u HN kv R J;go_wp2_with fail;refine(j.out _).mono ?_;rintro e w5 ⟨x,y,rfl,q1,q2,q3⟩;have Q1:=zH q1;have Q2:Hid (∀g,(Value.slice x (tp (zi N (N+1))).length y).ownBlock=some g->w.heap.size<=g):=fun g hg=>zf1 K.out.size (q2 g hg);have Q3:Hid (zB w w5):=zT K.out q3;clear q1 q2 q3;go_wp2;refine zc4 (v:=.tuple #[.slice x (tp (zi N (N+1))).length y,(0:Int)]) (by simp[results,results122,go_sem]) rfl ?_;exact⟨_,x,y,0,rfl,Q1.out,Q2.out,Q3.out,rfl,rfl⟩
theorem zl9(s:ByteArray)(w:World)(hs:s.size<=100000)(hw:Lb w)(h1:(s.toList==[97,110,121])=false)(h2:(s.toList==[110,111,110,101])=false)(a b c:Nat)(ha:a<=999)(hb:b<=999)(hc:c<=999)(hv:zO (zj s)=.ok [a,b,c])(hg:(s.extract 0 (s.size-(zj s).size)).toList=[60]):zC 122 #[s] w (xi w (.ok (zi 0 (ze a b c)))):=by
 have HT:=zH (xE s w);have HP:Hid (∀W,zB w W->zR 75 #[.string (zj s)] W (.tuple #[.agg #[a,b,c],(0:Int)])):=fun W hb=>by have:=yU yP (zj s) W (zf1 (qL s) hs) (hw.below hb);rw[hv] at this;exact this
 have HN:Hid (∀W,zR 143 #[.agg #[a,b,c]] W (.int .i64 (ze a b c))):=fun W=>yZ a b c (by omega) (by omega) (by omega) W;have hN:=yH ha hb hc;have Y:(ze a b c:Int)<1000000000:=by unfold ALL at hN;omega
 have j:Hid (∀W,zC 121 #[.int .i64 (0),.int .i64 ((ze a b c:Nat):Int)] W (yM W (tp (zi (0) (ze a b c))))):=fun W=>Zc (0) (ze a b c) W;have V:=qL s;generalize zj s=t at *;have hq:(s.size:Int)-(t.size:Int)=((s.size-t.size:Nat):Int):=by omega
 have Z:s.size-t.size<=s.size:=by omega
 generalize s.size-t.size=q at *;have i0:(0:Int)<=(q:Int):=by omega
 have i2:(q:Int)<=(s.size:Int):=by omega
 have U:=fun W'=>run_slice_string_h (P:=prog) W' 9 s zrf .i64 (q:Int) i0 i2;simp only[zrh] at U;have M:wrap64 ((s.size:Int)-(t.size:Int))=(q:Int):=by rw[hq];unfold wrap64;omega
 have a0:IntKind.i64.wrap ((s.size:Int)-(t.size:Int))=(q:Int):=by rw[zrl];unfold wrap64 at M;exact M
 have g0:((s.extract 0 q).toList==[])=false:=by rw[hg];rfl
 have g1:((s.extract 0 q).toList==[61])=false:=by rw[hg];rfl
 have g2:((s.extract 0 q).toList==[33])=false:=by rw[hg];rfl
 have g3:((s.extract 0 q).toList==[60])=true:=by rw[hg];rfl
 clear hg;clear hv hw V hq hN;generalize ze a b c=N at *;go_enter zsw,zsl;go_wp2_with fail;refine HT.out.mono ?_;rintro e w1 ⟨rfl,o⟩;have H2:=zH (HP.out _ o);have C:=zH o;clear o HP HT;go_wp2_with fail;refine H2.out.mono ?_;rintro e w2 ⟨rfl,p⟩;have J:Hid (zB w (w2.alloc (.cells #[a,b,c] 91))):=(zT C.out p).alloc (by have:=C.out.size;have:=p.size;omega) _;have kv:=Blk.new w2 91 #[a,b,c];clear p H2;go_wp2_with fail;generalize w2.alloc (.cells #[a,b,c] 91)=W3 at *;refine(HN.out _).mono ?_;rintro e w4 ⟨rfl,u⟩;have K:Hid (zB w w4):=zT J.out u;have R:=kv.below u kv.lt;have X:=zH R;clear u HN kv R J;go_wp2_with fail;refine(j.out _).mono ?_;rintro e w5 ⟨x,y,rfl,q1,q2,q3⟩;have Q1:=zH q1;have Q2:Hid (∀g,(Value.slice x (tp (zi 0 N)).length y).ownBlock=some g->w.heap.size<=g):=fun g hg=>zf1 K.out.size (q2 g hg);have Q3:Hid (zB w w5):=zT K.out q3;clear q1 q2 q3;go_wp2;refine zc4 (v:=.tuple #[.slice x (tp (zi 0 N)).length y,(0:Int)]) (by simp[results,results122,go_sem]) rfl ?_;exact⟨_,x,y,0,rfl,Q1.out,Q2.out,Q3.out,rfl,rfl⟩
theorem zn2(s:ByteArray)(w:World)(hs:s.size<=100000)(hw:Lb w)(h1:(s.toList==[97,110,121])=false)(h2:(s.toList==[110,111,110,101])=false)(a b c:Nat)(ha:a<=999)(hb:b<=999)(hc:c<=999)(hv:zO (zj s)=.ok [a,b,c])(hg:(s.extract 0 (s.size-(zj s).size)).toList=[60,61]):zC 122 #[s] w (xi w (.ok (zi 0 (ze a b c+1)))):=by
 have HT:=zH (xE s w);have HP:Hid (∀W,zB w W->zR 75 #[.string (zj s)] W (.tuple #[.agg #[a,b,c],(0:Int)])):=fun W hb=>by have:=yU yP (zj s) W (zf1 (qL s) hs) (hw.below hb);rw[hv] at this;exact this
 have HN:Hid (∀W,zR 143 #[.agg #[a,b,c]] W (.int .i64 (ze a b c))):=fun W=>yZ a b c (by omega) (by omega) (by omega) W;have hN:=yH ha hb hc;have Y:(ze a b c:Int)<1000000000:=by unfold ALL at hN;omega
 have j:Hid (∀W,zC 121 #[.int .i64 (0),.int .i64 (((ze a b c:Nat):Int)+1)] W (yM W (tp (zi (0) (ze a b c+1))))):=fun W=>Zc (0) (ze a b c+1) W;have V:=qL s;generalize zj s=t at *;have hq:(s.size:Int)-(t.size:Int)=((s.size-t.size:Nat):Int):=by omega
 have Z:s.size-t.size<=s.size:=by omega
 generalize s.size-t.size=q at *;have i0:(0:Int)<=(q:Int):=by omega
 have i2:(q:Int)<=(s.size:Int):=by omega
 have U:=fun W'=>run_slice_string_h (P:=prog) W' 9 s zrf .i64 (q:Int) i0 i2;simp only[zrh] at U;have M:wrap64 ((s.size:Int)-(t.size:Int))=(q:Int):=by rw[hq];unfold wrap64;omega
 have a0:IntKind.i64.wrap ((s.size:Int)-(t.size:Int))=(q:Int):=by rw[zrl];unfold wrap64 at M;exact M
 have g0:((s.extract 0 q).toList==[])=false:=by rw[hg];rfl
 have g1:((s.extract 0 q).toList==[61])=false:=by rw[hg];rfl
 have g2:((s.extract 0 q).toList==[33])=false:=by rw[hg];rfl
 have g3:((s.extract 0 q).toList==[60])=false:=by rw[hg];rfl
 have g4:((s.extract 0 q).toList==[60,61])=true:=by rw[hg];rfl
 clear hg;clear hv hw V hq hN;generalize ze a b c=N at *;go_enter zsw,zsl;go_wp2_with fail;refine HT.out.mono ?_;rintro e w1 ⟨rfl,o⟩;have H2:=zH (HP.out _ o);have C:=zH o;clear o HP HT;go_wp2_with fail;refine H2.out.mono ?_;rintro e w2 ⟨rfl,p⟩;have J:Hid (zB w (w2.alloc (.cells #[a,b,c] 91))):=(zT C.out p).alloc (by have:=C.out.size;have:=p.size;omega) _;have kv:=Blk.new w2 91 #[a,b,c];clear p H2;go_wp2_with fail;generalize w2.alloc (.cells #[a,b,c] 91)=W3 at *;refine(HN.out _).mono ?_;rintro e w4 ⟨rfl,u⟩;have K:Hid (zB w w4):=zT J.out u;have R:=kv.below u kv.lt;have X:=zH R;clear u HN kv R J;go_wp2_with fail;refine(j.out _).mono ?_;rintro e w5 ⟨x,y,rfl,q1,q2,q3⟩;have Q1:=zH q1;have Q2:Hid (∀g,(Value.slice x (tp (zi 0 (N+1))).length y).ownBlock=some g->w.heap.size<=g):=fun g hg=>zf1 K.out.size (q2 g hg);have Q3:Hid (zB w w5):=zT K.out q3;clear q1 q2 q3;go_wp2;refine zc4 (v:=.tuple #[.slice x (tp (zi 0 (N+1))).length y,(0:Int)]) (by simp[results,results122,go_sem]) rfl ?_;exact⟨_,x,y,0,rfl,Q1.out,Q2.out,Q3.out,rfl,rfl⟩
theorem zq4(s:ByteArray)(w:World)(hs:s.size<=100000)(hw:Lb w)(h1:(s.toList==[97,110,121])=false)(h2:(s.toList==[110,111,110,101])=false)(a b c:Nat)(ha:a<=999)(hb:b<=999)(hc:c<=999)(hv:zO (zj s)=.ok [a,b,c])(hg:(s.extract 0 (s.size-(zj s).size)).toList=[62]):zC 122 #[s] w (xi w (.ok (zi (ze a b c+1) 1000000000))):=by
 have HT:=zH (xE s w);have HP:Hid (∀W,zB w W->zR 75 #[.string (zj s)] W (.tuple #[.agg #[a,b,c],(0:Int)])):=fun W hb=>by have:=yU yP (zj s) W (zf1 (qL s) hs) (hw.below hb);rw[hv] at this;exact this
 have HN:Hid (∀W,zR 143 #[.agg #[a,b,c]] W (.int .i64 (ze a b c))):=fun W=>yZ a b c (by omega) (by omega) (by omega) W;have hN:=yH ha hb hc;have Y:(ze a b c:Int)<1000000000:=by unfold ALL at hN;omega
 have j:Hid (∀W,zC 121 #[.int .i64 (((ze a b c:Nat):Int)+1),.int .i64 (1000000000)] W (yM W (tp (zi (ze a b c+1) (1000000000))))):=fun W=>Zc (ze a b c+1) (1000000000) W;have V:=qL s;generalize zj s=t at *;have hq:(s.size:Int)-(t.size:Int)=((s.size-t.size:Nat):Int):=by omega
 have Z:s.size-t.size<=s.size:=by omega
 generalize s.size-t.size=q at *;have i0:(0:Int)<=(q:Int):=by omega
 have i2:(q:Int)<=(s.size:Int):=by omega
 have U:=fun W'=>run_slice_string_h (P:=prog) W' 9 s zrf .i64 (q:Int) i0 i2;simp only[zrh] at U;have M:wrap64 ((s.size:Int)-(t.size:Int))=(q:Int):=by rw[hq];unfold wrap64;omega
 have a0:IntKind.i64.wrap ((s.size:Int)-(t.size:Int))=(q:Int):=by rw[zrl];unfold wrap64 at M;exact M
 have g0:((s.extract 0 q).toList==[])=false:=by rw[hg];rfl
 have g1:((s.extract 0 q).toList==[61])=false:=by rw[hg];rfl
 have g2:((s.extract 0 q).toList==[33])=false:=by rw[hg];rfl
 have g3:((s.extract 0 q).toList==[60])=false:=by rw[hg];rfl
 have g4:((s.extract 0 q).toList==[60,61])=false:=by rw[hg];rfl
 have g5:((s.extract 0 q).toList==[62])=true:=by rw[hg];rfl
 clear hg;clear hv hw V hq hN;generalize ze a b c=N at *;go_enter zsw,zsl;go_wp2_with fail;refine HT.out.mono ?_;rintro e w1 ⟨rfl,o⟩;have H2:=zH (HP.out _ o);have C:=zH o;clear o HP HT;go_wp2_with fail;refine H2.out.mono ?_;rintro e w2 ⟨rfl,p⟩;have J:Hid (zB w (w2.alloc (.cells #[a,b,c] 91))):=(zT C.out p).alloc (by have:=C.out.size;have:=p.size;omega) _;have kv:=Blk.new w2 91 #[a,b,c];clear p H2;go_wp2_with fail;generalize w2.alloc (.cells #[a,b,c] 91)=W3 at *;refine(HN.out _).mono ?_;rintro e w4 ⟨rfl,u⟩;have K:Hid (zB w w4):=zT J.out u;have R:=kv.below u kv.lt;have X:=zH R;clear u HN kv R J;go_wp2_with fail;refine(j.out _).mono ?_;rintro e w5 ⟨x,y,rfl,q1,q2,q3⟩;have Q1:=zH q1;have Q2:Hid (∀g,(Value.slice x (tp (zi (N+1) 1000000000)).length y).ownBlock=some g->w.heap.size<=g):=fun g hg=>zf1 K.out.size (q2 g hg);have Q3:Hid (zB w w5):=zT K.out q3;clear q1 q2 q3;go_wp2;refine zc4 (v:=.tuple #[.slice x (tp (zi (N+1) 1000000000)).length y,(0:Int)]) (by simp[results,results122,go_sem]) rfl ?_;exact⟨_,x,y,0,rfl,Q1.out,Q2.out,Q3.out,rfl,rfl⟩
theorem zhi(s:ByteArray)(w:World)(hs:s.size<=100000)(hw:Lb w)(h1:(s.toList==[97,110,121])=false)(h2:(s.toList==[110,111,110,101])=false)(a b c:Nat)(ha:a<=999)(hb:b<=999)(hc:c<=999)(hv:zO (zj s)=.ok [a,b,c])(hg:(s.extract 0 (s.size-(zj s).size)).toList=[62,61]):zC 122 #[s] w (xi w (.ok (zi (ze a b c) 1000000000))):=by
 have HT:=zH (xE s w);have HP:Hid (∀W,zB w W->zR 75 #[.string (zj s)] W (.tuple #[.agg #[a,b,c],(0:Int)])):=fun W hb=>by have:=yU yP (zj s) W (zf1 (qL s) hs) (hw.below hb);rw[hv] at this;exact this
 have HN:Hid (∀W,zR 143 #[.agg #[a,b,c]] W (.int .i64 (ze a b c))):=fun W=>yZ a b c (by omega) (by omega) (by omega) W;have hN:=yH ha hb hc;have Y:(ze a b c:Int)<1000000000:=by unfold ALL at hN;omega
 have j:Hid (∀W,zC 121 #[.int .i64 ((ze a b c:Nat):Int),.int .i64 (1000000000)] W (yM W (tp (zi (ze a b c) (1000000000))))):=fun W=>Zc (ze a b c) (1000000000) W;have V:=qL s;generalize zj s=t at *;have hq:(s.size:Int)-(t.size:Int)=((s.size-t.size:Nat):Int):=by omega
 have Z:s.size-t.size<=s.size:=by omega
 generalize s.size-t.size=q at *;have i0:(0:Int)<=(q:Int):=by omega
 have i2:(q:Int)<=(s.size:Int):=by omega
 have U:=fun W'=>run_slice_string_h (P:=prog) W' 9 s zrf .i64 (q:Int) i0 i2;simp only[zrh] at U;have M:wrap64 ((s.size:Int)-(t.size:Int))=(q:Int):=by rw[hq];unfold wrap64;omega
 have a0:IntKind.i64.wrap ((s.size:Int)-(t.size:Int))=(q:Int):=by rw[zrl];unfold wrap64 at M;exact M
 have g0:((s.extract 0 q).toList==[])=false:=by rw[hg];rfl
 have g1:((s.extract 0 q).toList==[61])=false:=by rw[hg];rfl
 have g2:((s.extract 0 q).toList==[33])=false:=by rw[hg];rfl
 have g3:((s.extract 0 q).toList==[60])=false:=by rw[hg];rfl
 have g4:((s.extract 0 q).toList==[60,61])=false:=by rw[hg];rfl
 have g5:((s.extract 0 q).toList==[62])=false:=by rw[hg];rfl
 have g6:((s.extract 0 q).toList==[62,61])=true:=by rw[hg];rfl
 clear hg;clear hv hw V hq hN;generalize ze a b c=N at *;go_enter zsw,zsl;go_wp2_with fail;refine HT.out.mono ?_;rintro e w1 ⟨rfl,o⟩;have H2:=zH (HP.out _ o);have C:=zH o;clear o HP HT;go_wp2_with fail;refine H2.out.mono ?_;rintro e w2 ⟨rfl,p⟩;have J:Hid (zB w (w2.alloc (.cells #[a,b,c] 91))):=(zT C.out p).alloc (by have:=C.out.size;have:=p.size;omega) _;have kv:=Blk.new w2 91 #[a,b,c];clear p H2;go_wp2_with fail;generalize w2.alloc (.cells #[a,b,c] 91)=W3 at *;refine(HN.out _).mono ?_;rintro e w4 ⟨rfl,u⟩;have K:Hid (zB w w4):=zT J.out u;have R:=kv.below u kv.lt;have X:=zH R;clear u HN kv R J;go_wp2_with fail;refine(j.out _).mono ?_;rintro e w5 ⟨x,y,rfl,q1,q2,q3⟩;have Q1:=zH q1;have Q2:Hid (∀g,(Value.slice x (tp (zi N 1000000000)).length y).ownBlock=some g->w.heap.size<=g):=fun g hg=>zf1 K.out.size (q2 g hg);have Q3:Hid (zB w w5):=zT K.out q3;clear q1 q2 q3;go_wp2;refine zc4 (v:=.tuple #[.slice x (tp (zi N 1000000000)).length y,(0:Int)]) (by simp[results,results122,go_sem]) rfl ?_;exact⟨_,x,y,0,rfl,Q1.out,Q2.out,Q3.out,rfl,rfl⟩
theorem zm8(s:ByteArray)(w:World)(hs:s.size<=100000)(hw:Lb w)(h1:(s.toList==[97,110,121])=false)(h2:(s.toList==[110,111,110,101])=false)(a b c:Nat)(ha:a<=999)(hb:b<=999)(hc:c<=999)(hv:zO (zj s)=.ok [a,b,c])(hg:(s.extract 0 (s.size-(zj s).size)).toList=[33]):zC 122 #[s] w (xi w (.ok (nt (zi (ze a b c) (ze a b c+1))))):=by
 have HT:=zH (xE s w);have HP:Hid (∀W,zB w W->zR 75 #[.string (zj s)] W (.tuple #[.agg #[a,b,c],(0:Int)])):=fun W hb=>by have:=yU yP (zj s) W (zf1 (qL s) hs) (hw.below hb);rw[hv] at this;exact this
 have HN:Hid (∀W,zR 143 #[.agg #[a,b,c]] W (.int .i64 (ze a b c))):=fun W=>yZ a b c (by omega) (by omega) (by omega) W;have hN:=yH ha hb hc;have a0:(ze a b c:Int)<1000000000:=by unfold ALL at hN;omega
 have o:Hid (∀W,zC 121 #[.int .i64 ((ze a b c:Nat):Int),.int .i64 (((ze a b c:Nat):Int)+1)] W (yM W (tp (zi (ze a b c) (ze a b c+1))))):=fun W=>Zc (ze a b c) (ze a b c+1) W;have Y:=qL s;generalize zj s=t at *;have hq:(s.size:Int)-(t.size:Int)=((s.size-t.size:Nat):Int):=by omega
 have a1:s.size-t.size<=s.size:=by omega
 generalize s.size-t.size=q at *;have i0:(0:Int)<=(q:Int):=by omega
 have i2:(q:Int)<=(s.size:Int):=by omega
 have X:=fun W'=>run_slice_string_h (P:=prog) W' 9 s zrf .i64 (q:Int) i0 i2;simp only[zrh] at X;have R:wrap64 ((s.size:Int)-(t.size:Int))=(q:Int):=by rw[hq];unfold wrap64;omega
 have a2:IntKind.i64.wrap ((s.size:Int)-(t.size:Int))=(q:Int):=by rw[zrl];unfold wrap64 at R;exact R
 have g0:((s.extract 0 q).toList==[])=false:=by rw[hg];rfl
 have g1:((s.extract 0 q).toList==[61])=false:=by rw[hg];rfl
 have g2:((s.extract 0 q).toList==[33])=true:=by rw[hg];rfl
 clear hg;clear hv hw Y hq hN;generalize ze a b c=N at *;go_enter zsw,zsl;go_wp2_with fail;refine HT.out.mono ?_;rintro e w1 ⟨rfl,p⟩;have H2:=zH (HP.out _ p);have J:=zH p;clear p HP HT;go_wp2_with fail;refine H2.out.mono ?_;rintro e w2 ⟨rfl,u⟩;have K:Hid (zB w (w2.alloc (.cells #[a,b,c] 91))):=(zT J.out u).alloc (by have:=J.out.size;have:=u.size;omega) _;have kv:=Blk.new w2 91 #[a,b,c];clear u H2;go_wp2_with fail;generalize w2.alloc (.cells #[a,b,c] 91)=W3 at *;refine(HN.out _).mono ?_;rintro e w4 ⟨rfl,C⟩;have V:Hid (zB w w4):=zT K.out C;have U:=kv.below C kv.lt;have Z:=zH U;clear C HN kv U K;go_wp2_with fail;refine(o.out _).mono ?_;rintro e w5 ⟨x,y,rfl,q1,q2,q3⟩;have M:Hid (zB w w5):=zT V.out q3;have j:=zH (zkZ (zi N (N+1)) (XW (by unfold ALL;omega)) _ w5 q1);clear q1 q2 q3;go_wp2_with fail;refine j.out.mono ?_;rintro e w6 ⟨x6,y6,rfl,q1,q2,q3⟩;have Q1:=zH q1;have Q2:Hid (∀g,(Value.slice x6 (tp (nt (zi N (N+1)))).length y6).ownBlock=some g->w.heap.size<=g):=fun g hg=>zf1 M.out.size (q2 g hg);have Q3:Hid (zB w w6):=zT M.out q3;clear q1 q2 q3;go_wp2;refine zc4 (v:=.tuple #[.slice x6 (tp (nt (zi N (N+1)))).length y6,(0:Int)]) (by simp[results,results122,go_sem]) rfl ?_;exact⟨_,x6,y6,0,rfl,Q1.out,Q2.out,Q3.out,rfl,rfl⟩
theorem zj5(s:ByteArray)(w:World)(hs:s.size<=100000)(hw:Lb w)(h1:(s.toList==[97,110,121])=false)(h2:(s.toList==[110,111,110,101])=false)(a b c:Nat)(ha:a<=999)(hb:b<=999)(hc:c<=999)(hv:zO (zj s)=.ok [a,b,c])(hg:(s.extract 0 (s.size-(zj s).size)).toList=[126]):zC 122 #[s] w (xi w (.ok (zi (ze a b c) (ze a (b+1) 0)))):=by
 have HT:=zH (xE s w);have HP:Hid (∀W,zB w W->zR 75 #[.string (zj s)] W (.tuple #[.agg #[a,b,c],(0:Int)])):=fun W hb=>by have:=yU yP (zj s) W (zf1 (qL s) hs) (hw.below hb);rw[hv] at this;exact this
 have HN:Hid (∀W,zR 143 #[.agg #[a,b,c]] W (.int .i64 (ze a b c))):=fun W=>yZ a b c (by omega) (by omega) (by omega) W;have hN:=yH ha hb hc;have a1:(ze a b c:Int)<1000000000:=by unfold ALL at hN;omega
 have HM:Hid (∀W,zR 143 #[.agg #[a,.int .i64 ((b:Int)+1),(0:Int)]] W (.int .i64 (ze a (b+1) 0:Int))):=fun W=>yZ a (b+1) 0 (by omega) (by omega) (by omega) W;have j:Hid (∀W,zC 121 #[.int .i64 ((ze a b c:Nat):Int),.int .i64 ((ze a (b+1) 0:Nat):Int)] W (yM W (tp (zi (ze a b c) (ze a (b+1) 0))))):=fun W=>Zc (ze a b c) (ze a (b+1) 0) W;obtain⟨M,hM⟩:∃M,ze a (b+1) 0=M:=⟨_,rfl⟩;rw[hM] at HM j ⊢;clear hM;have a0:=qL s;generalize zj s=t at *;have hq:(s.size:Int)-(t.size:Int)=((s.size-t.size:Nat):Int):=by omega
 have a2:s.size-t.size<=s.size:=by omega
 generalize s.size-t.size=q at *;have i0:(0:Int)<=(q:Int):=by omega
 have i2:(q:Int)<=(s.size:Int):=by omega
 have Z:=fun W'=>run_slice_string_h (P:=prog) W' 9 s zrf .i64 (q:Int) i0 i2;simp only[zrh] at Z;have V:wrap64 ((s.size:Int)-(t.size:Int))=(q:Int):=by rw[hq];unfold wrap64;omega
 have a3:IntKind.i64.wrap ((s.size:Int)-(t.size:Int))=(q:Int):=by rw[zrl];unfold wrap64 at V;exact V
 have g0:((s.extract 0 q).toList==[])=false:=by rw[hg];rfl
 have g1:((s.extract 0 q).toList==[61])=false:=by rw[hg];rfl
 have g2:((s.extract 0 q).toList==[33])=false:=by rw[hg];rfl
 have g3:((s.extract 0 q).toList==[60])=false:=by rw[hg];rfl
 have g4:((s.extract 0 q).toList==[60,61])=false:=by rw[hg];rfl
 have g5:((s.extract 0 q).toList==[62])=false:=by rw[hg];rfl
 have g6:((s.extract 0 q).toList==[62,61])=false:=by rw[hg];rfl
 have g7:((s.extract 0 q).toList==[126])=true:=by rw[hg];rfl
 clear hg;clear hv hw a0 hq hN;generalize ze a b c=N at *;go_enter zsw,zsl;go_wp2_with fail;refine HT.out.mono ?_;rintro e w1 ⟨rfl,o⟩;have H2:=zH (HP.out _ o);have C:=zH o;clear o HP HT;go_wp2_with fail;refine H2.out.mono ?_;rintro e w2 ⟨rfl,p⟩;have J:Hid (zB w (w2.alloc (.cells #[a,b,c] 91))):=(zT C.out p).alloc (by have:=C.out.size;have:=p.size;omega) _;have kv:=Blk.new w2 91 #[a,b,c];clear p H2;go_wp2_with fail;generalize w2.alloc (.cells #[a,b,c] 91)=W3 at *;refine(HN.out _).mono ?_;rintro e w4 ⟨rfl,u⟩;have Y:Hid (zB w w4):=zT J.out u;have X:=kv.below u kv.lt;have R:=zH X;clear u HN kv X J;have c0:=R.out.cell 0;have c1:=R.out.cell 1;go_wp2_with fail;refine(HM.out _).mono ?_;rintro e w7 ⟨rfl,U⟩;have K:Hid (zB w w7):=zT Y.out U;clear U c0 c1;go_wp2_with fail;refine(j.out _).mono ?_;rintro e w5 ⟨x,y,rfl,q1,q2,q3⟩;have Q1:=zH q1;have Q2:Hid (∀g,(Value.slice x (tp (zi N M)).length y).ownBlock=some g->w.heap.size<=g):=fun g hg=>zf1 K.out.size (q2 g hg);have Q3:Hid (zB w w5):=zT K.out q3;clear q1 q2 q3;go_wp2;refine zc4 (v:=.tuple #[.slice x (tp (zi N M)).length y,(0:Int)]) (by simp[results,results122,go_sem]) rfl ?_;exact⟨_,x,y,0,rfl,Q1.out,Q2.out,Q3.out,rfl,rfl⟩
theorem zjX(s:ByteArray)(w:World)(hs:s.size<=100000)(hw:Lb w)(h1:(s.toList==[97,110,121])=false)(h2:(s.toList==[110,111,110,101])=false)(a b c:Nat)(ha:a<=999)(hb:b<=999)(hc:c<=999)(hv:zO (zj s)=.ok [a,b,c])(ha0:0<a)(hb0:0<b)(hg:(s.extract 0 (s.size-(zj s).size)).toList=[94]):zC 122 #[s] w (xi w (.ok (zi (ze a b c) (ze (a+1) (0) (0))))):=by
 have HT:=zH (xE s w);have HP:Hid (∀W,zB w W->zR 75 #[.string (zj s)] W (.tuple #[.agg #[a,b,c],(0:Int)])):=fun W hb=>by have:=yU yP (zj s) W (zf1 (qL s) hs) (hw.below hb);rw[hv] at this;exact this
 have HN:Hid (∀W,zR 143 #[.agg #[a,b,c]] W (.int .i64 (ze a b c))):=fun W=>yZ a b c (by omega) (by omega) (by omega) W;have hN:=yH ha hb hc;have a2:(ze a b c:Int)<1000000000:=by unfold ALL at hN;omega
 have HM:Hid (∀W,zR 143 #[.agg #[.int .i64 ((a:Int)+1),.int .i64 (0),.int .i64 (0)]] W (.int .i64 (ze (a+1) (0) (0):Int))):=fun W=>yZ (a+1) (0) (0) (by omega) (by omega) (by omega) W;have o:Hid (∀W,zC 121 #[.int .i64 ((ze a b c:Nat):Int),.int .i64 ((ze (a+1) (0) (0):Nat):Int)] W (yM W (tp (zi (ze a b c) (ze (a+1) (0) (0)))))):=fun W=>Zc (ze a b c) (ze (a+1) (0) (0)) W;obtain⟨M,hM⟩:∃M,ze (a+1) (0) (0)=M:=⟨_,rfl⟩;rw[hM] at HM o ⊢;clear hM;have ha0':(0:Int)<(a:Int):=by omega
 have hb0':(0:Int)<(b:Int):=by omega
 have a1:=qL s;generalize zj s=t at *;have hq:(s.size:Int)-(t.size:Int)=((s.size-t.size:Nat):Int):=by omega
 have a4:s.size-t.size<=s.size:=by omega
 generalize s.size-t.size=q at *;have i0:(0:Int)<=(q:Int):=by omega
 have i2:(q:Int)<=(s.size:Int):=by omega
 have a0:=fun W'=>run_slice_string_h (P:=prog) W' 9 s zrf .i64 (q:Int) i0 i2;simp only[zrh] at a0;have V:wrap64 ((s.size:Int)-(t.size:Int))=(q:Int):=by rw[hq];unfold wrap64;omega
 have a5:IntKind.i64.wrap ((s.size:Int)-(t.size:Int))=(q:Int):=by rw[zrl];unfold wrap64 at V;exact V
 have g0:((s.extract 0 q).toList==[])=false:=by rw[hg];rfl
 have g1:((s.extract 0 q).toList==[61])=false:=by rw[hg];rfl
 have g2:((s.extract 0 q).toList==[33])=false:=by rw[hg];rfl
 have g3:((s.extract 0 q).toList==[60])=false:=by rw[hg];rfl
 have g4:((s.extract 0 q).toList==[60,61])=false:=by rw[hg];rfl
 have g5:((s.extract 0 q).toList==[62])=false:=by rw[hg];rfl
 have g6:((s.extract 0 q).toList==[62,61])=false:=by rw[hg];rfl
 have g7:((s.extract 0 q).toList==[126])=false:=by rw[hg];rfl
 have g8:((s.extract 0 q).toList==[94])=true:=by rw[hg];rfl
 clear hg;clear hv hw a1 hq hN;generalize ze a b c=N at *;go_enter zsw,zsl;go_wp2_with fail;refine HT.out.mono ?_;rintro e w1 ⟨rfl,p⟩;have H2:=zH (HP.out _ p);have J:=zH p;clear p HP HT;go_wp2_with fail;refine H2.out.mono ?_;rintro e w2 ⟨rfl,u⟩;have K:Hid (zB w (w2.alloc (.cells #[a,b,c] 91))):=(zT J.out u).alloc (by have:=J.out.size;have:=u.size;omega) _;have kv:=Blk.new w2 91 #[a,b,c];clear u H2;go_wp2_with fail;generalize w2.alloc (.cells #[a,b,c] 91)=W3 at *;refine(HN.out _).mono ?_;rintro e w4 ⟨rfl,C⟩;have Y:Hid (zB w w4):=zT K.out C;have X:=kv.below C kv.lt;have j:=zH X;clear C HN kv X K;have c0:=j.out.cell 0;have c1:=j.out.cell 1;have c2:=j.out.cell 2;have a3:=j.out.lt;have d0:=(j.out.alloc (.cells #[a,b,.int .i64 ((c:Int)+1)] 91)).cell 0;have d1:=(j.out.alloc (.cells #[a,b,.int .i64 ((c:Int)+1)] 91)).cell 1;have e0:=(j.out.alloc (.cells #[a,.int .i64 ((b:Int)+1),(0:Int)] 91)).cell 0;go_wp2_with fail;have Z:Hid (zB w (w4.alloc (.cells #[.int .i64 ((a:Int)+1),.int .i64 (0),.int .i64 (0)] 91))):=zL Y.out;generalize w4.alloc (.cells #[.int .i64 ((a:Int)+1),.int .i64 (0),.int .i64 (0)] 91)=W6 at *;refine(HM.out _).mono ?_;rintro e w7 ⟨rfl,U⟩;have R:Hid (zB w w7):=zT Z.out U;clear U c0 c1 c2 d0 d1;go_wp2_with fail;refine(o.out _).mono ?_;rintro e w5 ⟨x,y,rfl,q1,q2,q3⟩;have Q1:=zH q1;have Q2:Hid (∀g,(Value.slice x (tp (zi N M)).length y).ownBlock=some g->w.heap.size<=g):=fun g hg=>zf1 R.out.size (q2 g hg);have Q3:Hid (zB w w5):=zT R.out q3;clear q1 q2 q3;go_wp2;refine zc4 (v:=.tuple #[.slice x (tp (zi N M)).length y,(0:Int)]) (by simp[results,results122,go_sem]) rfl ?_;exact⟨_,x,y,0,rfl,Q1.out,Q2.out,Q3.out,rfl,rfl⟩
theorem zpl(s:ByteArray)(w:World)(hs:s.size<=100000)(hw:Lb w)(h1:(s.toList==[97,110,121])=false)(h2:(s.toList==[110,111,110,101])=false)(a b c:Nat)(ha:a<=999)(hb:b<=999)(hc:c<=999)(hv:zO (zj s)=.ok [a,b,c])(ha0:0<a)(hb0:¬0<b)(hg:(s.extract 0 (s.size-(zj s).size)).toList=[94]):zC 122 #[s] w (xi w (.ok (zi (ze a b c) (ze (a+1) (0) (0))))):=by
 have HT:=zH (xE s w);have HP:Hid (∀W,zB w W->zR 75 #[.string (zj s)] W (.tuple #[.agg #[a,b,c],(0:Int)])):=fun W hb=>by have:=yU yP (zj s) W (zf1 (qL s) hs) (hw.below hb);rw[hv] at this;exact this
 have HN:Hid (∀W,zR 143 #[.agg #[a,b,c]] W (.int .i64 (ze a b c))):=fun W=>yZ a b c (by omega) (by omega) (by omega) W;have hN:=yH ha hb hc;have a2:(ze a b c:Int)<1000000000:=by unfold ALL at hN;omega
 have HM:Hid (∀W,zR 143 #[.agg #[.int .i64 ((a:Int)+1),.int .i64 (0),.int .i64 (0)]] W (.int .i64 (ze (a+1) (0) (0):Int))):=fun W=>yZ (a+1) (0) (0) (by omega) (by omega) (by omega) W;have o:Hid (∀W,zC 121 #[.int .i64 ((ze a b c:Nat):Int),.int .i64 ((ze (a+1) (0) (0):Nat):Int)] W (yM W (tp (zi (ze a b c) (ze (a+1) (0) (0)))))):=fun W=>Zc (ze a b c) (ze (a+1) (0) (0)) W;obtain⟨M,hM⟩:∃M,ze (a+1) (0) (0)=M:=⟨_,rfl⟩;rw[hM] at HM o ⊢;clear hM;have ha0':(0:Int)<(a:Int):=by omega
 have hb0':¬(0:Int)<(b:Int):=by omega
 have a1:=qL s;generalize zj s=t at *;have hq:(s.size:Int)-(t.size:Int)=((s.size-t.size:Nat):Int):=by omega
 have a4:s.size-t.size<=s.size:=by omega
 generalize s.size-t.size=q at *;have i0:(0:Int)<=(q:Int):=by omega
 have i2:(q:Int)<=(s.size:Int):=by omega
 have a0:=fun W'=>run_slice_string_h (P:=prog) W' 9 s zrf .i64 (q:Int) i0 i2;simp only[zrh] at a0;have V:wrap64 ((s.size:Int)-(t.size:Int))=(q:Int):=by rw[hq];unfold wrap64;omega
 have a5:IntKind.i64.wrap ((s.size:Int)-(t.size:Int))=(q:Int):=by rw[zrl];unfold wrap64 at V;exact V
 have g0:((s.extract 0 q).toList==[])=false:=by rw[hg];rfl
 have g1:((s.extract 0 q).toList==[61])=false:=by rw[hg];rfl
 have g2:((s.extract 0 q).toList==[33])=false:=by rw[hg];rfl
 have g3:((s.extract 0 q).toList==[60])=false:=by rw[hg];rfl
 have g4:((s.extract 0 q).toList==[60,61])=false:=by rw[hg];rfl
 have g5:((s.extract 0 q).toList==[62])=false:=by rw[hg];rfl
 have g6:((s.extract 0 q).toList==[62,61])=false:=by rw[hg];rfl
 have g7:((s.extract 0 q).toList==[126])=false:=by rw[hg];rfl
 have g8:((s.extract 0 q).toList==[94])=true:=by rw[hg];rfl
 clear hg;clear hv hw a1 hq hN;generalize ze a b c=N at *;go_enter zsw,zsl;go_wp2_with fail;refine HT.out.mono ?_;rintro e w1 ⟨rfl,p⟩;have H2:=zH (HP.out _ p);have J:=zH p;clear p HP HT;go_wp2_with fail;refine H2.out.mono ?_;rintro e w2 ⟨rfl,u⟩;have K:Hid (zB w (w2.alloc (.cells #[a,b,c] 91))):=(zT J.out u).alloc (by have:=J.out.size;have:=u.size;omega) _;have kv:=Blk.new w2 91 #[a,b,c];clear u H2;go_wp2_with fail;generalize w2.alloc (.cells #[a,b,c] 91)=W3 at *;refine(HN.out _).mono ?_;rintro e w4 ⟨rfl,C⟩;have Y:Hid (zB w w4):=zT K.out C;have X:=kv.below C kv.lt;have j:=zH X;clear C HN kv X K;have c0:=j.out.cell 0;have c1:=j.out.cell 1;have c2:=j.out.cell 2;have a3:=j.out.lt;have d0:=(j.out.alloc (.cells #[a,b,.int .i64 ((c:Int)+1)] 91)).cell 0;have d1:=(j.out.alloc (.cells #[a,b,.int .i64 ((c:Int)+1)] 91)).cell 1;go_wp2_with fail;have Z:Hid (zB w (w4.alloc (.cells #[.int .i64 ((a:Int)+1),.int .i64 (0),.int .i64 (0)] 91))):=zL Y.out;generalize w4.alloc (.cells #[.int .i64 ((a:Int)+1),.int .i64 (0),.int .i64 (0)] 91)=W6 at *;refine(HM.out _).mono ?_;rintro e w7 ⟨rfl,U⟩;have R:Hid (zB w w7):=zT Z.out U;clear U c0 c1 c2 d0 d1;go_wp2_with fail;refine(o.out _).mono ?_;rintro e w5 ⟨x,y,rfl,q1,q2,q3⟩;have Q1:=zH q1;have Q2:Hid (∀g,(Value.slice x (tp (zi N M)).length y).ownBlock=some g->w.heap.size<=g):=fun g hg=>zf1 R.out.size (q2 g hg);have Q3:Hid (zB w w5):=zT R.out q3;clear q1 q2 q3;go_wp2;refine zc4 (v:=.tuple #[.slice x (tp (zi N M)).length y,(0:Int)]) (by simp[results,results122,go_sem]) rfl ?_;exact⟨_,x,y,0,rfl,Q1.out,Q2.out,Q3.out,rfl,rfl⟩
theorem zkn(s:ByteArray)(w:World)(hs:s.size<=100000)(hw:Lb w)(h1:(s.toList==[97,110,121])=false)(h2:(s.toList==[110,111,110,101])=false)(a b c:Nat)(ha:a<=999)(hb:b<=999)(hc:c<=999)(hv:zO (zj s)=.ok [a,b,c])(ha0:¬0<a)(hb0:0<b)(hg:(s.extract 0 (s.size-(zj s).size)).toList=[94]):zC 122 #[s] w (xi w (.ok (zi (ze a b c) (ze (a) (b+1) (0))))):=by
 have HT:=zH (xE s w);have HP:Hid (∀W,zB w W->zR 75 #[.string (zj s)] W (.tuple #[.agg #[a,b,c],(0:Int)])):=fun W hb=>by have:=yU yP (zj s) W (zf1 (qL s) hs) (hw.below hb);rw[hv] at this;exact this
 have HN:Hid (∀W,zR 143 #[.agg #[a,b,c]] W (.int .i64 (ze a b c))):=fun W=>yZ a b c (by omega) (by omega) (by omega) W;have hN:=yH ha hb hc;have a2:(ze a b c:Int)<1000000000:=by unfold ALL at hN;omega
 have HM:Hid (∀W,zR 143 #[.agg #[a,.int .i64 ((b:Int)+1),.int .i64 (0)]] W (.int .i64 (ze (a) (b+1) (0):Int))):=fun W=>yZ (a) (b+1) (0) (by omega) (by omega) (by omega) W;have o:Hid (∀W,zC 121 #[.int .i64 ((ze a b c:Nat):Int),.int .i64 ((ze (a) (b+1) (0):Nat):Int)] W (yM W (tp (zi (ze a b c) (ze (a) (b+1) (0)))))):=fun W=>Zc (ze a b c) (ze (a) (b+1) (0)) W;obtain⟨M,hM⟩:∃M,ze (a) (b+1) (0)=M:=⟨_,rfl⟩;rw[hM] at HM o ⊢;clear hM;have ha0':¬(0:Int)<(a:Int):=by omega
 have hb0':(0:Int)<(b:Int):=by omega
 have a1:=qL s;generalize zj s=t at *;have hq:(s.size:Int)-(t.size:Int)=((s.size-t.size:Nat):Int):=by omega
 have a4:s.size-t.size<=s.size:=by omega
 generalize s.size-t.size=q at *;have i0:(0:Int)<=(q:Int):=by omega
 have i2:(q:Int)<=(s.size:Int):=by omega
 have a0:=fun W'=>run_slice_string_h (P:=prog) W' 9 s zrf .i64 (q:Int) i0 i2;simp only[zrh] at a0;have V:wrap64 ((s.size:Int)-(t.size:Int))=(q:Int):=by rw[hq];unfold wrap64;omega
 have a5:IntKind.i64.wrap ((s.size:Int)-(t.size:Int))=(q:Int):=by rw[zrl];unfold wrap64 at V;exact V
 have g0:((s.extract 0 q).toList==[])=false:=by rw[hg];rfl
 have g1:((s.extract 0 q).toList==[61])=false:=by rw[hg];rfl
 have g2:((s.extract 0 q).toList==[33])=false:=by rw[hg];rfl
 have g3:((s.extract 0 q).toList==[60])=false:=by rw[hg];rfl
 have g4:((s.extract 0 q).toList==[60,61])=false:=by rw[hg];rfl
 have g5:((s.extract 0 q).toList==[62])=false:=by rw[hg];rfl
 have g6:((s.extract 0 q).toList==[62,61])=false:=by rw[hg];rfl
 have g7:((s.extract 0 q).toList==[126])=false:=by rw[hg];rfl
 have g8:((s.extract 0 q).toList==[94])=true:=by rw[hg];rfl
 clear hg;clear hv hw a1 hq hN;generalize ze a b c=N at *;go_enter zsw,zsl;go_wp2_with fail;refine HT.out.mono ?_;rintro e w1 ⟨rfl,p⟩;have H2:=zH (HP.out _ p);have J:=zH p;clear p HP HT;go_wp2_with fail;refine H2.out.mono ?_;rintro e w2 ⟨rfl,u⟩;have K:Hid (zB w (w2.alloc (.cells #[a,b,c] 91))):=(zT J.out u).alloc (by have:=J.out.size;have:=u.size;omega) _;have kv:=Blk.new w2 91 #[a,b,c];clear u H2;go_wp2_with fail;generalize w2.alloc (.cells #[a,b,c] 91)=W3 at *;refine(HN.out _).mono ?_;rintro e w4 ⟨rfl,C⟩;have Y:Hid (zB w w4):=zT K.out C;have X:=kv.below C kv.lt;have j:=zH X;clear C HN kv X K;have c0:=j.out.cell 0;have c1:=j.out.cell 1;have c2:=j.out.cell 2;have a3:=j.out.lt;have d0:=(j.out.alloc (.cells #[a,b,.int .i64 ((c:Int)+1)] 91)).cell 0;have d1:=(j.out.alloc (.cells #[a,b,.int .i64 ((c:Int)+1)] 91)).cell 1;have e0:=(j.out.alloc (.cells #[a,.int .i64 ((b:Int)+1),(0:Int)] 91)).cell 0;go_wp2_with fail;have Z:Hid (zB w (w4.alloc (.cells #[a,.int .i64 ((b:Int)+1),.int .i64 (0)] 91))):=zL Y.out;generalize w4.alloc (.cells #[a,.int .i64 ((b:Int)+1),.int .i64 (0)] 91)=W6 at *;refine(HM.out _).mono ?_;rintro e w7 ⟨rfl,U⟩;have R:Hid (zB w w7):=zT Z.out U;clear U c0 c1 c2 d0 d1;go_wp2_with fail;refine(o.out _).mono ?_;rintro e w5 ⟨x,y,rfl,q1,q2,q3⟩;have Q1:=zH q1;have Q2:Hid (∀g,(Value.slice x (tp (zi N M)).length y).ownBlock=some g->w.heap.size<=g):=fun g hg=>zf1 R.out.size (q2 g hg);have Q3:Hid (zB w w5):=zT R.out q3;clear q1 q2 q3;go_wp2;refine zc4 (v:=.tuple #[.slice x (tp (zi N M)).length y,(0:Int)]) (by simp[results,results122,go_sem]) rfl ?_;exact⟨_,x,y,0,rfl,Q1.out,Q2.out,Q3.out,rfl,rfl⟩
theorem zg2(s:ByteArray)(w:World)(hs:s.size<=100000)(hw:Lb w)(h1:(s.toList==[97,110,121])=false)(h2:(s.toList==[110,111,110,101])=false)(a b c:Nat)(ha:a<=999)(hb:b<=999)(hc:c<=999)(hv:zO (zj s)=.ok [a,b,c])(ha0:¬0<a)(hb0:¬0<b)(hg:(s.extract 0 (s.size-(zj s).size)).toList=[94]):zC 122 #[s] w (xi w (.ok (zi (ze a b c) (ze (a) (b) (c+1))))):=by
 have HT:=zH (xE s w);have HP:Hid (∀W,zB w W->zR 75 #[.string (zj s)] W (.tuple #[.agg #[a,b,c],(0:Int)])):=fun W hb=>by have:=yU yP (zj s) W (zf1 (qL s) hs) (hw.below hb);rw[hv] at this;exact this
 have HN:Hid (∀W,zR 143 #[.agg #[a,b,c]] W (.int .i64 (ze a b c))):=fun W=>yZ a b c (by omega) (by omega) (by omega) W;have hN:=yH ha hb hc;have a2:(ze a b c:Int)<1000000000:=by unfold ALL at hN;omega
 have HM:Hid (∀W,zR 143 #[.agg #[a,b,.int .i64 ((c:Int)+1)]] W (.int .i64 (ze (a) (b) (c+1):Int))):=fun W=>yZ (a) (b) (c+1) (by omega) (by omega) (by omega) W;have o:Hid (∀W,zC 121 #[.int .i64 ((ze a b c:Nat):Int),.int .i64 ((ze (a) (b) (c+1):Nat):Int)] W (yM W (tp (zi (ze a b c) (ze (a) (b) (c+1)))))):=fun W=>Zc (ze a b c) (ze (a) (b) (c+1)) W;obtain⟨M,hM⟩:∃M,ze (a) (b) (c+1)=M:=⟨_,rfl⟩;rw[hM] at HM o ⊢;clear hM;have ha0':¬(0:Int)<(a:Int):=by omega
 have hb0':¬(0:Int)<(b:Int):=by omega
 have a1:=qL s;generalize zj s=t at *;have hq:(s.size:Int)-(t.size:Int)=((s.size-t.size:Nat):Int):=by omega
 have a4:s.size-t.size<=s.size:=by omega
 generalize s.size-t.size=q at *;have i0:(0:Int)<=(q:Int):=by omega
 have i2:(q:Int)<=(s.size:Int):=by omega
 have a0:=fun W'=>run_slice_string_h (P:=prog) W' 9 s zrf .i64 (q:Int) i0 i2;simp only[zrh] at a0;have V:wrap64 ((s.size:Int)-(t.size:Int))=(q:Int):=by rw[hq];unfold wrap64;omega
 have a5:IntKind.i64.wrap ((s.size:Int)-(t.size:Int))=(q:Int):=by rw[zrl];unfold wrap64 at V;exact V
 have g0:((s.extract 0 q).toList==[])=false:=by rw[hg];rfl
 have g1:((s.extract 0 q).toList==[61])=false:=by rw[hg];rfl
 have g2:((s.extract 0 q).toList==[33])=false:=by rw[hg];rfl
 have g3:((s.extract 0 q).toList==[60])=false:=by rw[hg];rfl
 have g4:((s.extract 0 q).toList==[60,61])=false:=by rw[hg];rfl
 have g5:((s.extract 0 q).toList==[62])=false:=by rw[hg];rfl
 have g6:((s.extract 0 q).toList==[62,61])=false:=by rw[hg];rfl
 have g7:((s.extract 0 q).toList==[126])=false:=by rw[hg];rfl
 have g8:((s.extract 0 q).toList==[94])=true:=by rw[hg];rfl
 clear hg;clear hv hw a1 hq hN;generalize ze a b c=N at *;go_enter zsw,zsl;go_wp2_with fail;refine HT.out.mono ?_;rintro e w1 ⟨rfl,p⟩;have H2:=zH (HP.out _ p);have J:=zH p;clear p HP HT;go_wp2_with fail;refine H2.out.mono ?_;rintro e w2 ⟨rfl,u⟩;have K:Hid (zB w (w2.alloc (.cells #[a,b,c] 91))):=(zT J.out u).alloc (by have:=J.out.size;have:=u.size;omega) _;have kv:=Blk.new w2 91 #[a,b,c];clear u H2;go_wp2_with fail;generalize w2.alloc (.cells #[a,b,c] 91)=W3 at *;refine(HN.out _).mono ?_;rintro e w4 ⟨rfl,C⟩;have Y:Hid (zB w w4):=zT K.out C;have X:=kv.below C kv.lt;have j:=zH X;clear C HN kv X K;have c0:=j.out.cell 0;have c1:=j.out.cell 1;have c2:=j.out.cell 2;have a3:=j.out.lt;have d0:=(j.out.alloc (.cells #[a,b,.int .i64 ((c:Int)+1)] 91)).cell 0;have d1:=(j.out.alloc (.cells #[a,b,.int .i64 ((c:Int)+1)] 91)).cell 1;go_wp2_with fail;have Z:Hid (zB w (w4.alloc (.cells #[a,b,.int .i64 ((c:Int)+1)] 91))):=zL Y.out;generalize w4.alloc (.cells #[a,b,.int .i64 ((c:Int)+1)] 91)=W6 at *;refine(HM.out _).mono ?_;rintro e w7 ⟨rfl,U⟩;have R:Hid (zB w w7):=zT Z.out U;clear U c0 c1 c2 d0 d1;go_wp2_with fail;refine(o.out _).mono ?_;rintro e w5 ⟨x,y,rfl,q1,q2,q3⟩;have Q1:=zH q1;have Q2:Hid (∀g,(Value.slice x (tp (zi N M)).length y).ownBlock=some g->w.heap.size<=g):=fun g hg=>zf1 R.out.size (q2 g hg);have Q3:Hid (zB w w5):=zT R.out q3;clear q1 q2 q3;go_wp2;refine zc4 (v:=.tuple #[.slice x (tp (zi N M)).length y,(0:Int)]) (by simp[results,results122,go_sem]) rfl ?_;exact⟨_,x,y,0,rfl,Q1.out,Q2.out,Q3.out,rfl,rfl⟩
theorem zh1(s:ByteArray)(w:World)(hs:s.size<=100000)(hw:Lb w)(h1:(s.toList==[97,110,121])=false)(h2:(s.toList==[110,111,110,101])=false)(a b c:Nat)(ha:a<=999)(hb:b<=999)(hc:c<=999)(hv:zO (zj s)=.ok [a,b,c])(hg0:(s.extract 0 (s.size-(zj s).size)).toList≠[])(hg1:(s.extract 0 (s.size-(zj s).size)).toList≠[61])(hg2:(s.extract 0 (s.size-(zj s).size)).toList≠[33])(hg3:(s.extract 0 (s.size-(zj s).size)).toList≠[60])(hg4:(s.extract 0 (s.size-(zj s).size)).toList≠[60,61])(hg5:(s.extract 0 (s.size-(zj s).size)).toList≠[62])(hg6:(s.extract 0 (s.size-(zj s).size)).toList≠[62,61])(hg7:(s.extract 0 (s.size-(zj s).size)).toList≠[126])(hg8:(s.extract 0 (s.size-(zj s).size)).toList≠[94]):zC 122 #[s] w (xi w (.error 3)):=by
 have HT:=zH (xE s w);have HP:Hid (∀W,zB w W->zR 75 #[.string (zj s)] W (.tuple #[.agg #[a,b,c],(0:Int)])):=fun W hb=>by have:=yU yP (zj s) W (zf1 (qL s) hs) (hw.below hb);rw[hv] at this;exact this
 have HN:Hid (∀W,zR 143 #[.agg #[a,b,c]] W (.int .i64 (ze a b c))):=fun W=>yZ a b c (by omega) (by omega) (by omega) W;have hN:=yH ha hb hc;have V:(ze a b c:Int)<1000000000:=by unfold ALL at hN;omega
 have R:=qL s;generalize zj s=t at *;have hq:(s.size:Int)-(t.size:Int)=((s.size-t.size:Nat):Int):=by omega
 have X:s.size-t.size<=s.size:=by omega
 generalize s.size-t.size=q at *;have i0:(0:Int)<=(q:Int):=by omega
 have i2:(q:Int)<=(s.size:Int):=by omega
 have M:=fun W'=>run_slice_string_h (P:=prog) W' 9 s zrf .i64 (q:Int) i0 i2;simp only[zrh] at M;have C:wrap64 ((s.size:Int)-(t.size:Int))=(q:Int):=by rw[hq];unfold wrap64;omega
 have Y:IntKind.i64.wrap ((s.size:Int)-(t.size:Int))=(q:Int):=by rw[zrl];unfold wrap64 at C;exact C
 have g0:((s.extract 0 q).toList==[])=false:=by rw[zf2];exact hg0
 have g1:((s.extract 0 q).toList==[61])=false:=by rw[zf2];exact hg1
 have g2:((s.extract 0 q).toList==[33])=false:=by rw[zf2];exact hg2
 have g3:((s.extract 0 q).toList==[60])=false:=by rw[zf2];exact hg3
 have g4:((s.extract 0 q).toList==[60,61])=false:=by rw[zf2];exact hg4
 have g5:((s.extract 0 q).toList==[62])=false:=by rw[zf2];exact hg5
 have g6:((s.extract 0 q).toList==[62,61])=false:=by rw[zf2];exact hg6
 have g7:((s.extract 0 q).toList==[126])=false:=by rw[zf2];exact hg7
 have g8:((s.extract 0 q).toList==[94])=false:=by rw[zf2];exact hg8
 clear hg0 hg1 hg2 hg3 hg4 hg5 hg6 hg7 hg8;clear hv hw R hq hN;generalize ze a b c=N at *;go_enter zsw,zsl;go_wp2_with fail;refine HT.out.mono ?_;rintro e w1 ⟨rfl,j⟩;have H2:=zH (HP.out _ j);have u:=zH j;clear j HP HT;go_wp2_with fail;refine H2.out.mono ?_;rintro e w2 ⟨rfl,o⟩;have y:Hid (zB w (w2.alloc (.cells #[a,b,c] 91))):=(zT u.out o).alloc (by have:=u.out.size;have:=o.size;omega) _;have kv:=Blk.new w2 91 #[a,b,c];clear o H2;go_wp2_with fail;generalize w2.alloc (.cells #[a,b,c] 91)=W3 at *;refine(HN.out _).mono ?_;rintro e w4 ⟨rfl,p⟩;have K:Hid (zB w w4):=zT y.out p;have J:=kv.below p kv.lt;have U:=zH J;clear p HN kv J y;go_wp2_with fail;refine zc4 (v:=.tuple #[.slice none 0 0,(3:Int)]) (by simp[results,results122,go_sem]) rfl ?_;exact⟨[],none,0,3,rfl,xM _,fun g hg=>by simp[Value.ownBlock] at hg,K.out,rfl,rfl⟩
theorem zmF(s:ByteArray)(w:World)(hs:s.size<=100000)(hw:Lb w)(h1:(s.toList==[97,110,121])=false)(h2:(s.toList==[110,111,110,101])=false)(a b c:Nat)(ha:a<=999)(hb:b<=999)(hc:c<=999)(hv:zO (zj s)=.ok [a,b,c]):zC 122 #[s] w (xi w (xS (s.extract 0 (s.size-(zj s).size)).toList a b c)):=by
 by_cases g0:(s.extract 0 (s.size-(zj s).size)).toList=[]
 ·rw[g0];exact zlH s w hs hw h1 h2 a b c ha hb hc hv g0
 by_cases g1:(s.extract 0 (s.size-(zj s).size)).toList=[61]
 ·rw[g1];exact znb s w hs hw h1 h2 a b c ha hb hc hv g1
 by_cases g2:(s.extract 0 (s.size-(zj s).size)).toList=[33]
 ·rw[g2];exact zm8 s w hs hw h1 h2 a b c ha hb hc hv g2
 by_cases g3:(s.extract 0 (s.size-(zj s).size)).toList=[60]
 ·rw[g3];exact zl9 s w hs hw h1 h2 a b c ha hb hc hv g3
 by_cases g4:(s.extract 0 (s.size-(zj s).size)).toList=[60,61]
 ·rw[g4];exact zn2 s w hs hw h1 h2 a b c ha hb hc hv g4
 by_cases g5:(s.extract 0 (s.size-(zj s).size)).toList=[62]
 ·rw[g5];exact zq4 s w hs hw h1 h2 a b c ha hb hc hv g5
 by_cases g6:(s.extract 0 (s.size-(zj s).size)).toList=[62,61]
 ·rw[g6];exact zhi s w hs hw h1 h2 a b c ha hb hc hv g6
 by_cases g7:(s.extract 0 (s.size-(zj s).size)).toList=[126]
 ·rw[g7];exact zj5 s w hs hw h1 h2 a b c ha hb hc hv g7
 by_cases g8:(s.extract 0 (s.size-(zj s).size)).toList=[94]
 ·rw[g8];have e:xS [94] a b c=.ok (zi (ze a b c) (YA a b c)):=rfl;rw[e];unfold YA
  by_cases ha0:0<a
  ·rw[zc3 (by omega)]
   by_cases hb0:0<b
   ·exact zjX s w hs hw h1 h2 a b c ha hb hc hv ha0 hb0 g8
   ·exact zpl s w hs hw h1 h2 a b c ha hb hc hv ha0 hb0 g8
  ·rw[zc2 (by omega)]
   by_cases hb0:0<b
   ·rw[zc3 (by omega)];exact zkn s w hs hw h1 h2 a b c ha hb hc hv ha0 hb0 g8
   ·rw[zc2 (by omega)];exact zg2 s w hs hw h1 h2 a b c ha hb hc hv ha0 hb0 g8
 have e:xS (s.extract 0 (s.size-(zj s).size)).toList a b c=.error 3:=by
  unfold xS;simp[g0,g1,g2,g3,g4,g5,g6,g7,g8]
 rw[e];exact zh1 s w hs hw h1 h2 a b c ha hb hc hv g0 g1 g2 g3 g4 g5 g6 g7 g8
theorem zp8(s:ByteArray)(w:World)(hs:s.size<=100000)(hw:Lb w):zC 122 #[s] w (xi w (Za s)):=by
 unfold Za
 by_cases h1:s.toList=[97,110,121]
 ·rw[zc3 h1];exact zjA s w h1
 rw[zc2 h1]
 by_cases h2:s.toList=[110,111,110,101]
 ·rw[zc3 h2];exact zq2 s w h2
 rw[zc2 h2];have q1:(s.toList==[97,110,121])=false:=by rw[zf2];exact h1
 have q2:(s.toList==[110,111,110,101])=false:=by rw[zf2];exact h2
 cases hv:zO (zj s) with
 |error k=>exact zqu s w hs hw q1 q2 k hv
 |ok ns =>obtain⟨hl,hn⟩:=YU hv;obtain⟨a,b,c,rfl⟩:=Yy hl;exact zmF s w hs hw q1 q2 a b c (hn a (by simp)) (hn b (by simp)) (hn c (by simp)) hv
