import Derived.Test.YthifnefkdjkicaaGreatDoorSvShelfC
set_option maxHeartbeats 1000000
set_option maxRecDepth 100000
namespace Go.Proofs.YthifnefkdjkicaaGreatDoor
open Go.RowKit Go.Shelf Sv
theorem zmg{l:List UInt8}{k:Int}(h:yg l=.error k):k≠0:=by
 unfold yg at h;split at h
 ·split at h
  ·cases h;decide
  ·split at h
   ·cases h;decide
   ·cases h
 ·cases h;decide
theorem zmZ:∀{l:List (Nat × ByteArray)} {k:Int},qH l=.error k->k≠0:=by
 intro l
 induction l with
 |nil=>intro k h;cases h
 |cons x l ih =>
  intro k h;unfold qH at h;split at h
  ·rename_i hx;cases h;exact zmg hx
  ·split at h
   ·rename_i hx;cases h;exact ih hx
   ·cases h
theorem KT{s:ByteArray}{k:Int}(h:zS s=.error k):k≠0:=by
 unfold zS at h;split at h
 ·exact zmZ h
 ·cases h;decide
theorem zp3{g:List UInt8}{a b c:Nat}{k:Int}(h:xQ g a b c=.error k):k=3:=by
 unfold xQ at h
 repeat(split at h;· cases h)
 cases h;rfl
theorem zf7{s:ByteArray}{k:Int}(h:xS s=.error k):k≠0:=by
 unfold xS at h;split at h
 ·cases h
 ·split at h
  ·cases h
  ·split at h
   ·rename_i hx;cases h;exact KT hx
   ·rw[zp3 h];decide
def zi5(m:List Nat)(k:Int):Except Int (List zf)->Prop
 |.ok l=>m=tp l/\k=0
 |.error q=>m=[]/\k=q
def xd(w:World)(x:Except Int (List zf))(e:Ending)(w':World):Prop:=∃(m:List Nat) (a:Option Addr) (c:Nat) (k:Int),e=.returned (.tuple #[.slice a m.length c,k])/\zG w' (.slice a m.length c) m/\(∀g,(Value.slice a m.length c).ownBlock=some g->w.heap.size<=g)/\zB w w'/\zi5 m k x
theorem zkj(s:ByteArray)(w:World)(h:s.toList=[97,110,121]):zC 105 #[s] w (xd w (.ok zn)):=by
 have h1:(s.toList==[97,110,121])=true:=by rw[h];rfl
 have HR:=zH (x8 0 1000000000 w);have he:zh 0 1000000000=zn:=rfl;rw[he] at HR;have j:Hid (zC 104 #[(0:Int),(1000000000:Int)] w (yE w (tp zn))):=HR.out;clear HR he h;generalize zn=L at *;go_enter Tryz.func105,Tryz.ntmps105;go_wp2_with fail;refine j.out.mono ?_;rintro e w' ⟨a,c,rfl,q1,q2,q3⟩;have Q1:=zH q1;have Q2:=zH q2;have Q3:=zH q3;clear q1 q2 q3;go_wp2;refine bodyPost_ret (v:=.tuple #[.slice a (tp L).length c,(0:Int)]) (by simp[results,Tryz.results105,go_sem]) rfl ?_;exact⟨_,a,c,0,rfl,Q1.out,Q2.out,Q3.out,rfl,rfl⟩
theorem zkO(s:ByteArray)(w:World)(h:s.toList=[110,111,110,101]):zC 105 #[s] w (xd w (.ok [])):=by
 have h1:(s.toList==[97,110,121])=false:=by rw[h];rfl
 have h2:(s.toList==[110,111,110,101])=true:=by rw[h];rfl
 clear h;go_enter Tryz.func105,Tryz.ntmps105;go_wp2;refine bodyPost_ret (v:=.tuple #[.slice none 0 0,(0:Int)]) (by simp[results,Tryz.results105,go_sem]) rfl ?_;exact⟨[],none,0,0,rfl,xD _,fun g hg=>by simp[Value.ownBlock] at hg,Below.refl _ _,rfl,rfl⟩
theorem zi2(s:ByteArray)(w:World)(hs:s.size<=100000)(hw:Lb w)(h1:(s.toList==[97,110,121])=false)(h2:(s.toList==[110,111,110,101])=false)(k:Int)(hv:zS (zi s)=.error k):zC 105 #[s] w (xd w (.error k)):=by
 have HT:=zH (xz s w);have HP:Hid (∀W,zB w W->zR 69 #[.string (zi s)] W (.tuple #[.agg #[(0:Int),(0:Int),(0:Int)],k])):=fun W hb=>by have:=yR yQ (zi s) W (Nat.le_trans (qK s) hs) (hw.below hb);rw[hv] at this;exact this
 have hk:=KT hv;have hk':(k != 0)=true:=by simpa using hk
 clear hv hw hk;generalize zi s=t at *;go_enter Tryz.func105,Tryz.ntmps105;go_wp2_with fail;refine HT.out.mono ?_;rintro e w1 ⟨rfl,j⟩;have H2:=zH (HP.out _ j);have p:=zH j;clear j HP HT;go_wp2_with fail;refine H2.out.mono ?_;rintro e w2 ⟨rfl,o⟩;have q:Hid (zB w (w2.alloc (.cells #[(0:Int),(0:Int),(0:Int)] 81))):=(zT p.out o).alloc (by have:=p.out.size;have:=o.size;omega) _;clear o H2;go_wp2;refine bodyPost_ret (v:=.tuple #[.slice none 0 0,k]) (by simp[results,Tryz.results105,go_sem]) rfl ?_;exact⟨[],none,0,k,rfl,xD _,fun g hg=>by simp[Value.ownBlock] at hg,q.out,rfl,rfl⟩
theorem zoD(s:ByteArray)(w:World)(hs:s.size<=100000)(hw:Lb w)(h1:(s.toList==[97,110,121])=false)(h2:(s.toList==[110,111,110,101])=false)(a b c:Nat)(ha:a<=999)(hb:b<=999)(hc:c<=999)(hv:zS (zi s)=.ok [a,b,c])(hg:(s.extract 0 (s.size-(zi s).size)).toList=[]):zC 105 #[s] w (xd w (.ok (zh (ze a b c) (ze a b c+1)))):=by
 have HT:=zH (xz s w);have HP:Hid (∀W,zB w W->zR 69 #[.string (zi s)] W (.tuple #[.agg #[a,b,c],(0:Int)])):=fun W hb=>by have:=yR yQ (zi s) W (Nat.le_trans (qK s) hs) (hw.below hb);rw[hv] at this;exact this
 have HN:Hid (∀W,zR 126 #[.agg #[a,b,c]] W (.int .i64 (ze a b c))):=fun W=>yK a b c (by omega) (by omega) (by omega) W;have hN:=yr ha hb hc;have Y:(ze a b c:Int)<1000000000:=by unfold ALL at hN;omega
 have j:Hid (∀W,zC 104 #[.int .i64 ((ze a b c:Nat):Int),.int .i64 (((ze a b c:Nat):Int)+1)] W (yE W (tp (zh (ze a b c) (ze a b c+1))))):=fun W=>x8 (ze a b c) (ze a b c+1) W;have V:=qK s;generalize zi s=t at *;have hq:(s.size:Int)-(t.size:Int)=((s.size-t.size:Nat):Int):=by omega
 have Z:s.size-t.size<=s.size:=by omega
 generalize s.size-t.size=q at *;have i0:(0:Int)<=(q:Int):=by omega
 have i2:(q:Int)<=(s.size:Int):=by omega
 have U:=fun W'=>run_slice_string_h (P:=Tryz.prog) W' 9 s Tryz.underlying9 .i64 (q:Int) i0 i2;simp only[Int.toNat_natCast] at U;have M:wrap64 ((s.size:Int)-(t.size:Int))=(q:Int):=by rw[hq];unfold wrap64;omega
 have a0:IntKind.i64.wrap ((s.size:Int)-(t.size:Int))=(q:Int):=by rw[IntKind.wrap_i64];unfold wrap64 at M;exact M
 have g0:((s.extract 0 q).toList==[])=true:=by rw[hg];rfl
 clear hg;clear hv hw V hq hN;generalize ze a b c=N at *;go_enter Tryz.func105,Tryz.ntmps105;go_wp2_with fail;refine HT.out.mono ?_;rintro e w1 ⟨rfl,o⟩;have H2:=zH (HP.out _ o);have C:=zH o;clear o HP HT;go_wp2_with fail;refine H2.out.mono ?_;rintro e w2 ⟨rfl,p⟩;have J:Hid (zB w (w2.alloc (.cells #[a,b,c] 81))):=(zT C.out p).alloc (by have:=C.out.size;have:=p.size;omega) _;have kv:=Blk.new w2 81 #[a,b,c];clear p H2;go_wp2_with fail;generalize w2.alloc (.cells #[a,b,c] 81)=W3 at *;refine(HN.out _).mono ?_;rintro e w4 ⟨rfl,u⟩;have K:Hid (zB w w4):=zT J.out u;have R:=kv.below u kv.lt;have X:=zH R;clear u HN kv R J;go_wp2_with fail;refine(j.out _).mono ?_;rintro e w5 ⟨x,y,rfl,q1,q2,q3⟩;have Q1:=zH q1;have Q2:Hid (∀g,(Value.slice x (tp (zh N (N+1))).length y).ownBlock=some g->w.heap.size<=g):=fun g hg=>Nat.le_trans K.out.size (q2 g hg);have Q3:Hid (zB w w5):=zT K.out q3;clear q1 q2 q3;go_wp2;refine bodyPost_ret (v:=.tuple #[.slice x (tp (zh N (N+1))).length y,(0:Int)]) (by simp[results,Tryz.results105,go_sem]) rfl ?_;exact⟨_,x,y,0,rfl,Q1.out,Q2.out,Q3.out,rfl,rfl⟩
theorem ziB(s:ByteArray)(w:World)(hs:s.size<=100000)(hw:Lb w)(h1:(s.toList==[97,110,121])=false)(h2:(s.toList==[110,111,110,101])=false)(a b c:Nat)(ha:a<=999)(hb:b<=999)(hc:c<=999)(hv:zS (zi s)=.ok [a,b,c])(hg:(s.extract 0 (s.size-(zi s).size)).toList=[61]):zC 105 #[s] w (xd w (.ok (zh (ze a b c) (ze a b c+1)))):=by
 have HT:=zH (xz s w);have HP:Hid (∀W,zB w W->zR 69 #[.string (zi s)] W (.tuple #[.agg #[a,b,c],(0:Int)])):=fun W hb=>by have:=yR yQ (zi s) W (Nat.le_trans (qK s) hs) (hw.below hb);rw[hv] at this;exact this
 have HN:Hid (∀W,zR 126 #[.agg #[a,b,c]] W (.int .i64 (ze a b c))):=fun W=>yK a b c (by omega) (by omega) (by omega) W;have hN:=yr ha hb hc;have Y:(ze a b c:Int)<1000000000:=by unfold ALL at hN;omega
 have j:Hid (∀W,zC 104 #[.int .i64 ((ze a b c:Nat):Int),.int .i64 (((ze a b c:Nat):Int)+1)] W (yE W (tp (zh (ze a b c) (ze a b c+1))))):=fun W=>x8 (ze a b c) (ze a b c+1) W;have V:=qK s;generalize zi s=t at *;have hq:(s.size:Int)-(t.size:Int)=((s.size-t.size:Nat):Int):=by omega
 have Z:s.size-t.size<=s.size:=by omega
 generalize s.size-t.size=q at *;have i0:(0:Int)<=(q:Int):=by omega
 have i2:(q:Int)<=(s.size:Int):=by omega
 have U:=fun W'=>run_slice_string_h (P:=Tryz.prog) W' 9 s Tryz.underlying9 .i64 (q:Int) i0 i2;simp only[Int.toNat_natCast] at U;have M:wrap64 ((s.size:Int)-(t.size:Int))=(q:Int):=by rw[hq];unfold wrap64;omega
 have a0:IntKind.i64.wrap ((s.size:Int)-(t.size:Int))=(q:Int):=by rw[IntKind.wrap_i64];unfold wrap64 at M;exact M
 have g0:((s.extract 0 q).toList==[])=false:=by rw[hg];rfl
 have g1:((s.extract 0 q).toList==[61])=true:=by rw[hg];rfl
 clear hg;clear hv hw V hq hN;generalize ze a b c=N at *;go_enter Tryz.func105,Tryz.ntmps105;go_wp2_with fail;refine HT.out.mono ?_;rintro e w1 ⟨rfl,o⟩;have H2:=zH (HP.out _ o);have C:=zH o;clear o HP HT;go_wp2_with fail;refine H2.out.mono ?_;rintro e w2 ⟨rfl,p⟩;have J:Hid (zB w (w2.alloc (.cells #[a,b,c] 81))):=(zT C.out p).alloc (by have:=C.out.size;have:=p.size;omega) _;have kv:=Blk.new w2 81 #[a,b,c];clear p H2;go_wp2_with fail;generalize w2.alloc (.cells #[a,b,c] 81)=W3 at *;refine(HN.out _).mono ?_;rintro e w4 ⟨rfl,u⟩;have K:Hid (zB w w4):=zT J.out u;have R:=kv.below u kv.lt;have X:=zH R;clear u HN kv R J;go_wp2_with fail;refine(j.out _).mono ?_;rintro e w5 ⟨x,y,rfl,q1,q2,q3⟩;have Q1:=zH q1;have Q2:Hid (∀g,(Value.slice x (tp (zh N (N+1))).length y).ownBlock=some g->w.heap.size<=g):=fun g hg=>Nat.le_trans K.out.size (q2 g hg);have Q3:Hid (zB w w5):=zT K.out q3;clear q1 q2 q3;go_wp2;refine bodyPost_ret (v:=.tuple #[.slice x (tp (zh N (N+1))).length y,(0:Int)]) (by simp[results,Tryz.results105,go_sem]) rfl ?_;exact⟨_,x,y,0,rfl,Q1.out,Q2.out,Q3.out,rfl,rfl⟩
theorem zlJ(s:ByteArray)(w:World)(hs:s.size<=100000)(hw:Lb w)(h1:(s.toList==[97,110,121])=false)(h2:(s.toList==[110,111,110,101])=false)(a b c:Nat)(ha:a<=999)(hb:b<=999)(hc:c<=999)(hv:zS (zi s)=.ok [a,b,c])(hg:(s.extract 0 (s.size-(zi s).size)).toList=[60]):zC 105 #[s] w (xd w (.ok (zh 0 (ze a b c)))):=by
 have HT:=zH (xz s w);have HP:Hid (∀W,zB w W->zR 69 #[.string (zi s)] W (.tuple #[.agg #[a,b,c],(0:Int)])):=fun W hb=>by have:=yR yQ (zi s) W (Nat.le_trans (qK s) hs) (hw.below hb);rw[hv] at this;exact this
 have HN:Hid (∀W,zR 126 #[.agg #[a,b,c]] W (.int .i64 (ze a b c))):=fun W=>yK a b c (by omega) (by omega) (by omega) W;have hN:=yr ha hb hc;have Y:(ze a b c:Int)<1000000000:=by unfold ALL at hN;omega
 have j:Hid (∀W,zC 104 #[.int .i64 (0),.int .i64 ((ze a b c:Nat):Int)] W (yE W (tp (zh (0) (ze a b c))))):=fun W=>x8 (0) (ze a b c) W;have V:=qK s;generalize zi s=t at *;have hq:(s.size:Int)-(t.size:Int)=((s.size-t.size:Nat):Int):=by omega
 have Z:s.size-t.size<=s.size:=by omega
 generalize s.size-t.size=q at *;have i0:(0:Int)<=(q:Int):=by omega
 have i2:(q:Int)<=(s.size:Int):=by omega
 have U:=fun W'=>run_slice_string_h (P:=Tryz.prog) W' 9 s Tryz.underlying9 .i64 (q:Int) i0 i2;simp only[Int.toNat_natCast] at U;have M:wrap64 ((s.size:Int)-(t.size:Int))=(q:Int):=by rw[hq];unfold wrap64;omega
 have a0:IntKind.i64.wrap ((s.size:Int)-(t.size:Int))=(q:Int):=by rw[IntKind.wrap_i64];unfold wrap64 at M;exact M
 have g0:((s.extract 0 q).toList==[])=false:=by rw[hg];rfl
 have g1:((s.extract 0 q).toList==[61])=false:=by rw[hg];rfl
 have g2:((s.extract 0 q).toList==[33])=false:=by rw[hg];rfl
 have g3:((s.extract 0 q).toList==[60])=true:=by rw[hg];rfl
 clear hg;clear hv hw V hq hN;generalize ze a b c=N at *;go_enter Tryz.func105,Tryz.ntmps105;go_wp2_with fail;refine HT.out.mono ?_;rintro e w1 ⟨rfl,o⟩;have H2:=zH (HP.out _ o);have C:=zH o;clear o HP HT;go_wp2_with fail;refine H2.out.mono ?_;rintro e w2 ⟨rfl,p⟩;have J:Hid (zB w (w2.alloc (.cells #[a,b,c] 81))):=(zT C.out p).alloc (by have:=C.out.size;have:=p.size;omega) _;have kv:=Blk.new w2 81 #[a,b,c];clear p H2;go_wp2_with fail;generalize w2.alloc (.cells #[a,b,c] 81)=W3 at *;refine(HN.out _).mono ?_;rintro e w4 ⟨rfl,u⟩;have K:Hid (zB w w4):=zT J.out u;have R:=kv.below u kv.lt;have X:=zH R;clear u HN kv R J;go_wp2_with fail;refine(j.out _).mono ?_;rintro e w5 ⟨x,y,rfl,q1,q2,q3⟩;have Q1:=zH q1;have Q2:Hid (∀g,(Value.slice x (tp (zh 0 N)).length y).ownBlock=some g->w.heap.size<=g):=fun g hg=>Nat.le_trans K.out.size (q2 g hg);have Q3:Hid (zB w w5):=zT K.out q3;clear q1 q2 q3;go_wp2;refine bodyPost_ret (v:=.tuple #[.slice x (tp (zh 0 N)).length y,(0:Int)]) (by simp[results,Tryz.results105,go_sem]) rfl ?_;exact⟨_,x,y,0,rfl,Q1.out,Q2.out,Q3.out,rfl,rfl⟩
theorem zpK(s:ByteArray)(w:World)(hs:s.size<=100000)(hw:Lb w)(h1:(s.toList==[97,110,121])=false)(h2:(s.toList==[110,111,110,101])=false)(a b c:Nat)(ha:a<=999)(hb:b<=999)(hc:c<=999)(hv:zS (zi s)=.ok [a,b,c])(hg:(s.extract 0 (s.size-(zi s).size)).toList=[60,61]):zC 105 #[s] w (xd w (.ok (zh 0 (ze a b c+1)))):=by
 have HT:=zH (xz s w);have HP:Hid (∀W,zB w W->zR 69 #[.string (zi s)] W (.tuple #[.agg #[a,b,c],(0:Int)])):=fun W hb=>by have:=yR yQ (zi s) W (Nat.le_trans (qK s) hs) (hw.below hb);rw[hv] at this;exact this
 have HN:Hid (∀W,zR 126 #[.agg #[a,b,c]] W (.int .i64 (ze a b c))):=fun W=>yK a b c (by omega) (by omega) (by omega) W;have hN:=yr ha hb hc;have Y:(ze a b c:Int)<1000000000:=by unfold ALL at hN;omega
 have j:Hid (∀W,zC 104 #[.int .i64 (0),.int .i64 (((ze a b c:Nat):Int)+1)] W (yE W (tp (zh (0) (ze a b c+1))))):=fun W=>x8 (0) (ze a b c+1) W;have V:=qK s;generalize zi s=t at *;have hq:(s.size:Int)-(t.size:Int)=((s.size-t.size:Nat):Int):=by omega
 have Z:s.size-t.size<=s.size:=by omega
 generalize s.size-t.size=q at *;have i0:(0:Int)<=(q:Int):=by omega
 have i2:(q:Int)<=(s.size:Int):=by omega
 have U:=fun W'=>run_slice_string_h (P:=Tryz.prog) W' 9 s Tryz.underlying9 .i64 (q:Int) i0 i2;simp only[Int.toNat_natCast] at U;have M:wrap64 ((s.size:Int)-(t.size:Int))=(q:Int):=by rw[hq];unfold wrap64;omega
 have a0:IntKind.i64.wrap ((s.size:Int)-(t.size:Int))=(q:Int):=by rw[IntKind.wrap_i64];unfold wrap64 at M;exact M
 have g0:((s.extract 0 q).toList==[])=false:=by rw[hg];rfl
 have g1:((s.extract 0 q).toList==[61])=false:=by rw[hg];rfl
 have g2:((s.extract 0 q).toList==[33])=false:=by rw[hg];rfl
 have g3:((s.extract 0 q).toList==[60])=false:=by rw[hg];rfl
 have g4:((s.extract 0 q).toList==[60,61])=true:=by rw[hg];rfl
 clear hg;clear hv hw V hq hN;generalize ze a b c=N at *;go_enter Tryz.func105,Tryz.ntmps105;go_wp2_with fail;refine HT.out.mono ?_;rintro e w1 ⟨rfl,o⟩;have H2:=zH (HP.out _ o);have C:=zH o;clear o HP HT;go_wp2_with fail;refine H2.out.mono ?_;rintro e w2 ⟨rfl,p⟩;have J:Hid (zB w (w2.alloc (.cells #[a,b,c] 81))):=(zT C.out p).alloc (by have:=C.out.size;have:=p.size;omega) _;have kv:=Blk.new w2 81 #[a,b,c];clear p H2;go_wp2_with fail;generalize w2.alloc (.cells #[a,b,c] 81)=W3 at *;refine(HN.out _).mono ?_;rintro e w4 ⟨rfl,u⟩;have K:Hid (zB w w4):=zT J.out u;have R:=kv.below u kv.lt;have X:=zH R;clear u HN kv R J;go_wp2_with fail;refine(j.out _).mono ?_;rintro e w5 ⟨x,y,rfl,q1,q2,q3⟩;have Q1:=zH q1;have Q2:Hid (∀g,(Value.slice x (tp (zh 0 (N+1))).length y).ownBlock=some g->w.heap.size<=g):=fun g hg=>Nat.le_trans K.out.size (q2 g hg);have Q3:Hid (zB w w5):=zT K.out q3;clear q1 q2 q3;go_wp2;refine bodyPost_ret (v:=.tuple #[.slice x (tp (zh 0 (N+1))).length y,(0:Int)]) (by simp[results,Tryz.results105,go_sem]) rfl ?_;exact⟨_,x,y,0,rfl,Q1.out,Q2.out,Q3.out,rfl,rfl⟩
theorem zhk(s:ByteArray)(w:World)(hs:s.size<=100000)(hw:Lb w)(h1:(s.toList==[97,110,121])=false)(h2:(s.toList==[110,111,110,101])=false)(a b c:Nat)(ha:a<=999)(hb:b<=999)(hc:c<=999)(hv:zS (zi s)=.ok [a,b,c])(hg:(s.extract 0 (s.size-(zi s).size)).toList=[62]):zC 105 #[s] w (xd w (.ok (zh (ze a b c+1) 1000000000))):=by
 have HT:=zH (xz s w);have HP:Hid (∀W,zB w W->zR 69 #[.string (zi s)] W (.tuple #[.agg #[a,b,c],(0:Int)])):=fun W hb=>by have:=yR yQ (zi s) W (Nat.le_trans (qK s) hs) (hw.below hb);rw[hv] at this;exact this
 have HN:Hid (∀W,zR 126 #[.agg #[a,b,c]] W (.int .i64 (ze a b c))):=fun W=>yK a b c (by omega) (by omega) (by omega) W;have hN:=yr ha hb hc;have Y:(ze a b c:Int)<1000000000:=by unfold ALL at hN;omega
 have j:Hid (∀W,zC 104 #[.int .i64 (((ze a b c:Nat):Int)+1),.int .i64 (1000000000)] W (yE W (tp (zh (ze a b c+1) (1000000000))))):=fun W=>x8 (ze a b c+1) (1000000000) W;have V:=qK s;generalize zi s=t at *;have hq:(s.size:Int)-(t.size:Int)=((s.size-t.size:Nat):Int):=by omega
 have Z:s.size-t.size<=s.size:=by omega
 generalize s.size-t.size=q at *;have i0:(0:Int)<=(q:Int):=by omega
 have i2:(q:Int)<=(s.size:Int):=by omega
 have U:=fun W'=>run_slice_string_h (P:=Tryz.prog) W' 9 s Tryz.underlying9 .i64 (q:Int) i0 i2;simp only[Int.toNat_natCast] at U;have M:wrap64 ((s.size:Int)-(t.size:Int))=(q:Int):=by rw[hq];unfold wrap64;omega
 have a0:IntKind.i64.wrap ((s.size:Int)-(t.size:Int))=(q:Int):=by rw[IntKind.wrap_i64];unfold wrap64 at M;exact M
 have g0:((s.extract 0 q).toList==[])=false:=by rw[hg];rfl
 have g1:((s.extract 0 q).toList==[61])=false:=by rw[hg];rfl
 have g2:((s.extract 0 q).toList==[33])=false:=by rw[hg];rfl
 have g3:((s.extract 0 q).toList==[60])=false:=by rw[hg];rfl
 have g4:((s.extract 0 q).toList==[60,61])=false:=by rw[hg];rfl
 have g5:((s.extract 0 q).toList==[62])=true:=by rw[hg];rfl
 clear hg;clear hv hw V hq hN;generalize ze a b c=N at *;go_enter Tryz.func105,Tryz.ntmps105;go_wp2_with fail;refine HT.out.mono ?_;rintro e w1 ⟨rfl,o⟩;have H2:=zH (HP.out _ o);have C:=zH o;clear o HP HT;go_wp2_with fail;refine H2.out.mono ?_;rintro e w2 ⟨rfl,p⟩;have J:Hid (zB w (w2.alloc (.cells #[a,b,c] 81))):=(zT C.out p).alloc (by have:=C.out.size;have:=p.size;omega) _;have kv:=Blk.new w2 81 #[a,b,c];clear p H2;go_wp2_with fail;generalize w2.alloc (.cells #[a,b,c] 81)=W3 at *;refine(HN.out _).mono ?_;rintro e w4 ⟨rfl,u⟩;have K:Hid (zB w w4):=zT J.out u;have R:=kv.below u kv.lt;have X:=zH R;clear u HN kv R J;go_wp2_with fail;refine(j.out _).mono ?_;rintro e w5 ⟨x,y,rfl,q1,q2,q3⟩;have Q1:=zH q1;have Q2:Hid (∀g,(Value.slice x (tp (zh (N+1) 1000000000)).length y).ownBlock=some g->w.heap.size<=g):=fun g hg=>Nat.le_trans K.out.size (q2 g hg);have Q3:Hid (zB w w5):=zT K.out q3;clear q1 q2 q3;go_wp2;refine bodyPost_ret (v:=.tuple #[.slice x (tp (zh (N+1) 1000000000)).length y,(0:Int)]) (by simp[results,Tryz.results105,go_sem]) rfl ?_;exact⟨_,x,y,0,rfl,Q1.out,Q2.out,Q3.out,rfl,rfl⟩
theorem ziJ(s:ByteArray)(w:World)(hs:s.size<=100000)(hw:Lb w)(h1:(s.toList==[97,110,121])=false)(h2:(s.toList==[110,111,110,101])=false)(a b c:Nat)(ha:a<=999)(hb:b<=999)(hc:c<=999)(hv:zS (zi s)=.ok [a,b,c])(hg:(s.extract 0 (s.size-(zi s).size)).toList=[62,61]):zC 105 #[s] w (xd w (.ok (zh (ze a b c) 1000000000))):=by
 have HT:=zH (xz s w);have HP:Hid (∀W,zB w W->zR 69 #[.string (zi s)] W (.tuple #[.agg #[a,b,c],(0:Int)])):=fun W hb=>by have:=yR yQ (zi s) W (Nat.le_trans (qK s) hs) (hw.below hb);rw[hv] at this;exact this
 have HN:Hid (∀W,zR 126 #[.agg #[a,b,c]] W (.int .i64 (ze a b c))):=fun W=>yK a b c (by omega) (by omega) (by omega) W;have hN:=yr ha hb hc;have Y:(ze a b c:Int)<1000000000:=by unfold ALL at hN;omega
 have j:Hid (∀W,zC 104 #[.int .i64 ((ze a b c:Nat):Int),.int .i64 (1000000000)] W (yE W (tp (zh (ze a b c) (1000000000))))):=fun W=>x8 (ze a b c) (1000000000) W;have V:=qK s;generalize zi s=t at *;have hq:(s.size:Int)-(t.size:Int)=((s.size-t.size:Nat):Int):=by omega
 have Z:s.size-t.size<=s.size:=by omega
 generalize s.size-t.size=q at *;have i0:(0:Int)<=(q:Int):=by omega
 have i2:(q:Int)<=(s.size:Int):=by omega
 have U:=fun W'=>run_slice_string_h (P:=Tryz.prog) W' 9 s Tryz.underlying9 .i64 (q:Int) i0 i2;simp only[Int.toNat_natCast] at U;have M:wrap64 ((s.size:Int)-(t.size:Int))=(q:Int):=by rw[hq];unfold wrap64;omega
 have a0:IntKind.i64.wrap ((s.size:Int)-(t.size:Int))=(q:Int):=by rw[IntKind.wrap_i64];unfold wrap64 at M;exact M
 have g0:((s.extract 0 q).toList==[])=false:=by rw[hg];rfl
 have g1:((s.extract 0 q).toList==[61])=false:=by rw[hg];rfl
 have g2:((s.extract 0 q).toList==[33])=false:=by rw[hg];rfl
 have g3:((s.extract 0 q).toList==[60])=false:=by rw[hg];rfl
 have g4:((s.extract 0 q).toList==[60,61])=false:=by rw[hg];rfl
 have g5:((s.extract 0 q).toList==[62])=false:=by rw[hg];rfl
 have g6:((s.extract 0 q).toList==[62,61])=true:=by rw[hg];rfl
 clear hg;clear hv hw V hq hN;generalize ze a b c=N at *;go_enter Tryz.func105,Tryz.ntmps105;go_wp2_with fail;refine HT.out.mono ?_;rintro e w1 ⟨rfl,o⟩;have H2:=zH (HP.out _ o);have C:=zH o;clear o HP HT;go_wp2_with fail;refine H2.out.mono ?_;rintro e w2 ⟨rfl,p⟩;have J:Hid (zB w (w2.alloc (.cells #[a,b,c] 81))):=(zT C.out p).alloc (by have:=C.out.size;have:=p.size;omega) _;have kv:=Blk.new w2 81 #[a,b,c];clear p H2;go_wp2_with fail;generalize w2.alloc (.cells #[a,b,c] 81)=W3 at *;refine(HN.out _).mono ?_;rintro e w4 ⟨rfl,u⟩;have K:Hid (zB w w4):=zT J.out u;have R:=kv.below u kv.lt;have X:=zH R;clear u HN kv R J;go_wp2_with fail;refine(j.out _).mono ?_;rintro e w5 ⟨x,y,rfl,q1,q2,q3⟩;have Q1:=zH q1;have Q2:Hid (∀g,(Value.slice x (tp (zh N 1000000000)).length y).ownBlock=some g->w.heap.size<=g):=fun g hg=>Nat.le_trans K.out.size (q2 g hg);have Q3:Hid (zB w w5):=zT K.out q3;clear q1 q2 q3;go_wp2;refine bodyPost_ret (v:=.tuple #[.slice x (tp (zh N 1000000000)).length y,(0:Int)]) (by simp[results,Tryz.results105,go_sem]) rfl ?_;exact⟨_,x,y,0,rfl,Q1.out,Q2.out,Q3.out,rfl,rfl⟩
theorem zjO(s:ByteArray)(w:World)(hs:s.size<=100000)(hw:Lb w)(h1:(s.toList==[97,110,121])=false)(h2:(s.toList==[110,111,110,101])=false)(a b c:Nat)(ha:a<=999)(hb:b<=999)(hc:c<=999)(hv:zS (zi s)=.ok [a,b,c])(hg:(s.extract 0 (s.size-(zi s).size)).toList=[33]):zC 105 #[s] w (xd w (.ok (nt (zh (ze a b c) (ze a b c+1))))):=by
 have HT:=zH (xz s w);have HP:Hid (∀W,zB w W->zR 69 #[.string (zi s)] W (.tuple #[.agg #[a,b,c],(0:Int)])):=fun W hb=>by have:=yR yQ (zi s) W (Nat.le_trans (qK s) hs) (hw.below hb);rw[hv] at this;exact this
 have HN:Hid (∀W,zR 126 #[.agg #[a,b,c]] W (.int .i64 (ze a b c))):=fun W=>yK a b c (by omega) (by omega) (by omega) W;have hN:=yr ha hb hc;have a0:(ze a b c:Int)<1000000000:=by unfold ALL at hN;omega
 have o:Hid (∀W,zC 104 #[.int .i64 ((ze a b c:Nat):Int),.int .i64 (((ze a b c:Nat):Int)+1)] W (yE W (tp (zh (ze a b c) (ze a b c+1))))):=fun W=>x8 (ze a b c) (ze a b c+1) W;have Y:=qK s;generalize zi s=t at *;have hq:(s.size:Int)-(t.size:Int)=((s.size-t.size:Nat):Int):=by omega
 have a1:s.size-t.size<=s.size:=by omega
 generalize s.size-t.size=q at *;have i0:(0:Int)<=(q:Int):=by omega
 have i2:(q:Int)<=(s.size:Int):=by omega
 have X:=fun W'=>run_slice_string_h (P:=Tryz.prog) W' 9 s Tryz.underlying9 .i64 (q:Int) i0 i2;simp only[Int.toNat_natCast] at X;have R:wrap64 ((s.size:Int)-(t.size:Int))=(q:Int):=by rw[hq];unfold wrap64;omega
 have a2:IntKind.i64.wrap ((s.size:Int)-(t.size:Int))=(q:Int):=by rw[IntKind.wrap_i64];unfold wrap64 at R;exact R
 have g0:((s.extract 0 q).toList==[])=false:=by rw[hg];rfl
 have g1:((s.extract 0 q).toList==[61])=false:=by rw[hg];rfl
 have g2:((s.extract 0 q).toList==[33])=true:=by rw[hg];rfl
 clear hg;clear hv hw Y hq hN;generalize ze a b c=N at *;go_enter Tryz.func105,Tryz.ntmps105;go_wp2_with fail;refine HT.out.mono ?_;rintro e w1 ⟨rfl,p⟩;have H2:=zH (HP.out _ p);have J:=zH p;clear p HP HT;go_wp2_with fail;refine H2.out.mono ?_;rintro e w2 ⟨rfl,u⟩;have K:Hid (zB w (w2.alloc (.cells #[a,b,c] 81))):=(zT J.out u).alloc (by have:=J.out.size;have:=u.size;omega) _;have kv:=Blk.new w2 81 #[a,b,c];clear u H2;go_wp2_with fail;generalize w2.alloc (.cells #[a,b,c] 81)=W3 at *;refine(HN.out _).mono ?_;rintro e w4 ⟨rfl,C⟩;have V:Hid (zB w w4):=zT K.out C;have U:=kv.below C kv.lt;have Z:=zH U;clear C HN kv U K;go_wp2_with fail;refine(o.out _).mono ?_;rintro e w5 ⟨x,y,rfl,q1,q2,q3⟩;have M:Hid (zB w w5):=zT V.out q3;have j:=zH (zhA (zh N (N+1)) (Xu (by unfold ALL;omega)) _ w5 q1);clear q1 q2 q3;go_wp2_with fail;refine j.out.mono ?_;rintro e w6 ⟨x6,y6,rfl,q1,q2,q3⟩;have Q1:=zH q1;have Q2:Hid (∀g,(Value.slice x6 (tp (nt (zh N (N+1)))).length y6).ownBlock=some g->w.heap.size<=g):=fun g hg=>Nat.le_trans M.out.size (q2 g hg);have Q3:Hid (zB w w6):=zT M.out q3;clear q1 q2 q3;go_wp2;refine bodyPost_ret (v:=.tuple #[.slice x6 (tp (nt (zh N (N+1)))).length y6,(0:Int)]) (by simp[results,Tryz.results105,go_sem]) rfl ?_;exact⟨_,x6,y6,0,rfl,Q1.out,Q2.out,Q3.out,rfl,rfl⟩
theorem zgB(s:ByteArray)(w:World)(hs:s.size<=100000)(hw:Lb w)(h1:(s.toList==[97,110,121])=false)(h2:(s.toList==[110,111,110,101])=false)(a b c:Nat)(ha:a<=999)(hb:b<=999)(hc:c<=999)(hv:zS (zi s)=.ok [a,b,c])(hg:(s.extract 0 (s.size-(zi s).size)).toList=[126]):zC 105 #[s] w (xd w (.ok (zh (ze a b c) (ze a (b+1) 0)))):=by
 have HT:=zH (xz s w);have HP:Hid (∀W,zB w W->zR 69 #[.string (zi s)] W (.tuple #[.agg #[a,b,c],(0:Int)])):=fun W hb=>by have:=yR yQ (zi s) W (Nat.le_trans (qK s) hs) (hw.below hb);rw[hv] at this;exact this
 have HN:Hid (∀W,zR 126 #[.agg #[a,b,c]] W (.int .i64 (ze a b c))):=fun W=>yK a b c (by omega) (by omega) (by omega) W;have hN:=yr ha hb hc;have a1:(ze a b c:Int)<1000000000:=by unfold ALL at hN;omega
 have HM:Hid (∀W,zR 126 #[.agg #[a,.int .i64 ((b:Int)+1),(0:Int)]] W (.int .i64 (ze a (b+1) 0:Int))):=fun W=>yK a (b+1) 0 (by omega) (by omega) (by omega) W;have j:Hid (∀W,zC 104 #[.int .i64 ((ze a b c:Nat):Int),.int .i64 ((ze a (b+1) 0:Nat):Int)] W (yE W (tp (zh (ze a b c) (ze a (b+1) 0))))):=fun W=>x8 (ze a b c) (ze a (b+1) 0) W;obtain⟨M,hM⟩:∃M,ze a (b+1) 0=M:=⟨_,rfl⟩;rw[hM] at HM j ⊢;clear hM;have a0:=qK s;generalize zi s=t at *;have hq:(s.size:Int)-(t.size:Int)=((s.size-t.size:Nat):Int):=by omega
 have a2:s.size-t.size<=s.size:=by omega
 generalize s.size-t.size=q at *;have i0:(0:Int)<=(q:Int):=by omega
 have i2:(q:Int)<=(s.size:Int):=by omega
 have Z:=fun W'=>run_slice_string_h (P:=Tryz.prog) W' 9 s Tryz.underlying9 .i64 (q:Int) i0 i2;simp only[Int.toNat_natCast] at Z;have V:wrap64 ((s.size:Int)-(t.size:Int))=(q:Int):=by rw[hq];unfold wrap64;omega
 have a3:IntKind.i64.wrap ((s.size:Int)-(t.size:Int))=(q:Int):=by rw[IntKind.wrap_i64];unfold wrap64 at V;exact V
 have g0:((s.extract 0 q).toList==[])=false:=by rw[hg];rfl
 have g1:((s.extract 0 q).toList==[61])=false:=by rw[hg];rfl
 have g2:((s.extract 0 q).toList==[33])=false:=by rw[hg];rfl
 have g3:((s.extract 0 q).toList==[60])=false:=by rw[hg];rfl
 have g4:((s.extract 0 q).toList==[60,61])=false:=by rw[hg];rfl
 have g5:((s.extract 0 q).toList==[62])=false:=by rw[hg];rfl
 have g6:((s.extract 0 q).toList==[62,61])=false:=by rw[hg];rfl
 have g7:((s.extract 0 q).toList==[126])=true:=by rw[hg];rfl
 clear hg;clear hv hw a0 hq hN;generalize ze a b c=N at *;go_enter Tryz.func105,Tryz.ntmps105;go_wp2_with fail;refine HT.out.mono ?_;rintro e w1 ⟨rfl,o⟩;have H2:=zH (HP.out _ o);have C:=zH o;clear o HP HT;go_wp2_with fail;refine H2.out.mono ?_;rintro e w2 ⟨rfl,p⟩;have J:Hid (zB w (w2.alloc (.cells #[a,b,c] 81))):=(zT C.out p).alloc (by have:=C.out.size;have:=p.size;omega) _;have kv:=Blk.new w2 81 #[a,b,c];clear p H2;go_wp2_with fail;generalize w2.alloc (.cells #[a,b,c] 81)=W3 at *;refine(HN.out _).mono ?_;rintro e w4 ⟨rfl,u⟩;have Y:Hid (zB w w4):=zT J.out u;have X:=kv.below u kv.lt;have R:=zH X;clear u HN kv X J;have c0:=R.out.cell 0;have c1:=R.out.cell 1;go_wp2_with fail;refine(HM.out _).mono ?_;rintro e w7 ⟨rfl,U⟩;have K:Hid (zB w w7):=zT Y.out U;clear U c0 c1;go_wp2_with fail;refine(j.out _).mono ?_;rintro e w5 ⟨x,y,rfl,q1,q2,q3⟩;have Q1:=zH q1;have Q2:Hid (∀g,(Value.slice x (tp (zh N M)).length y).ownBlock=some g->w.heap.size<=g):=fun g hg=>Nat.le_trans K.out.size (q2 g hg);have Q3:Hid (zB w w5):=zT K.out q3;clear q1 q2 q3;go_wp2;refine bodyPost_ret (v:=.tuple #[.slice x (tp (zh N M)).length y,(0:Int)]) (by simp[results,Tryz.results105,go_sem]) rfl ?_;exact⟨_,x,y,0,rfl,Q1.out,Q2.out,Q3.out,rfl,rfl⟩
theorem zkk(s:ByteArray)(w:World)(hs:s.size<=100000)(hw:Lb w)(h1:(s.toList==[97,110,121])=false)(h2:(s.toList==[110,111,110,101])=false)(a b c:Nat)(ha:a<=999)(hb:b<=999)(hc:c<=999)(hv:zS (zi s)=.ok [a,b,c])(ha0:0<a)(hb0:0<b)(hg:(s.extract 0 (s.size-(zi s).size)).toList=[94]):zC 105 #[s] w (xd w (.ok (zh (ze a b c) (ze (a+1) (0) (0))))):=by
 have HT:=zH (xz s w);have HP:Hid (∀W,zB w W->zR 69 #[.string (zi s)] W (.tuple #[.agg #[a,b,c],(0:Int)])):=fun W hb=>by have:=yR yQ (zi s) W (Nat.le_trans (qK s) hs) (hw.below hb);rw[hv] at this;exact this
 have HN:Hid (∀W,zR 126 #[.agg #[a,b,c]] W (.int .i64 (ze a b c))):=fun W=>yK a b c (by omega) (by omega) (by omega) W;have hN:=yr ha hb hc;have a2:(ze a b c:Int)<1000000000:=by unfold ALL at hN;omega
 have HM:Hid (∀W,zR 126 #[.agg #[.int .i64 ((a:Int)+1),.int .i64 (0),.int .i64 (0)]] W (.int .i64 (ze (a+1) (0) (0):Int))):=fun W=>yK (a+1) (0) (0) (by omega) (by omega) (by omega) W;have o:Hid (∀W,zC 104 #[.int .i64 ((ze a b c:Nat):Int),.int .i64 ((ze (a+1) (0) (0):Nat):Int)] W (yE W (tp (zh (ze a b c) (ze (a+1) (0) (0)))))):=fun W=>x8 (ze a b c) (ze (a+1) (0) (0)) W;obtain⟨M,hM⟩:∃M,ze (a+1) (0) (0)=M:=⟨_,rfl⟩;rw[hM] at HM o ⊢;clear hM;have ha0':(0:Int)<(a:Int):=by omega
 have hb0':(0:Int)<(b:Int):=by omega
 have a1:=qK s;generalize zi s=t at *;have hq:(s.size:Int)-(t.size:Int)=((s.size-t.size:Nat):Int):=by omega
 have a4:s.size-t.size<=s.size:=by omega
 generalize s.size-t.size=q at *;have i0:(0:Int)<=(q:Int):=by omega
 have i2:(q:Int)<=(s.size:Int):=by omega
 have a0:=fun W'=>run_slice_string_h (P:=Tryz.prog) W' 9 s Tryz.underlying9 .i64 (q:Int) i0 i2;simp only[Int.toNat_natCast] at a0;have V:wrap64 ((s.size:Int)-(t.size:Int))=(q:Int):=by rw[hq];unfold wrap64;omega
 have a5:IntKind.i64.wrap ((s.size:Int)-(t.size:Int))=(q:Int):=by rw[IntKind.wrap_i64];unfold wrap64 at V;exact V
 have g0:((s.extract 0 q).toList==[])=false:=by rw[hg];rfl
 have g1:((s.extract 0 q).toList==[61])=false:=by rw[hg];rfl
 have g2:((s.extract 0 q).toList==[33])=false:=by rw[hg];rfl
 have g3:((s.extract 0 q).toList==[60])=false:=by rw[hg];rfl
 have g4:((s.extract 0 q).toList==[60,61])=false:=by rw[hg];rfl
 have g5:((s.extract 0 q).toList==[62])=false:=by rw[hg];rfl
 have g6:((s.extract 0 q).toList==[62,61])=false:=by rw[hg];rfl
 have g7:((s.extract 0 q).toList==[126])=false:=by rw[hg];rfl
 have g8:((s.extract 0 q).toList==[94])=true:=by rw[hg];rfl
 clear hg;clear hv hw a1 hq hN;generalize ze a b c=N at *;go_enter Tryz.func105,Tryz.ntmps105;go_wp2_with fail;refine HT.out.mono ?_;rintro e w1 ⟨rfl,p⟩;have H2:=zH (HP.out _ p);have J:=zH p;clear p HP HT;go_wp2_with fail;refine H2.out.mono ?_;rintro e w2 ⟨rfl,u⟩;have K:Hid (zB w (w2.alloc (.cells #[a,b,c] 81))):=(zT J.out u).alloc (by have:=J.out.size;have:=u.size;omega) _;have kv:=Blk.new w2 81 #[a,b,c];clear u H2;go_wp2_with fail;generalize w2.alloc (.cells #[a,b,c] 81)=W3 at *;refine(HN.out _).mono ?_;rintro e w4 ⟨rfl,C⟩;have Y:Hid (zB w w4):=zT K.out C;have X:=kv.below C kv.lt;have j:=zH X;clear C HN kv X K;have c0:=j.out.cell 0;have c1:=j.out.cell 1;have c2:=j.out.cell 2;have a3:=j.out.lt;have d0:=(j.out.alloc (.cells #[a,b,.int .i64 ((c:Int)+1)] 81)).cell 0;have d1:=(j.out.alloc (.cells #[a,b,.int .i64 ((c:Int)+1)] 81)).cell 1;have e0:=(j.out.alloc (.cells #[a,.int .i64 ((b:Int)+1),(0:Int)] 81)).cell 0;go_wp2_with fail;have Z:Hid (zB w (w4.alloc (.cells #[.int .i64 ((a:Int)+1),.int .i64 (0),.int .i64 (0)] 81))):=zL Y.out;generalize w4.alloc (.cells #[.int .i64 ((a:Int)+1),.int .i64 (0),.int .i64 (0)] 81)=W6 at *;refine(HM.out _).mono ?_;rintro e w7 ⟨rfl,U⟩;have R:Hid (zB w w7):=zT Z.out U;clear U c0 c1 c2 d0 d1;go_wp2_with fail;refine(o.out _).mono ?_;rintro e w5 ⟨x,y,rfl,q1,q2,q3⟩;have Q1:=zH q1;have Q2:Hid (∀g,(Value.slice x (tp (zh N M)).length y).ownBlock=some g->w.heap.size<=g):=fun g hg=>Nat.le_trans R.out.size (q2 g hg);have Q3:Hid (zB w w5):=zT R.out q3;clear q1 q2 q3;go_wp2;refine bodyPost_ret (v:=.tuple #[.slice x (tp (zh N M)).length y,(0:Int)]) (by simp[results,Tryz.results105,go_sem]) rfl ?_;exact⟨_,x,y,0,rfl,Q1.out,Q2.out,Q3.out,rfl,rfl⟩
theorem zg3(s:ByteArray)(w:World)(hs:s.size<=100000)(hw:Lb w)(h1:(s.toList==[97,110,121])=false)(h2:(s.toList==[110,111,110,101])=false)(a b c:Nat)(ha:a<=999)(hb:b<=999)(hc:c<=999)(hv:zS (zi s)=.ok [a,b,c])(ha0:0<a)(hb0:¬0<b)(hg:(s.extract 0 (s.size-(zi s).size)).toList=[94]):zC 105 #[s] w (xd w (.ok (zh (ze a b c) (ze (a+1) (0) (0))))):=by
 have HT:=zH (xz s w);have HP:Hid (∀W,zB w W->zR 69 #[.string (zi s)] W (.tuple #[.agg #[a,b,c],(0:Int)])):=fun W hb=>by have:=yR yQ (zi s) W (Nat.le_trans (qK s) hs) (hw.below hb);rw[hv] at this;exact this
 have HN:Hid (∀W,zR 126 #[.agg #[a,b,c]] W (.int .i64 (ze a b c))):=fun W=>yK a b c (by omega) (by omega) (by omega) W;have hN:=yr ha hb hc;have a2:(ze a b c:Int)<1000000000:=by unfold ALL at hN;omega
 have HM:Hid (∀W,zR 126 #[.agg #[.int .i64 ((a:Int)+1),.int .i64 (0),.int .i64 (0)]] W (.int .i64 (ze (a+1) (0) (0):Int))):=fun W=>yK (a+1) (0) (0) (by omega) (by omega) (by omega) W;have o:Hid (∀W,zC 104 #[.int .i64 ((ze a b c:Nat):Int),.int .i64 ((ze (a+1) (0) (0):Nat):Int)] W (yE W (tp (zh (ze a b c) (ze (a+1) (0) (0)))))):=fun W=>x8 (ze a b c) (ze (a+1) (0) (0)) W;obtain⟨M,hM⟩:∃M,ze (a+1) (0) (0)=M:=⟨_,rfl⟩;rw[hM] at HM o ⊢;clear hM;have ha0':(0:Int)<(a:Int):=by omega
 have hb0':¬(0:Int)<(b:Int):=by omega
 have a1:=qK s;generalize zi s=t at *;have hq:(s.size:Int)-(t.size:Int)=((s.size-t.size:Nat):Int):=by omega
 have a4:s.size-t.size<=s.size:=by omega
 generalize s.size-t.size=q at *;have i0:(0:Int)<=(q:Int):=by omega
 have i2:(q:Int)<=(s.size:Int):=by omega
 have a0:=fun W'=>run_slice_string_h (P:=Tryz.prog) W' 9 s Tryz.underlying9 .i64 (q:Int) i0 i2;simp only[Int.toNat_natCast] at a0;have V:wrap64 ((s.size:Int)-(t.size:Int))=(q:Int):=by rw[hq];unfold wrap64;omega
 have a5:IntKind.i64.wrap ((s.size:Int)-(t.size:Int))=(q:Int):=by rw[IntKind.wrap_i64];unfold wrap64 at V;exact V
 have g0:((s.extract 0 q).toList==[])=false:=by rw[hg];rfl
 have g1:((s.extract 0 q).toList==[61])=false:=by rw[hg];rfl
 have g2:((s.extract 0 q).toList==[33])=false:=by rw[hg];rfl
 have g3:((s.extract 0 q).toList==[60])=false:=by rw[hg];rfl
 have g4:((s.extract 0 q).toList==[60,61])=false:=by rw[hg];rfl
 have g5:((s.extract 0 q).toList==[62])=false:=by rw[hg];rfl
 have g6:((s.extract 0 q).toList==[62,61])=false:=by rw[hg];rfl
 have g7:((s.extract 0 q).toList==[126])=false:=by rw[hg];rfl
 have g8:((s.extract 0 q).toList==[94])=true:=by rw[hg];rfl
 clear hg;clear hv hw a1 hq hN;generalize ze a b c=N at *;go_enter Tryz.func105,Tryz.ntmps105;go_wp2_with fail;refine HT.out.mono ?_;rintro e w1 ⟨rfl,p⟩;have H2:=zH (HP.out _ p);have J:=zH p;clear p HP HT;go_wp2_with fail;refine H2.out.mono ?_;rintro e w2 ⟨rfl,u⟩;have K:Hid (zB w (w2.alloc (.cells #[a,b,c] 81))):=(zT J.out u).alloc (by have:=J.out.size;have:=u.size;omega) _;have kv:=Blk.new w2 81 #[a,b,c];clear u H2;go_wp2_with fail;generalize w2.alloc (.cells #[a,b,c] 81)=W3 at *;refine(HN.out _).mono ?_;rintro e w4 ⟨rfl,C⟩;have Y:Hid (zB w w4):=zT K.out C;have X:=kv.below C kv.lt;have j:=zH X;clear C HN kv X K;have c0:=j.out.cell 0;have c1:=j.out.cell 1;have c2:=j.out.cell 2;have a3:=j.out.lt;have d0:=(j.out.alloc (.cells #[a,b,.int .i64 ((c:Int)+1)] 81)).cell 0;have d1:=(j.out.alloc (.cells #[a,b,.int .i64 ((c:Int)+1)] 81)).cell 1;go_wp2_with fail;have Z:Hid (zB w (w4.alloc (.cells #[.int .i64 ((a:Int)+1),.int .i64 (0),.int .i64 (0)] 81))):=zL Y.out;generalize w4.alloc (.cells #[.int .i64 ((a:Int)+1),.int .i64 (0),.int .i64 (0)] 81)=W6 at *;refine(HM.out _).mono ?_;rintro e w7 ⟨rfl,U⟩;have R:Hid (zB w w7):=zT Z.out U;clear U c0 c1 c2 d0 d1;go_wp2_with fail;refine(o.out _).mono ?_;rintro e w5 ⟨x,y,rfl,q1,q2,q3⟩;have Q1:=zH q1;have Q2:Hid (∀g,(Value.slice x (tp (zh N M)).length y).ownBlock=some g->w.heap.size<=g):=fun g hg=>Nat.le_trans R.out.size (q2 g hg);have Q3:Hid (zB w w5):=zT R.out q3;clear q1 q2 q3;go_wp2;refine bodyPost_ret (v:=.tuple #[.slice x (tp (zh N M)).length y,(0:Int)]) (by simp[results,Tryz.results105,go_sem]) rfl ?_;exact⟨_,x,y,0,rfl,Q1.out,Q2.out,Q3.out,rfl,rfl⟩
theorem zi1(s:ByteArray)(w:World)(hs:s.size<=100000)(hw:Lb w)(h1:(s.toList==[97,110,121])=false)(h2:(s.toList==[110,111,110,101])=false)(a b c:Nat)(ha:a<=999)(hb:b<=999)(hc:c<=999)(hv:zS (zi s)=.ok [a,b,c])(ha0:¬0<a)(hb0:0<b)(hg:(s.extract 0 (s.size-(zi s).size)).toList=[94]):zC 105 #[s] w (xd w (.ok (zh (ze a b c) (ze (a) (b+1) (0))))):=by
 have HT:=zH (xz s w);have HP:Hid (∀W,zB w W->zR 69 #[.string (zi s)] W (.tuple #[.agg #[a,b,c],(0:Int)])):=fun W hb=>by have:=yR yQ (zi s) W (Nat.le_trans (qK s) hs) (hw.below hb);rw[hv] at this;exact this
 have HN:Hid (∀W,zR 126 #[.agg #[a,b,c]] W (.int .i64 (ze a b c))):=fun W=>yK a b c (by omega) (by omega) (by omega) W;have hN:=yr ha hb hc;have a2:(ze a b c:Int)<1000000000:=by unfold ALL at hN;omega
 have HM:Hid (∀W,zR 126 #[.agg #[a,.int .i64 ((b:Int)+1),.int .i64 (0)]] W (.int .i64 (ze (a) (b+1) (0):Int))):=fun W=>yK (a) (b+1) (0) (by omega) (by omega) (by omega) W;have o:Hid (∀W,zC 104 #[.int .i64 ((ze a b c:Nat):Int),.int .i64 ((ze (a) (b+1) (0):Nat):Int)] W (yE W (tp (zh (ze a b c) (ze (a) (b+1) (0)))))):=fun W=>x8 (ze a b c) (ze (a) (b+1) (0)) W;obtain⟨M,hM⟩:∃M,ze (a) (b+1) (0)=M:=⟨_,rfl⟩;rw[hM] at HM o ⊢;clear hM;have ha0':¬(0:Int)<(a:Int):=by omega
 have hb0':(0:Int)<(b:Int):=by omega
 have a1:=qK s;generalize zi s=t at *;have hq:(s.size:Int)-(t.size:Int)=((s.size-t.size:Nat):Int):=by omega
 have a4:s.size-t.size<=s.size:=by omega
 generalize s.size-t.size=q at *;have i0:(0:Int)<=(q:Int):=by omega
 have i2:(q:Int)<=(s.size:Int):=by omega
 have a0:=fun W'=>run_slice_string_h (P:=Tryz.prog) W' 9 s Tryz.underlying9 .i64 (q:Int) i0 i2;simp only[Int.toNat_natCast] at a0;have V:wrap64 ((s.size:Int)-(t.size:Int))=(q:Int):=by rw[hq];unfold wrap64;omega
 have a5:IntKind.i64.wrap ((s.size:Int)-(t.size:Int))=(q:Int):=by rw[IntKind.wrap_i64];unfold wrap64 at V;exact V
 have g0:((s.extract 0 q).toList==[])=false:=by rw[hg];rfl
 have g1:((s.extract 0 q).toList==[61])=false:=by rw[hg];rfl
 have g2:((s.extract 0 q).toList==[33])=false:=by rw[hg];rfl
 have g3:((s.extract 0 q).toList==[60])=false:=by rw[hg];rfl
 have g4:((s.extract 0 q).toList==[60,61])=false:=by rw[hg];rfl
 have g5:((s.extract 0 q).toList==[62])=false:=by rw[hg];rfl
 have g6:((s.extract 0 q).toList==[62,61])=false:=by rw[hg];rfl
 have g7:((s.extract 0 q).toList==[126])=false:=by rw[hg];rfl
 have g8:((s.extract 0 q).toList==[94])=true:=by rw[hg];rfl
 clear hg;clear hv hw a1 hq hN;generalize ze a b c=N at *;go_enter Tryz.func105,Tryz.ntmps105;go_wp2_with fail;refine HT.out.mono ?_;rintro e w1 ⟨rfl,p⟩;have H2:=zH (HP.out _ p);have J:=zH p;clear p HP HT;go_wp2_with fail;refine H2.out.mono ?_;rintro e w2 ⟨rfl,u⟩;have K:Hid (zB w (w2.alloc (.cells #[a,b,c] 81))):=(zT J.out u).alloc (by have:=J.out.size;have:=u.size;omega) _;have kv:=Blk.new w2 81 #[a,b,c];clear u H2;go_wp2_with fail;generalize w2.alloc (.cells #[a,b,c] 81)=W3 at *;refine(HN.out _).mono ?_;rintro e w4 ⟨rfl,C⟩;have Y:Hid (zB w w4):=zT K.out C;have X:=kv.below C kv.lt;have j:=zH X;clear C HN kv X K;have c0:=j.out.cell 0;have c1:=j.out.cell 1;have c2:=j.out.cell 2;have a3:=j.out.lt;have d0:=(j.out.alloc (.cells #[a,b,.int .i64 ((c:Int)+1)] 81)).cell 0;have d1:=(j.out.alloc (.cells #[a,b,.int .i64 ((c:Int)+1)] 81)).cell 1;have e0:=(j.out.alloc (.cells #[a,.int .i64 ((b:Int)+1),(0:Int)] 81)).cell 0;go_wp2_with fail;have Z:Hid (zB w (w4.alloc (.cells #[a,.int .i64 ((b:Int)+1),.int .i64 (0)] 81))):=zL Y.out;generalize w4.alloc (.cells #[a,.int .i64 ((b:Int)+1),.int .i64 (0)] 81)=W6 at *;refine(HM.out _).mono ?_;rintro e w7 ⟨rfl,U⟩;have R:Hid (zB w w7):=zT Z.out U;clear U c0 c1 c2 d0 d1;go_wp2_with fail;refine(o.out _).mono ?_;rintro e w5 ⟨x,y,rfl,q1,q2,q3⟩;have Q1:=zH q1;have Q2:Hid (∀g,(Value.slice x (tp (zh N M)).length y).ownBlock=some g->w.heap.size<=g):=fun g hg=>Nat.le_trans R.out.size (q2 g hg);have Q3:Hid (zB w w5):=zT R.out q3;clear q1 q2 q3;go_wp2;refine bodyPost_ret (v:=.tuple #[.slice x (tp (zh N M)).length y,(0:Int)]) (by simp[results,Tryz.results105,go_sem]) rfl ?_;exact⟨_,x,y,0,rfl,Q1.out,Q2.out,Q3.out,rfl,rfl⟩
theorem zob(s:ByteArray)(w:World)(hs:s.size<=100000)(hw:Lb w)(h1:(s.toList==[97,110,121])=false)(h2:(s.toList==[110,111,110,101])=false)(a b c:Nat)(ha:a<=999)(hb:b<=999)(hc:c<=999)(hv:zS (zi s)=.ok [a,b,c])(ha0:¬0<a)(hb0:¬0<b)(hg:(s.extract 0 (s.size-(zi s).size)).toList=[94]):zC 105 #[s] w (xd w (.ok (zh (ze a b c) (ze (a) (b) (c+1))))):=by
 have HT:=zH (xz s w);have HP:Hid (∀W,zB w W->zR 69 #[.string (zi s)] W (.tuple #[.agg #[a,b,c],(0:Int)])):=fun W hb=>by have:=yR yQ (zi s) W (Nat.le_trans (qK s) hs) (hw.below hb);rw[hv] at this;exact this
 have HN:Hid (∀W,zR 126 #[.agg #[a,b,c]] W (.int .i64 (ze a b c))):=fun W=>yK a b c (by omega) (by omega) (by omega) W;have hN:=yr ha hb hc;have a2:(ze a b c:Int)<1000000000:=by unfold ALL at hN;omega
 have HM:Hid (∀W,zR 126 #[.agg #[a,b,.int .i64 ((c:Int)+1)]] W (.int .i64 (ze (a) (b) (c+1):Int))):=fun W=>yK (a) (b) (c+1) (by omega) (by omega) (by omega) W;have o:Hid (∀W,zC 104 #[.int .i64 ((ze a b c:Nat):Int),.int .i64 ((ze (a) (b) (c+1):Nat):Int)] W (yE W (tp (zh (ze a b c) (ze (a) (b) (c+1)))))):=fun W=>x8 (ze a b c) (ze (a) (b) (c+1)) W;obtain⟨M,hM⟩:∃M,ze (a) (b) (c+1)=M:=⟨_,rfl⟩;rw[hM] at HM o ⊢;clear hM;have ha0':¬(0:Int)<(a:Int):=by omega
 have hb0':¬(0:Int)<(b:Int):=by omega
 have a1:=qK s;generalize zi s=t at *;have hq:(s.size:Int)-(t.size:Int)=((s.size-t.size:Nat):Int):=by omega
 have a4:s.size-t.size<=s.size:=by omega
 generalize s.size-t.size=q at *;have i0:(0:Int)<=(q:Int):=by omega
 have i2:(q:Int)<=(s.size:Int):=by omega
 have a0:=fun W'=>run_slice_string_h (P:=Tryz.prog) W' 9 s Tryz.underlying9 .i64 (q:Int) i0 i2;simp only[Int.toNat_natCast] at a0;have V:wrap64 ((s.size:Int)-(t.size:Int))=(q:Int):=by rw[hq];unfold wrap64;omega
 have a5:IntKind.i64.wrap ((s.size:Int)-(t.size:Int))=(q:Int):=by rw[IntKind.wrap_i64];unfold wrap64 at V;exact V
 have g0:((s.extract 0 q).toList==[])=false:=by rw[hg];rfl
 have g1:((s.extract 0 q).toList==[61])=false:=by rw[hg];rfl
 have g2:((s.extract 0 q).toList==[33])=false:=by rw[hg];rfl
 have g3:((s.extract 0 q).toList==[60])=false:=by rw[hg];rfl
 have g4:((s.extract 0 q).toList==[60,61])=false:=by rw[hg];rfl
 have g5:((s.extract 0 q).toList==[62])=false:=by rw[hg];rfl
 have g6:((s.extract 0 q).toList==[62,61])=false:=by rw[hg];rfl
 have g7:((s.extract 0 q).toList==[126])=false:=by rw[hg];rfl
 have g8:((s.extract 0 q).toList==[94])=true:=by rw[hg];rfl
 clear hg;clear hv hw a1 hq hN;generalize ze a b c=N at *;go_enter Tryz.func105,Tryz.ntmps105;go_wp2_with fail;refine HT.out.mono ?_;rintro e w1 ⟨rfl,p⟩;have H2:=zH (HP.out _ p);have J:=zH p;clear p HP HT;go_wp2_with fail;refine H2.out.mono ?_;rintro e w2 ⟨rfl,u⟩;have K:Hid (zB w (w2.alloc (.cells #[a,b,c] 81))):=(zT J.out u).alloc (by have:=J.out.size;have:=u.size;omega) _;have kv:=Blk.new w2 81 #[a,b,c];clear u H2;go_wp2_with fail;generalize w2.alloc (.cells #[a,b,c] 81)=W3 at *;refine(HN.out _).mono ?_;rintro e w4 ⟨rfl,C⟩;have Y:Hid (zB w w4):=zT K.out C;have X:=kv.below C kv.lt;have j:=zH X;clear C HN kv X K;have c0:=j.out.cell 0;have c1:=j.out.cell 1;have c2:=j.out.cell 2;have a3:=j.out.lt;have d0:=(j.out.alloc (.cells #[a,b,.int .i64 ((c:Int)+1)] 81)).cell 0;have d1:=(j.out.alloc (.cells #[a,b,.int .i64 ((c:Int)+1)] 81)).cell 1;go_wp2_with fail;have Z:Hid (zB w (w4.alloc (.cells #[a,b,.int .i64 ((c:Int)+1)] 81))):=zL Y.out;generalize w4.alloc (.cells #[a,b,.int .i64 ((c:Int)+1)] 81)=W6 at *;refine(HM.out _).mono ?_;rintro e w7 ⟨rfl,U⟩;have R:Hid (zB w w7):=zT Z.out U;clear U c0 c1 c2 d0 d1;go_wp2_with fail;refine(o.out _).mono ?_;rintro e w5 ⟨x,y,rfl,q1,q2,q3⟩;have Q1:=zH q1;have Q2:Hid (∀g,(Value.slice x (tp (zh N M)).length y).ownBlock=some g->w.heap.size<=g):=fun g hg=>Nat.le_trans R.out.size (q2 g hg);have Q3:Hid (zB w w5):=zT R.out q3;clear q1 q2 q3;go_wp2;refine bodyPost_ret (v:=.tuple #[.slice x (tp (zh N M)).length y,(0:Int)]) (by simp[results,Tryz.results105,go_sem]) rfl ?_;exact⟨_,x,y,0,rfl,Q1.out,Q2.out,Q3.out,rfl,rfl⟩
theorem zkh(s:ByteArray)(w:World)(hs:s.size<=100000)(hw:Lb w)(h1:(s.toList==[97,110,121])=false)(h2:(s.toList==[110,111,110,101])=false)(a b c:Nat)(ha:a<=999)(hb:b<=999)(hc:c<=999)(hv:zS (zi s)=.ok [a,b,c])(hg0:(s.extract 0 (s.size-(zi s).size)).toList≠[])(hg1:(s.extract 0 (s.size-(zi s).size)).toList≠[61])(hg2:(s.extract 0 (s.size-(zi s).size)).toList≠[33])(hg3:(s.extract 0 (s.size-(zi s).size)).toList≠[60])(hg4:(s.extract 0 (s.size-(zi s).size)).toList≠[60,61])(hg5:(s.extract 0 (s.size-(zi s).size)).toList≠[62])(hg6:(s.extract 0 (s.size-(zi s).size)).toList≠[62,61])(hg7:(s.extract 0 (s.size-(zi s).size)).toList≠[126])(hg8:(s.extract 0 (s.size-(zi s).size)).toList≠[94]):zC 105 #[s] w (xd w (.error 3)):=by
 have HT:=zH (xz s w);have HP:Hid (∀W,zB w W->zR 69 #[.string (zi s)] W (.tuple #[.agg #[a,b,c],(0:Int)])):=fun W hb=>by have:=yR yQ (zi s) W (Nat.le_trans (qK s) hs) (hw.below hb);rw[hv] at this;exact this
 have HN:Hid (∀W,zR 126 #[.agg #[a,b,c]] W (.int .i64 (ze a b c))):=fun W=>yK a b c (by omega) (by omega) (by omega) W;have hN:=yr ha hb hc;have V:(ze a b c:Int)<1000000000:=by unfold ALL at hN;omega
 have R:=qK s;generalize zi s=t at *;have hq:(s.size:Int)-(t.size:Int)=((s.size-t.size:Nat):Int):=by omega
 have X:s.size-t.size<=s.size:=by omega
 generalize s.size-t.size=q at *;have i0:(0:Int)<=(q:Int):=by omega
 have i2:(q:Int)<=(s.size:Int):=by omega
 have M:=fun W'=>run_slice_string_h (P:=Tryz.prog) W' 9 s Tryz.underlying9 .i64 (q:Int) i0 i2;simp only[Int.toNat_natCast] at M;have C:wrap64 ((s.size:Int)-(t.size:Int))=(q:Int):=by rw[hq];unfold wrap64;omega
 have Y:IntKind.i64.wrap ((s.size:Int)-(t.size:Int))=(q:Int):=by rw[IntKind.wrap_i64];unfold wrap64 at C;exact C
 have g0:((s.extract 0 q).toList==[])=false:=by rw[beq_eq_false_iff_ne];exact hg0
 have g1:((s.extract 0 q).toList==[61])=false:=by rw[beq_eq_false_iff_ne];exact hg1
 have g2:((s.extract 0 q).toList==[33])=false:=by rw[beq_eq_false_iff_ne];exact hg2
 have g3:((s.extract 0 q).toList==[60])=false:=by rw[beq_eq_false_iff_ne];exact hg3
 have g4:((s.extract 0 q).toList==[60,61])=false:=by rw[beq_eq_false_iff_ne];exact hg4
 have g5:((s.extract 0 q).toList==[62])=false:=by rw[beq_eq_false_iff_ne];exact hg5
 have g6:((s.extract 0 q).toList==[62,61])=false:=by rw[beq_eq_false_iff_ne];exact hg6
 have g7:((s.extract 0 q).toList==[126])=false:=by rw[beq_eq_false_iff_ne];exact hg7
 have g8:((s.extract 0 q).toList==[94])=false:=by rw[beq_eq_false_iff_ne];exact hg8
 clear hg0 hg1 hg2 hg3 hg4 hg5 hg6 hg7 hg8;clear hv hw R hq hN;generalize ze a b c=N at *;go_enter Tryz.func105,Tryz.ntmps105;go_wp2_with fail;refine HT.out.mono ?_;rintro e w1 ⟨rfl,j⟩;have H2:=zH (HP.out _ j);have u:=zH j;clear j HP HT;go_wp2_with fail;refine H2.out.mono ?_;rintro e w2 ⟨rfl,o⟩;have y:Hid (zB w (w2.alloc (.cells #[a,b,c] 81))):=(zT u.out o).alloc (by have:=u.out.size;have:=o.size;omega) _;have kv:=Blk.new w2 81 #[a,b,c];clear o H2;go_wp2_with fail;generalize w2.alloc (.cells #[a,b,c] 81)=W3 at *;refine(HN.out _).mono ?_;rintro e w4 ⟨rfl,p⟩;have K:Hid (zB w w4):=zT y.out p;have J:=kv.below p kv.lt;have U:=zH J;clear p HN kv J y;go_wp2_with fail;refine bodyPost_ret (v:=.tuple #[.slice none 0 0,(3:Int)]) (by simp[results,Tryz.results105,go_sem]) rfl ?_;exact⟨[],none,0,3,rfl,xD _,fun g hg=>by simp[Value.ownBlock] at hg,K.out,rfl,rfl⟩
theorem zlH(s:ByteArray)(w:World)(hs:s.size<=100000)(hw:Lb w)(h1:(s.toList==[97,110,121])=false)(h2:(s.toList==[110,111,110,101])=false)(a b c:Nat)(ha:a<=999)(hb:b<=999)(hc:c<=999)(hv:zS (zi s)=.ok [a,b,c]):zC 105 #[s] w (xd w (xQ (s.extract 0 (s.size-(zi s).size)).toList a b c)):=by
 by_cases g0:(s.extract 0 (s.size-(zi s).size)).toList=[]
 ·rw[g0];exact zoD s w hs hw h1 h2 a b c ha hb hc hv g0
 by_cases g1:(s.extract 0 (s.size-(zi s).size)).toList=[61]
 ·rw[g1];exact ziB s w hs hw h1 h2 a b c ha hb hc hv g1
 by_cases g2:(s.extract 0 (s.size-(zi s).size)).toList=[33]
 ·rw[g2];exact zjO s w hs hw h1 h2 a b c ha hb hc hv g2
 by_cases g3:(s.extract 0 (s.size-(zi s).size)).toList=[60]
 ·rw[g3];exact zlJ s w hs hw h1 h2 a b c ha hb hc hv g3
 by_cases g4:(s.extract 0 (s.size-(zi s).size)).toList=[60,61]
 ·rw[g4];exact zpK s w hs hw h1 h2 a b c ha hb hc hv g4
 by_cases g5:(s.extract 0 (s.size-(zi s).size)).toList=[62]
 ·rw[g5];exact zhk s w hs hw h1 h2 a b c ha hb hc hv g5
 by_cases g6:(s.extract 0 (s.size-(zi s).size)).toList=[62,61]
 ·rw[g6];exact ziJ s w hs hw h1 h2 a b c ha hb hc hv g6
 by_cases g7:(s.extract 0 (s.size-(zi s).size)).toList=[126]
 ·rw[g7];exact zgB s w hs hw h1 h2 a b c ha hb hc hv g7
 by_cases g8:(s.extract 0 (s.size-(zi s).size)).toList=[94]
 ·rw[g8];have e:xQ [94] a b c=.ok (zh (ze a b c) (Yw a b c)):=rfl;rw[e];unfold Yw
  by_cases ha0:0<a
  ·rw[zA2 (by omega)]
   by_cases hb0:0<b
   ·exact zkk s w hs hw h1 h2 a b c ha hb hc hv ha0 hb0 g8
   ·exact zg3 s w hs hw h1 h2 a b c ha hb hc hv ha0 hb0 g8
  ·rw[zA1 (by omega)]
   by_cases hb0:0<b
   ·rw[zA2 (by omega)];exact zi1 s w hs hw h1 h2 a b c ha hb hc hv ha0 hb0 g8
   ·rw[zA1 (by omega)];exact zob s w hs hw h1 h2 a b c ha hb hc hv ha0 hb0 g8
 have e:xQ (s.extract 0 (s.size-(zi s).size)).toList a b c=.error 3:=by
  unfold xQ;simp[g0,g1,g2,g3,g4,g5,g6,g7,g8]
 rw[e];exact zkh s w hs hw h1 h2 a b c ha hb hc hv g0 g1 g2 g3 g4 g5 g6 g7 g8
theorem zjl(s:ByteArray)(w:World)(hs:s.size<=100000)(hw:Lb w):zC 105 #[s] w (xd w (xS s)):=by
 unfold xS
 by_cases h1:s.toList=[97,110,121]
 ·rw[zA2 h1];exact zkj s w h1
 rw[zA1 h1]
 by_cases h2:s.toList=[110,111,110,101]
 ·rw[zA2 h2];exact zkO s w h2
 rw[zA1 h2];have q1:(s.toList==[97,110,121])=false:=by rw[beq_eq_false_iff_ne];exact h1
 have q2:(s.toList==[110,111,110,101])=false:=by rw[beq_eq_false_iff_ne];exact h2
 cases hv:zS (zi s) with
 |error k=>exact zi2 s w hs hw q1 q2 k hv
 |ok ns =>obtain⟨hl,hn⟩:=YO hv;obtain⟨a,b,c,rfl⟩:=Ys hl;exact zlH s w hs hw q1 q2 a b c (hn a (by simp)) (hn b (by simp)) (hn c (by simp)) hv
end Go.Proofs.YthifnefkdjkicaaGreatDoor
