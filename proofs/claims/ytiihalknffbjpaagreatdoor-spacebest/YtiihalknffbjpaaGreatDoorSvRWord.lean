/- The reference: a word of a range. -/
import Derived.Test.YtiihalknffbjpaaGreatDoorSvRPar
import Derived.Test.YtiihalknffbjpaaGreatDoorSvShelfC
import Derived.Test.YtiihalknffbjpaaGreatDoorSvCmp
set_option maxHeartbeats 1000000
set_option maxRecDepth 100000
namespace Go.Proofs.YtiihalknffbjpaaGreatDoor
open Go.RowKit Go.Shelf Sv
theorem partF_err {l:List UInt8} {k:Int} (h:partF l=.error k):k ≠ 0:=by
 unfold partF at h
 split at h
 ·split at h
  ·cases h;decide
  ·split at h
   ·cases h;decide
   ·cases h
 ·cases h;decide
theorem partsF_err:∀ {l:List (Nat × ByteArray)} {k:Int},partsF l=.error k->k ≠ 0:=by
 intro l
 induction l with
 | nil=>intro k h;cases h
 | cons x l ih =>
  intro k h
  unfold partsF at h
  split at h
  ·rename_i hx;cases h;exact partF_err hx
  ·split at h
   ·rename_i hx;cases h;exact ih hx
   ·cases h
theorem versF_err {s:ByteArray} {k:Int} (h:versF s=.error k):k ≠ 0:=by
 unfold versF at h
 split at h
 ·exact partsF_err h
 ·cases h;decide
theorem signF_err {g:List UInt8} {a b c:Nat} {k:Int} (h:signF g a b c=.error k):k=3:=by
 unfold signF at h
 repeat (split at h;· cases h)
 cases h;rfl
theorem wordF_err {s:ByteArray} {k:Int} (h:wordF s=.error k):k ≠ 0:=by
 unfold wordF at h
 split at h
 ·cases h
 ·split at h
  ·cases h
  ·split at h
   ·rename_i hx;cases h;exact versF_err hx
   ·rw [signF_err h];decide
def RwOk (m:List Nat) (k:Int):Except Int (List Span)->Prop
 | .ok l=>m=tp l/\k=0
 | .error q=>m=[]/\k=q
def RwOut (w:World) (x:Except Int (List Span)) (e:Ending) (w':World):Prop:=∃ (m:List Nat) (a:Option Addr) (c:Nat) (k:Int),e=.returned (.tuple #[.slice a m.length c,.int .i64 k])/\NsAt w' (.slice a m.length c) m/\(∀ g,(Value.slice a m.length c).ownBlock=some g->w.heap.size<=g)/\Below w.heap.size w w'/\RwOk m k x
theorem rword_any' (s:ByteArray) (w:World) (h:s.toList=[97,110,121]):Calls Tryz.prog 115 #[.string s] w (RwOut w (.ok anyF)):=by
 have h1:(s.toList == [97,110,121])=true:=by rw [h];rfl
 have HR:=Lib.hid (rrow_any 0 1000000000 w)
 have he:rowF 0 1000000000=anyF:=rfl
 rw [he] at HR
 have HRR:Hid (Calls Tryz.prog 114 #[.int .i64 0,.int .i64 1000000000] w (NsOut w (tp anyF))):=HR.out
 clear HR he h
 generalize anyF=L at *
 go_enter Tryz.func115,Tryz.ntmps115
 go_wp2_with fail
 refine HRR.out.mono ?_
 rintro e w' ⟨a,c,rfl,q1,q2,q3⟩
 have Q1:=Lib.hid q1
 have Q2:=Lib.hid q2
 have Q3:=Lib.hid q3
 clear q1 q2 q3
 go_wp2
 refine bodyPost_ret (v:=.tuple #[.slice a (tp L).length c,.int .i64 0]) (by simp [results,Tryz.results115,go_sem]) rfl ?_
 exact ⟨_,a,c,0,rfl,Q1.out,Q2.out,Q3.out,rfl,rfl⟩
theorem rword_none (s:ByteArray) (w:World) (h:s.toList=[110,111,110,101]):Calls Tryz.prog 115 #[.string s] w (RwOut w (.ok [])):=by
 have h1:(s.toList == [97,110,121])=false:=by rw [h];rfl
 have h2:(s.toList == [110,111,110,101])=true:=by rw [h];rfl
 clear h
 go_enter Tryz.func115,Tryz.ntmps115
 go_wp2
 refine bodyPost_ret (v:=.tuple #[.slice none 0 0,.int .i64 0]) (by simp [results,Tryz.results115,go_sem]) rfl ?_
 exact ⟨[],none,0,0,rfl,nsAt_nil _,fun g hg=>by simp [Value.ownBlock] at hg,Below.refl _ _,rfl,rfl⟩
theorem rword_bad (s:ByteArray) (w:World) (hs:s.size<=100000) (hw:Lb w) (h1:(s.toList == [97,110,121])=false) (h2:(s.toList == [110,111,110,101])=false) (k:Int) (hv:versF (trimB s)=.error k):Calls Tryz.prog 115 #[.string s] w (RwOut w (.error k)):=by
 have HT:=Lib.hid (trim_any s w)
 have HP:Hid (∀ W,Below w.heap.size w W->Calls Tryz.prog 131 #[.string (trimB s)] W fun e w'=>e=.returned (.tuple #[.agg #[.int .i64 0,.int .i64 0,.int .i64 0],.int .i64 k])/\Below W.heap.size W w'):=fun W hb=>by have:=rvparse_any splitC (trimB s) W (Nat.le_trans (trimB_size s) hs) (hw.below hb);rw [hv] at this;exact this
 have hk:=versF_err hv
 have hk':(k != 0)=true:=by simpa using hk
 clear hv hw hk
 generalize trimB s=t at *
 go_enter Tryz.func115,Tryz.ntmps115
 go_wp2_with fail
 refine HT.out.mono ?_
 rintro e w1 ⟨rfl,hb1⟩
 have H2:=Lib.hid (HP.out _ hb1)
 have HB1:=Lib.hid hb1
 clear hb1 HP HT
 go_wp2_with fail
 refine H2.out.mono ?_
 rintro e w2 ⟨rfl,hb2⟩
 have HB2:Hid (Below w.heap.size w (w2.alloc (.cells #[.int .i64 0,.int .i64 0,.int .i64 0] 91))):=(HB1.out.trans (hb2.mono HB1.out.size)).alloc (by have:=HB1.out.size;have:=hb2.size;omega) _
 clear hb2 H2
 go_wp2
 refine bodyPost_ret (v:=.tuple #[.slice none 0 0,.int .i64 k]) (by simp [results,Tryz.results115,go_sem]) rfl ?_
 exact ⟨[],none,0,k,rfl,nsAt_nil _,fun g hg=>by simp [Value.ownBlock] at hg,HB2.out,rfl,rfl⟩
theorem rword_nil (s:ByteArray) (w:World) (hs:s.size<=100000) (hw:Lb w) (h1:(s.toList == [97,110,121])=false) (h2:(s.toList == [110,111,110,101])=false) (a b c:Nat) (ha:a<=999) (hb:b<=999) (hc:c<=999) (hv:versF (trimB s)=.ok [a,b,c]) (hg:(s.extract 0 (s.size - (trimB s).size)).toList=[]):Calls Tryz.prog 115 #[.string s] w (RwOut w (.ok (rowF (numN a b c) (numN a b c + 1)))):=by
 have HT:=Lib.hid (trim_any s w)
 have HP:Hid (∀ W,Below w.heap.size w W->Calls Tryz.prog 131 #[.string (trimB s)] W fun e w'=>e=.returned (.tuple #[.agg #[.int .i64 (a:Int),.int .i64 (b:Int),.int .i64 (c:Int)],.int .i64 0])/\Below W.heap.size W w'):=fun W hb=>by have:=rvparse_any splitC (trimB s) W (Nat.le_trans (trimB_size s) hs) (hw.below hb);rw [hv] at this;exact this
 have HN:Hid (∀ W,Calls Tryz.prog 189 #[.agg #[.int .i64 (a:Int),.int .i64 (b:Int),.int .i64 (c:Int)]] W fun e w'=>e=.returned (.int .i64 (numN a b c:Int))/\Below W.heap.size W w'):=fun W=>rnum_any a b c (by omega) (by omega) (by omega) W
 have hN:=numN_lt ha hb hc
 have hNi:(numN a b c:Int)<1000000000:=by unfold ALL at hN;omega
 have HROW:Hid (∀ W,Calls Tryz.prog 114 #[.int .i64 ((numN a b c:Nat):Int),.int .i64 (((numN a b c:Nat):Int) + 1)] W (NsOut W (tp (rowF (numN a b c) (numN a b c + 1))))):=fun W=>rrow_any (numN a b c) (numN a b c + 1) W
 have hts:=trimB_size s
 generalize trimB s=t at *
 have hq:(s.size:Int) - (t.size:Int)=((s.size - t.size:Nat):Int):=by omega
 have hqs:s.size - t.size<=s.size:=by omega
 generalize s.size - t.size=q at *
 have i0:(0:Int)<=(q:Int):=by omega
 have i2:(q:Int)<=(s.size:Int):=by omega
 have hsl:=fun W'=>run_slice_string_h (P:=Tryz.prog) W' 9 s Tryz.underlying9 .i64 (q:Int) i0 i2
 simp only [Int.toNat_natCast] at hsl
 have hw1:wrap64 ((s.size:Int) - (t.size:Int))=(q:Int):=by rw [hq];unfold wrap64;omega
 have hw2:IntKind.i64.wrap ((s.size:Int) - (t.size:Int))=(q:Int):=by rw [IntKind.wrap_i64];unfold wrap64 at hw1;exact hw1
 have g0:((s.extract 0 q).toList == [])=true:=by rw [hg];rfl
 clear hg
 clear hv hw hts hq hN
 generalize numN a b c=N at *
 go_enter Tryz.func115,Tryz.ntmps115
 go_wp2_with fail
 refine HT.out.mono ?_
 rintro e w1 ⟨rfl,hb1⟩
 have H2:=Lib.hid (HP.out _ hb1)
 have HB1:=Lib.hid hb1
 clear hb1 HP HT
 go_wp2_with fail
 refine H2.out.mono ?_
 rintro e w2 ⟨rfl,hb2⟩
 have HB2:Hid (Below w.heap.size w (w2.alloc (.cells #[.int .i64 (a:Int),.int .i64 (b:Int),.int .i64 (c:Int)] 91))):=(HB1.out.trans (hb2.mono HB1.out.size)).alloc (by have:=HB1.out.size;have:=hb2.size;omega) _
 have kv:=Blk.new w2 91 #[.int .i64 (a:Int),.int .i64 (b:Int),.int .i64 (c:Int)]
 clear hb2 H2
 go_wp2_with fail
 generalize w2.alloc (.cells #[.int .i64 (a:Int),.int .i64 (b:Int),.int .i64 (c:Int)] 91)=W3 at *
 refine (HN.out _).mono ?_
 rintro e w4 ⟨rfl,hb4⟩
 have HB4:Hid (Below w.heap.size w w4):=HB2.out.trans (hb4.mono HB2.out.size)
 have kv4:=kv.below hb4 kv.lt
 have HKV:=Lib.hid kv4
 clear hb4 HN kv kv4 HB2
 go_wp2_with fail
 refine (HROW.out _).mono ?_
 rintro e w5 ⟨x,y,rfl,q1,q2,q3⟩
 have Q1:=Lib.hid q1
 have Q2:Hid (∀ g,(Value.slice x (tp (rowF N (N + 1))).length y).ownBlock=some g->w.heap.size<=g):=fun g hg=>Nat.le_trans HB4.out.size (q2 g hg)
 have Q3:Hid (Below w.heap.size w w5):=HB4.out.trans (q3.mono HB4.out.size)
 clear q1 q2 q3
 go_wp2
 refine bodyPost_ret (v:=.tuple #[.slice x (tp (rowF N (N + 1))).length y,.int .i64 0]) (by simp [results,Tryz.results115,go_sem]) rfl ?_
 exact ⟨_,x,y,0,rfl,Q1.out,Q2.out,Q3.out,rfl,rfl⟩
theorem rword_eq (s:ByteArray) (w:World) (hs:s.size<=100000) (hw:Lb w) (h1:(s.toList == [97,110,121])=false) (h2:(s.toList == [110,111,110,101])=false) (a b c:Nat) (ha:a<=999) (hb:b<=999) (hc:c<=999) (hv:versF (trimB s)=.ok [a,b,c]) (hg:(s.extract 0 (s.size - (trimB s).size)).toList=[61]):Calls Tryz.prog 115 #[.string s] w (RwOut w (.ok (rowF (numN a b c) (numN a b c + 1)))):=by
 have HT:=Lib.hid (trim_any s w)
 have HP:Hid (∀ W,Below w.heap.size w W->Calls Tryz.prog 131 #[.string (trimB s)] W fun e w'=>e=.returned (.tuple #[.agg #[.int .i64 (a:Int),.int .i64 (b:Int),.int .i64 (c:Int)],.int .i64 0])/\Below W.heap.size W w'):=fun W hb=>by have:=rvparse_any splitC (trimB s) W (Nat.le_trans (trimB_size s) hs) (hw.below hb);rw [hv] at this;exact this
 have HN:Hid (∀ W,Calls Tryz.prog 189 #[.agg #[.int .i64 (a:Int),.int .i64 (b:Int),.int .i64 (c:Int)]] W fun e w'=>e=.returned (.int .i64 (numN a b c:Int))/\Below W.heap.size W w'):=fun W=>rnum_any a b c (by omega) (by omega) (by omega) W
 have hN:=numN_lt ha hb hc
 have hNi:(numN a b c:Int)<1000000000:=by unfold ALL at hN;omega
 have HROW:Hid (∀ W,Calls Tryz.prog 114 #[.int .i64 ((numN a b c:Nat):Int),.int .i64 (((numN a b c:Nat):Int) + 1)] W (NsOut W (tp (rowF (numN a b c) (numN a b c + 1))))):=fun W=>rrow_any (numN a b c) (numN a b c + 1) W
 have hts:=trimB_size s
 generalize trimB s=t at *
 have hq:(s.size:Int) - (t.size:Int)=((s.size - t.size:Nat):Int):=by omega
 have hqs:s.size - t.size<=s.size:=by omega
 generalize s.size - t.size=q at *
 have i0:(0:Int)<=(q:Int):=by omega
 have i2:(q:Int)<=(s.size:Int):=by omega
 have hsl:=fun W'=>run_slice_string_h (P:=Tryz.prog) W' 9 s Tryz.underlying9 .i64 (q:Int) i0 i2
 simp only [Int.toNat_natCast] at hsl
 have hw1:wrap64 ((s.size:Int) - (t.size:Int))=(q:Int):=by rw [hq];unfold wrap64;omega
 have hw2:IntKind.i64.wrap ((s.size:Int) - (t.size:Int))=(q:Int):=by rw [IntKind.wrap_i64];unfold wrap64 at hw1;exact hw1
 have g0:((s.extract 0 q).toList == [])=false:=by rw [hg];rfl
 have g1:((s.extract 0 q).toList == [61])=true:=by rw [hg];rfl
 clear hg
 clear hv hw hts hq hN
 generalize numN a b c=N at *
 go_enter Tryz.func115,Tryz.ntmps115
 go_wp2_with fail
 refine HT.out.mono ?_
 rintro e w1 ⟨rfl,hb1⟩
 have H2:=Lib.hid (HP.out _ hb1)
 have HB1:=Lib.hid hb1
 clear hb1 HP HT
 go_wp2_with fail
 refine H2.out.mono ?_
 rintro e w2 ⟨rfl,hb2⟩
 have HB2:Hid (Below w.heap.size w (w2.alloc (.cells #[.int .i64 (a:Int),.int .i64 (b:Int),.int .i64 (c:Int)] 91))):=(HB1.out.trans (hb2.mono HB1.out.size)).alloc (by have:=HB1.out.size;have:=hb2.size;omega) _
 have kv:=Blk.new w2 91 #[.int .i64 (a:Int),.int .i64 (b:Int),.int .i64 (c:Int)]
 clear hb2 H2
 go_wp2_with fail
 generalize w2.alloc (.cells #[.int .i64 (a:Int),.int .i64 (b:Int),.int .i64 (c:Int)] 91)=W3 at *
 refine (HN.out _).mono ?_
 rintro e w4 ⟨rfl,hb4⟩
 have HB4:Hid (Below w.heap.size w w4):=HB2.out.trans (hb4.mono HB2.out.size)
 have kv4:=kv.below hb4 kv.lt
 have HKV:=Lib.hid kv4
 clear hb4 HN kv kv4 HB2
 go_wp2_with fail
 refine (HROW.out _).mono ?_
 rintro e w5 ⟨x,y,rfl,q1,q2,q3⟩
 have Q1:=Lib.hid q1
 have Q2:Hid (∀ g,(Value.slice x (tp (rowF N (N + 1))).length y).ownBlock=some g->w.heap.size<=g):=fun g hg=>Nat.le_trans HB4.out.size (q2 g hg)
 have Q3:Hid (Below w.heap.size w w5):=HB4.out.trans (q3.mono HB4.out.size)
 clear q1 q2 q3
 go_wp2
 refine bodyPost_ret (v:=.tuple #[.slice x (tp (rowF N (N + 1))).length y,.int .i64 0]) (by simp [results,Tryz.results115,go_sem]) rfl ?_
 exact ⟨_,x,y,0,rfl,Q1.out,Q2.out,Q3.out,rfl,rfl⟩
theorem rword_lt (s:ByteArray) (w:World) (hs:s.size<=100000) (hw:Lb w) (h1:(s.toList == [97,110,121])=false) (h2:(s.toList == [110,111,110,101])=false) (a b c:Nat) (ha:a<=999) (hb:b<=999) (hc:c<=999) (hv:versF (trimB s)=.ok [a,b,c]) (hg:(s.extract 0 (s.size - (trimB s).size)).toList=[60]):Calls Tryz.prog 115 #[.string s] w (RwOut w (.ok (rowF 0 (numN a b c)))):=by
 have HT:=Lib.hid (trim_any s w)
 have HP:Hid (∀ W,Below w.heap.size w W->Calls Tryz.prog 131 #[.string (trimB s)] W fun e w'=>e=.returned (.tuple #[.agg #[.int .i64 (a:Int),.int .i64 (b:Int),.int .i64 (c:Int)],.int .i64 0])/\Below W.heap.size W w'):=fun W hb=>by have:=rvparse_any splitC (trimB s) W (Nat.le_trans (trimB_size s) hs) (hw.below hb);rw [hv] at this;exact this
 have HN:Hid (∀ W,Calls Tryz.prog 189 #[.agg #[.int .i64 (a:Int),.int .i64 (b:Int),.int .i64 (c:Int)]] W fun e w'=>e=.returned (.int .i64 (numN a b c:Int))/\Below W.heap.size W w'):=fun W=>rnum_any a b c (by omega) (by omega) (by omega) W
 have hN:=numN_lt ha hb hc
 have hNi:(numN a b c:Int)<1000000000:=by unfold ALL at hN;omega
 have HROW:Hid (∀ W,Calls Tryz.prog 114 #[.int .i64 (0),.int .i64 ((numN a b c:Nat):Int)] W (NsOut W (tp (rowF (0) (numN a b c))))):=fun W=>rrow_any (0) (numN a b c) W
 have hts:=trimB_size s
 generalize trimB s=t at *
 have hq:(s.size:Int) - (t.size:Int)=((s.size - t.size:Nat):Int):=by omega
 have hqs:s.size - t.size<=s.size:=by omega
 generalize s.size - t.size=q at *
 have i0:(0:Int)<=(q:Int):=by omega
 have i2:(q:Int)<=(s.size:Int):=by omega
 have hsl:=fun W'=>run_slice_string_h (P:=Tryz.prog) W' 9 s Tryz.underlying9 .i64 (q:Int) i0 i2
 simp only [Int.toNat_natCast] at hsl
 have hw1:wrap64 ((s.size:Int) - (t.size:Int))=(q:Int):=by rw [hq];unfold wrap64;omega
 have hw2:IntKind.i64.wrap ((s.size:Int) - (t.size:Int))=(q:Int):=by rw [IntKind.wrap_i64];unfold wrap64 at hw1;exact hw1
 have g0:((s.extract 0 q).toList == [])=false:=by rw [hg];rfl
 have g1:((s.extract 0 q).toList == [61])=false:=by rw [hg];rfl
 have g2:((s.extract 0 q).toList == [33])=false:=by rw [hg];rfl
 have g3:((s.extract 0 q).toList == [60])=true:=by rw [hg];rfl
 clear hg
 clear hv hw hts hq hN
 generalize numN a b c=N at *
 go_enter Tryz.func115,Tryz.ntmps115
 go_wp2_with fail
 refine HT.out.mono ?_
 rintro e w1 ⟨rfl,hb1⟩
 have H2:=Lib.hid (HP.out _ hb1)
 have HB1:=Lib.hid hb1
 clear hb1 HP HT
 go_wp2_with fail
 refine H2.out.mono ?_
 rintro e w2 ⟨rfl,hb2⟩
 have HB2:Hid (Below w.heap.size w (w2.alloc (.cells #[.int .i64 (a:Int),.int .i64 (b:Int),.int .i64 (c:Int)] 91))):=(HB1.out.trans (hb2.mono HB1.out.size)).alloc (by have:=HB1.out.size;have:=hb2.size;omega) _
 have kv:=Blk.new w2 91 #[.int .i64 (a:Int),.int .i64 (b:Int),.int .i64 (c:Int)]
 clear hb2 H2
 go_wp2_with fail
 generalize w2.alloc (.cells #[.int .i64 (a:Int),.int .i64 (b:Int),.int .i64 (c:Int)] 91)=W3 at *
 refine (HN.out _).mono ?_
 rintro e w4 ⟨rfl,hb4⟩
 have HB4:Hid (Below w.heap.size w w4):=HB2.out.trans (hb4.mono HB2.out.size)
 have kv4:=kv.below hb4 kv.lt
 have HKV:=Lib.hid kv4
 clear hb4 HN kv kv4 HB2
 go_wp2_with fail
 refine (HROW.out _).mono ?_
 rintro e w5 ⟨x,y,rfl,q1,q2,q3⟩
 have Q1:=Lib.hid q1
 have Q2:Hid (∀ g,(Value.slice x (tp (rowF 0 N)).length y).ownBlock=some g->w.heap.size<=g):=fun g hg=>Nat.le_trans HB4.out.size (q2 g hg)
 have Q3:Hid (Below w.heap.size w w5):=HB4.out.trans (q3.mono HB4.out.size)
 clear q1 q2 q3
 go_wp2
 refine bodyPost_ret (v:=.tuple #[.slice x (tp (rowF 0 N)).length y,.int .i64 0]) (by simp [results,Tryz.results115,go_sem]) rfl ?_
 exact ⟨_,x,y,0,rfl,Q1.out,Q2.out,Q3.out,rfl,rfl⟩
theorem rword_le (s:ByteArray) (w:World) (hs:s.size<=100000) (hw:Lb w) (h1:(s.toList == [97,110,121])=false) (h2:(s.toList == [110,111,110,101])=false) (a b c:Nat) (ha:a<=999) (hb:b<=999) (hc:c<=999) (hv:versF (trimB s)=.ok [a,b,c]) (hg:(s.extract 0 (s.size - (trimB s).size)).toList=[60,61]):Calls Tryz.prog 115 #[.string s] w (RwOut w (.ok (rowF 0 (numN a b c + 1)))):=by
 have HT:=Lib.hid (trim_any s w)
 have HP:Hid (∀ W,Below w.heap.size w W->Calls Tryz.prog 131 #[.string (trimB s)] W fun e w'=>e=.returned (.tuple #[.agg #[.int .i64 (a:Int),.int .i64 (b:Int),.int .i64 (c:Int)],.int .i64 0])/\Below W.heap.size W w'):=fun W hb=>by have:=rvparse_any splitC (trimB s) W (Nat.le_trans (trimB_size s) hs) (hw.below hb);rw [hv] at this;exact this
 have HN:Hid (∀ W,Calls Tryz.prog 189 #[.agg #[.int .i64 (a:Int),.int .i64 (b:Int),.int .i64 (c:Int)]] W fun e w'=>e=.returned (.int .i64 (numN a b c:Int))/\Below W.heap.size W w'):=fun W=>rnum_any a b c (by omega) (by omega) (by omega) W
 have hN:=numN_lt ha hb hc
 have hNi:(numN a b c:Int)<1000000000:=by unfold ALL at hN;omega
 have HROW:Hid (∀ W,Calls Tryz.prog 114 #[.int .i64 (0),.int .i64 (((numN a b c:Nat):Int) + 1)] W (NsOut W (tp (rowF (0) (numN a b c + 1))))):=fun W=>rrow_any (0) (numN a b c + 1) W
 have hts:=trimB_size s
 generalize trimB s=t at *
 have hq:(s.size:Int) - (t.size:Int)=((s.size - t.size:Nat):Int):=by omega
 have hqs:s.size - t.size<=s.size:=by omega
 generalize s.size - t.size=q at *
 have i0:(0:Int)<=(q:Int):=by omega
 have i2:(q:Int)<=(s.size:Int):=by omega
 have hsl:=fun W'=>run_slice_string_h (P:=Tryz.prog) W' 9 s Tryz.underlying9 .i64 (q:Int) i0 i2
 simp only [Int.toNat_natCast] at hsl
 have hw1:wrap64 ((s.size:Int) - (t.size:Int))=(q:Int):=by rw [hq];unfold wrap64;omega
 have hw2:IntKind.i64.wrap ((s.size:Int) - (t.size:Int))=(q:Int):=by rw [IntKind.wrap_i64];unfold wrap64 at hw1;exact hw1
 have g0:((s.extract 0 q).toList == [])=false:=by rw [hg];rfl
 have g1:((s.extract 0 q).toList == [61])=false:=by rw [hg];rfl
 have g2:((s.extract 0 q).toList == [33])=false:=by rw [hg];rfl
 have g3:((s.extract 0 q).toList == [60])=false:=by rw [hg];rfl
 have g4:((s.extract 0 q).toList == [60,61])=true:=by rw [hg];rfl
 clear hg
 clear hv hw hts hq hN
 generalize numN a b c=N at *
 go_enter Tryz.func115,Tryz.ntmps115
 go_wp2_with fail
 refine HT.out.mono ?_
 rintro e w1 ⟨rfl,hb1⟩
 have H2:=Lib.hid (HP.out _ hb1)
 have HB1:=Lib.hid hb1
 clear hb1 HP HT
 go_wp2_with fail
 refine H2.out.mono ?_
 rintro e w2 ⟨rfl,hb2⟩
 have HB2:Hid (Below w.heap.size w (w2.alloc (.cells #[.int .i64 (a:Int),.int .i64 (b:Int),.int .i64 (c:Int)] 91))):=(HB1.out.trans (hb2.mono HB1.out.size)).alloc (by have:=HB1.out.size;have:=hb2.size;omega) _
 have kv:=Blk.new w2 91 #[.int .i64 (a:Int),.int .i64 (b:Int),.int .i64 (c:Int)]
 clear hb2 H2
 go_wp2_with fail
 generalize w2.alloc (.cells #[.int .i64 (a:Int),.int .i64 (b:Int),.int .i64 (c:Int)] 91)=W3 at *
 refine (HN.out _).mono ?_
 rintro e w4 ⟨rfl,hb4⟩
 have HB4:Hid (Below w.heap.size w w4):=HB2.out.trans (hb4.mono HB2.out.size)
 have kv4:=kv.below hb4 kv.lt
 have HKV:=Lib.hid kv4
 clear hb4 HN kv kv4 HB2
 go_wp2_with fail
 refine (HROW.out _).mono ?_
 rintro e w5 ⟨x,y,rfl,q1,q2,q3⟩
 have Q1:=Lib.hid q1
 have Q2:Hid (∀ g,(Value.slice x (tp (rowF 0 (N + 1))).length y).ownBlock=some g->w.heap.size<=g):=fun g hg=>Nat.le_trans HB4.out.size (q2 g hg)
 have Q3:Hid (Below w.heap.size w w5):=HB4.out.trans (q3.mono HB4.out.size)
 clear q1 q2 q3
 go_wp2
 refine bodyPost_ret (v:=.tuple #[.slice x (tp (rowF 0 (N + 1))).length y,.int .i64 0]) (by simp [results,Tryz.results115,go_sem]) rfl ?_
 exact ⟨_,x,y,0,rfl,Q1.out,Q2.out,Q3.out,rfl,rfl⟩
theorem rword_gt (s:ByteArray) (w:World) (hs:s.size<=100000) (hw:Lb w) (h1:(s.toList == [97,110,121])=false) (h2:(s.toList == [110,111,110,101])=false) (a b c:Nat) (ha:a<=999) (hb:b<=999) (hc:c<=999) (hv:versF (trimB s)=.ok [a,b,c]) (hg:(s.extract 0 (s.size - (trimB s).size)).toList=[62]):Calls Tryz.prog 115 #[.string s] w (RwOut w (.ok (rowF (numN a b c + 1) 1000000000))):=by
 have HT:=Lib.hid (trim_any s w)
 have HP:Hid (∀ W,Below w.heap.size w W->Calls Tryz.prog 131 #[.string (trimB s)] W fun e w'=>e=.returned (.tuple #[.agg #[.int .i64 (a:Int),.int .i64 (b:Int),.int .i64 (c:Int)],.int .i64 0])/\Below W.heap.size W w'):=fun W hb=>by have:=rvparse_any splitC (trimB s) W (Nat.le_trans (trimB_size s) hs) (hw.below hb);rw [hv] at this;exact this
 have HN:Hid (∀ W,Calls Tryz.prog 189 #[.agg #[.int .i64 (a:Int),.int .i64 (b:Int),.int .i64 (c:Int)]] W fun e w'=>e=.returned (.int .i64 (numN a b c:Int))/\Below W.heap.size W w'):=fun W=>rnum_any a b c (by omega) (by omega) (by omega) W
 have hN:=numN_lt ha hb hc
 have hNi:(numN a b c:Int)<1000000000:=by unfold ALL at hN;omega
 have HROW:Hid (∀ W,Calls Tryz.prog 114 #[.int .i64 (((numN a b c:Nat):Int) + 1),.int .i64 (1000000000)] W (NsOut W (tp (rowF (numN a b c + 1) (1000000000))))):=fun W=>rrow_any (numN a b c + 1) (1000000000) W
 have hts:=trimB_size s
 generalize trimB s=t at *
 have hq:(s.size:Int) - (t.size:Int)=((s.size - t.size:Nat):Int):=by omega
 have hqs:s.size - t.size<=s.size:=by omega
 generalize s.size - t.size=q at *
 have i0:(0:Int)<=(q:Int):=by omega
 have i2:(q:Int)<=(s.size:Int):=by omega
 have hsl:=fun W'=>run_slice_string_h (P:=Tryz.prog) W' 9 s Tryz.underlying9 .i64 (q:Int) i0 i2
 simp only [Int.toNat_natCast] at hsl
 have hw1:wrap64 ((s.size:Int) - (t.size:Int))=(q:Int):=by rw [hq];unfold wrap64;omega
 have hw2:IntKind.i64.wrap ((s.size:Int) - (t.size:Int))=(q:Int):=by rw [IntKind.wrap_i64];unfold wrap64 at hw1;exact hw1
 have g0:((s.extract 0 q).toList == [])=false:=by rw [hg];rfl
 have g1:((s.extract 0 q).toList == [61])=false:=by rw [hg];rfl
 have g2:((s.extract 0 q).toList == [33])=false:=by rw [hg];rfl
 have g3:((s.extract 0 q).toList == [60])=false:=by rw [hg];rfl
 have g4:((s.extract 0 q).toList == [60,61])=false:=by rw [hg];rfl
 have g5:((s.extract 0 q).toList == [62])=true:=by rw [hg];rfl
 clear hg
 clear hv hw hts hq hN
 generalize numN a b c=N at *
 go_enter Tryz.func115,Tryz.ntmps115
 go_wp2_with fail
 refine HT.out.mono ?_
 rintro e w1 ⟨rfl,hb1⟩
 have H2:=Lib.hid (HP.out _ hb1)
 have HB1:=Lib.hid hb1
 clear hb1 HP HT
 go_wp2_with fail
 refine H2.out.mono ?_
 rintro e w2 ⟨rfl,hb2⟩
 have HB2:Hid (Below w.heap.size w (w2.alloc (.cells #[.int .i64 (a:Int),.int .i64 (b:Int),.int .i64 (c:Int)] 91))):=(HB1.out.trans (hb2.mono HB1.out.size)).alloc (by have:=HB1.out.size;have:=hb2.size;omega) _
 have kv:=Blk.new w2 91 #[.int .i64 (a:Int),.int .i64 (b:Int),.int .i64 (c:Int)]
 clear hb2 H2
 go_wp2_with fail
 generalize w2.alloc (.cells #[.int .i64 (a:Int),.int .i64 (b:Int),.int .i64 (c:Int)] 91)=W3 at *
 refine (HN.out _).mono ?_
 rintro e w4 ⟨rfl,hb4⟩
 have HB4:Hid (Below w.heap.size w w4):=HB2.out.trans (hb4.mono HB2.out.size)
 have kv4:=kv.below hb4 kv.lt
 have HKV:=Lib.hid kv4
 clear hb4 HN kv kv4 HB2
 go_wp2_with fail
 refine (HROW.out _).mono ?_
 rintro e w5 ⟨x,y,rfl,q1,q2,q3⟩
 have Q1:=Lib.hid q1
 have Q2:Hid (∀ g,(Value.slice x (tp (rowF (N + 1) 1000000000)).length y).ownBlock=some g->w.heap.size<=g):=fun g hg=>Nat.le_trans HB4.out.size (q2 g hg)
 have Q3:Hid (Below w.heap.size w w5):=HB4.out.trans (q3.mono HB4.out.size)
 clear q1 q2 q3
 go_wp2
 refine bodyPost_ret (v:=.tuple #[.slice x (tp (rowF (N + 1) 1000000000)).length y,.int .i64 0]) (by simp [results,Tryz.results115,go_sem]) rfl ?_
 exact ⟨_,x,y,0,rfl,Q1.out,Q2.out,Q3.out,rfl,rfl⟩
theorem rword_ge (s:ByteArray) (w:World) (hs:s.size<=100000) (hw:Lb w) (h1:(s.toList == [97,110,121])=false) (h2:(s.toList == [110,111,110,101])=false) (a b c:Nat) (ha:a<=999) (hb:b<=999) (hc:c<=999) (hv:versF (trimB s)=.ok [a,b,c]) (hg:(s.extract 0 (s.size - (trimB s).size)).toList=[62,61]):Calls Tryz.prog 115 #[.string s] w (RwOut w (.ok (rowF (numN a b c) 1000000000))):=by
 have HT:=Lib.hid (trim_any s w)
 have HP:Hid (∀ W,Below w.heap.size w W->Calls Tryz.prog 131 #[.string (trimB s)] W fun e w'=>e=.returned (.tuple #[.agg #[.int .i64 (a:Int),.int .i64 (b:Int),.int .i64 (c:Int)],.int .i64 0])/\Below W.heap.size W w'):=fun W hb=>by have:=rvparse_any splitC (trimB s) W (Nat.le_trans (trimB_size s) hs) (hw.below hb);rw [hv] at this;exact this
 have HN:Hid (∀ W,Calls Tryz.prog 189 #[.agg #[.int .i64 (a:Int),.int .i64 (b:Int),.int .i64 (c:Int)]] W fun e w'=>e=.returned (.int .i64 (numN a b c:Int))/\Below W.heap.size W w'):=fun W=>rnum_any a b c (by omega) (by omega) (by omega) W
 have hN:=numN_lt ha hb hc
 have hNi:(numN a b c:Int)<1000000000:=by unfold ALL at hN;omega
 have HROW:Hid (∀ W,Calls Tryz.prog 114 #[.int .i64 ((numN a b c:Nat):Int),.int .i64 (1000000000)] W (NsOut W (tp (rowF (numN a b c) (1000000000))))):=fun W=>rrow_any (numN a b c) (1000000000) W
 have hts:=trimB_size s
 generalize trimB s=t at *
 have hq:(s.size:Int) - (t.size:Int)=((s.size - t.size:Nat):Int):=by omega
 have hqs:s.size - t.size<=s.size:=by omega
 generalize s.size - t.size=q at *
 have i0:(0:Int)<=(q:Int):=by omega
 have i2:(q:Int)<=(s.size:Int):=by omega
 have hsl:=fun W'=>run_slice_string_h (P:=Tryz.prog) W' 9 s Tryz.underlying9 .i64 (q:Int) i0 i2
 simp only [Int.toNat_natCast] at hsl
 have hw1:wrap64 ((s.size:Int) - (t.size:Int))=(q:Int):=by rw [hq];unfold wrap64;omega
 have hw2:IntKind.i64.wrap ((s.size:Int) - (t.size:Int))=(q:Int):=by rw [IntKind.wrap_i64];unfold wrap64 at hw1;exact hw1
 have g0:((s.extract 0 q).toList == [])=false:=by rw [hg];rfl
 have g1:((s.extract 0 q).toList == [61])=false:=by rw [hg];rfl
 have g2:((s.extract 0 q).toList == [33])=false:=by rw [hg];rfl
 have g3:((s.extract 0 q).toList == [60])=false:=by rw [hg];rfl
 have g4:((s.extract 0 q).toList == [60,61])=false:=by rw [hg];rfl
 have g5:((s.extract 0 q).toList == [62])=false:=by rw [hg];rfl
 have g6:((s.extract 0 q).toList == [62,61])=true:=by rw [hg];rfl
 clear hg
 clear hv hw hts hq hN
 generalize numN a b c=N at *
 go_enter Tryz.func115,Tryz.ntmps115
 go_wp2_with fail
 refine HT.out.mono ?_
 rintro e w1 ⟨rfl,hb1⟩
 have H2:=Lib.hid (HP.out _ hb1)
 have HB1:=Lib.hid hb1
 clear hb1 HP HT
 go_wp2_with fail
 refine H2.out.mono ?_
 rintro e w2 ⟨rfl,hb2⟩
 have HB2:Hid (Below w.heap.size w (w2.alloc (.cells #[.int .i64 (a:Int),.int .i64 (b:Int),.int .i64 (c:Int)] 91))):=(HB1.out.trans (hb2.mono HB1.out.size)).alloc (by have:=HB1.out.size;have:=hb2.size;omega) _
 have kv:=Blk.new w2 91 #[.int .i64 (a:Int),.int .i64 (b:Int),.int .i64 (c:Int)]
 clear hb2 H2
 go_wp2_with fail
 generalize w2.alloc (.cells #[.int .i64 (a:Int),.int .i64 (b:Int),.int .i64 (c:Int)] 91)=W3 at *
 refine (HN.out _).mono ?_
 rintro e w4 ⟨rfl,hb4⟩
 have HB4:Hid (Below w.heap.size w w4):=HB2.out.trans (hb4.mono HB2.out.size)
 have kv4:=kv.below hb4 kv.lt
 have HKV:=Lib.hid kv4
 clear hb4 HN kv kv4 HB2
 go_wp2_with fail
 refine (HROW.out _).mono ?_
 rintro e w5 ⟨x,y,rfl,q1,q2,q3⟩
 have Q1:=Lib.hid q1
 have Q2:Hid (∀ g,(Value.slice x (tp (rowF N 1000000000)).length y).ownBlock=some g->w.heap.size<=g):=fun g hg=>Nat.le_trans HB4.out.size (q2 g hg)
 have Q3:Hid (Below w.heap.size w w5):=HB4.out.trans (q3.mono HB4.out.size)
 clear q1 q2 q3
 go_wp2
 refine bodyPost_ret (v:=.tuple #[.slice x (tp (rowF N 1000000000)).length y,.int .i64 0]) (by simp [results,Tryz.results115,go_sem]) rfl ?_
 exact ⟨_,x,y,0,rfl,Q1.out,Q2.out,Q3.out,rfl,rfl⟩
theorem rword_not (s:ByteArray) (w:World) (hs:s.size<=100000) (hw:Lb w) (h1:(s.toList == [97,110,121])=false) (h2:(s.toList == [110,111,110,101])=false) (a b c:Nat) (ha:a<=999) (hb:b<=999) (hc:c<=999) (hv:versF (trimB s)=.ok [a,b,c]) (hg:(s.extract 0 (s.size - (trimB s).size)).toList=[33]):Calls Tryz.prog 115 #[.string s] w (RwOut w (.ok (nt (rowF (numN a b c) (numN a b c + 1))))):=by
 have HT:=Lib.hid (trim_any s w)
 have HP:Hid (∀ W,Below w.heap.size w W->Calls Tryz.prog 131 #[.string (trimB s)] W fun e w'=>e=.returned (.tuple #[.agg #[.int .i64 (a:Int),.int .i64 (b:Int),.int .i64 (c:Int)],.int .i64 0])/\Below W.heap.size W w'):=fun W hb=>by have:=rvparse_any splitC (trimB s) W (Nat.le_trans (trimB_size s) hs) (hw.below hb);rw [hv] at this;exact this
 have HN:Hid (∀ W,Calls Tryz.prog 189 #[.agg #[.int .i64 (a:Int),.int .i64 (b:Int),.int .i64 (c:Int)]] W fun e w'=>e=.returned (.int .i64 (numN a b c:Int))/\Below W.heap.size W w'):=fun W=>rnum_any a b c (by omega) (by omega) (by omega) W
 have hN:=numN_lt ha hb hc
 have hNi:(numN a b c:Int)<1000000000:=by unfold ALL at hN;omega
 have HROW:Hid (∀ W,Calls Tryz.prog 114 #[.int .i64 ((numN a b c:Nat):Int),.int .i64 (((numN a b c:Nat):Int) + 1)] W (NsOut W (tp (rowF (numN a b c) (numN a b c + 1))))):=fun W=>rrow_any (numN a b c) (numN a b c + 1) W
 have hts:=trimB_size s
 generalize trimB s=t at *
 have hq:(s.size:Int) - (t.size:Int)=((s.size - t.size:Nat):Int):=by omega
 have hqs:s.size - t.size<=s.size:=by omega
 generalize s.size - t.size=q at *
 have i0:(0:Int)<=(q:Int):=by omega
 have i2:(q:Int)<=(s.size:Int):=by omega
 have hsl:=fun W'=>run_slice_string_h (P:=Tryz.prog) W' 9 s Tryz.underlying9 .i64 (q:Int) i0 i2
 simp only [Int.toNat_natCast] at hsl
 have hw1:wrap64 ((s.size:Int) - (t.size:Int))=(q:Int):=by rw [hq];unfold wrap64;omega
 have hw2:IntKind.i64.wrap ((s.size:Int) - (t.size:Int))=(q:Int):=by rw [IntKind.wrap_i64];unfold wrap64 at hw1;exact hw1
 have g0:((s.extract 0 q).toList == [])=false:=by rw [hg];rfl
 have g1:((s.extract 0 q).toList == [61])=false:=by rw [hg];rfl
 have g2:((s.extract 0 q).toList == [33])=true:=by rw [hg];rfl
 clear hg
 clear hv hw hts hq hN
 generalize numN a b c=N at *
 go_enter Tryz.func115,Tryz.ntmps115
 go_wp2_with fail
 refine HT.out.mono ?_
 rintro e w1 ⟨rfl,hb1⟩
 have H2:=Lib.hid (HP.out _ hb1)
 have HB1:=Lib.hid hb1
 clear hb1 HP HT
 go_wp2_with fail
 refine H2.out.mono ?_
 rintro e w2 ⟨rfl,hb2⟩
 have HB2:Hid (Below w.heap.size w (w2.alloc (.cells #[.int .i64 (a:Int),.int .i64 (b:Int),.int .i64 (c:Int)] 91))):=(HB1.out.trans (hb2.mono HB1.out.size)).alloc (by have:=HB1.out.size;have:=hb2.size;omega) _
 have kv:=Blk.new w2 91 #[.int .i64 (a:Int),.int .i64 (b:Int),.int .i64 (c:Int)]
 clear hb2 H2
 go_wp2_with fail
 generalize w2.alloc (.cells #[.int .i64 (a:Int),.int .i64 (b:Int),.int .i64 (c:Int)] 91)=W3 at *
 refine (HN.out _).mono ?_
 rintro e w4 ⟨rfl,hb4⟩
 have HB4:Hid (Below w.heap.size w w4):=HB2.out.trans (hb4.mono HB2.out.size)
 have kv4:=kv.below hb4 kv.lt
 have HKV:=Lib.hid kv4
 clear hb4 HN kv kv4 HB2
 go_wp2_with fail
 refine (HROW.out _).mono ?_
 rintro e w5 ⟨x,y,rfl,q1,q2,q3⟩
 have HB5:Hid (Below w.heap.size w w5):=HB4.out.trans (q3.mono HB4.out.size)
 have HNOT:=Lib.hid (rnot_any (rowF N (N + 1)) (rg_row (by unfold ALL;omega)) _ w5 q1)
 clear q1 q2 q3
 go_wp2_with fail
 refine HNOT.out.mono ?_
 rintro e w6 ⟨x6,y6,rfl,q1,q2,q3⟩
 have Q1:=Lib.hid q1
 have Q2:Hid (∀ g,(Value.slice x6 (tp (nt (rowF N (N + 1)))).length y6).ownBlock=some g->w.heap.size<=g):=fun g hg=>Nat.le_trans HB5.out.size (q2 g hg)
 have Q3:Hid (Below w.heap.size w w6):=HB5.out.trans (q3.mono HB5.out.size)
 clear q1 q2 q3
 go_wp2
 refine bodyPost_ret (v:=.tuple #[.slice x6 (tp (nt (rowF N (N + 1)))).length y6,.int .i64 0]) (by simp [results,Tryz.results115,go_sem]) rfl ?_
 exact ⟨_,x6,y6,0,rfl,Q1.out,Q2.out,Q3.out,rfl,rfl⟩
theorem rword_til (s:ByteArray) (w:World) (hs:s.size<=100000) (hw:Lb w) (h1:(s.toList == [97,110,121])=false) (h2:(s.toList == [110,111,110,101])=false) (a b c:Nat) (ha:a<=999) (hb:b<=999) (hc:c<=999) (hv:versF (trimB s)=.ok [a,b,c]) (hg:(s.extract 0 (s.size - (trimB s).size)).toList=[126]):Calls Tryz.prog 115 #[.string s] w (RwOut w (.ok (rowF (numN a b c) (numN a (b + 1) 0)))):=by
 have HT:=Lib.hid (trim_any s w)
 have HP:Hid (∀ W,Below w.heap.size w W->Calls Tryz.prog 131 #[.string (trimB s)] W fun e w'=>e=.returned (.tuple #[.agg #[.int .i64 (a:Int),.int .i64 (b:Int),.int .i64 (c:Int)],.int .i64 0])/\Below W.heap.size W w'):=fun W hb=>by have:=rvparse_any splitC (trimB s) W (Nat.le_trans (trimB_size s) hs) (hw.below hb);rw [hv] at this;exact this
 have HN:Hid (∀ W,Calls Tryz.prog 189 #[.agg #[.int .i64 (a:Int),.int .i64 (b:Int),.int .i64 (c:Int)]] W fun e w'=>e=.returned (.int .i64 (numN a b c:Int))/\Below W.heap.size W w'):=fun W=>rnum_any a b c (by omega) (by omega) (by omega) W
 have hN:=numN_lt ha hb hc
 have hNi:(numN a b c:Int)<1000000000:=by unfold ALL at hN;omega
 have HM:Hid (∀ W,Calls Tryz.prog 189 #[.agg #[.int .i64 (a:Int),.int .i64 ((b:Int) + 1),.int .i64 0]] W fun e w'=>e=.returned (.int .i64 (numN a (b + 1) 0:Int))/\Below W.heap.size W w'):=fun W=>rnum_any a (b + 1) 0 (by omega) (by omega) (by omega) W
 have HROW:Hid (∀ W,Calls Tryz.prog 114 #[.int .i64 ((numN a b c:Nat):Int),.int .i64 ((numN a (b + 1) 0:Nat):Int)] W (NsOut W (tp (rowF (numN a b c) (numN a (b + 1) 0))))):=fun W=>rrow_any (numN a b c) (numN a (b + 1) 0) W
 obtain ⟨M,hM⟩:∃ M,numN a (b + 1) 0=M:=⟨_,rfl⟩
 rw [hM] at HM HROW ⊢
 clear hM
 have hts:=trimB_size s
 generalize trimB s=t at *
 have hq:(s.size:Int) - (t.size:Int)=((s.size - t.size:Nat):Int):=by omega
 have hqs:s.size - t.size<=s.size:=by omega
 generalize s.size - t.size=q at *
 have i0:(0:Int)<=(q:Int):=by omega
 have i2:(q:Int)<=(s.size:Int):=by omega
 have hsl:=fun W'=>run_slice_string_h (P:=Tryz.prog) W' 9 s Tryz.underlying9 .i64 (q:Int) i0 i2
 simp only [Int.toNat_natCast] at hsl
 have hw1:wrap64 ((s.size:Int) - (t.size:Int))=(q:Int):=by rw [hq];unfold wrap64;omega
 have hw2:IntKind.i64.wrap ((s.size:Int) - (t.size:Int))=(q:Int):=by rw [IntKind.wrap_i64];unfold wrap64 at hw1;exact hw1
 have g0:((s.extract 0 q).toList == [])=false:=by rw [hg];rfl
 have g1:((s.extract 0 q).toList == [61])=false:=by rw [hg];rfl
 have g2:((s.extract 0 q).toList == [33])=false:=by rw [hg];rfl
 have g3:((s.extract 0 q).toList == [60])=false:=by rw [hg];rfl
 have g4:((s.extract 0 q).toList == [60,61])=false:=by rw [hg];rfl
 have g5:((s.extract 0 q).toList == [62])=false:=by rw [hg];rfl
 have g6:((s.extract 0 q).toList == [62,61])=false:=by rw [hg];rfl
 have g7:((s.extract 0 q).toList == [126])=true:=by rw [hg];rfl
 clear hg
 clear hv hw hts hq hN
 generalize numN a b c=N at *
 go_enter Tryz.func115,Tryz.ntmps115
 go_wp2_with fail
 refine HT.out.mono ?_
 rintro e w1 ⟨rfl,hb1⟩
 have H2:=Lib.hid (HP.out _ hb1)
 have HB1:=Lib.hid hb1
 clear hb1 HP HT
 go_wp2_with fail
 refine H2.out.mono ?_
 rintro e w2 ⟨rfl,hb2⟩
 have HB2:Hid (Below w.heap.size w (w2.alloc (.cells #[.int .i64 (a:Int),.int .i64 (b:Int),.int .i64 (c:Int)] 91))):=(HB1.out.trans (hb2.mono HB1.out.size)).alloc (by have:=HB1.out.size;have:=hb2.size;omega) _
 have kv:=Blk.new w2 91 #[.int .i64 (a:Int),.int .i64 (b:Int),.int .i64 (c:Int)]
 clear hb2 H2
 go_wp2_with fail
 generalize w2.alloc (.cells #[.int .i64 (a:Int),.int .i64 (b:Int),.int .i64 (c:Int)] 91)=W3 at *
 refine (HN.out _).mono ?_
 rintro e w4 ⟨rfl,hb4⟩
 have HB4:Hid (Below w.heap.size w w4):=HB2.out.trans (hb4.mono HB2.out.size)
 have kv4:=kv.below hb4 kv.lt
 have HKV:=Lib.hid kv4
 clear hb4 HN kv kv4 HB2
 have c0:=HKV.out.cell 0
 have c1:=HKV.out.cell 1
 go_wp2_with fail
 refine (HM.out _).mono ?_
 rintro e w7 ⟨rfl,hb7⟩
 have HB7:Hid (Below w.heap.size w w7):=HB4.out.trans (hb7.mono HB4.out.size)
 clear hb7 c0 c1
 go_wp2_with fail
 refine (HROW.out _).mono ?_
 rintro e w5 ⟨x,y,rfl,q1,q2,q3⟩
 have Q1:=Lib.hid q1
 have Q2:Hid (∀ g,(Value.slice x (tp (rowF N M)).length y).ownBlock=some g->w.heap.size<=g):=fun g hg=>Nat.le_trans HB7.out.size (q2 g hg)
 have Q3:Hid (Below w.heap.size w w5):=HB7.out.trans (q3.mono HB7.out.size)
 clear q1 q2 q3
 go_wp2
 refine bodyPost_ret (v:=.tuple #[.slice x (tp (rowF N M)).length y,.int .i64 0]) (by simp [results,Tryz.results115,go_sem]) rfl ?_
 exact ⟨_,x,y,0,rfl,Q1.out,Q2.out,Q3.out,rfl,rfl⟩
theorem rword_car1 (s:ByteArray) (w:World) (hs:s.size<=100000) (hw:Lb w) (h1:(s.toList == [97,110,121])=false) (h2:(s.toList == [110,111,110,101])=false) (a b c:Nat) (ha:a<=999) (hb:b<=999) (hc:c<=999) (hv:versF (trimB s)=.ok [a,b,c]) (ha0:0<a) (hb0:0<b) (hg:(s.extract 0 (s.size - (trimB s).size)).toList=[94]):Calls Tryz.prog 115 #[.string s] w (RwOut w (.ok (rowF (numN a b c) (numN (a + 1) (0) (0))))):=by
 have HT:=Lib.hid (trim_any s w)
 have HP:Hid (∀ W,Below w.heap.size w W->Calls Tryz.prog 131 #[.string (trimB s)] W fun e w'=>e=.returned (.tuple #[.agg #[.int .i64 (a:Int),.int .i64 (b:Int),.int .i64 (c:Int)],.int .i64 0])/\Below W.heap.size W w'):=fun W hb=>by have:=rvparse_any splitC (trimB s) W (Nat.le_trans (trimB_size s) hs) (hw.below hb);rw [hv] at this;exact this
 have HN:Hid (∀ W,Calls Tryz.prog 189 #[.agg #[.int .i64 (a:Int),.int .i64 (b:Int),.int .i64 (c:Int)]] W fun e w'=>e=.returned (.int .i64 (numN a b c:Int))/\Below W.heap.size W w'):=fun W=>rnum_any a b c (by omega) (by omega) (by omega) W
 have hN:=numN_lt ha hb hc
 have hNi:(numN a b c:Int)<1000000000:=by unfold ALL at hN;omega
 have HM:Hid (∀ W,Calls Tryz.prog 189 #[.agg #[.int .i64 ((a:Int) + 1),.int .i64 (0),.int .i64 (0)]] W fun e w'=>e=.returned (.int .i64 (numN (a + 1) (0) (0):Int))/\Below W.heap.size W w'):=fun W=>rnum_any (a + 1) (0) (0) (by omega) (by omega) (by omega) W
 have HROW:Hid (∀ W,Calls Tryz.prog 114 #[.int .i64 ((numN a b c:Nat):Int),.int .i64 ((numN (a + 1) (0) (0):Nat):Int)] W (NsOut W (tp (rowF (numN a b c) (numN (a + 1) (0) (0)))))):=fun W=>rrow_any (numN a b c) (numN (a + 1) (0) (0)) W
 obtain ⟨M,hM⟩:∃ M,numN (a + 1) (0) (0)=M:=⟨_,rfl⟩
 rw [hM] at HM HROW ⊢
 clear hM
 have ha0':(0:Int)<(a:Int):=by omega
 have hb0':(0:Int)<(b:Int):=by omega
 have hts:=trimB_size s
 generalize trimB s=t at *
 have hq:(s.size:Int) - (t.size:Int)=((s.size - t.size:Nat):Int):=by omega
 have hqs:s.size - t.size<=s.size:=by omega
 generalize s.size - t.size=q at *
 have i0:(0:Int)<=(q:Int):=by omega
 have i2:(q:Int)<=(s.size:Int):=by omega
 have hsl:=fun W'=>run_slice_string_h (P:=Tryz.prog) W' 9 s Tryz.underlying9 .i64 (q:Int) i0 i2
 simp only [Int.toNat_natCast] at hsl
 have hw1:wrap64 ((s.size:Int) - (t.size:Int))=(q:Int):=by rw [hq];unfold wrap64;omega
 have hw2:IntKind.i64.wrap ((s.size:Int) - (t.size:Int))=(q:Int):=by rw [IntKind.wrap_i64];unfold wrap64 at hw1;exact hw1
 have g0:((s.extract 0 q).toList == [])=false:=by rw [hg];rfl
 have g1:((s.extract 0 q).toList == [61])=false:=by rw [hg];rfl
 have g2:((s.extract 0 q).toList == [33])=false:=by rw [hg];rfl
 have g3:((s.extract 0 q).toList == [60])=false:=by rw [hg];rfl
 have g4:((s.extract 0 q).toList == [60,61])=false:=by rw [hg];rfl
 have g5:((s.extract 0 q).toList == [62])=false:=by rw [hg];rfl
 have g6:((s.extract 0 q).toList == [62,61])=false:=by rw [hg];rfl
 have g7:((s.extract 0 q).toList == [126])=false:=by rw [hg];rfl
 have g8:((s.extract 0 q).toList == [94])=true:=by rw [hg];rfl
 clear hg
 clear hv hw hts hq hN
 generalize numN a b c=N at *
 go_enter Tryz.func115,Tryz.ntmps115
 go_wp2_with fail
 refine HT.out.mono ?_
 rintro e w1 ⟨rfl,hb1⟩
 have H2:=Lib.hid (HP.out _ hb1)
 have HB1:=Lib.hid hb1
 clear hb1 HP HT
 go_wp2_with fail
 refine H2.out.mono ?_
 rintro e w2 ⟨rfl,hb2⟩
 have HB2:Hid (Below w.heap.size w (w2.alloc (.cells #[.int .i64 (a:Int),.int .i64 (b:Int),.int .i64 (c:Int)] 91))):=(HB1.out.trans (hb2.mono HB1.out.size)).alloc (by have:=HB1.out.size;have:=hb2.size;omega) _
 have kv:=Blk.new w2 91 #[.int .i64 (a:Int),.int .i64 (b:Int),.int .i64 (c:Int)]
 clear hb2 H2
 go_wp2_with fail
 generalize w2.alloc (.cells #[.int .i64 (a:Int),.int .i64 (b:Int),.int .i64 (c:Int)] 91)=W3 at *
 refine (HN.out _).mono ?_
 rintro e w4 ⟨rfl,hb4⟩
 have HB4:Hid (Below w.heap.size w w4):=HB2.out.trans (hb4.mono HB2.out.size)
 have kv4:=kv.below hb4 kv.lt
 have HKV:=Lib.hid kv4
 clear hb4 HN kv kv4 HB2
 have c0:=HKV.out.cell 0
 have c1:=HKV.out.cell 1
 have c2:=HKV.out.cell 2
 have hl4:=HKV.out.lt
 have d0:=(HKV.out.alloc (.cells #[.int .i64 (a:Int),.int .i64 (b:Int),.int .i64 ((c:Int) + 1)] 91)).cell 0
 have d1:=(HKV.out.alloc (.cells #[.int .i64 (a:Int),.int .i64 (b:Int),.int .i64 ((c:Int) + 1)] 91)).cell 1
 have e0:=(HKV.out.alloc (.cells #[.int .i64 (a:Int),.int .i64 ((b:Int) + 1),.int .i64 0] 91)).cell 0
 go_wp2_with fail
 have HB6:Hid (Below w.heap.size w (w4.alloc (.cells #[.int .i64 ((a:Int) + 1),.int .i64 (0),.int .i64 (0)] 91))):=HB4.out.alloc HB4.out.size _
 generalize w4.alloc (.cells #[.int .i64 ((a:Int) + 1),.int .i64 (0),.int .i64 (0)] 91)=W6 at *
 refine (HM.out _).mono ?_
 rintro e w7 ⟨rfl,hb7⟩
 have HB7:Hid (Below w.heap.size w w7):=HB6.out.trans (hb7.mono HB6.out.size)
 clear hb7 c0 c1 c2 d0 d1
 go_wp2_with fail
 refine (HROW.out _).mono ?_
 rintro e w5 ⟨x,y,rfl,q1,q2,q3⟩
 have Q1:=Lib.hid q1
 have Q2:Hid (∀ g,(Value.slice x (tp (rowF N M)).length y).ownBlock=some g->w.heap.size<=g):=fun g hg=>Nat.le_trans HB7.out.size (q2 g hg)
 have Q3:Hid (Below w.heap.size w w5):=HB7.out.trans (q3.mono HB7.out.size)
 clear q1 q2 q3
 go_wp2
 refine bodyPost_ret (v:=.tuple #[.slice x (tp (rowF N M)).length y,.int .i64 0]) (by simp [results,Tryz.results115,go_sem]) rfl ?_
 exact ⟨_,x,y,0,rfl,Q1.out,Q2.out,Q3.out,rfl,rfl⟩
theorem rword_car2 (s:ByteArray) (w:World) (hs:s.size<=100000) (hw:Lb w) (h1:(s.toList == [97,110,121])=false) (h2:(s.toList == [110,111,110,101])=false) (a b c:Nat) (ha:a<=999) (hb:b<=999) (hc:c<=999) (hv:versF (trimB s)=.ok [a,b,c]) (ha0:0<a) (hb0:¬ 0<b) (hg:(s.extract 0 (s.size - (trimB s).size)).toList=[94]):Calls Tryz.prog 115 #[.string s] w (RwOut w (.ok (rowF (numN a b c) (numN (a + 1) (0) (0))))):=by
 have HT:=Lib.hid (trim_any s w)
 have HP:Hid (∀ W,Below w.heap.size w W->Calls Tryz.prog 131 #[.string (trimB s)] W fun e w'=>e=.returned (.tuple #[.agg #[.int .i64 (a:Int),.int .i64 (b:Int),.int .i64 (c:Int)],.int .i64 0])/\Below W.heap.size W w'):=fun W hb=>by have:=rvparse_any splitC (trimB s) W (Nat.le_trans (trimB_size s) hs) (hw.below hb);rw [hv] at this;exact this
 have HN:Hid (∀ W,Calls Tryz.prog 189 #[.agg #[.int .i64 (a:Int),.int .i64 (b:Int),.int .i64 (c:Int)]] W fun e w'=>e=.returned (.int .i64 (numN a b c:Int))/\Below W.heap.size W w'):=fun W=>rnum_any a b c (by omega) (by omega) (by omega) W
 have hN:=numN_lt ha hb hc
 have hNi:(numN a b c:Int)<1000000000:=by unfold ALL at hN;omega
 have HM:Hid (∀ W,Calls Tryz.prog 189 #[.agg #[.int .i64 ((a:Int) + 1),.int .i64 (0),.int .i64 (0)]] W fun e w'=>e=.returned (.int .i64 (numN (a + 1) (0) (0):Int))/\Below W.heap.size W w'):=fun W=>rnum_any (a + 1) (0) (0) (by omega) (by omega) (by omega) W
 have HROW:Hid (∀ W,Calls Tryz.prog 114 #[.int .i64 ((numN a b c:Nat):Int),.int .i64 ((numN (a + 1) (0) (0):Nat):Int)] W (NsOut W (tp (rowF (numN a b c) (numN (a + 1) (0) (0)))))):=fun W=>rrow_any (numN a b c) (numN (a + 1) (0) (0)) W
 obtain ⟨M,hM⟩:∃ M,numN (a + 1) (0) (0)=M:=⟨_,rfl⟩
 rw [hM] at HM HROW ⊢
 clear hM
 have ha0':(0:Int)<(a:Int):=by omega
 have hb0':¬ (0:Int)<(b:Int):=by omega
 have hts:=trimB_size s
 generalize trimB s=t at *
 have hq:(s.size:Int) - (t.size:Int)=((s.size - t.size:Nat):Int):=by omega
 have hqs:s.size - t.size<=s.size:=by omega
 generalize s.size - t.size=q at *
 have i0:(0:Int)<=(q:Int):=by omega
 have i2:(q:Int)<=(s.size:Int):=by omega
 have hsl:=fun W'=>run_slice_string_h (P:=Tryz.prog) W' 9 s Tryz.underlying9 .i64 (q:Int) i0 i2
 simp only [Int.toNat_natCast] at hsl
 have hw1:wrap64 ((s.size:Int) - (t.size:Int))=(q:Int):=by rw [hq];unfold wrap64;omega
 have hw2:IntKind.i64.wrap ((s.size:Int) - (t.size:Int))=(q:Int):=by rw [IntKind.wrap_i64];unfold wrap64 at hw1;exact hw1
 have g0:((s.extract 0 q).toList == [])=false:=by rw [hg];rfl
 have g1:((s.extract 0 q).toList == [61])=false:=by rw [hg];rfl
 have g2:((s.extract 0 q).toList == [33])=false:=by rw [hg];rfl
 have g3:((s.extract 0 q).toList == [60])=false:=by rw [hg];rfl
 have g4:((s.extract 0 q).toList == [60,61])=false:=by rw [hg];rfl
 have g5:((s.extract 0 q).toList == [62])=false:=by rw [hg];rfl
 have g6:((s.extract 0 q).toList == [62,61])=false:=by rw [hg];rfl
 have g7:((s.extract 0 q).toList == [126])=false:=by rw [hg];rfl
 have g8:((s.extract 0 q).toList == [94])=true:=by rw [hg];rfl
 clear hg
 clear hv hw hts hq hN
 generalize numN a b c=N at *
 go_enter Tryz.func115,Tryz.ntmps115
 go_wp2_with fail
 refine HT.out.mono ?_
 rintro e w1 ⟨rfl,hb1⟩
 have H2:=Lib.hid (HP.out _ hb1)
 have HB1:=Lib.hid hb1
 clear hb1 HP HT
 go_wp2_with fail
 refine H2.out.mono ?_
 rintro e w2 ⟨rfl,hb2⟩
 have HB2:Hid (Below w.heap.size w (w2.alloc (.cells #[.int .i64 (a:Int),.int .i64 (b:Int),.int .i64 (c:Int)] 91))):=(HB1.out.trans (hb2.mono HB1.out.size)).alloc (by have:=HB1.out.size;have:=hb2.size;omega) _
 have kv:=Blk.new w2 91 #[.int .i64 (a:Int),.int .i64 (b:Int),.int .i64 (c:Int)]
 clear hb2 H2
 go_wp2_with fail
 generalize w2.alloc (.cells #[.int .i64 (a:Int),.int .i64 (b:Int),.int .i64 (c:Int)] 91)=W3 at *
 refine (HN.out _).mono ?_
 rintro e w4 ⟨rfl,hb4⟩
 have HB4:Hid (Below w.heap.size w w4):=HB2.out.trans (hb4.mono HB2.out.size)
 have kv4:=kv.below hb4 kv.lt
 have HKV:=Lib.hid kv4
 clear hb4 HN kv kv4 HB2
 have c0:=HKV.out.cell 0
 have c1:=HKV.out.cell 1
 have c2:=HKV.out.cell 2
 have hl4:=HKV.out.lt
 have d0:=(HKV.out.alloc (.cells #[.int .i64 (a:Int),.int .i64 (b:Int),.int .i64 ((c:Int) + 1)] 91)).cell 0
 have d1:=(HKV.out.alloc (.cells #[.int .i64 (a:Int),.int .i64 (b:Int),.int .i64 ((c:Int) + 1)] 91)).cell 1
 go_wp2_with fail
 have HB6:Hid (Below w.heap.size w (w4.alloc (.cells #[.int .i64 ((a:Int) + 1),.int .i64 (0),.int .i64 (0)] 91))):=HB4.out.alloc HB4.out.size _
 generalize w4.alloc (.cells #[.int .i64 ((a:Int) + 1),.int .i64 (0),.int .i64 (0)] 91)=W6 at *
 refine (HM.out _).mono ?_
 rintro e w7 ⟨rfl,hb7⟩
 have HB7:Hid (Below w.heap.size w w7):=HB6.out.trans (hb7.mono HB6.out.size)
 clear hb7 c0 c1 c2 d0 d1
 go_wp2_with fail
 refine (HROW.out _).mono ?_
 rintro e w5 ⟨x,y,rfl,q1,q2,q3⟩
 have Q1:=Lib.hid q1
 have Q2:Hid (∀ g,(Value.slice x (tp (rowF N M)).length y).ownBlock=some g->w.heap.size<=g):=fun g hg=>Nat.le_trans HB7.out.size (q2 g hg)
 have Q3:Hid (Below w.heap.size w w5):=HB7.out.trans (q3.mono HB7.out.size)
 clear q1 q2 q3
 go_wp2
 refine bodyPost_ret (v:=.tuple #[.slice x (tp (rowF N M)).length y,.int .i64 0]) (by simp [results,Tryz.results115,go_sem]) rfl ?_
 exact ⟨_,x,y,0,rfl,Q1.out,Q2.out,Q3.out,rfl,rfl⟩
theorem rword_car3 (s:ByteArray) (w:World) (hs:s.size<=100000) (hw:Lb w) (h1:(s.toList == [97,110,121])=false) (h2:(s.toList == [110,111,110,101])=false) (a b c:Nat) (ha:a<=999) (hb:b<=999) (hc:c<=999) (hv:versF (trimB s)=.ok [a,b,c]) (ha0:¬ 0<a) (hb0:0<b) (hg:(s.extract 0 (s.size - (trimB s).size)).toList=[94]):Calls Tryz.prog 115 #[.string s] w (RwOut w (.ok (rowF (numN a b c) (numN (a) (b + 1) (0))))):=by
 have HT:=Lib.hid (trim_any s w)
 have HP:Hid (∀ W,Below w.heap.size w W->Calls Tryz.prog 131 #[.string (trimB s)] W fun e w'=>e=.returned (.tuple #[.agg #[.int .i64 (a:Int),.int .i64 (b:Int),.int .i64 (c:Int)],.int .i64 0])/\Below W.heap.size W w'):=fun W hb=>by have:=rvparse_any splitC (trimB s) W (Nat.le_trans (trimB_size s) hs) (hw.below hb);rw [hv] at this;exact this
 have HN:Hid (∀ W,Calls Tryz.prog 189 #[.agg #[.int .i64 (a:Int),.int .i64 (b:Int),.int .i64 (c:Int)]] W fun e w'=>e=.returned (.int .i64 (numN a b c:Int))/\Below W.heap.size W w'):=fun W=>rnum_any a b c (by omega) (by omega) (by omega) W
 have hN:=numN_lt ha hb hc
 have hNi:(numN a b c:Int)<1000000000:=by unfold ALL at hN;omega
 have HM:Hid (∀ W,Calls Tryz.prog 189 #[.agg #[.int .i64 (a:Int),.int .i64 ((b:Int) + 1),.int .i64 (0)]] W fun e w'=>e=.returned (.int .i64 (numN (a) (b + 1) (0):Int))/\Below W.heap.size W w'):=fun W=>rnum_any (a) (b + 1) (0) (by omega) (by omega) (by omega) W
 have HROW:Hid (∀ W,Calls Tryz.prog 114 #[.int .i64 ((numN a b c:Nat):Int),.int .i64 ((numN (a) (b + 1) (0):Nat):Int)] W (NsOut W (tp (rowF (numN a b c) (numN (a) (b + 1) (0)))))):=fun W=>rrow_any (numN a b c) (numN (a) (b + 1) (0)) W
 obtain ⟨M,hM⟩:∃ M,numN (a) (b + 1) (0)=M:=⟨_,rfl⟩
 rw [hM] at HM HROW ⊢
 clear hM
 have ha0':¬ (0:Int)<(a:Int):=by omega
 have hb0':(0:Int)<(b:Int):=by omega
 have hts:=trimB_size s
 generalize trimB s=t at *
 have hq:(s.size:Int) - (t.size:Int)=((s.size - t.size:Nat):Int):=by omega
 have hqs:s.size - t.size<=s.size:=by omega
 generalize s.size - t.size=q at *
 have i0:(0:Int)<=(q:Int):=by omega
 have i2:(q:Int)<=(s.size:Int):=by omega
 have hsl:=fun W'=>run_slice_string_h (P:=Tryz.prog) W' 9 s Tryz.underlying9 .i64 (q:Int) i0 i2
 simp only [Int.toNat_natCast] at hsl
 have hw1:wrap64 ((s.size:Int) - (t.size:Int))=(q:Int):=by rw [hq];unfold wrap64;omega
 have hw2:IntKind.i64.wrap ((s.size:Int) - (t.size:Int))=(q:Int):=by rw [IntKind.wrap_i64];unfold wrap64 at hw1;exact hw1
 have g0:((s.extract 0 q).toList == [])=false:=by rw [hg];rfl
 have g1:((s.extract 0 q).toList == [61])=false:=by rw [hg];rfl
 have g2:((s.extract 0 q).toList == [33])=false:=by rw [hg];rfl
 have g3:((s.extract 0 q).toList == [60])=false:=by rw [hg];rfl
 have g4:((s.extract 0 q).toList == [60,61])=false:=by rw [hg];rfl
 have g5:((s.extract 0 q).toList == [62])=false:=by rw [hg];rfl
 have g6:((s.extract 0 q).toList == [62,61])=false:=by rw [hg];rfl
 have g7:((s.extract 0 q).toList == [126])=false:=by rw [hg];rfl
 have g8:((s.extract 0 q).toList == [94])=true:=by rw [hg];rfl
 clear hg
 clear hv hw hts hq hN
 generalize numN a b c=N at *
 go_enter Tryz.func115,Tryz.ntmps115
 go_wp2_with fail
 refine HT.out.mono ?_
 rintro e w1 ⟨rfl,hb1⟩
 have H2:=Lib.hid (HP.out _ hb1)
 have HB1:=Lib.hid hb1
 clear hb1 HP HT
 go_wp2_with fail
 refine H2.out.mono ?_
 rintro e w2 ⟨rfl,hb2⟩
 have HB2:Hid (Below w.heap.size w (w2.alloc (.cells #[.int .i64 (a:Int),.int .i64 (b:Int),.int .i64 (c:Int)] 91))):=(HB1.out.trans (hb2.mono HB1.out.size)).alloc (by have:=HB1.out.size;have:=hb2.size;omega) _
 have kv:=Blk.new w2 91 #[.int .i64 (a:Int),.int .i64 (b:Int),.int .i64 (c:Int)]
 clear hb2 H2
 go_wp2_with fail
 generalize w2.alloc (.cells #[.int .i64 (a:Int),.int .i64 (b:Int),.int .i64 (c:Int)] 91)=W3 at *
 refine (HN.out _).mono ?_
 rintro e w4 ⟨rfl,hb4⟩
 have HB4:Hid (Below w.heap.size w w4):=HB2.out.trans (hb4.mono HB2.out.size)
 have kv4:=kv.below hb4 kv.lt
 have HKV:=Lib.hid kv4
 clear hb4 HN kv kv4 HB2
 have c0:=HKV.out.cell 0
 have c1:=HKV.out.cell 1
 have c2:=HKV.out.cell 2
 have hl4:=HKV.out.lt
 have d0:=(HKV.out.alloc (.cells #[.int .i64 (a:Int),.int .i64 (b:Int),.int .i64 ((c:Int) + 1)] 91)).cell 0
 have d1:=(HKV.out.alloc (.cells #[.int .i64 (a:Int),.int .i64 (b:Int),.int .i64 ((c:Int) + 1)] 91)).cell 1
 have e0:=(HKV.out.alloc (.cells #[.int .i64 (a:Int),.int .i64 ((b:Int) + 1),.int .i64 0] 91)).cell 0
 go_wp2_with fail
 have HB6:Hid (Below w.heap.size w (w4.alloc (.cells #[.int .i64 (a:Int),.int .i64 ((b:Int) + 1),.int .i64 (0)] 91))):=HB4.out.alloc HB4.out.size _
 generalize w4.alloc (.cells #[.int .i64 (a:Int),.int .i64 ((b:Int) + 1),.int .i64 (0)] 91)=W6 at *
 refine (HM.out _).mono ?_
 rintro e w7 ⟨rfl,hb7⟩
 have HB7:Hid (Below w.heap.size w w7):=HB6.out.trans (hb7.mono HB6.out.size)
 clear hb7 c0 c1 c2 d0 d1
 go_wp2_with fail
 refine (HROW.out _).mono ?_
 rintro e w5 ⟨x,y,rfl,q1,q2,q3⟩
 have Q1:=Lib.hid q1
 have Q2:Hid (∀ g,(Value.slice x (tp (rowF N M)).length y).ownBlock=some g->w.heap.size<=g):=fun g hg=>Nat.le_trans HB7.out.size (q2 g hg)
 have Q3:Hid (Below w.heap.size w w5):=HB7.out.trans (q3.mono HB7.out.size)
 clear q1 q2 q3
 go_wp2
 refine bodyPost_ret (v:=.tuple #[.slice x (tp (rowF N M)).length y,.int .i64 0]) (by simp [results,Tryz.results115,go_sem]) rfl ?_
 exact ⟨_,x,y,0,rfl,Q1.out,Q2.out,Q3.out,rfl,rfl⟩
theorem rword_car4 (s:ByteArray) (w:World) (hs:s.size<=100000) (hw:Lb w) (h1:(s.toList == [97,110,121])=false) (h2:(s.toList == [110,111,110,101])=false) (a b c:Nat) (ha:a<=999) (hb:b<=999) (hc:c<=999) (hv:versF (trimB s)=.ok [a,b,c]) (ha0:¬ 0<a) (hb0:¬ 0<b) (hg:(s.extract 0 (s.size - (trimB s).size)).toList=[94]):Calls Tryz.prog 115 #[.string s] w (RwOut w (.ok (rowF (numN a b c) (numN (a) (b) (c + 1))))):=by
 have HT:=Lib.hid (trim_any s w)
 have HP:Hid (∀ W,Below w.heap.size w W->Calls Tryz.prog 131 #[.string (trimB s)] W fun e w'=>e=.returned (.tuple #[.agg #[.int .i64 (a:Int),.int .i64 (b:Int),.int .i64 (c:Int)],.int .i64 0])/\Below W.heap.size W w'):=fun W hb=>by have:=rvparse_any splitC (trimB s) W (Nat.le_trans (trimB_size s) hs) (hw.below hb);rw [hv] at this;exact this
 have HN:Hid (∀ W,Calls Tryz.prog 189 #[.agg #[.int .i64 (a:Int),.int .i64 (b:Int),.int .i64 (c:Int)]] W fun e w'=>e=.returned (.int .i64 (numN a b c:Int))/\Below W.heap.size W w'):=fun W=>rnum_any a b c (by omega) (by omega) (by omega) W
 have hN:=numN_lt ha hb hc
 have hNi:(numN a b c:Int)<1000000000:=by unfold ALL at hN;omega
 have HM:Hid (∀ W,Calls Tryz.prog 189 #[.agg #[.int .i64 (a:Int),.int .i64 (b:Int),.int .i64 ((c:Int) + 1)]] W fun e w'=>e=.returned (.int .i64 (numN (a) (b) (c + 1):Int))/\Below W.heap.size W w'):=fun W=>rnum_any (a) (b) (c + 1) (by omega) (by omega) (by omega) W
 have HROW:Hid (∀ W,Calls Tryz.prog 114 #[.int .i64 ((numN a b c:Nat):Int),.int .i64 ((numN (a) (b) (c + 1):Nat):Int)] W (NsOut W (tp (rowF (numN a b c) (numN (a) (b) (c + 1)))))):=fun W=>rrow_any (numN a b c) (numN (a) (b) (c + 1)) W
 obtain ⟨M,hM⟩:∃ M,numN (a) (b) (c + 1)=M:=⟨_,rfl⟩
 rw [hM] at HM HROW ⊢
 clear hM
 have ha0':¬ (0:Int)<(a:Int):=by omega
 have hb0':¬ (0:Int)<(b:Int):=by omega
 have hts:=trimB_size s
 generalize trimB s=t at *
 have hq:(s.size:Int) - (t.size:Int)=((s.size - t.size:Nat):Int):=by omega
 have hqs:s.size - t.size<=s.size:=by omega
 generalize s.size - t.size=q at *
 have i0:(0:Int)<=(q:Int):=by omega
 have i2:(q:Int)<=(s.size:Int):=by omega
 have hsl:=fun W'=>run_slice_string_h (P:=Tryz.prog) W' 9 s Tryz.underlying9 .i64 (q:Int) i0 i2
 simp only [Int.toNat_natCast] at hsl
 have hw1:wrap64 ((s.size:Int) - (t.size:Int))=(q:Int):=by rw [hq];unfold wrap64;omega
 have hw2:IntKind.i64.wrap ((s.size:Int) - (t.size:Int))=(q:Int):=by rw [IntKind.wrap_i64];unfold wrap64 at hw1;exact hw1
 have g0:((s.extract 0 q).toList == [])=false:=by rw [hg];rfl
 have g1:((s.extract 0 q).toList == [61])=false:=by rw [hg];rfl
 have g2:((s.extract 0 q).toList == [33])=false:=by rw [hg];rfl
 have g3:((s.extract 0 q).toList == [60])=false:=by rw [hg];rfl
 have g4:((s.extract 0 q).toList == [60,61])=false:=by rw [hg];rfl
 have g5:((s.extract 0 q).toList == [62])=false:=by rw [hg];rfl
 have g6:((s.extract 0 q).toList == [62,61])=false:=by rw [hg];rfl
 have g7:((s.extract 0 q).toList == [126])=false:=by rw [hg];rfl
 have g8:((s.extract 0 q).toList == [94])=true:=by rw [hg];rfl
 clear hg
 clear hv hw hts hq hN
 generalize numN a b c=N at *
 go_enter Tryz.func115,Tryz.ntmps115
 go_wp2_with fail
 refine HT.out.mono ?_
 rintro e w1 ⟨rfl,hb1⟩
 have H2:=Lib.hid (HP.out _ hb1)
 have HB1:=Lib.hid hb1
 clear hb1 HP HT
 go_wp2_with fail
 refine H2.out.mono ?_
 rintro e w2 ⟨rfl,hb2⟩
 have HB2:Hid (Below w.heap.size w (w2.alloc (.cells #[.int .i64 (a:Int),.int .i64 (b:Int),.int .i64 (c:Int)] 91))):=(HB1.out.trans (hb2.mono HB1.out.size)).alloc (by have:=HB1.out.size;have:=hb2.size;omega) _
 have kv:=Blk.new w2 91 #[.int .i64 (a:Int),.int .i64 (b:Int),.int .i64 (c:Int)]
 clear hb2 H2
 go_wp2_with fail
 generalize w2.alloc (.cells #[.int .i64 (a:Int),.int .i64 (b:Int),.int .i64 (c:Int)] 91)=W3 at *
 refine (HN.out _).mono ?_
 rintro e w4 ⟨rfl,hb4⟩
 have HB4:Hid (Below w.heap.size w w4):=HB2.out.trans (hb4.mono HB2.out.size)
 have kv4:=kv.below hb4 kv.lt
 have HKV:=Lib.hid kv4
 clear hb4 HN kv kv4 HB2
 have c0:=HKV.out.cell 0
 have c1:=HKV.out.cell 1
 have c2:=HKV.out.cell 2
 have hl4:=HKV.out.lt
 have d0:=(HKV.out.alloc (.cells #[.int .i64 (a:Int),.int .i64 (b:Int),.int .i64 ((c:Int) + 1)] 91)).cell 0
 have d1:=(HKV.out.alloc (.cells #[.int .i64 (a:Int),.int .i64 (b:Int),.int .i64 ((c:Int) + 1)] 91)).cell 1
 go_wp2_with fail
 have HB6:Hid (Below w.heap.size w (w4.alloc (.cells #[.int .i64 (a:Int),.int .i64 (b:Int),.int .i64 ((c:Int) + 1)] 91))):=HB4.out.alloc HB4.out.size _
 generalize w4.alloc (.cells #[.int .i64 (a:Int),.int .i64 (b:Int),.int .i64 ((c:Int) + 1)] 91)=W6 at *
 refine (HM.out _).mono ?_
 rintro e w7 ⟨rfl,hb7⟩
 have HB7:Hid (Below w.heap.size w w7):=HB6.out.trans (hb7.mono HB6.out.size)
 clear hb7 c0 c1 c2 d0 d1
 go_wp2_with fail
 refine (HROW.out _).mono ?_
 rintro e w5 ⟨x,y,rfl,q1,q2,q3⟩
 have Q1:=Lib.hid q1
 have Q2:Hid (∀ g,(Value.slice x (tp (rowF N M)).length y).ownBlock=some g->w.heap.size<=g):=fun g hg=>Nat.le_trans HB7.out.size (q2 g hg)
 have Q3:Hid (Below w.heap.size w w5):=HB7.out.trans (q3.mono HB7.out.size)
 clear q1 q2 q3
 go_wp2
 refine bodyPost_ret (v:=.tuple #[.slice x (tp (rowF N M)).length y,.int .i64 0]) (by simp [results,Tryz.results115,go_sem]) rfl ?_
 exact ⟨_,x,y,0,rfl,Q1.out,Q2.out,Q3.out,rfl,rfl⟩
theorem rword_form (s:ByteArray) (w:World) (hs:s.size<=100000) (hw:Lb w) (h1:(s.toList == [97,110,121])=false) (h2:(s.toList == [110,111,110,101])=false) (a b c:Nat) (ha:a<=999) (hb:b<=999) (hc:c<=999) (hv:versF (trimB s)=.ok [a,b,c]) (hg0:(s.extract 0 (s.size - (trimB s).size)).toList ≠ []) (hg1:(s.extract 0 (s.size - (trimB s).size)).toList ≠ [61]) (hg2:(s.extract 0 (s.size - (trimB s).size)).toList ≠ [33]) (hg3:(s.extract 0 (s.size - (trimB s).size)).toList ≠ [60]) (hg4:(s.extract 0 (s.size - (trimB s).size)).toList ≠ [60,61]) (hg5:(s.extract 0 (s.size - (trimB s).size)).toList ≠ [62]) (hg6:(s.extract 0 (s.size - (trimB s).size)).toList ≠ [62,61]) (hg7:(s.extract 0 (s.size - (trimB s).size)).toList ≠ [126]) (hg8:(s.extract 0 (s.size - (trimB s).size)).toList ≠ [94]):Calls Tryz.prog 115 #[.string s] w (RwOut w (.error 3)):=by
 have HT:=Lib.hid (trim_any s w)
 have HP:Hid (∀ W,Below w.heap.size w W->Calls Tryz.prog 131 #[.string (trimB s)] W fun e w'=>e=.returned (.tuple #[.agg #[.int .i64 (a:Int),.int .i64 (b:Int),.int .i64 (c:Int)],.int .i64 0])/\Below W.heap.size W w'):=fun W hb=>by have:=rvparse_any splitC (trimB s) W (Nat.le_trans (trimB_size s) hs) (hw.below hb);rw [hv] at this;exact this
 have HN:Hid (∀ W,Calls Tryz.prog 189 #[.agg #[.int .i64 (a:Int),.int .i64 (b:Int),.int .i64 (c:Int)]] W fun e w'=>e=.returned (.int .i64 (numN a b c:Int))/\Below W.heap.size W w'):=fun W=>rnum_any a b c (by omega) (by omega) (by omega) W
 have hN:=numN_lt ha hb hc
 have hNi:(numN a b c:Int)<1000000000:=by unfold ALL at hN;omega
 have hts:=trimB_size s
 generalize trimB s=t at *
 have hq:(s.size:Int) - (t.size:Int)=((s.size - t.size:Nat):Int):=by omega
 have hqs:s.size - t.size<=s.size:=by omega
 generalize s.size - t.size=q at *
 have i0:(0:Int)<=(q:Int):=by omega
 have i2:(q:Int)<=(s.size:Int):=by omega
 have hsl:=fun W'=>run_slice_string_h (P:=Tryz.prog) W' 9 s Tryz.underlying9 .i64 (q:Int) i0 i2
 simp only [Int.toNat_natCast] at hsl
 have hw1:wrap64 ((s.size:Int) - (t.size:Int))=(q:Int):=by rw [hq];unfold wrap64;omega
 have hw2:IntKind.i64.wrap ((s.size:Int) - (t.size:Int))=(q:Int):=by rw [IntKind.wrap_i64];unfold wrap64 at hw1;exact hw1
 have g0:((s.extract 0 q).toList == [])=false:=by rw [beq_eq_false_iff_ne];exact hg0
 have g1:((s.extract 0 q).toList == [61])=false:=by rw [beq_eq_false_iff_ne];exact hg1
 have g2:((s.extract 0 q).toList == [33])=false:=by rw [beq_eq_false_iff_ne];exact hg2
 have g3:((s.extract 0 q).toList == [60])=false:=by rw [beq_eq_false_iff_ne];exact hg3
 have g4:((s.extract 0 q).toList == [60,61])=false:=by rw [beq_eq_false_iff_ne];exact hg4
 have g5:((s.extract 0 q).toList == [62])=false:=by rw [beq_eq_false_iff_ne];exact hg5
 have g6:((s.extract 0 q).toList == [62,61])=false:=by rw [beq_eq_false_iff_ne];exact hg6
 have g7:((s.extract 0 q).toList == [126])=false:=by rw [beq_eq_false_iff_ne];exact hg7
 have g8:((s.extract 0 q).toList == [94])=false:=by rw [beq_eq_false_iff_ne];exact hg8
 clear hg0 hg1 hg2 hg3 hg4 hg5 hg6 hg7 hg8
 clear hv hw hts hq hN
 generalize numN a b c=N at *
 go_enter Tryz.func115,Tryz.ntmps115
 go_wp2_with fail
 refine HT.out.mono ?_
 rintro e w1 ⟨rfl,hb1⟩
 have H2:=Lib.hid (HP.out _ hb1)
 have HB1:=Lib.hid hb1
 clear hb1 HP HT
 go_wp2_with fail
 refine H2.out.mono ?_
 rintro e w2 ⟨rfl,hb2⟩
 have HB2:Hid (Below w.heap.size w (w2.alloc (.cells #[.int .i64 (a:Int),.int .i64 (b:Int),.int .i64 (c:Int)] 91))):=(HB1.out.trans (hb2.mono HB1.out.size)).alloc (by have:=HB1.out.size;have:=hb2.size;omega) _
 have kv:=Blk.new w2 91 #[.int .i64 (a:Int),.int .i64 (b:Int),.int .i64 (c:Int)]
 clear hb2 H2
 go_wp2_with fail
 generalize w2.alloc (.cells #[.int .i64 (a:Int),.int .i64 (b:Int),.int .i64 (c:Int)] 91)=W3 at *
 refine (HN.out _).mono ?_
 rintro e w4 ⟨rfl,hb4⟩
 have HB4:Hid (Below w.heap.size w w4):=HB2.out.trans (hb4.mono HB2.out.size)
 have kv4:=kv.below hb4 kv.lt
 have HKV:=Lib.hid kv4
 clear hb4 HN kv kv4 HB2
 go_wp2_with fail
 refine bodyPost_ret (v:=.tuple #[.slice none 0 0,.int .i64 3]) (by simp [results,Tryz.results115,go_sem]) rfl ?_
 exact ⟨[],none,0,3,rfl,nsAt_nil _,fun g hg=>by simp [Value.ownBlock] at hg,HB4.out,rfl,rfl⟩
theorem rword_sign (s:ByteArray) (w:World) (hs:s.size<=100000) (hw:Lb w) (h1:(s.toList == [97,110,121])=false) (h2:(s.toList == [110,111,110,101])=false) (a b c:Nat) (ha:a<=999) (hb:b<=999) (hc:c<=999) (hv:versF (trimB s)=.ok [a,b,c]):Calls Tryz.prog 115 #[.string s] w (RwOut w (signF (s.extract 0 (s.size - (trimB s).size)).toList a b c)):=by
 by_cases g0:(s.extract 0 (s.size - (trimB s).size)).toList=[]
 ·rw [g0];exact rword_nil s w hs hw h1 h2 a b c ha hb hc hv g0
 by_cases g1:(s.extract 0 (s.size - (trimB s).size)).toList=[61]
 ·rw [g1];exact rword_eq s w hs hw h1 h2 a b c ha hb hc hv g1
 by_cases g2:(s.extract 0 (s.size - (trimB s).size)).toList=[33]
 ·rw [g2];exact rword_not s w hs hw h1 h2 a b c ha hb hc hv g2
 by_cases g3:(s.extract 0 (s.size - (trimB s).size)).toList=[60]
 ·rw [g3];exact rword_lt s w hs hw h1 h2 a b c ha hb hc hv g3
 by_cases g4:(s.extract 0 (s.size - (trimB s).size)).toList=[60,61]
 ·rw [g4];exact rword_le s w hs hw h1 h2 a b c ha hb hc hv g4
 by_cases g5:(s.extract 0 (s.size - (trimB s).size)).toList=[62]
 ·rw [g5];exact rword_gt s w hs hw h1 h2 a b c ha hb hc hv g5
 by_cases g6:(s.extract 0 (s.size - (trimB s).size)).toList=[62,61]
 ·rw [g6];exact rword_ge s w hs hw h1 h2 a b c ha hb hc hv g6
 by_cases g7:(s.extract 0 (s.size - (trimB s).size)).toList=[126]
 ·rw [g7];exact rword_til s w hs hw h1 h2 a b c ha hb hc hv g7
 by_cases g8:(s.extract 0 (s.size - (trimB s).size)).toList=[94]
 ·rw [g8]
  have e:signF [94] a b c=.ok (rowF (numN a b c) (careN a b c)):=rfl
  rw [e]
  unfold careN
  by_cases ha0:0<a
  ·rw [if_pos (by omega)]
   by_cases hb0:0<b
   ·exact rword_car1 s w hs hw h1 h2 a b c ha hb hc hv ha0 hb0 g8
   ·exact rword_car2 s w hs hw h1 h2 a b c ha hb hc hv ha0 hb0 g8
  ·rw [if_neg (by omega)]
   by_cases hb0:0<b
   ·rw [if_pos (by omega)];exact rword_car3 s w hs hw h1 h2 a b c ha hb hc hv ha0 hb0 g8
   ·rw [if_neg (by omega)];exact rword_car4 s w hs hw h1 h2 a b c ha hb hc hv ha0 hb0 g8
 have e:signF (s.extract 0 (s.size - (trimB s).size)).toList a b c=.error 3:=by
  unfold signF
  simp [g0,g1,g2,g3,g4,g5,g6,g7,g8]
 rw [e]
 exact rword_form s w hs hw h1 h2 a b c ha hb hc hv g0 g1 g2 g3 g4 g5 g6 g7 g8
theorem rword_all (s:ByteArray) (w:World) (hs:s.size<=100000) (hw:Lb w):Calls Tryz.prog 115 #[.string s] w (RwOut w (wordF s)):=by
 unfold wordF
 by_cases h1:s.toList=[97,110,121]
 ·rw [if_pos h1];exact rword_any' s w h1
 rw [if_neg h1]
 by_cases h2:s.toList=[110,111,110,101]
 ·rw [if_pos h2];exact rword_none s w h2
 rw [if_neg h2]
 have q1:(s.toList == [97,110,121])=false:=by rw [beq_eq_false_iff_ne];exact h1
 have q2:(s.toList == [110,111,110,101])=false:=by rw [beq_eq_false_iff_ne];exact h2
 cases hv:versF (trimB s) with
 | error k=>exact rword_bad s w hs hw q1 q2 k hv
 | ok ns =>
  obtain ⟨hl,hn⟩:=versF_len hv
  obtain ⟨a,b,c,rfl⟩:=len3 hl
  exact rword_sign s w hs hw q1 q2 a b c (hn a (by simp)) (hn b (by simp)) (hn c (by simp)) hv
end Go.Proofs.YtiihalknffbjpaaGreatDoor
