/- The reference: RangeParse, walked. -/
import Derived.Lib.ItoaLen
import Derived.Test.YtiihalknffbjpaaGreatDoorSvRPar
set_option maxHeartbeats 4000000
set_option maxRecDepth 100000
namespace Go.Proofs.YtiihalknffbjpaaGreatDoor
section
open Go.RowKit Go.Shelf Sv
theorem ztC(n:Int)(hn:-9223372036854775808<=n/\n<=9223372036854775807)(w:World)(hw:Lb w):zR 81 #[.int .i64 n] w (.string ⟨(Lib.itoa n).toArray⟩) :=
 (Tryz.strconv_Itoa n hn.1 hn.2 w hw.tab).mono fun _ _ ⟨he,k,os,hw'⟩=>⟨he,hw'▸zfF _ w k os zN⟩
end
section
open Go.RowKit Go.Shelf Sv
theorem zmX:zmx:=fun s W hs hw=>by
 obtain⟨m,hm⟩:=hw.ml;have h:=zi2 s ⟨#[46]⟩ (by decide) s.size 0 (by omega) (Nat.zero_le _);have hx:s.extract 0 s.size=s:=zj2 (by rw[Lib.extract_to_end];simp);rw[hx] at h;have hlen:Lib.countB s ⟨#[46]⟩+1=(zbw s ⟨#[46]⟩ s.size 0).length:=by
  have h2:=congrArg List.length h;rw[List.length_map,Lib.splitB_all _ (by decide) 0 _ s rfl] at h2;exact h2
 refine(Tryz.strings_Split s ⟨#[46]⟩ m W (by omega) hm (by decide)).mono fun e w' ⟨he,hw'⟩=>?_;rw[hlen] at he;rw[h] at hw';exact⟨he,hw'⟩
end
section
open Go.RowKit Go.Shelf Sv
theorem zrh{l:List UInt8}{k:Int}(h:zcC l=.error k):k≠0:=by
 unfold zcC at h;split at h
 ·split at h
  ·cases h;decide
  ·split at h
   ·cases h;decide
   ·cases h
 ·cases h;decide
theorem znc:∀{l:List (Nat × ByteArray)} {k:Int},za0 l=.error k->k≠0:=by
 intro l
 induction l with
 |nil=>intro k h;cases h
 |cons x l ih =>
  intro k h;unfold za0 at h;split at h
  ·rename_i hx;cases h;exact zrh hx
  ·split at h
   ·rename_i hx;cases h;exact ih hx
   ·cases h
theorem zgs{s:ByteArray}{k:Int}(h:zch s=.error k):k≠0:=by
 unfold zch at h;split at h
 ·exact znc h
 ·cases h;decide
theorem zpS{g:List UInt8}{a b c:Nat}{k:Int}(h:ze4 g a b c=.error k):k=3:=by
 unfold ze4 at h
 repeat(split at h;· cases h)
 cases h;rfl
theorem zjn{s:ByteArray}{k:Int}(h:zew s=.error k):k≠0:=by
 unfold zew at h;split at h
 ·cases h
 ·split at h
  ·cases h
  ·split at h
   ·rename_i hx;cases h;exact zgs hx
   ·rw[zpS h];decide
def zye(m:List Nat)(k:Int):Except Int (List zau)->Prop
 |.ok l=>m=tp l/\k=0
 |.error q=>m=[]/\k=q
def zo7(w:World)(x:Except Int (List zau))(e:Ending)(w':World):Prop:=∃(m:List Nat) (a:Option Addr) (c:Nat) (k:Int),e=.returned (.tuple #[.slice a m.length c,.int .i64 k])/\zcj w' (.slice a m.length c) m/\(∀g,(Value.slice a m.length c).ownBlock=some g->w.heap.size<=g)/\zB w w'/\zye m k x
theorem znq(s:ByteArray)(w:World)(h:s.toList=[97,110,121]):zC 115 #[.string s] w (zo7 w (.ok zbc)):=by
 have h1:(s.toList==[97,110,121])=true:=by rw[h];rfl
 have HR:=zH (ziG 0 1000000000 w);have he:zb2 0 1000000000=zbc:=rfl;rw[he] at HR;have HRR:Hid (zC 114 #[.int .i64 0,.int .i64 1000000000] w (zil w (tp zbc))):=HR.out;clear HR he h;generalize zbc=L at *;go_enter Tryz.func115,Tryz.ntmps115;go_wp2_with fail;refine HRR.out.mono ?_;rintro e w' ⟨a,c,rfl,q1,q2,q3⟩;have Q1:=zH q1;have Q2:=zH q2;have Q3:=zH q3;clear q1 q2 q3;go_wp2;refine bodyPost_ret (v:=.tuple #[.slice a (tp L).length c,.int .i64 0]) (by simp[results,Tryz.results115,go_sem]) rfl ?_;exact⟨_,a,c,0,rfl,Q1.out,Q2.out,Q3.out,rfl,rfl⟩
theorem zoh(s:ByteArray)(w:World)(h:s.toList=[110,111,110,101]):zC 115 #[.string s] w (zo7 w (.ok [])):=by
 have h1:(s.toList==[97,110,121])=false:=by rw[h];rfl
 have h2:(s.toList==[110,111,110,101])=true:=by rw[h];rfl
 clear h;go_enter Tryz.func115,Tryz.ntmps115;go_wp2;refine bodyPost_ret (v:=.tuple #[.slice none 0 0,.int .i64 0]) (by simp[results,Tryz.results115,go_sem]) rfl ?_;exact⟨[],none,0,0,rfl,zbz _,fun g hg=>by simp[Value.ownBlock] at hg,Below.refl _ _,rfl,rfl⟩
theorem zqW(s:ByteArray)(w:World)(hs:s.size<=100000)(hw:Lb w)(h1:(s.toList==[97,110,121])=false)(h2:(s.toList==[110,111,110,101])=false)(k:Int)(hv:zch (zcr s)=.error k):zC 115 #[.string s] w (zo7 w (.error k)):=by
 have HT:=zH (zf8 s w);have HP:Hid (∀W,zB w W->zR 131 #[.string (zcr s)] W (.tuple #[.agg #[.int .i64 0,.int .i64 0,.int .i64 0],.int .i64 k])):=fun W hb=>by have:=zdd zmX (zcr s) W (Nat.le_trans (zcy s) hs) (hw.below hb);rw[hv] at this;exact this
 have hk:=zgs hv;have hk':(k != 0)=true:=by simpa using hk
 clear hv hw hk;generalize zcr s=t at *;go_enter Tryz.func115,Tryz.ntmps115;go_wp2_with fail;refine HT.out.mono ?_;rintro e w1 ⟨rfl,hb1⟩;have H2:=zH (HP.out _ hb1);have HB1:=zH hb1;clear hb1 HP HT;go_wp2_with fail;refine H2.out.mono ?_;rintro e w2 ⟨rfl,hb2⟩;have HB2:Hid (zB w (w2.alloc (.cells #[.int .i64 0,.int .i64 0,.int .i64 0] 91))):=(zT HB1.out hb2).alloc (by have:=HB1.out.size;have:=hb2.size;omega) _;clear hb2 H2;go_wp2;refine bodyPost_ret (v:=.tuple #[.slice none 0 0,.int .i64 k]) (by simp[results,Tryz.results115,go_sem]) rfl ?_;exact⟨[],none,0,k,rfl,zbz _,fun g hg=>by simp[Value.ownBlock] at hg,HB2.out,rfl,rfl⟩
theorem zoq(s:ByteArray)(w:World)(hs:s.size<=100000)(hw:Lb w)(h1:(s.toList==[97,110,121])=false)(h2:(s.toList==[110,111,110,101])=false)(a b c:Nat)(ha:a<=999)(hb:b<=999)(hc:c<=999)(hv:zch (zcr s)=.ok [a,b,c]):zC 115 #[.string s] w (zo7 w (ze4 (s.extract 0 (s.size-(zcr s).size)).toList a b c)):=by
 have HT:=zH (zf8 s w);have HP:Hid (∀W,zB w W->zR 131 #[.string (zcr s)] W (.tuple #[.agg #[.int .i64 a,.int .i64 b,.int .i64 c],.int .i64 0])):=fun W hb=>by have:=zdd zmX (zcr s) W (Nat.le_trans (zcy s) hs) (hw.below hb);rw[hv] at this;exact this
 have HN:Hid (∀W,zR 189 #[.agg #[.int .i64 a,.int .i64 b,.int .i64 c]] W (.int .i64 (zbZ a b c))):=fun W=>ziD a b c (by omega) (by omega) (by omega) W;have hN:=zdq ha hb hc;have hNi:(zbZ a b c:Int)<1000000000:=by unfold ALL at hN;omega
 have HR:Hid (∀(x y:Nat) (W:World),zC 114 #[.int .i64 x,.int .i64 y] W (zil W (tp (zb2 x y)))):=ziG;have HM:Hid (∀x y z:Nat,x<=1000->y<=1000->z<=1000->∃M:Nat,zbZ x y z=M/\∀W,zR 189 #[.agg #[.int .i64 x,.int .i64 y,.int .i64 z]] W (.int .i64 M)):=fun x y z h k l=>⟨_,rfl,ziD x y z h k l⟩;generalize hX:ze4 (s.extract 0 (s.size-(zcr s).size)).toList a b c=X;have hts:=zcy s;generalize zcr s=t at *;have hq:(s.size:Int)-(t.size:Int)=((s.size-t.size:Nat):Int):=by omega
 have hqs:s.size-t.size<=s.size:=by omega
 generalize s.size-t.size=q at *;have i0:(0:Int)<=(q:Int):=by omega
 have i2:(q:Int)<=(s.size:Int):=by omega
 have hsl:=fun W'=>run_slice_string_h (P:=Tryz.prog) W' 9 s Tryz.underlying9 .i64 (q:Int) i0 i2;simp only[Int.toNat_natCast] at hsl;have hw1:wrap64 ((s.size:Int)-(t.size:Int))=(q:Int):=by rw[hq];unfold wrap64;omega
 have hw2:IntKind.i64.wrap ((s.size:Int)-(t.size:Int))=(q:Int):=by rw[IntKind.wrap_i64];unfold wrap64 at hw1;exact hw1
 generalize s.extract 0 q=u at *;unfold ze4 znl at hX;clear hv hw hts hq hN;generalize zbZ a b c=N at *;go_enter Tryz.func115,Tryz.ntmps115;go_wp2_with fail;refine HT.out.mono ?_;rintro e w1 ⟨rfl,hb1⟩;have H2:=zH (HP.out _ hb1);have HB1:=zH hb1;clear hb1 HP HT;go_wp2_with fail;refine H2.out.mono ?_;rintro e w2 ⟨rfl,hb2⟩;have HB2:Hid (zB w (w2.alloc (.cells #[.int .i64 a,.int .i64 b,.int .i64 c] 91))):=(zT HB1.out hb2).alloc (by have:=HB1.out.size;have:=hb2.size;omega) _;have kv:=Blk.new w2 91 #[.int .i64 a,.int .i64 b,.int .i64 c];clear hb2 H2;go_wp2_with fail;generalize w2.alloc (.cells #[.int .i64 a,.int .i64 b,.int .i64 c] 91)=W3 at *;refine(HN.out _).mono ?_;rintro e w4 ⟨rfl,hb4⟩;have HB4:Hid (zB w w4):=zT HB2.out hb4;have kv4:=kv.below hb4 kv.lt;have HKV:=zH kv4;clear hb4 HN kv kv4 HB2;rcases Bool.eq_false_or_eq_true (u.toList==[]) with g0|g0;rw[if_pos (.inl (eq_of_beq g0))] at hX;subst hX;have HROW:=zH (HR.out N (N+1));have HBZ:=HB4;rotate_left;rcases Bool.eq_false_or_eq_true (u.toList==[61]) with g1|g1;rw[if_pos (.inr (eq_of_beq g1))] at hX;subst hX;have HROW:=zH (HR.out N (N+1));have HBZ:=HB4;rotate_left;rw[if_neg (not_or.2 ⟨ne_of_beq_false g0,ne_of_beq_false g1⟩)] at hX;rcases Bool.eq_false_or_eq_true (u.toList==[33]) with g2|g2
 ·rw[if_pos (eq_of_beq g2)] at hX;subst hX;go_wp2_with fail;refine(HR.out N (N+1) _).mono ?_;rintro e w5 ⟨x,y,rfl,q1,q2,q3⟩;have HB5:Hid (zB w w5):=zT HB4.out q3;have HNOT:=zH (zsf (zb2 N (N+1)) (zjb (by unfold ALL;omega)) _ w5 q1);clear q1 q2 q3;go_wp2_with fail;refine HNOT.out.mono ?_;rintro e w6 ⟨x,y,rfl,q1,q2,q3⟩;have Q:=zH (rw_fin HB5.out q1 q2 q3);clear q1 q2 q3;go_wp2;exact bodyPost_ret (by simp[results,Tryz.results115,go_sem]) rfl Q.out
 rw[if_neg (ne_of_beq_false g2)] at hX;rcases Bool.eq_false_or_eq_true (u.toList==[60]) with g3|g3;rw[if_pos (eq_of_beq g3)] at hX;subst hX;have HROW:=zH (HR.out 0 N);have HBZ:=HB4;rotate_left;rw[if_neg (ne_of_beq_false g3)] at hX;rcases Bool.eq_false_or_eq_true (u.toList==[60,61]) with g4|g4;rw[if_pos (eq_of_beq g4)] at hX;subst hX;have HROW:=zH (HR.out 0 (N+1));have HBZ:=HB4;rotate_left;rw[if_neg (ne_of_beq_false g4)] at hX;rcases Bool.eq_false_or_eq_true (u.toList==[62]) with g5|g5;rw[if_pos (eq_of_beq g5)] at hX;subst hX;have HROW:=zH (HR.out (N+1) 1000000000);have HBZ:=HB4;rotate_left;rw[if_neg (ne_of_beq_false g5)] at hX;rcases Bool.eq_false_or_eq_true (u.toList==[62,61]) with g6|g6;rw[if_pos (eq_of_beq g6)] at hX;subst hX;have HROW:=zH (HR.out N 1000000000);have HBZ:=HB4;rotate_left;rw[if_neg (ne_of_beq_false g6)] at hX;have c0:=HKV.out.cell 0;have c1:=HKV.out.cell 1;rcases Bool.eq_false_or_eq_true (u.toList==[126]) with g7|g7;have g8:u.toList≠[94]:=by rw[eq_of_beq g7];decide
 rw[if_neg g8,if_pos (eq_of_beq g7)] at hX;clear g8;obtain⟨M,hM,hm⟩:=HM.out a (b+1) 0 (by omega) (by omega) (by omega);rw[hM] at hX;subst hX;have HMM:=zH hm;clear hM hm HM;have HROW:=zH (HR.out N M);go_wp2_with fail;refine(HMM.out _).mono ?_;rintro e w7 ⟨rfl,hb7⟩;have HBZ:Hid (zB w w7):=zT HB4.out hb7;clear hb7 c0 c1;rotate_left;rcases Bool.eq_false_or_eq_true (u.toList==[94]) with g8|g8;rw[if_pos (eq_of_beq g8)] at hX;have c2:=HKV.out.cell 2;have hl4:=HKV.out.lt;have d0:=(HKV.out.alloc (.cells #[.int .i64 a,.int .i64 b,.int .i64 ((c:Int)+1)] 91)).cell 0;have d1:=(HKV.out.alloc (.cells #[.int .i64 a,.int .i64 b,.int .i64 ((c:Int)+1)] 91)).cell 1;have e0:=(HKV.out.alloc (.cells #[.int .i64 a,.int .i64 ((b:Int)+1),.int .i64 0] 91)).cell 0
 by_cases ha0:(0:Int)<a
 by_cases hb0:(0:Int)<b
 rw[if_pos (by omega)] at hX;obtain⟨M,hM,hm⟩:=HM.out (a+1) 0 0 (by omega) (by omega) (by omega);rw[hM] at hX;subst hX;have HMM:=zH hm;clear hM hm HM;have HROW:=zH (HR.out N M);go_wp2_with fail;refine(HMM.out _).mono ?_;rintro e w7 ⟨rfl,hb7⟩;have HBZ:Hid (zB w w7):=(zL HB4.out).trans (hb7.mono (zL HB4.out).size);clear hb7 c0 c1 c2 d0 d1 e0;rotate_left;rw[if_pos (by omega)] at hX;obtain⟨M,hM,hm⟩:=HM.out (a+1) 0 0 (by omega) (by omega) (by omega);rw[hM] at hX;subst hX;have HMM:=zH hm;clear hM hm HM;have HROW:=zH (HR.out N M);go_wp2_with fail;refine(HMM.out _).mono ?_;rintro e w7 ⟨rfl,hb7⟩;have HBZ:Hid (zB w w7):=(zL HB4.out).trans (hb7.mono (zL HB4.out).size);clear hb7 c0 c1 c2 d0 d1 e0;rotate_left;rw[if_neg (by omega)] at hX
 by_cases hb0:(0:Int)<b
 rw[if_pos (by omega)] at hX;obtain⟨M,hM,hm⟩:=HM.out a (b+1) 0 (by omega) (by omega) (by omega);rw[hM] at hX;subst hX;have HMM:=zH hm;clear hM hm HM;have HROW:=zH (HR.out N M);go_wp2_with fail;refine(HMM.out _).mono ?_;rintro e w7 ⟨rfl,hb7⟩;have HBZ:Hid (zB w w7):=(zL HB4.out).trans (hb7.mono (zL HB4.out).size);clear hb7 c0 c1 c2 d0 d1 e0;rotate_left;rw[if_neg (by omega)] at hX;obtain⟨M,hM,hm⟩:=HM.out a b (c+1) (by omega) (by omega) (by omega);rw[hM] at hX;subst hX;have HMM:=zH hm;clear hM hm HM;have HROW:=zH (HR.out N M);go_wp2_with fail;refine(HMM.out _).mono ?_;rintro e w7 ⟨rfl,hb7⟩;have HBZ:Hid (zB w w7):=(zL HB4.out).trans (hb7.mono (zL HB4.out).size);clear hb7 c0 c1 c2 d0 d1 e0;rotate_left
 ·rw[if_neg (ne_of_beq_false g8),if_neg (ne_of_beq_false g7)] at hX;subst hX;go_wp2_with fail;refine bodyPost_ret (v:=.tuple #[.slice none 0 0,.int .i64 3]) (by simp[results,Tryz.results115,go_sem]) rfl ?_;exact⟨[],none,0,3,rfl,zbz _,fun g hg=>by simp[Value.ownBlock] at hg,HB4.out,rfl,rfl⟩
 all_goals
  clear HR HKV;go_wp2_with fail;refine(HROW.out _).mono ?_;rintro e w5 ⟨x,y,rfl,q1,q2,q3⟩;have Q:=zH (rw_fin HBZ.out q1 q2 q3);clear q1 q2 q3;go_wp2;exact bodyPost_ret (by simp[results,Tryz.results115,go_sem]) rfl Q.out
theorem zqS(s:ByteArray)(w:World)(hs:s.size<=100000)(hw:Lb w):zC 115 #[.string s] w (zo7 w (zew s)):=by
 unfold zew
 by_cases h1:s.toList=[97,110,121]
 ·rw[if_pos h1];exact znq s w h1
 rw[if_neg h1]
 by_cases h2:s.toList=[110,111,110,101]
 ·rw[if_pos h2];exact zoh s w h2
 rw[if_neg h2];have q1:(s.toList==[97,110,121])=false:=by rw[beq_eq_false_iff_ne];exact h1
 have q2:(s.toList==[110,111,110,101])=false:=by rw[beq_eq_false_iff_ne];exact h2
 cases hv:zch (zcr s) with
 |error k=>exact zqW s w hs hw q1 q2 k hv
 |ok ns =>obtain⟨hl,hn⟩:=zcZ hv;obtain⟨a,b,c,rfl⟩:=zvt hl;exact zoq s w hs hw q1 q2 a b c (hn a (by simp)) (hn b (by simp)) (hn c (by simp)) hv
end
section
open Go.RowKit Go.Shelf Sv
theorem zlk(s m:ByteArray):∀(f k:Nat),k<=s.size->∀i,(h:i<(zbw s m f k).length)->(i=0->((zbw s m f k)[i]).1=k)/\((zbw s m f k)[i]).1+((zbw s m f k)[i]).2.size<=s.size/\(∀h2:i+1<(zbw s m f k).length,((zbw s m f k)[i+1]).1=((zbw s m f k)[i]).1+((zbw s m f k)[i]).2.size+m.size):=by
 intro f
 induction f with
 |zero =>
  intro k hk i h;have e:zbw s m 0 k=[(k,s.extract k s.size)]:=rfl;simp only[e] at h ⊢;simp only[List.length_singleton] at h;obtain rfl:i=0:=by omega
  refine⟨fun _=>rfl,?_,fun h2=>by simp at h2⟩;simp;omega
 |succ f ih =>
  intro k hk i h
  by_cases hn:Lib.index (s.extract k s.size).data.toList m.data.toList<0
  ·have e:=zeS hn (f+1);simp only[e] at h ⊢;simp only[List.length_singleton] at h;obtain rfl:i=0:=by omega
   refine⟨fun _=>rfl,?_,fun h2=>by simp at h2⟩;simp;omega
  ·obtain⟨j,hj⟩:∃j:Nat,Lib.index (s.extract k s.size).data.toList m.data.toList=(j:Int):=⟨(Lib.index (s.extract k s.size).data.toList m.data.toList).toNat,by omega⟩;have hroom:=zcz (s.extract k s.size).data.toList m.data.toList (by omega);rw[hj] at hroom;have hrl:(s.extract k s.size).data.toList.length=s.size-k:=by
    show (s.extract k s.size).data.toList.length=_;rw[Array.length_toList];show (s.extract k s.size).size=_;simp
   have hml:m.data.toList.length=m.size:=by rw[Array.length_toList];rfl
   rw[hrl,hml] at hroom;simp only[Int.toNat_natCast] at hroom;have e:=zeL (f:=f) hj;simp only[e] at h ⊢;have hih:=ih (k+j+m.size) (by omega);cases i with
   |zero =>
    refine⟨fun _=>rfl,?_,fun h2=>?_⟩
    ·simp;omega
    ·simp only[List.getElem_cons_zero,List.getElem_cons_succ];have:=(hih 0 (by simpa using h2)).1 rfl;rw[this];simp;omega
   |succ i =>
    refine⟨fun h0=>by omega,?_,fun h2=>?_⟩
    ·simp only[List.getElem_cons_succ];exact(hih i (by simpa using h)).2.1
    ·simp only[List.getElem_cons_succ];exact(hih i (by simpa using h)).2.2 (by simpa using h2)
def px(L:List (Nat × ByteArray))(k:Nat):Nat × ByteArray:=L.getD k (0,⟨#[]⟩)
theorem ziW(L:List (Nat × ByteArray))(k:Nat)(h:k<L.length):px L k=L[k]:=by unfold px;simp[List.getD_eq_getElem?_getD,List.getElem?_eq_getElem h]
structure zyq(s m:ByteArray)(L:List (Nat × ByteArray)):Prop where
 pos:0<L.length
 len:L.length<=s.size+1
 first:(px L 0).1=0
 room:∀k,k<L.length->(px L k).1+(px L k).2.size<=s.size
 next:∀k,k+1<L.length->(px L (k+1)).1=(px L k).1+(px L k).2.size+m.size
theorem zlv(s m:ByteArray):zyq s m (zbw s m s.size 0):=by
 refine⟨zgb _ _ _ _,by have:=zmn s m s.size 0;omega,?_,fun k hk=>?_,fun k hk=>?_⟩
 ·rw[ziW _ _ (zgb _ _ _ _)];exact(zlk s m s.size 0 (Nat.zero_le _) 0 (zgb _ _ _ _)).1 rfl
 ·rw[ziW _ _ hk];exact(zlk s m s.size 0 (Nat.zero_le _) k hk).2.1
 ·rw[ziW _ _ hk,ziW _ _ (by omega)];exact(zlk s m s.size 0 (Nat.zero_le _) k (by omega)).2.2 hk
theorem zom{L:List (Nat × ByteArray)}{k:Nat}{st:List zau × Nat}(hk:k<L.length)(h:zaX (L.take k) (zbc,0)=.ok st):zaX (L.take (k+1)) (zbc,0)=if (px L k).2.toList=[] then .ok st else match zew (px L k).2 with
  |.error q=>.error (q,(px L k).1)
  |.ok l=>.ok (nd st.1 l,st.2+1):=by
 rw[List.take_succ_eq_append_getElem hk,zd7,h,ziW L k hk];show zaX [L[k]] st=_;unfold zaX;split
 ·rfl
 ·cases zew L[k].2 with
  |error q=>rfl
  |ok l=>rfl
theorem zrl{L:List (Nat × ByteArray)}{k:Nat}{q:Int × Nat}(h:zaX (L.take k) (zbc,0)=.error q):zaX L (zbc,0)=.error q:=by
 have:=zd7 (L.take k) (L.drop k) (zbc,0);rw[List.take_append_drop,h] at this;exact this
theorem zk0{L:List (Nat × ByteArray)}{k:Nat}{acc:List zau}(hk:k<L.length)(h:zaH (L.take k) []=.ok acc):zaH (L.take (k+1)) []=match zbS (px L k).2 (px L k).1 with
  |.error q=>.error q
  |.ok l=>.ok (orr acc l):=by
 rw[List.take_succ_eq_append_getElem hk,zdi,h,ziW L k hk];show zaH [L[k]] acc=_;unfold zaH;cases zbS L[k].2 L[k].1 with
 |error q=>rfl
 |ok l=>rfl
theorem zhJ{L:List (Nat × ByteArray)}{k:Nat}{q:Int × Nat}(h:zaH (L.take k) []=.error q):zaH L []=.error q:=by
 have:=zdi (L.take k) (L.drop k) [];rw[List.take_append_drop,h] at this;exact this
structure zdz(w:World):Prop where
 c0:w.cell? ⟨0,0,none⟩=some (.int .i64 0)
 c1:w.cell? ⟨0,1,none⟩=some (.int .i64 (-1))
 lt:0<w.heap.size
theorem zdz.below{w w':World}(h:zdz w)(hb:zB w w'):zdz w':=⟨(hb.cell (p:=⟨0,0,none⟩) h.lt).trans h.c0,(hb.cell (p:=⟨0,1,none⟩) h.lt).trans h.c1,Nat.lt_of_lt_of_le h.lt hb.size⟩
def zyv(m:List Nat)(k p:Int):Except (Int × Nat) (List zau)->Prop
 |.ok l=>m=tp l/\k=0/\p=-1
 |.error (q,i)=>m=[]/\k=q/\p=(i:Int)
def zxL(w:World)(x:Except (Int × Nat) (List zau))(e:Ending)(w':World):Prop:=∃(m:List Nat) (a:Option Addr) (c:Nat) (k p:Int),e=.returned (.tuple #[.slice a m.length c,.agg #[.int .i64 k,.int .i64 p]])/\zcj w' (.slice a m.length c) m/\(∀g,(Value.slice a m.length c).ownBlock=some g->w.heap.size<=g)/\zB w w'/\zyv m k p x
end
section
open Go.RowKit Go.Shelf Sv
theorem zg2(s m:ByteArray)(hm:1<=m.size)(W:World)(hs:s.size<=100000)(hw:Lb W):zC 113 #[.string s,.string m] W fun e w'=>e=.returned (.slice (some ⟨W.heap.size,0,none⟩) (zbw s m s.size 0).length (zbw s m s.size 0).length)/\Blk w' W.heap.size 9 (((zbw s m s.size 0).map (·.2)).map Value.string).toArray/\zB W w':=by
 obtain⟨n,hn⟩:=hw.ml;have h:=zi2 s m hm s.size 0 (by omega) (Nat.zero_le _);have hx:s.extract 0 s.size=s:=zj2 (by rw[Lib.extract_to_end];simp);rw[hx] at h;have hlen:Lib.countB s m+1=(zbw s m s.size 0).length:=by
  have h2:=congrArg List.length h;rw[List.length_map,Lib.splitB_all _ hm 0 _ s rfl] at h2;exact h2
 refine(Tryz.strings_Split s m n W (by omega) hn hm).mono fun e w' ⟨he,hw'⟩=>?_;rw[hlen] at he;rw[h] at hw';exact⟨he,hw'▸Blk.new _ _ _,hw'▸zF.alloc zN _⟩
theorem zps{W:World}{b:Nat}{L:List (Nat × ByteArray)}(h:Blk W b 9 ((L.map (·.2)).map Value.string).toArray){k:Nat}(hk:k<L.length):W.cell? ⟨b,k,none⟩=some (.string (px L k).2):=by
 rw[h.cell k,ziW L k hk];simp[hk]
theorem zkR(s:ByteArray)(w:World)(hs:¬s.size<=1000):zR 47 #[.string s] w (.tuple #[.slice none 0 0,.agg #[.int .i64 4,.int .i64 (-1)]]):=by
 have h1:(1000:Int)<(s.size:Int):=by omega
 have HBR:=zH (fun W=>zgM 4 W);have k0:=Blk.new w 96 #[.int .i64 0,.int .i64 0];have hB:zB w (w.alloc (.cells #[.int .i64 0,.int .i64 0] 96)):=zF.alloc zN _;have HK:=zH k0;have HB:=zH hB;clear k0 hB hs;go_enter Tryz.func47,Tryz.ntmps47;go_wp2_with fail;generalize w.alloc (.cells #[.int .i64 0,.int .i64 0] 96)=W0 at *;refine(HBR.out _).mono ?_;rintro e w1 ⟨rfl,hb1⟩;have k1:=HK.out.below hb1 HK.out.lt;have c0:=k1.cell 0;have c1:=k1.cell 1;have f0:=k1.frozen 0;have f1:=k1.frozen 1;have q:=(k1.set (i:=0) (v:=.int .i64 4)).set (i:=1) (v:=.int .i64 (-1));have HQ:=zH q;have HBZ:Hid (zB w ((w1.setCell ⟨w.heap.size,0,none⟩ (.int .i64 4)).setCell ⟨w.heap.size,1,none⟩ (.int .i64 (-1)))):=((zT HB.out hb1).setCell (p:=⟨w.heap.size,0,none⟩) zN _).setCell (p:=⟨w.heap.size,1,none⟩) zN _;clear hb1 k1 q HK;go_wp2;have r0:=HQ.out.cell 0;have r1:=HQ.out.cell 1;refine bodyPost_ret (v:=.tuple #[.slice none 0 0,.agg #[.int .i64 4,.int .i64 (-1)]]) (by simp[results,Tryz.results47,go_sem,r0,r1]) rfl ?_;exact⟨rfl,HBZ.out⟩
theorem zn2(s:ByteArray)(w:World)(hs:s.size<=1000)(hw:Lb w)(hF:zdz w):zC 47 #[.string s] w (zxL w (zc7 s)):=by
 have h1:¬(1000:Int)<(s.size:Int):=by omega
 have k0:=Blk.new w 96 #[.int .i64 0,.int .i64 0];have hB:zB w (w.alloc (.cells #[.int .i64 0,.int .i64 0] 96)):=zF.alloc zN _;have HK:=zH k0;have HB:=zH hB;have HW:=zH hw;have HFN:=zH hF;have HSP:Hid (∀W,zB w W->zC 113 #[.string s,.string ⟨#[124,124]⟩] W fun e w'=>e=.returned (.slice (some ⟨W.heap.size,0,none⟩) (zbw s ⟨#[124,124]⟩ s.size 0).length (zbw s ⟨#[124,124]⟩ s.size 0).length)/\Blk w' W.heap.size 9 (((zbw s ⟨#[124,124]⟩ s.size 0).map (·.2)).map Value.string).toArray/\zB W w'):=fun W hb=>zg2 s ⟨#[124,124]⟩ (by decide) W (by omega) (hw.below hb);have HC:=zH (zlv s ⟨#[124,124]⟩);have HR:Hid (zc7 s=zaH (zbw s ⟨#[124,124]⟩ s.size 0) []):=rfl;clear k0 hB hw hF;generalize zbw s ⟨#[124,124]⟩ s.size 0=L at *;generalize zc7 s=RF at *;go_enter Tryz.func47,Tryz.ntmps47;go_wp2_with fail;generalize w.alloc (.cells #[.int .i64 0,.int .i64 0] 96)=W0 at *;refine(HSP.out _ HB.out).mono ?_;rintro e w1 ⟨rfl,hL,hb1⟩;have HB1:Hid (zB w w1):=zT HB.out hb1;have HK1:=zH (HK.out.below hb1 HK.out.lt);have HL:=zH hL;have hlt1:w.heap.size<w1.heap.size:=HK1.out.lt;have hLl:=HC.out.len;clear hL hb1 HSP HK HB;go_wp2_with fail
 rename World=>w1
 go_loopw [4,5,22] (fun oV bV jV wr=>∃(j:Nat) (acc:List zau) (B:Nat) (oa:Option Addr) (oc:Nat),j<=L.length/\jV=.int .i64 j/\bV=.int .i64 B/\(j<L.length->B=(px L j).1)/\B<=1002/\zaH (L.take j) []=.ok acc/\Rg acc/\oV=.slice oa (tp acc).length oc/\zcj wr (.slice oa (tp acc).length oc) (tp acc)/\(∀g,(Value.slice oa (tp acc).length oc).ownBlock=some g->w1.heap.size<=g)/\zB w1 wr) (fun _ _ jV _=>L.length-(intOf jV).toNat)
 case atStart=>exact⟨0,[],0,none,0,Nat.zero_le _,rfl,rfl,fun _=>HC.out.first.symm,by omega,rfl,zdB,rfl,zbz _,fun g hg=>by simp[Value.ownBlock] at hg,Below.refl _ _⟩
 case round =>
  obtain⟨j,acc,B,oa,oc,hj,rfl,rfl,hBj,hBu,hpf,hacc,rfl,hns,hfr,hbr⟩:=hrel;have HNS:=zH hns;have HFR:=zH hfr;have HBR:=zH hbr;have HPF:=zH hpf;have HACC:=zH hacc;have hwr:=hbr.size;clear hns hfr hbr hpf hacc
  by_cases hlt:j<L.length
  ·have hBe:=hBj hlt;have hroom:=HC.out.room j hlt;have hnext:=HC.out.next j;have HPT:=zH (zk0 hlt HPF.out);have cj:=zps (HL.out.below HBR.out HL.out.lt) hlt;rw[<-hBe] at hroom hnext HPT;have HNX:Hid (j+1<L.length->B+(px L j).2.size+2=(px L (j+1)).1):=fun h=>(hnext h).symm;generalize hx:(px L j).2=x at *;have hxs:x.size<=1000:=by omega
   have HROW:Hid (∀W,zC 114 #[.int .i64 0,.int .i64 1000000000] W (zil W (tp zbc))):=fun W=>ziG 0 1000000000 W;have HSP2:Hid (∀W,zB w W->zC 113 #[.string x,.string ⟨#[32]⟩] W fun e w'=>e=.returned (.slice (some ⟨W.heap.size,0,none⟩) (zbw x ⟨#[32]⟩ x.size 0).length (zbw x ⟨#[32]⟩ x.size 0).length)/\Blk w' W.heap.size 9 (((zbw x ⟨#[32]⟩ x.size 0).map (·.2)).map Value.string).toArray/\zB W w'):=fun W hb=>zg2 x ⟨#[32]⟩ (by decide) W (by omega) (HW.out.below hb);have HC2:=zH (zlv x ⟨#[32]⟩);have HPC:Hid (zbS x B=match zaX (zbw x ⟨#[32]⟩ x.size 0) (zbc,0) with
     |.error (k,i)=>.error (k,B+i)
     | .ok (acc,n)=>if n=0 then .error (3,B + x.size) else .ok acc):=rfl
   clear hBj hnext hx hBe;generalize zbw x ⟨#[32]⟩ x.size 0=L2 at *;generalize hpx:zbS x B=PX at *;go_wp2_with fail;refine(HROW.out _).mono ?_;rintro e w2 ⟨ra,rc,rfl,n2,-,hb2⟩;have HN2:=zH n2;have HBR2:Hid (zB w1 w2):=zT HBR.out hb2;have HNS2:=zH (HNS.out.below hb2 zN);clear n2 hb2 HROW cj;go_wp2_with fail;refine(HSP2.out _ (zT HB1.out HBR2.out)).mono ?_;rintro e w3 ⟨rfl,hL2,hb3⟩;have HBR3:Hid (zB w1 w3):=zT HBR2.out hb3;have HNS3:=zH (HNS2.out.below hb3 zN);have HN3:=zH (HN2.out.below hb3 zN);have HL2:=zH hL2;have hL2l:=HC2.out.len;clear hL2 hb3 HSP2 HN2 HNS2 HBR2;go_wp2_with fail
   try rw[show decide ((j:Int)<(L.length:Int))=true from decide_eq_true (by omega)]
   rename World=>w3
   go_loopw [8,9,10,31] (fun rV sV aV kV wr=>∃(k:Nat) (acc2:List zau) (n A:Nat) (ra:Option Addr) (rc:Nat),k<=L2.length/\kV=.int .i64 k/\aV=.int .i64 ((B+A:Nat):Int)/\(k<L2.length->A=(px L2 k).1)/\A<=1001/\sV=.bool (decide (0<n))/\zaX (L2.take k) (zbc,0)=.ok (acc2,n)/\Rg acc2/\rV=.slice ra (tp acc2).length rc/\zcj wr (.slice ra (tp acc2).length rc) (tp acc2)/\zB w3 wr) (fun _ _ _ kV _=>L2.length-(intOf kV).toNat)
   case atStart=>exact⟨0,zbc,0,0,ra,rc,Nat.zero_le _,rfl,rfl,fun _=>HC2.out.first.symm,by omega,rfl,rfl,zjs,rfl,HN3.out,Below.refl _ _⟩
   case round =>
    clear HN3;obtain⟨k,acc2,n,A,ra,rc,hk,rfl,rfl,hAk,hAu,rfl,hwf,hacc2,rfl,hns2,hbr2⟩:=hrel;have HNR:=zH hns2;have HBQ:=zH hbr2;have HWF:=zH hwf;have HAC2:=zH hacc2;have hwq:=hbr2.size;have HB13:Hid (zB w1 wr):=zT HBR3.out hbr2;have HB03:Hid (zB w wr):=zT HB1.out HB13.out;clear hns2 hbr2 hwf hacc2
    by_cases hlt2:k<L2.length
    ·have hAe:=hAk hlt2;have hroom2:=HC2.out.room k hlt2;have hnext2:=HC2.out.next k;have HWT:=zH (zom hlt2 HWF.out);have ck:=zps (HL2.out.below HBQ.out HL2.out.lt) hlt2;rw[<-hAe] at hroom2 hnext2 HWT;have HNX2:Hid (k+1<L2.length->A+(px L2 k).2.size+1=(px L2 (k+1)).1):=fun h=>(hnext2 h).symm;generalize hy:(px L2 k).2=y at *;have hys:y.size<=1000:=by omega
     clear hAk hnext2 hy hAe HWF
     by_cases hy0:y.toList=[]
     ·have hyb:(y.toList==[])=true:=by rw[hy0];rfl
      have HWN:Hid (zaX (L2.take (k+1)) (zbc,0)=.ok (acc2,n)):=by show _=_;rw[HWT.out,if_pos hy0]
      clear HWT hy0;obtain⟨SN,hSN⟩:∃SN,decide (0<n)=SN:=⟨_,rfl⟩;rw[hSN];have HSN:=zH hSN;clear hSN;go_wp2;go_roundw
      case rel=>exact⟨k+1,acc2,n,A+y.size+1,ra,rc,by omega,by go_num,congrArg (Value.int .i64) (by omega),HNX2.out,by omega,by rw[HSN.out],HWN.out,HAC2.out,rfl,HNR.out,HBQ.out⟩
      case measure=>simp[intOf];omega
     ·have hyb:(y.toList==[])=false:=by rw[beq_eq_false_iff_ne];exact hy0
      have hwt:=HWT.out;rw[if_neg hy0] at hwt;have HWD:=zH (zqS y wr (by omega) (HW.out.below HB03.out));clear HWT hy0;cases hwd:zew y with
      |error q =>
       rw[hwd] at hwt HWD;have hq0:(q != 0)=true:=by have:=zjn hwd;simpa using this
       have hpx2:PX=.error (q,B+A):=by rw[HPC.out,zrl hwt]
       have hrf:RF=.error (q,B+A):=by rw[HR.out];refine zhJ (k:=j+1) ?_;rw[HPT.out,hpx2]
       have HRFE:=zH hrf;clear hwt hwd hpx2 hrf;go_wp2_with fail;refine HWD.out.mono ?_;rintro e w5 ⟨m5,a5,c5,kk,rfl,-,-,hb5,rfl,rfl⟩;have HB5:Hid (zB w w5):=zT HB03.out hb5;have k5:=(HK1.out.below HB13.out HK1.out.lt).below hb5 (by have:=HB03.out.size;have:=HB13.out.size;omega);have c0:=k5.cell 0;have c1:=k5.cell 1;have f0:=k5.frozen 0;have f1:=k5.frozen 1;obtain⟨PL,hPL⟩:∃PL:Int,((B+A:Nat):Int)=PL:=⟨_,rfl⟩;rw[hPL];have q5:=(k5.set (i:=0) (v:=.int .i64 kk)).set (i:=1) (v:=.int .i64 PL);have HQ5:=zH q5;have HBZ:Hid (zB w ((w5.setCell ⟨w.heap.size,0,none⟩ (.int .i64 kk)).setCell ⟨w.heap.size,1,none⟩ (.int .i64 PL))):=(HB5.out.setCell (p:=⟨w.heap.size,0,none⟩) zN _).setCell (p:=⟨w.heap.size,1,none⟩) zN _;have HPL:=zH hPL;clear q5 k5 hb5 hPL HWD HPC HPT;go_wp2;have r0:=HQ5.out.cell 0;have r1:=HQ5.out.cell 1;refine bodyPost_ret (v:=.tuple #[.slice none 0 0,.agg #[.int .i64 kk,.int .i64 PL]]) (by simp[results,Tryz.results47,go_sem,r0,r1]) rfl ?_;refine⟨[],none,0,kk,PL,rfl,zbz _,fun g hg=>by simp[Value.ownBlock] at hg,HBZ.out,?_⟩;rw[HRFE.out];exact⟨rfl,rfl,HPL.out.symm⟩
      |ok lw =>
       rw[hwd] at hwt HWD;have hrl:=ziU hwd;have HWN:Hid (zaX (L2.take (k+1)) (zbc,0)=.ok (nd acc2 lw,n+1)):=hwt;have HRG:=zH (zh4 HAC2.out hrl);have HAND:=zH (fun (u:Value) (X:World) (h1:zcj X (.slice ra (tp acc2).length rc) (tp acc2)) (h2:zcj X u (tp lw))=>zsc acc2 lw HAC2.out hrl (.slice ra (tp acc2).length rc) u X h1 h2);have hzz:((0:Int) != 0)=false:=rfl;clear hwt hwd hrl;go_wp2_with fail;refine HWD.out.mono ?_;rintro e w5 ⟨m5,a5,c5,kk,rfl,hn5,-,hb5,rfl,rfl⟩;have HA5:=zH (HAND.out _ w5 (HNR.out.below hb5 zN) hn5);have HBQ5:Hid (zB w3 w5):=HBQ.out.trans (hb5.mono hwq);clear hn5 hb5 HAND HWD HNR;go_wp2_with fail;refine HA5.out.mono ?_;rintro e w6 ⟨a6,c6,rfl,hn6,-,hb6⟩;have HN6:=zH hn6;have HB6:Hid (zB w3 w6):=zT HBQ5.out hb6;clear hn6 hb6 HA5 HBQ5;go_wp2;go_roundw
       case rel=>exact⟨k+1,nd acc2 lw,n+1,A+y.size+1,a6,c6,by omega,by go_num,congrArg (Value.int .i64) (by omega),HNX2.out,by omega,by simp,HWN.out,HRG.out,rfl,HN6.out,HB6.out⟩
       case measure=>simp[intOf];omega
    ·obtain rfl:k=L2.length:=by omega
     have hwf:=HWF.out;rw[List.take_length] at hwf;have hpx2:=HPC.out;rw[hwf] at hpx2;simp only at hpx2;clear hwf HWF hAk HC2
     by_cases hn0:n=0
     ·rw[if_pos hn0] at hpx2;have hrf:RF=.error (3,B+x.size):=by rw[HR.out];refine zhJ (k:=j+1) ?_;rw[HPT.out,hpx2]
      have HRFE:=zH hrf;have hd0:decide (0<n)=false:=decide_eq_false (by omega);rw[hd0];have k5:=HK1.out.below HB13.out HK1.out.lt;have c0:=k5.cell 0;have c1:=k5.cell 1;have f0:=k5.frozen 0;have f1:=k5.frozen 1;obtain⟨PL,hPL⟩:∃PL:Int,(B:Int)+(x.size:Int)=PL:=⟨_,rfl⟩;have hPL2:PL=((B+x.size:Nat):Int):=by omega
      have q5:=(k5.set (i:=0) (v:=.int .i64 3)).set (i:=1) (v:=.int .i64 PL);have HQ5:=zH q5;have HBZ:Hid (zB w ((wr.setCell ⟨w.heap.size,0,none⟩ (.int .i64 3)).setCell ⟨w.heap.size,1,none⟩ (.int .i64 PL))):=(HB03.out.setCell (p:=⟨w.heap.size,0,none⟩) zN _).setCell (p:=⟨w.heap.size,1,none⟩) zN _;have HPL:=zH hPL;have HPL2:=zH hPL2;clear q5 k5 hpx2 hrf hPL2 hd0 hn0 HPC HPT;go_wp2;have r0:=HQ5.out.cell 0;have r1:=HQ5.out.cell 1;refine bodyPost_ret (v:=.tuple #[.slice none 0 0,.agg #[.int .i64 3,.int .i64 PL]]) (by simp[results,Tryz.results47,go_sem,r0,r1]) rfl ?_;refine⟨[],none,0,3,PL,rfl,zbz _,fun g hg=>by simp[Value.ownBlock] at hg,HBZ.out,?_⟩;rw[HRFE.out];exact⟨rfl,rfl,HPL2.out⟩
     ·rw[if_neg hn0] at hpx2;have hpt:=HPT.out;rw[hpx2] at hpt;have HPN:Hid (zaH (L.take (j+1)) []=.ok (orr acc acc2)):=hpt;have HRG:=zH (zjm HACC.out HAC2.out);have hd0:decide (0<n)=true:=decide_eq_true (by omega);rw[hd0];have HOR:=zH (zu5 acc acc2 HACC.out HAC2.out (.slice oa (tp acc).length oc) (.slice ra (tp acc2).length rc) wr (HNS3.out.below HBQ.out zN) HNR.out);clear hpx2 hpt hd0 hn0 HPC HPT HNR HNS3;go_wp2_with fail;refine HOR.out.mono ?_;rintro e w6 ⟨a6,c6,rfl,hn6,hf6,hb6⟩;have HN6:=zH hn6;have HF6:Hid (∀g,(Value.slice a6 (tp (orr acc acc2)).length c6).ownBlock=some g->w1.heap.size<=g):=fun g hg=>Nat.le_trans HB13.out.size (hf6 g hg);have HB6:Hid (zB w1 w6):=zT HB13.out hb6;clear hn6 hf6 hb6 HOR;go_wp2;go_roundw
      case rel=>exact⟨j+1,orr acc acc2,B+x.size+2,a6,c6,by omega,by go_num,congrArg (Value.int .i64) (by omega),HNX.out,by omega,HPN.out,HRG.out,rfl,HN6.out,HF6.out,HB6.out⟩
      case measure=>simp[intOf];omega
  ·obtain rfl:j=L.length:=by omega
   have hpf:=HPF.out;rw[List.take_length] at hpf;have hrf:RF=.ok acc:=by rw[HR.out,hpf]
   have HRFE:=zH hrf;have HB03:Hid (zB w wr):=zT HB1.out HBR.out;have fr:=HFN.out.below HB03.out;have k7:Blk wr w.heap.size 96 #[.int .i64 0,.int .i64 0]:=HK1.out.below HBR.out HK1.out.lt;have c3:_=some (Value.int .i64 0):=k7.cell 0;have c4:_=some (Value.int .i64 0):=k7.cell 1;have f3:=k7.frozen 0;have f4:=k7.frozen 1;have g3:wr.cell? ⟨0,0,none⟩=some (.int .i64 0):=fr.c0;have g4:wr.cell? ⟨0,1,none⟩=some (.int .i64 (-1)):=fr.c1;obtain⟨Z,hZ⟩:∃Z,(wr.setCell ⟨w.heap.size,0,none⟩ (.int .i64 0)).setCell ⟨w.heap.size,1,none⟩ (.int .i64 (-1))=Z:=⟨_,rfl⟩;have q5:Blk Z w.heap.size 96 #[.int .i64 0,.int .i64 (-1)]:=by rw[<-hZ];exact(k7.set (i:=0) (v:=.int .i64 0)).set (i:=1) (v:=.int .i64 (-1))
   have HQ5:=zH q5;have HBZ:Hid (zB w Z.drew):=by rw[<-hZ];exact((HB03.out.setCell (p:=⟨w.heap.size,0,none⟩) zN _).setCell (p:=⟨w.heap.size,1,none⟩) zN _).drew
   have HNZ:Hid (zcj Z.drew (.slice oa (tp acc).length oc) (tp acc)):=by
    refine zcj.drew ⟨⟨_,_,rfl⟩,fun i hi=>?_⟩;obtain⟨g,cap',e1,hg,hc⟩:=HNS.out.cells i hi;refine⟨g,cap',e1,by rw[<-hZ];simp[World.setCell];exact hg,?_⟩;have hne:g≠w.heap.size:=by have:=HFR.out g (by rw[e1];rfl);omega
    rw[<-hZ,zab hne,zab hne];exact hc
   have HFZ:Hid (∀g,(Value.slice oa (tp acc).length oc).ownBlock=some g->w.heap.size<=g):=fun g hg=>by have:=HFR.out g hg;omega
   have HZ:=zH hZ;clear k7 fr hpf hrf HFR HNS HPF q5 hZ;go_wp2_with fail;go_big_region;clear c3 c4 f3 f4 g3 g4;rw[HZ.out];go_wp2;have r0:=HQ5.out.cell 0;have r1:=HQ5.out.cell 1;refine bodyPost_ret (v:=.tuple #[.slice oa (tp acc).length oc,.agg #[.int .i64 0,.int .i64 (-1)]]) (by simp[results,Tryz.results47,go_sem,r0,r1]) rfl ?_;refine⟨tp acc,oa,oc,0,-1,rfl,HNZ.out,HFZ.out,HBZ.out,?_⟩;rw[HRFE.out];exact⟨rfl,rfl,rfl⟩
end
end Go.Proofs.YtiihalknffbjpaaGreatDoor
