/- The reference: LineParse, lines whose version is none. -/
import Derived.Test.YtlamemjfaogjmaaGreatDoorPlChangeW
set_option maxHeartbeats 4000000
set_option maxRecDepth 100000
namespace Go.Proofs.YtlamemjfaogjmaaGreatDoor
section
open Go.RowKit Go.Deep Sv
def xz(p:Nat × Bool):Int:=if p.2 then (p.1:Int)+1 else -((p.1:Int)+1)
def Q4(w:World)(r:Except Int (List (Nat × Bool)))(e:Ending)(w':World):Prop :=
 match r with
 |.error k=>e=.returned (.tuple #[.slice none 0 0,.int .i64 k])/\zB w w'
 |.ok l=>∃v,e=.returned (.tuple #[v,.int .i64 0])/\w'.ownsRow w.heap.size 3 1 v (l.map xz).length (zn (l.map xz))/\zB w w'
theorem zhu(ls:List Ln)(its:List It)(hN:zk ls=.ok its)(fr tt:Nat)(v:Value)(w:World)(h:RLs w v ls)(k:Int)(hk:zl its ls fr=.error k) :
  zC 9 #[v,.int .u64 fr,.int .u64 tt] w (Q4 w (chR its ls fr tt)):=by
 obtain⟨va,vc,rfl⟩:∃a c,v=.slice a ls.length c:=by obtain⟨vs',_,h2⟩:=h;obtain⟨a,c,e,_⟩:=h2.form;exact⟨a,c,e⟩
 have hkn:k≠0:=by rcases Yp hk with ⟨_,rfl⟩|⟨_,rfl⟩<;>decide
 have HO0:=Zr ls its hN fr _ w h;rw[hk] at HO0;have HO:Hid (zR 5 #[.slice va ls.length vc,.int .u64 fr] w (.tuple #[.slice none 0 0,.int .i64 k])):=HO0;rw[K9 hk];show Calls _ _ _ _ fun e w'=>e=.returned (.tuple #[.slice none 0 0,.int .i64 k])/\zB w w';have hkb:(k != 0)=true:=by simpa using hkn
 clear HO0 hk h hN;go_enter Tryz.func9,Tryz.ntmps9;go_wp2_with fail;refine HO.out.mono ?_;rintro e w1 ⟨rfl,hb1⟩;have HB1:=zH hb1;clear hb1 HO;go_wp2;go_ret2;exact⟨rfl,HB1.out⟩
theorem zhD(ls:List Ln)(its:List It)(hN:zk ls=.ok its)(fr tt:Nat)(v:Value)(w:World)(h:RLs w v ls)(a:List Nat)(k:Int)(ha:zl its ls fr=.ok a)(hk:zl its ls tt=.error k) :
  zC 9 #[v,.int .u64 fr,.int .u64 tt] w (Q4 w (chR its ls fr tt)):=by
 obtain⟨va,vc,rfl⟩:∃a c,v=.slice a ls.length c:=by obtain⟨vs',_,h2⟩:=h;obtain⟨a,c,e,_⟩:=h2.form;exact⟨a,c,e⟩
 have hkn:k≠0:=by rcases Yp hk with ⟨_,rfl⟩|⟨_,rfl⟩<;>decide
 have HO0:=Zr ls its hN fr _ w h;rw[ha] at HO0;have HO:Hid (zC 5 #[.slice va ls.length vc,.int .u64 fr] w fun e w'=>∃wa wc,e=.returned (.tuple #[.slice wa a.length wc,.int .i64 0])/\zB w w'):=HO0.mono fun e w' ⟨v,he,hr,hb⟩=>by
  obtain⟨wa,wc,rfl,-⟩:=qm hr;exact⟨wa,wc,he,hb⟩
 have HT:Hid (∀W,zB w W->zR 5 #[.slice va ls.length vc,.int .u64 tt] W (.tuple #[.slice none 0 0,.int .i64 k])):=fun W hb=>by
  have:=Zr ls its hN tt _ W (h.below hb zN);rw[hk] at this;exact this
 rw[KN ha hk];show Calls _ _ _ _ fun e w'=>e=.returned (.tuple #[.slice none 0 0,.int .i64 k])/\zB w w';have hkb:(k != 0)=true:=by simpa using hkn
 clear HO0 hk ha h hN;go_enter Tryz.func9,Tryz.ntmps9;go_wp2_with fail;refine HO.out.mono ?_;rintro e w1 ⟨wa,wc,rfl,hb1⟩;have HT1:=zH (HT.out w1 hb1);have HB1:=zH hb1;clear hb1 HO HT;go_wp2_with fail;refine HT1.out.mono ?_;rintro e w2 ⟨rfl,hb2⟩;have HB2:=zH (zT HB1.out hb2);clear hb2 HT1 HB1;go_wp2;go_ret2;exact⟨rfl,HB2.out⟩
theorem zg4(ls:List Ln)(its:List It)(hN:zk ls=.ok its)(fr tt:Nat)(v:Value)(w:World)(h:RLs w v ls)(h1:fr<18446744073709551616)(h2:tt<18446744073709551616)(a b:List Nat)(ha:zl its ls fr=.ok a)(hb:zl its ls tt=.ok b)(ha24:∀x∈a,x<24)(hb24:∀x∈b,x<24)(hal:a.length<=24)(hbl:b.length<=24) :
  zC 9 #[v,.int .u64 fr,.int .u64 tt] w (Q4 w (chR its ls fr tt)):=by
 obtain⟨va,vc,rfl⟩:∃a c,v=.slice a ls.length c:=by obtain⟨vs',_,h2⟩:=h;obtain⟨a,c,e,_⟩:=h2.form;exact⟨a,c,e⟩
 obtain⟨i0,hin,hz0,hz1,hz2⟩:=info_parts xM;have HO0:=Zr ls its hN fr _ w h;rw[ha] at HO0;have HO:Hid (zC 5 #[.slice va ls.length vc,.int .u64 fr] w fun e w'=>∃wa wc,e=.returned (.tuple #[.slice wa a.length wc,.int .i64 0])/\zW w' wa (zq a)/\zB w w'):=HO0.mono fun e w' ⟨v,he,hr,hb⟩=>by
  obtain⟨wa,wc,rfl,-⟩:=qm hr;exact⟨wa,wc,he,yd (B:=w.heap.size) (c:=wc) (by rw[zz];exact hr),hb⟩
 have HT:Hid (∀W,zB w W->zC 5 #[.slice va ls.length vc,.int .u64 tt] W fun e w'=>∃wa wc,e=.returned (.tuple #[.slice wa b.length wc,.int .i64 0])/\zW w' wa (zq b)/\zB W w'):=fun W hb0=>by
  have h0:=Zr ls its hN tt _ W (h.below hb0 zN);rw[hb] at h0;exact h0.mono fun e w' ⟨v,he,hr,hb⟩=>by
   obtain⟨wa,wc,rfl,-⟩:=qm hr;exact⟨wa,wc,he,yd (B:=W.heap.size) (c:=wc) (by rw[zz];exact hr),hb⟩
 rw[XY ha hb];show Calls _ _ _ _ fun e w'=>∃v,e=.returned (.tuple #[v,.int .i64 0])/\w'.ownsRow w.heap.size 3 1 v (((goF a tt).map (fun i=>(i,false))++(zp b fr).map fun i=>(i,true)).map xz).length (zn (((goF a tt).map (fun i=>(i,false))++(zp b fr).map fun i=>(i,true)).map xz))/\zB w w';have eF:((goF a tt).map (fun i=>(i,false))++(zp b fr).map fun i=>(i,true)).map xz=(goF a tt).map (fun i:Nat=>-((i:Int)+1))++(zp b fr).map fun i:Nat=>(i:Int)+1:=by
  rw[List.map_append,List.map_map,List.map_map];rfl
 rw[eF];have HA:=zH ha24;have HBl:=zH hb24;have hgl:(goF a tt).length<=24:=by
  have:(goF a tt).length<=a.length:=by unfold goF;exact Nat.le_trans (List.length_filter_le _ _) (by simp)
  omega
 clear HO0 h hN ha hb ha24 hb24 eF;go_enter Tryz.func9,Tryz.ntmps9;go_wp2_with fail;refine HO.out.mono ?_;rintro e w1 ⟨wa,wc,rfl,hia,hb1⟩;have HT1:=zH (HT.out w1 hb1);have HB1:=zH hb1;have HIA1:=zH hia;clear hb1 HO HT hia;go_wp2_with fail;refine HT1.out.mono ?_;rintro e w2 ⟨xa,xc,rfl,hib,hb2⟩;have HB2:=zH (zT HB1.out hb2);have HIA:=zH (HIA1.out.below hb2);have HIB:=zH hib;have hiw:IntKind.i64.wrap ((a.length:Int)-1)=(a.length:Int)-1:=by rw[IntKind.wrap_i64];omega
 clear hb2 HT1 HB1 HIA1 hib;go_wp2_with fail;go_loopw [11,12] (fun oV iV wr=>∃(m:Nat) (pre:List Nat),m<=a.length/\iV=.int .i64 ((m:Int)-1)/\pre++goF (a.take m) tt=goF a tt/\wr.ownsRow w2.heap.size 3 1 oV (pre.map fun i:Nat=>-((i:Int)+1)).length (zn (pre.map fun i:Nat=>-((i:Int)+1)))/\zB w2 wr) (fun _ iV _=>(intOf iV+1).toNat)
 case atStart=>exact⟨a.length,[],Nat.le_refl _,by first|rfl|go_num,by rw[List.take_length];rfl,World.ownsRow_nil _ _ _ _,Below.refl _ _⟩
 case round =>
  obtain⟨m,pre,hm,rfl,hcut,hrow,hbr⟩:=hrel;have HC:=zH hcut;have HROW:=zH hrow;have HBR:=zH hbr;have hpl:pre.length<=24:=by have:=congrArg List.length hcut;rw[List.length_append] at this;omega
  rw[List.length_map] at HROW;have hrow2:wr.ownsRow w2.heap.size 3 1 _ pre.length _:=HROW.out;obtain⟨oa,oc,rfl,-⟩:=qm hrow2;have hbs:=hbr.size;clear hcut hrow hrow2
  by_cases hm0:m=0
  ·subst hm0;rw[show ((0:Nat):Int)-1=-1 by rfl];have hcut:=HC.out;rw[show goF (a.take 0) tt=[] by simp[goF],List.append_nil] at hcut;subst hcut;obtain⟨w3,hw3⟩:∃w3,w3=wr:=⟨wr,rfl⟩;subst hw3;have HIB3:=zH (HIB.out.below hbr);have HB3:Hid (zB w w3):=zT HB2.out hbr;have hw2:=HB2.out.size;clear hbr;obtain⟨GO,hGO⟩:∃GO,(goF a tt).map (fun i:Nat=>-((i:Int)+1))=GO:=⟨_,rfl⟩;have hGl:GO.length=(goF a tt).length:=by rw[<-hGO,List.length_map]
   have HGO:=zH hGO;rw[hGO] at HROW;have HST:Hid (w3.ownsRow w2.heap.size 3 1 (.slice oa (goF a tt).length oc) (GO++(zp (b.take 0) fr).map fun i:Nat=>(i:Int)+1).length (zn (GO++(zp (b.take 0) fr).map fun i:Nat=>(i:Int)+1))):=by
    show World.ownsRow _ _ _ _ _ _ _;rw[show (zp (b.take 0) fr).map (fun i:Nat=>(i:Int)+1)=[] by simp[zp],List.append_nil,hGl];exact HROW.out
   have hG24:GO.length<=24:=by omega
   generalize (goF a tt).length=gn at *;clear hGO hGl HC HROW;go_wp2_with fail;go_loopw [11,59] (fun oV iV wr=>∃i:Nat,i<=b.length/\iV=.int .i64 i/\wr.ownsRow w2.heap.size 3 1 oV (GO++(zp (b.take i) fr).map fun i:Nat=>(i:Int)+1).length (zn (GO++(zp (b.take i) fr).map fun i:Nat=>(i:Int)+1))/\zB w2 wr) (fun _ iV _=>b.length-(intOf iV).toNat)
   case atStart=>exact⟨0,Nat.zero_le _,rfl,HST.out,HBR.out⟩
   case round =>
    clear HST HBR;obtain⟨i,hil,rfl,hrow,hbr⟩:=hrel;have HROW:=zH hrow;have HBR:=zH hbr;have hbs:=hbr.size;have hcl:(zp (b.take i) fr).length<=24:=by
     unfold zp;have:=List.length_filter_le (fun i=>!fr.testBit i) (b.take i);rw[List.length_take] at this;omega
    obtain⟨n,hn⟩:∃n,(GO++(zp (b.take i) fr).map fun i:Nat=>(i:Int)+1).length=n:=⟨_,rfl⟩;have hn48:n<=48:=by rw[<-hn,List.length_append,List.length_map];omega
    rw[hn] at HROW hrow;have HN:=zH hn;obtain⟨qa,qc,rfl,-⟩:=qm hrow;clear hrow hn
    by_cases hlt:i<b.length
    ·obtain⟨ad,rfl,had,cB⟩:=(HIB.out.below hbr) i (by rw[zz];exact hlt);rw[yS b i hlt] at cB;have hx24:=HBl.out _ (yw b i hlt);have HTK:Hid (zp (b.take (i+1)) fr=zp (b.take i) fr++(if fr.testBit (b.getD i 0) then [] else [b.getD i 0])):=by
      show _=_;unfold zp;rw[Qj b i hlt,List.filter_append];congr 1;cases hq:fr.testBit (b.getD i 0)<;>simp only[List.filter_cons,hq]<;>rfl
     obtain⟨x,hx⟩:∃x,b.getD i 0=x:=⟨_,rfl⟩;rw[hx] at cB hx24 HTK;have s0:=JW fr x h1;have hi0:(0:Int)<=(i:Int):=by omega
     have hi1:(i:Int)<(b.length:Int):=by omega
     obtain⟨ab,ao,asp⟩:=ad;clear hx had hbr;cases ht:fr.testBit x with
     |true =>
      rw[ht] at s0 HTK;rw[if_pos rfl,List.append_nil] at HTK;have s2:(bits BinOp.and IntKind.u64 ((fr:Int)/2^x) 1==0)=false:=s0;have HR2:Hid (wr.ownsRow w2.heap.size 3 1 (.slice qa n qc) (GO++(zp (b.take (i+1)) fr).map fun i:Nat=>(i:Int)+1).length (zn (GO++(zp (b.take (i+1)) fr).map fun i:Nat=>(i:Int)+1))):=by
       show World.ownsRow _ _ _ _ _ _ _;rw[HTK.out,HN.out];exact HROW.out
      clear ht s0 HTK HROW;go_wp2;go_roundw
      case rel=>exact⟨i+1,hlt,by go_num,HR2.out,HBR.out⟩
      case measure=>simp[intOf];omega
     |false =>
      rw[ht] at s0 HTK;rw[if_neg (by simp)] at HTK;have s2:(bits BinOp.and IntKind.u64 ((fr:Int)/2^x) 1==0)=true:=s0;clear ht s0;go_wp2_with (at_builtin;refine wpList_append_own_at _ rfl _ _ 27 rfl w2.heap.size 3 i0 (.int .i64 0) 1 8 Tryz.underlying27 hin hz0 hz1 hz2 rfl (by decide) _ _ _ rfl (HROW.out.alloc _) ⟨wr.heap.size,0,none⟩ 1 1 [.int .i64 ((x:Int)+1)] rfl rfl ?e1 ?e2 ?e3 ?e4 ?e5 ?_)
      case e1=>exact xK _ _ _
      case e2=>exact xx _
      case e3=>unfold maxLen;omega
      case e4=>omega
      case e5=>simp;omega
      intro v8 w8 hown8 hgrow8 _ hloc8;have HR8:Hid (w8.ownsRow w2.heap.size 3 1 v8 (GO++(zp (b.take (i+1)) fr).map fun i:Nat=>(i:Int)+1).length (zn (GO++(zp (b.take (i+1)) fr).map fun i:Nat=>(i:Int)+1))):=by
       show World.ownsRow _ _ _ _ _ _ _;rw[HTK.out,List.map_append,<-List.append_assoc,List.map_cons,List.map_nil,xm,List.length_append,HN.out];exact hown8
      have HB8:Hid (zB w2 w8):=(zL HBR.out).grown hgrow8 (by simp;omega) (fun k hk=>(HROW.out.lt k hk).1);obtain⟨v8a,v8c,rfl,-⟩:=qm hown8;clear hown8 hgrow8 hloc8 HROW HTK;go_wp2;go_roundw
      case rel=>exact⟨i+1,hlt,by go_num,HR8.out,HB8.out⟩
      case measure=>simp[intOf];omega
    ·obtain rfl:i=b.length:=by omega
     rw[List.take_length] at HROW HN;have HB9:Hid (zB w wr):=zT HB2.out hbr;clear hbr;go_wp2;go_ret2;rw[HGO.out,HN.out];exact⟨_,rfl,ZV HROW.out hw2,HB9.out⟩
  ·obtain⟨j,rfl⟩:∃j,m=j+1:=⟨m-1,by omega⟩;have hj:j<a.length:=by omega
   obtain⟨ad,rfl,had,cA⟩:=(HIA.out.below hbr) j (by rw[zz];exact hj);rw[yS a j hj] at cA;have hx24:=HA.out _ (yw a j hj);have hcut:=HC.out;rw[zaa a tt j hj] at hcut;have HX:=zH hcut;have hjw:((j+1:Nat):Int)-1=(j:Int):=by omega
   rw[hjw];have hj0:(0:Int)<=(j:Int):=by omega
   have hj1:(j:Int)<(a.length:Int):=by omega
   have hjw2:IntKind.i64.wrap ((j:Int)-1)=(j:Int)-1:=by rw[IntKind.wrap_i64];omega
   obtain⟨x,hx⟩:∃x,a.getD j 0=x:=⟨_,rfl⟩;rw[hx] at cA hx24 HX;have s0:=JW tt x h2;obtain⟨ab,ao,asp⟩:=ad;clear hcut hx hjw HC had hm0 hbr;cases ht:tt.testBit x with
   |true =>
    rw[ht] at s0 HX;rw[if_pos rfl,List.nil_append] at HX;have s2:(bits BinOp.and IntKind.u64 ((tt:Int)/2^x) 1==0)=false:=s0;have HR2:Hid (wr.ownsRow w2.heap.size 3 1 (.slice oa pre.length oc) (pre.map fun i:Nat=>-((i:Int)+1)).length (zn (pre.map fun i:Nat=>-((i:Int)+1)))):=by
     show World.ownsRow _ _ _ _ _ _ _;rw[List.length_map];exact HROW.out
    clear ht s0 HROW;go_wp2;go_roundw
    case rel=>exact⟨j,pre,by omega,by first|rfl|go_num,HX.out,HR2.out,HBR.out⟩
    case measure=>first|(simp[intOf];done)|(simp[intOf];omega)
   |false =>
    rw[ht] at s0 HX;rw[if_neg (by simp)] at HX;have s2:(bits BinOp.and IntKind.u64 ((tt:Int)/2^x) 1==0)=true:=s0;clear ht s0;go_wp2_with (at_builtin;refine wpList_append_own_at _ rfl _ _ 27 rfl w2.heap.size 3 i0 (.int .i64 0) 1 8 Tryz.underlying27 hin hz0 hz1 hz2 rfl (by decide) _ _ _ rfl (HROW.out.alloc _) ⟨wr.heap.size,0,none⟩ 1 1 [.int .i64 (-((x:Int)+1))] rfl rfl ?f1 ?f2 ?f3 ?f4 ?f5 ?_)
    case f1=>exact xK _ _ _
    case f2=>exact xx _
    case f3=>unfold maxLen;omega
    case f4=>omega
    case f5=>simp;omega
    intro v8 w8 hown8 hgrow8 _ hloc8;have HR8:Hid (w8.ownsRow w2.heap.size 3 1 v8 ((pre++[x]).map fun i:Nat=>-((i:Int)+1)).length (zn ((pre++[x]).map fun i:Nat=>-((i:Int)+1)))):=by
     show World.ownsRow _ _ _ _ _ _ _;rw[List.map_append,List.map_cons,List.map_nil,xm,List.length_append,List.length_map];exact hown8
    have HB8:Hid (zB w2 w8):=(zL HBR.out).grown hgrow8 (by simp;omega) (fun k hk=>(HROW.out.lt k hk).1);obtain⟨v8a,v8c,rfl,-⟩:=qm hown8;clear hown8 hgrow8 hloc8 HROW;go_wp2;go_roundw
    case rel=>exact⟨j,pre++[x],by omega,by first|rfl|go_num,by rw[List.append_assoc];exact HX.out,HR8.out,HB8.out⟩
    case measure=>first|(simp[intOf];done)|(simp[intOf];omega)
theorem zbl(ls:List Ln)(its:List It)(hN:zk ls=.ok its)(fr tt:Nat)(v:Value)(w:World)(h:RLs w v ls)(h1:fr<18446744073709551616)(h2:tt<18446744073709551616) :
  zC 9 #[v,.int .u64 fr,.int .u64 tt] w (Q4 w (chR its ls fr tt)):=by
 have key:∀set l,zl its ls set=.ok l->(∀x∈l,x<24)/\l.length<=24:=fun set l hl=>by
  have hs:set<2^its.length:=by
   have hf:(zm its ls set).1=true:=by
    cases hf:(zm its ls set).1 with
    |true=>rfl
    |false=>unfold zl at hl;rw[if_pos hf] at hl;cases hl
   cases hsb:qh its set with
   |false=>rw[show zm its ls set=(false,-2) by unfold zm;rw[if_pos hsb]] at hf;cases hf
   |true =>unfold qh at hsb;exact of_decide_eq_true (Bool.and_eq_true_iff.1 hsb).1
  have hi:=Z1 hN hs hl;have:=(ya hN).1;exact⟨fun x hx=>by have:=hi.lt x hx;omega,hi.len⟩
 cases ha:zl its ls fr with
 |error k=>exact zhu ls its hN fr tt v w h k ha
 |ok a =>
  cases hb:zl its ls tt with
  |error k=>exact zhD ls its hN fr tt v w h a k ha hb
  |ok b=>exact zg4 ls its hN fr tt v w h h1 h2 a b ha hb (key fr a ha).1 (key tt b hb).1 (key fr a ha).2 (key tt b hb).2
end
section
open Go.RowKit Sv
def Z9(M:Nat)(l:List Nat):Nat:=l.foldl (fun n x=>n^^^2^x) M
theorem Xq:∀(l:List Nat) (M y:Nat),l.Nodup->(Z9 M l).testBit y=(M.testBit y ^^ decide (y∈l))
 |[],M,y,_=>by simp[Z9]
 |x :: l,M,y,h=>by
  obtain⟨h1,h2⟩:=List.nodup_cons.1 h;have ih:=Xq l (M^^^2^x) y h2;show (Z9 (M^^^2^x) l).testBit y=_;rw[ih,Nat.testBit_xor,Nat.testBit_two_pow,Bool.xor_assoc];congr 1
  by_cases e:x=y
  ·subst e;simp[h1]
  ·have e':y≠x:=fun h=>e h.symm;simp[e,e']
theorem zdc{l:List Nat}(hn:l.Nodup){i:Nat}(hi:i<l.length):l.getD i 0∉l.take i:=fun hm=>by
 obtain⟨k,hk,e⟩:=List.getElem_of_mem hm;rw[List.length_take] at hk;rw[List.getElem_take] at e;have e2:l.getD i 0=l[i]:=by rw[List.getD_eq_getElem?_getD,List.getElem?_eq_getElem hi];rfl
 exact(List.pairwise_iff_getElem.1 hn) k i (by omega) hi (by omega) (by rw[e,e2])
def qU(a b:List Nat)(fr tt:Nat):List (Nat × Bool):=(goF a tt).map (fun i=>(i,false))++(zp b fr).map fun i=>(i,true)
structure zb8(n M1 M2:Nat)(st:List (Nat × Bool)):Prop where
 lt:∀p∈st,p.1<n
 comes:∀i,i<st.length->(st.getD i (0,false)).2=!(Z9 M1 ((st.map Prod.fst).take i)).testBit (st.getD i (0,false)).1
 both:∀p∈st,(M1&&&M2).testBit p.1=false
 prev:∀i,i+1<st.length->(st.getD i (0,false)).2=true->(st.getD (i+1) (0,false)).2=true
 fin:Z9 M1 (st.map Prod.fst)=M2
 len:st.length<=48
theorem zgb(a b:List Nat)(fr tt:Nat):(qU a b fr tt).map Prod.fst=goF a tt++zp b fr:=by
 unfold qU;rw[List.map_append,List.map_map,List.map_map];have e1:(Prod.fst ∘ fun i:Nat=>(i,false))=id:=by funext i;rfl
 have e2:(Prod.fst ∘ fun i:Nat=>(i,true))=id:=by funext i;rfl
 rw[e1,e2,List.map_id,List.map_id]
theorem Y5{ls:List Ln}{its:List It}{M1 M2:Nat}{a:List Nat}(h:Qk ls its M1 a)(y:Nat):y∈goF a M2↔M1.testBit y=true/\M2.testBit y=false:=by
 unfold goF;rw[List.mem_filter,List.mem_reverse,h.mem,decide_eq_true_iff];simp
theorem XQ{ls:List Ln}{its:List It}{M1 M2:Nat}{b:List Nat}(h:Qk ls its M2 b)(y:Nat):y∈zp b M1↔M2.testBit y=true/\M1.testBit y=false:=by
 unfold zp;rw[List.mem_filter,h.mem,decide_eq_true_iff];simp
theorem za5{ls:List Ln}{its:List It}{M1 M2:Nat}{a b:List Nat}(ha:Qk ls its M1 a)(hb:Qk ls its M2 b):zb8 its.length M1 M2 (qU a b M1 M2):=by
 have hfst:=zgb a b M1 M2;have hnd:((qU a b M1 M2).map Prod.fst).Nodup:=by
  rw[hfst,List.nodup_append];refine⟨?_,?_,fun x hx y hy e=>?_⟩
  ·unfold goF;exact List.Nodup.sublist List.filter_sublist ((List.reverse_perm a).nodup_iff.2 ha.nodup)
  ·unfold zp;exact List.Nodup.sublist List.filter_sublist hb.nodup
  ·subst e;have h1:=(Y5 ha x).1 hx;have h2:=(XQ hb x).1 hy;rw[h1.1] at h2;cases h2.2
 have hmem:∀p∈qU a b M1 M2,(p.2=false/\M1.testBit p.1=true/\M2.testBit p.1=false/\p.1∈a)\/(p.2=true/\M2.testBit p.1=true/\M1.testBit p.1=false/\p.1∈b):=fun p hp=>by
  rcases List.mem_append.1 hp with hp|hp
  ·obtain⟨i,hi,rfl⟩:=List.mem_map.1 hp;obtain⟨h1,h2⟩:=(Y5 ha i).1 hi;exact Or.inl ⟨rfl,h1,h2,by unfold goF at hi;exact List.mem_reverse.1 (List.mem_filter.1 hi).1⟩
  ·obtain⟨i,hi,rfl⟩:=List.mem_map.1 hp;obtain⟨h1,h2⟩:=(XQ hb i).1 hi;exact Or.inr ⟨rfl,h1,h2,by unfold zp at hi;exact(List.mem_filter.1 hi).1⟩
 have gm:∀i,i<(qU a b M1 M2).length->(qU a b M1 M2).getD i (0,false)∈qU a b M1 M2:=fun i hi=>by
  rw[List.getD_eq_getElem?_getD,List.getElem?_eq_getElem hi];exact List.getElem_mem hi
 refine⟨fun p hp=>?_,fun i hi=>?_,fun p hp=>?_,fun i hi h=>?_,?_,?_⟩
 ·rcases hmem p hp with ⟨_,_,_,h⟩|⟨_,_,_,h⟩
  ·exact ha.lt _ h
  ·exact hb.lt _ h
 ·have hnt:(((qU a b M1 M2).map Prod.fst).take i).Nodup:=List.Nodup.sublist (List.take_sublist _ _) hnd;rw[Xq _ _ _ hnt];have hout:((qU a b M1 M2).getD i (0,false)).1∉((qU a b M1 M2).map Prod.fst).take i:=by
   have:=zdc hnd (i:=i) (by rw[List.length_map];exact hi)
   rwa [show ((qU a b M1 M2).map Prod.fst).getD i 0=((qU a b M1 M2).getD i (0,false)).1 by simp[List.getD_eq_getElem?_getD,hi]] at this
  rw[decide_eq_false hout,Bool.xor_false];rcases hmem _ (gm i hi) with ⟨h1,h2,_,_⟩|⟨h1,_,h2,_⟩
  ·rw[h1,h2];rfl
  ·rw[h1,h2];rfl
 ·rw[Nat.testBit_and];rcases hmem p hp with ⟨_,_,h2,_⟩|⟨_,_,h2,_⟩
  ·rw[h2,Bool.and_false]
  ·rw[h2,Bool.false_and]
 ·unfold qU at h hi ⊢;rw[List.getD_eq_getElem?_getD] at h ⊢;rw[List.length_append,List.length_map,List.length_map] at hi;rcases Nat.lt_or_ge i (goF a M2).length with hlt|hge
  ·rw[List.getElem?_append_left (by rw[List.length_map];exact hlt)] at h;simp[hlt] at h
  ·rw[List.getElem?_append_right (by rw[List.length_map];omega)];rw[List.length_map];simp[show i+1-(goF a M2).length<(zp b M1).length by omega]
 ·apply Nat.eq_of_testBit_eq;intro y;rw[Xq _ _ _ hnd,hfst];have e:decide (y∈goF a M2++zp b M1)=((M1.testBit y&&!M2.testBit y)||(M2.testBit y&&!M1.testBit y)):=by
   rw[Bool.eq_iff_iff,decide_eq_true_iff,List.mem_append,Y5 ha,XQ hb];simp
  rw[e];cases M1.testBit y<;>cases M2.testBit y<;>rfl
 ·unfold qU goF zp;rw[List.length_append,List.length_map,List.length_map];have h1:=List.length_filter_le (fun i=>!M2.testBit i) a.reverse;have h2:=List.length_filter_le (fun i=>!M1.testBit i) b;rw[List.length_reverse] at h1;have:=ha.len;have:=hb.len;omega
theorem zgN{its:List It}{ls:List Ln}{fr tt:Nat}:(∃k1 k2,chR its ls fr tt=.error k1/\chR its ls tt fr=.error k2)\/(∃a b,zl its ls fr=.ok a/\zl its ls tt=.ok b/\chR its ls fr tt=.ok (qU a b fr tt)/\chR its ls tt fr=.ok (qU b a tt fr)):=by
 unfold chR qU;cases zl its ls fr with
 |error k =>
  cases zl its ls tt with
  |error k2=>exact Or.inl ⟨_,_,rfl,rfl⟩
  |ok b=>exact Or.inl ⟨_,_,rfl,rfl⟩
 |ok a =>
  cases zl its ls tt with
  |error k2=>exact Or.inl ⟨_,_,rfl,rfl⟩
  |ok b=>exact Or.inr ⟨a,b,rfl,rfl,rfl,rfl⟩
end
section
open Go.RowKit Go.Deep Sv
theorem YL:∀(l:List (Nat × Bool)) (i:Nat),i<l.length->(yL l)[i*2]?=some (.int .i64 ((l.getD i (0,false)).1:Int))/\(yL l)[i*2+1]?=some (.bool (l.getD i (0,false)).2)
 |[],i,h=>by simp at h
 |x :: l,0,_=>⟨rfl,rfl⟩
 |x :: l,i+1,h=>by
  have ih:=YL l i (by simpa using h);have e:yL (x :: l)=[.int .i64 x.1,.bool x.2]++yL l:=rfl;rw[e,List.getElem?_append_right (by simp;omega),List.getElem?_append_right (by simp;omega)];simp only[List.length_cons,List.length_nil,Nat.zero_add,Nat.reduceAdd];rw[show (i+1)*2-2=i*2 by omega,show (i+1)*2+1-2=i*2+1 by omega];exact ih
end
section
open Sv
theorem zhV(s:ByteArray):∀(f k:Nat),s.size<=k+f->k<=s.size->qu s f k=(zg s ⟨#[10]⟩ f k).filter (fun x=>decide (x.2.size≠0)):=by
 intro f
 induction f with
 |zero =>
  intro k h1 h2;obtain rfl:k=s.size:=by omega
  simp[qu,zg]
 |succ f ih =>
  intro k h1 h2;have hL:(s.extract k s.size).data.toList=s.data.toList.drop k:=JH s k;have hsz:(s.extract k s.size).size=s.size-k:=by simp[ByteArray.size_extract]
  rcases Nat.lt_or_ge k s.size with hk|hk
  ·rw[J9 hk,zg]
   by_cases hi:Lib.index (s.extract k s.size).data.toList [10]<0
   ·have e:cutF (s.extract k s.size) 10=(s.extract k s.size,⟨#[]⟩):=by
     unfold cutF Lib.cut;rw[if_neg (by omega)]
    rw[if_pos hi,e,Ys (by simp only;omega)]
    by_cases h0:(s.extract k s.size).size=0
    ·omega
    ·simp only[if_neg h0,List.append_nil];rw[List.filter_cons,if_pos (decide_eq_true h0),List.filter_nil]
   ·obtain⟨j,hj⟩:∃j:Nat,Lib.index (s.extract k s.size).data.toList [10]=(j:Int):=⟨(Lib.index (s.extract k s.size).data.toList [10]).toNat,by omega⟩;have hroom:=Zp (s.extract k s.size).data.toList [10] (by omega);rw[hj] at hroom;have hlen:(s.extract k s.size).data.toList.length=s.size-k:=by rw[Array.length_toList];exact hsz
    simp only[List.length_cons,List.length_nil,Int.toNat_natCast] at hroom;have e1:(cutF (s.extract k s.size) 10).1=s.extract k (k+j):=by
     unfold cutF Lib.cut;rw[if_pos (by omega)];simp only;rw[hj];refine ZW ?_;simp only[Int.toNat_natCast];rw[hL,Zy,List.take_drop]
    have e2:(s.extract k (k+j)).size=j:=by
     simp only[ByteArray.size_extract];omega
    rw[if_neg hi,e1,e2];simp only;rw[hj];simp only[Int.toNat_natCast];rw[ih (k+j+1) (by omega) (by omega)];show _=List.filter _ (_ :: zg s ⟨#[10]⟩ f (k+j+1));rw[List.filter_cons]
    by_cases hj0:j=0
    ·rw[if_pos hj0,if_neg (by rw[e2];simp[hj0])];rfl
    ·rw[if_neg hj0,if_pos (by rw[e2];simp[hj0])];rfl
  ·obtain rfl:k=s.size:=by omega
   rw[Ys zN];have he:(s.extract s.size s.size).data.toList=[]:=by rw[hL];simp
   rw[zg];show []=List.filter _ (if Lib.index (s.extract s.size s.size).data.toList [10]<0 then _ else _);rw[he];have:Lib.index ([]:List UInt8) [10]<0:=by decide
   rw[if_pos this];simp
end
section
open Go.RowKit Go.Shelf Sv
theorem rline_ver(s:ByteArray)(w:World)(hs:s.size<=100000)(hw:Lb w)(hF:FineR w)(ad:Addr)(cap:Nat)(hK:KindsAt w ad cap)(K:Nat)(hK13:K=1\/K=2\/K=3)(hk:kindF (cutF s 32).1=K)(ke:Int)(hver:versF (cutF (cutF (cutF s 32).2 32).2 32).1=.error ke):zC 31 #[.string s] w (RlRes w (.error (ke,none))):=by
 have hK4:((K:Int)==4)=false:=by rw[beq_eq_false_iff_ne];omega
 have hK0:((K:Int)==0)=false:=by rw[beq_eq_false_iff_ne];omega
 have k0:=(Blk.new w 59 z7).alloc (.cells #[.int .i64 0,.int .i64 0] 45);have k1:=Blk.new (w.alloc (.cells z7 59)) 45 #[.int .i64 0,.int .i64 0];rw[World.size_alloc] at k1;have hB0:zB w ((w.alloc (.cells z7 59)).alloc (.cells #[.int .i64 0,.int .i64 0] 45)):=((Below.refl _ w).alloc zN _).alloc (by simp) _;have HK0:=zH k0;have HK1:=zH k1;have HB0:=zH hB0;have HN1:=zH (fun W=>rnext_any s W hs);have hz2:=(cutF_size s 32).2;have HLW:=zH hw;have HFN:=zH hF;have HKD:=zH hK;obtain⟨w1,hw1⟩:∃w1,(cutF s 32).1=w1:=⟨_,rfl⟩;obtain⟨s2,hs2⟩:∃s2,(cutF s 32).2=s2:=⟨_,rfl⟩;rw[hw1] at hk HN1;rw[hs2] at hz2 HN1;have hz2':s2.size<=100000:=by omega
 have HKX:Hid (∀k,1<=k->k<=4->((⟨(wl k).toArray⟩:ByteArray).toList==w1.toList)=decide (kindF w1=k)):=fun k h1 h4=>kind_lt h1 h4;rw[hk] at HKX;have HN2:=zH (fun W=>rnext_any s2 W hz2');have hz3:=(cutF_size s2 32).2;obtain⟨nm,hnm⟩:∃nm,(cutF s2 32).1=nm:=⟨_,rfl⟩;obtain⟨s3,hs3⟩:∃s3,(cutF s2 32).2=s3:=⟨_,rfl⟩;rw[hnm] at HN2;rw[hs3] at hz3 HN2;have hz3':s3.size<=100000:=by omega
 have HN3:=zH (fun W=>rnext_any s3 W hz3');have hz4:=cutF_size s3 32;obtain⟨vw,hvw⟩:∃vw,(cutF s3 32).1=vw:=⟨_,rfl⟩;obtain⟨s4,hs4⟩:∃s4,(cutF s3 32).2=s4:=⟨_,rfl⟩;rw[hvw,hs4] at hz4 HN3;have hz4':s4.size<=100000:=by omega
 have HVP0:∀W,zB w W->zR 52 #[.string vw] W (rversV (versF vw)):=fun W hb=>rvparse_any splitC vw W (by omega) (hw.below hb);rw[hs2,hs3,hvw] at hver;rw[hver] at HVP0;have hke:=Qt hver;have hke':(ke != 0)=true:=by simpa using hke
 have HVP:Hid (∀W,zB w W->zR 52 #[.string vw] W (.tuple #[.agg #[.int .i64 0,.int .i64 0,.int .i64 0],.int .i64 ke])):=HVP0;clear HVP0 hke hver hz3 hz4 hnm hs3 hvw hs4;clear k0 k1 hB0 hw hF hK hz2 hs;go_enter Tryz.func31,Tryz.ntmps31;go_wp2_with fail;generalize (w.alloc (.cells z7 59)).alloc (.cells #[.int .i64 0,.int .i64 0] 45)=W0 at *;refine(HN1.out _).mono ?_;rintro e wA ⟨rfl,hbA⟩;have hx:=Blk.new wA 59 z7;have hA:zB wA (wA.alloc (.cells z7 59)):=zF.alloc zN _;have hA0:zB W0 (wA.alloc (.cells z7 59)):=zT hbA hA;have hLR:LR w (wA.alloc (.cells z7 59)) wA.heap.size z7:=⟨HK0.out.below hA0 HK0.out.lt,HK1.out.below hA0 HK1.out.lt,hx,Nat.lt_of_lt_of_le HK1.out.lt hbA.size,zT HB0.out hA0⟩;have HLR:=zH hLR;clear hbA hx hA hA0 hLR HN1 HK0 HK1 HB0;go_wp2_with fail;generalize wA.alloc (.cells z7 59)=W1 at *;obtain⟨b,hb⟩:∃b,wA.heap.size=b:=⟨_,rfl⟩;rw[hb] at HLR ⊢;clear hb;go_loopw [7] (fun kV wr=>∃k:Nat,1<=k/\k<=5/\kV=.int .i64 k/\LR w wr b (x7 (kup K k) ⟨#[]⟩ 0 0 0 ⟨#[]⟩ (.slice none 0 0))) (fun kV _=>5-(intOf kV).toNat)
 case atStart=>exact⟨1,by omega,by omega,rfl,by rw[show kup K 1=0 by unfold kup;split<;>omega];exact HLR.out⟩
 case round =>
  clear HLR;obtain⟨k,hk1,hk5,rfl,hLR⟩:=hrel;have HL:=zH hLR;clear hLR
  by_cases hlt:k<=4
  ·have hkd:=HKD.out.below HL.out.B;have g0:=hkd.c;have g1:=hkd.s k (by omega);have hc:=HKX.out k hk1 hlt;have x0:_=some (Value.int .i64 ((kup K k:Nat):Int)):=HL.out.x.cell 0;have xf:=HL.out.x.frozen 0;clear hkd
   by_cases he:K=k
   ·have hst:=HL.out.set 0 (.int .i64 k);have HST:Hid (LR w (wr.setCell ⟨b,0,none⟩ (.int .i64 k)) b (x7 (kup K (k+1)) ⟨#[]⟩ 0 0 0 ⟨#[]⟩ (.slice none 0 0))):=by
     have e:kup K (k+1)=k:=by unfold kup;rw[if_pos (by omega)];exact he
     rw[e];exact hst
    rw[decide_eq_true he] at hc;generalize kup K k=KU at *;generalize (⟨(wl k).toArray⟩:ByteArray)=WK at *;clear hst he;go_wp2;go_roundw
    case rel=>exact⟨k+1,by omega,by omega,by go_num,HST.out⟩
    case measure=>simp[intOf];omega
   ·have HST:Hid (LR w wr b (x7 (kup K (k+1)) ⟨#[]⟩ 0 0 0 ⟨#[]⟩ (.slice none 0 0))):=by
     have e:kup K (k+1)=kup K k:=by
      unfold kup
      by_cases h:K<k
      ·rw[if_pos h,if_pos (by omega)]
      ·rw[if_neg h,if_neg (by omega)]
     rw[e];exact HL.out
    rw[decide_eq_false he] at hc;generalize kup K k=KU at *;generalize (⟨(wl k).toArray⟩:ByteArray)=WK at *;clear he;go_wp2;go_roundw
    case rel=>exact⟨k+1,by omega,by omega,by go_num,HST.out⟩
    case measure=>simp[intOf];omega
  ·obtain rfl:k=5:=by omega
   have hku:kup K 5=K:=by unfold kup;rw[if_pos (by omega)]
   rw[hku] at HL;clear hku;have xc0:_=some (Value.int .i64 K):=HL.out.x.cell 0;go_wp2_with fail;refine(HN2.out _).mono ?_;rintro e wB ⟨rfl,hb⟩;have HLB:=zH (HL.out.step hb);clear hb HN2 HL;have xb0:_=some (Value.int .i64 K):=HLB.out.x.cell 0;have xb1:_=some (Value.string ⟨#[]⟩):=HLB.out.x.cell 1;have xg1:=HLB.out.x.frozen 1;have HL2:Hid (LR w (wB.setCell ⟨b,1,none⟩ (.string nm)) b (x7 K nm 0 0 0 ⟨#[]⟩ (.slice none 0 0))):=HLB.out.set 1 (.string nm);have y0:(wB.setCell ⟨b,1,none⟩ (.string nm)).cell? ⟨b,0,none⟩=some (.int .i64 K):=HL2.out.x.cell 0;clear HLB xc0;go_wp2_with fail;generalize wB.setCell ⟨b,1,none⟩ (.string nm)=W2 at *;clear xb0 xb1 xg1;refine(HN3.out _).mono ?_;rintro e wC ⟨rfl,hb⟩;have HL3:=zH (HL2.out.step hb);have HV3:=zH (HVP.out _ HL3.out.B);clear hb HN3 HL2 y0 HVP;go_wp2_with fail;refine HV3.out.mono ?_;rintro e wD ⟨rfl,hb⟩;have HL4:=zH (HL3.out.step hb);have kv:=Blk.new wD 56 #[.int .i64 0,.int .i64 0,.int .i64 0];have hbv:zB wD (wD.alloc (.cells #[.int .i64 0,.int .i64 0,.int .i64 0] 56)):=zF.alloc zN _;have HL:=zH (HL4.out.step hbv);have HKV:=zH kv;clear hb hbv HL3 HL4 HV3 kv;have HBR:=zH (xN ke (wD.alloc (.cells #[.int .i64 0,.int .i64 0,.int .i64 0] 56)));clear HKV;go_wp2_with fail;generalize wD.alloc (.cells #[.int .i64 0,.int .i64 0,.int .i64 0] 56)=W5 at *;refine HBR.out.mono ?_;rintro e wE ⟨rfl,hbE⟩;have hE:=HL.out.step hbE;have zc0:_=some (Value.int .i64 0):=hE.z.cell 0;have zc1:_=some (Value.string ⟨#[]⟩):=hE.z.cell 1;have zc2:_=some (Value.int .i64 0):=hE.z.cell 2;have zc3:_=some (Value.int .i64 0):=hE.z.cell 3;have zc4:_=some (Value.int .i64 0):=hE.z.cell 4;have zc5:_=some (Value.string ⟨#[]⟩):=hE.z.cell 5;have zc6:_=some (Value.slice none 0 0):=hE.z.cell 6;have zf0:=hE.z.frozen 0;have zf1:=hE.z.frozen 1;have zf2:=hE.z.frozen 2;have zf3:=hE.z.frozen 3;have zf4:=hE.z.frozen 4;have zf5:=hE.z.frozen 5;have zf6:=hE.z.frozen 6;have fc0:_=some (Value.int .i64 0):=hE.f.cell 0;have fc1:_=some (Value.int .i64 0):=hE.f.cell 1;have ff0:=hE.f.frozen 0;have ff1:=hE.f.frozen 1;obtain⟨Z,hZ,qz,qf,qB,-⟩:=hE.done (.int .i64 0) (.string ⟨#[]⟩) (.int .i64 0) (.int .i64 0) (.int .i64 0) (.string ⟨#[]⟩) (.slice none 0 0) (.int .i64 ke) (.int .i64 (-1));have HZ:=zH hZ;have HQZ:=zH qz;have HQF:=zH qf;have HQB:=zH qB;clear hZ qz qf qB hE hbE HBR HL;go_wp2;clear zc0 zc1 zc2 zc3 zc4 zc5 zc6 zf0 zf1 zf2 zf3 zf4 zf5 zf6 fc0 fc1 ff0 ff1;rw[HZ.out];have r0:=HQZ.out.cell 0;have r1:=HQZ.out.cell 1;have r2:=HQZ.out.cell 2;have r3:=HQZ.out.cell 3;have r4:=HQZ.out.cell 4;have r5:=HQZ.out.cell 5;have r6:=HQZ.out.cell 6;have s0:=HQF.out.cell 0;have s1:=HQF.out.cell 1;refine bodyPost_ret (v:=.tuple #[.agg z7,.agg #[.int .i64 ke,.int .i64 (-1)]]) (by simp[results,Tryz.results31,go_sem,r0,r1,r2,r3,r4,r5,r6,s0,s1]) rfl ?_;exact⟨zeroLn,none,0,ke,-1,rfl,nsAt_nil _,rg_nil,fun g hg=>by simp[Value.ownBlock] at hg,HQB.out,rfl,rfl,rfl⟩
end
end Go.Proofs.YtlamemjfaogjmaaGreatDoor
