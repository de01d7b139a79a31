/- Check, Holds, AllHold: by their contracts. -/
import Derived.Test.YtjmfeefogikdfaaGreatDoorAb
import Derived.WalkSpells
import Derived.WalkLawsBesides
import Derived.Deep.DeepCutAuto
import Derived.Deep.Light
import Derived.Lib.QuietBelow
import Derived.Lib.MinMax
import Derived.BigQuiet
import Derived.Deep.RegionHeld3
import Derived.Deep.Slices
set_option maxHeartbeats 2000000
set_option maxRecDepth 100000
namespace Go.Proofs.YtjmfeefogikdfaaGreatDoor
section
theorem Z5(w:World)(v:Value)(t:TypeId):(w.alloc (.cells #[v] t)).cell? ⟨w.heap.size,0,none⟩=some v:=by simp
theorem Xe(w:World)(v:Value)(t:TypeId):(w.alloc (.cells #[v] t)).frozen? ⟨w.heap.size,0,none⟩=false:=by simp
end
section
open Go.RowKit
def ZZ(w:World)(e:Value)(m pl:Int):Prop :=
 (m=0/\pl=-1/\e=.nilIface)\/(m≠0/\pl=-1/\e=.iface 76 (.int .i64 m)) \/
 (m≠0/\∃b,b<w.heap.size/\e=.iface 101 (.pointer (some ⟨b,0,none⟩))/\w.cell? ⟨b,0,none⟩=some (.int .i64 m)/\w.cell? ⟨b,1,none⟩=some (.int .i64 pl))
theorem ZZ.below{w w':World}{e:Value}{m pl:Int}(h:ZZ w e m pl)(hb:zB w w'):ZZ w' e m pl:=by
 rcases h with h|h|⟨h0,b,h1,h2,h3,h4⟩
 ·exact Or.inl h
 ·exact Or.inr (Or.inl h)
 ·exact Or.inr (Or.inr ⟨h0,b,Nat.lt_of_lt_of_le h1 hb.size,h2,(hb.cell (p:=⟨b,0,none⟩) h1).trans h3,(hb.cell (p:=⟨b,1,none⟩) h1).trans h4⟩)
end
section
open Go.RowKit
def I64(x:Int):Prop:=-9223372036854775808<=x/\x<=9223372036854775807
theorem below_new(w:World)(o:Obj):zB w (w.alloc o):=zF.alloc zN _
theorem xP(a:Addr)(i:Nat):(a.add i).block=a.block:=by unfold Addr.add;split<;>rfl
def qJ(w:World)(a:Option Addr)(xs:List Int):Prop :=
 ∀i,i<xs.length->∃ad:Addr,a=some ad/\ad.block<w.heap.size/\w.cell? (ad.add i)=some (.int .i64 (xs.getD i 0))
theorem qJ.below{w w':World}{a:Option Addr}{xs:List Int}(h:qJ w a xs)(hb:zB w w'):qJ w' a xs:=by
 intro i hi;obtain⟨ad,ha,hl,hc⟩:=h i hi;exact⟨ad,ha,Nat.lt_of_lt_of_le hl hb.size,(hb.cell (by rw[xP];exact hl)).trans hc⟩
theorem qJ.nil(w:World)(a:Option Addr):qJ w a []:=fun i hi=>by simp at hi
def qY(w:World)(a:Option Addr)(l:List (List Int)):Prop :=
 ∀i,i<l.length->∃(ad:Addr) (a':Option Addr) (cap:Nat),a=some ad/\ad.block<w.heap.size/\w.cell? (ad.add i)=some (.slice a' (l.getD i []).length cap)/\(l.getD i []).length<=cap/\cap<=9223372036854775807/\qJ w a' (l.getD i [])
theorem qY.below{w w':World}{a:Option Addr}{l:List (List Int)}(h:qY w a l)(hb:zB w w'):qY w' a l:=by
 intro i hi;obtain⟨ad,a',cap,ha,hl,hc,h1,h2,h3⟩:=h i hi;exact⟨ad,a',cap,ha,Nat.lt_of_lt_of_le hl hb.size,(hb.cell (by rw[xP];exact hl)).trans hc,h1,h2,h3.below hb⟩
theorem yR{α:Type}{l:List α}{i:Nat}{d:α}(h:i<l.length):l.getD i d∈l:=by
 rw[List.getD_eq_getElem?_getD,List.getElem?_eq_getElem h];exact List.getElem_mem h
def yU{α:Type}(p:α->Bool)(xs:List α):Int:=match xs.findIdx? p with|some i=>(i:Int)|none=>-1
theorem zbN{α:Type}{p:α->Bool}{xs:List α}{k:Nat}{d:α}(h0:∀j,j<k->p (xs.getD j d)=false)(hk:k<xs.length)(h1:p (xs.getD k d)=true):yU p xs=(k:Int):=by
 have:xs.findIdx? p=some k:=by
  rw[List.findIdx?_eq_some_iff_getElem];refine⟨hk,?_,fun j hj=>?_⟩
  ·rw[List.getD_eq_getElem?_getD,List.getElem?_eq_getElem hk] at h1;exact h1
  ·have:=h0 j hj;rw[List.getD_eq_getElem?_getD,List.getElem?_eq_getElem (by omega)] at this;simpa using this
 simp[yU,this]
theorem zbw{α:Type}{p:α->Bool}{xs:List α}{d:α}(h0:∀j,j<xs.length->p (xs.getD j d)=false):yU p xs=-1:=by
 have:xs.findIdx? p=none:=by
  rw[List.findIdx?_eq_none_iff];intro x hx;obtain⟨j,hj,rfl⟩:=List.getElem_of_mem hx;have:=h0 j hj;rw[List.getD_eq_getElem?_getD,List.getElem?_eq_getElem hj] at this;simpa using this
 simp[yU,this]
theorem zeY{α:Type}(p:α->Bool)(xs:List α):decide (0<=yU p xs)=xs.any p:=by
 rw[Bool.eq_iff_iff];simp only[decide_eq_true_eq];unfold yU;cases h:xs.findIdx? p with
 |none =>
  rw[List.findIdx?_eq_none_iff] at h;simp only[List.any_eq_true];constructor
  ·intro h;omega
  ·rintro⟨x,hx,hp⟩;rw[h x hx] at hp;cases hp
 |some i =>rw[List.findIdx?_eq_some_iff_getElem] at h;obtain⟨hi,hp,-⟩:=h;simp only[List.any_eq_true];exact⟨fun _=>⟨_,List.getElem_mem hi,hp⟩,fun _=>by omega⟩
theorem zcS(F:Nat)(cb:Array Value)(p:Int->Bool)(xs:List Int)(a:Option Addr)(cap:Nat)(w:World)(hm:xs.length<=9223372036854775807)
  (hent:∀args w,(callFunc F args).run Tryz.prog w=.ok (.enter F args) w) (hI:qJ w a xs)
  (hf:∀W i,zB w W->i<xs.length->zR F (#[.int .i64 (xs.getD i 0)]++cb) W (.bool (p (xs.getD i 0)))) :
  zR 93 #[.slice a xs.length cap,.func (.func F) #[] cb] w (.int .i64 (yU p xs)):=by
 have HF:=zH hf;have HI:=zH hI;clear hf hI;go_enter Tryz.func93,Tryz.ntmps93;go_wp2_with fail;go_loopw [8] (fun kV wr=>∃k:Nat,k<=xs.length/\kV=.int .i64 k/\(∀j,j<k->p (xs.getD j 0)=false)/\zB w wr) (fun kV _=>xs.length-(intOf kV).toNat)
 case atStart=>exact⟨0,Nat.zero_le _,rfl,fun j h=>by omega,Below.refl _ _⟩
 case round =>
  obtain⟨k,hk,rfl,h1,hbr⟩:=hrel;have H1:=zH h1;have HBR:=zH hbr;clear h1 hbr
  by_cases hlt:k<xs.length
  ·obtain⟨ad,rfl,hl,hc⟩:=HI.out.below HBR.out k hlt;have HC:=zH (HF.out wr k HBR.out hlt);cases hp:p (xs.getD k 0) with
   |true =>rw[hp] at HC;have HP:=zH hp;clear hp;generalize hx:xs.getD k 0=x at *;have HX:=zH hx;clear hx;go_wp2_with fail;refine HC.out.mono ?_;rintro e w1 ⟨rfl,hb1⟩;have HB1:Hid (zB w w1):=zT HBR.out hb1;clear hb1 HC;go_wp2;go_ret;exact⟨by rw[zbN H1.out hlt (by rw[HX.out];exact HP.out)];rfl,HB1.out⟩
   |false =>
    rw[hp] at HC;have HP:=zH hp;clear hp;generalize hx:xs.getD k 0=x at *;have HX:=zH hx;clear hx;go_wp2_with fail;refine HC.out.mono ?_;rintro e w1 ⟨rfl,hb1⟩;have HB1:Hid (zB w w1):=zT HBR.out hb1;clear hb1 HC;go_wp2;go_roundw
    case rel=>exact ⟨k + 1,hlt,by go_num,fun j hj=>(by
     rcases Nat.lt_succ_iff_lt_or_eq.1 hj with e|e
     ·exact H1.out j e
     ·rw [e,HX.out];exact HP.out),HB1.out⟩
    case measure=>simp[intOf];omega
  ·obtain rfl:k=xs.length:=by omega
   go_wp2;go_ret;exact⟨by rw[zbw H1.out];rfl,HBR.out⟩
theorem J0(F:Nat)(cb:Array Value)(p:Int->Bool)(xs:List Int)(a:Option Addr)(cap:Nat)(w:World)(hm:xs.length<=9223372036854775807)
  (hent:∀args w,(callFunc F args).run Tryz.prog w=.ok (.enter F args) w) (hI:qJ w a xs)
  (hf:∀W i,zB w W->i<xs.length->zR F (#[.int .i64 (xs.getD i 0)]++cb) W (.bool (p (xs.getD i 0)))) :
  zR 59 #[.slice a xs.length cap,.func (.func F) #[] cb] w (.bool (xs.any p)):=by
 have H:=zH (zcS F cb p xs a cap w hm hent hI hf);clear hf hI hent;rw[<-zeY];generalize yU p xs=i at *;go_enter Tryz.func59,Tryz.ntmps59;go_wp2_with fail;refine H.out.mono ?_;rintro e w1 ⟨rfl,hb1⟩;have HB1:=zH hb1;clear hb1 H;go_wp2;go_ret;exact⟨by first|rfl|simp,HB1.out⟩
end
section
open Go.RowKit
def zJ(v x:Int):Bool:=decide (x≠0/\-v<=x/\x<=v)
theorem zmP(x v:Int)(h0:0<=v)(h1:v<=24)(w:World) :
  zC 61 #[.int .i64 x,.int .i64 v] w fun e w'=>e=.returned (.bool (zJ v x))/\w=w':=by
 by_cases hx:x=0
 ·have e:zJ v x=false:=by simp[zJ,hx]
  rw[e];go_enter Tryz.func61,Tryz.ntmps61;go_wp2;go_ret;exact⟨rfl,rfl⟩
 ·by_cases h2:-v<=x
  ·by_cases h3:x<=v
   ·have e:zJ v x=true:=by simp[zJ,hx,h2,h3]
    rw[e];have hx':(x != 0)=true:=by simpa using hx
    go_enter Tryz.func61,Tryz.ntmps61;go_wp2;go_ret;exact⟨rfl,rfl⟩
   ·have e:zJ v x=false:=by simp[zJ,h3]
    rw[e];go_enter Tryz.func61,Tryz.ntmps61;go_wp2;go_ret;exact⟨rfl,rfl⟩
  ·have e:zJ v x=false:=by simp[zJ,h2]
   rw[e];go_enter Tryz.func61,Tryz.ntmps61;go_wp2;go_ret;exact⟨rfl,rfl⟩
end
section
open Go.RowKit
def xu(vals:Nat)(x:Int):Bool:=if 0<x then vals.testBit (x.toNat-1) else !vals.testBit ((-x).toNat-1)
def Y9(vals:Nat)(x:Int):Bool:=zJ 24 x&&xu vals x
def YL(vals:Nat)(c:List Int):Bool:=c.any (Y9 vals)
theorem zgh(vals t:Nat)(hv:vals<18446744073709551616):(bits BinOp.and IntKind.u64 ((vals:Int)/2^t) 1==1)=vals.testBit t:=by
 have e:(vals:Int)/2^t=((vals/2^t:Nat):Int):=by simp
 have hd:vals/2^t<=vals:=Nat.div_le_self _ _;rw[e,Nat.testBit_eq_decide_div_mod_eq];generalize vals/2^t=m at *;rw[and_one_u64 _ (by omega) (by omega),Bool.eq_iff_iff];simp;omega
theorem zks(vals t:Nat)(hv:vals<18446744073709551616):(bits BinOp.and IntKind.u64 ((vals:Int)/2^t) 1==0)=!vals.testBit t:=by
 have e:(vals:Int)/2^t=((vals/2^t:Nat):Int):=by simp
 have hd:vals/2^t<=vals:=Nat.div_le_self _ _;rw[e,Nat.testBit_eq_decide_div_mod_eq];generalize vals/2^t=m at *;rw[and_one_u64 _ (by omega) (by omega),Bool.eq_iff_iff];simp;omega
end
section
open Go.RowKit
def tv(told:List Int)(i:Nat):Int:=if ((i:Int)+1)∈told then 1 else if -((i:Int)+1)∈told then -1 else 0
def qE(told:List Int)(x:Int):Int:=if x∈told then 1 else if -x∈told then -1 else 0
def qV(told:List Int):Prop:=∀x∈told,-x∉told
def zS(v:Int)(xs:List Int):Prop:=∀x∈xs,zJ v x=true
theorem qx{v x:Int}:zJ v x=true↔x≠0/\-v<=x/\x<=v:=by simp[zJ]
theorem zhw(told:List Int)(t:Nat):qE told ((t:Int)+1)=tv told t:=rfl
theorem zgQ{told:List Int}(hc:qV told)(t:Nat):qE told (-((t:Int)+1))=- tv told t:=by
 unfold qE tv;rw[Int.neg_neg]
 by_cases h1:((t:Int)+1)∈told
 ·have h2:=hc _ h1;rw[if_pos h1,if_neg h2,if_pos h1]
 ·by_cases h2:-((t:Int)+1)∈told
  ·rw[if_pos h2,if_neg h1,if_pos h2];rfl
  ·rw[if_neg h2,if_neg h1,if_neg h1,if_neg h2];rfl
theorem znC(told:List Int)(t:Nat):-1<=tv told t/\tv told t<=1:=by
 unfold tv;split
 ·omega
 ·split<;>omega
theorem zkc(told:List Int)(x:Int):qE told x=-1\/qE told x=0\/qE told x=1:=by
 unfold qE;split
 ·omega
 ·split<;>omega
theorem zaf{told:List Int}{x:Int}:qE told x=0↔x∉told/\-x∉told:=by
 unfold qE
 by_cases h1:x∈told
 ·simp[h1]
 ·by_cases h2:-x∈told
  ·simp[h1,h2]
  ·simp[h1,h2]
theorem zan{told:List Int}{x:Int}:0<qE told x↔x∈told:=by
 unfold qE
 by_cases h1:x∈told
 ·simp[h1]
 ·by_cases h2:-x∈told<;>simp[h1,h2]
theorem zcy{told:List Int}(hc:qV told){x:Int}:0<=qE told x↔-x∉told:=by
 unfold qE
 by_cases h1:x∈told
 ·have:=hc x h1;simp[h1,this]
 ·by_cases h2:-x∈told<;>simp[h1,h2]
def Zi(told:List Int)(one x:Int):Bool:=decide (0<qE told x)||(decide (qE told x=0)&&x != one)
def qP(told:List Int)(c:List Int):Int × Bool :=
 if yU (fun x=>decide (0<=qE told x)) c<0 then (0,true)
 else if (c.drop (yU (fun x=>decide (0<=qE told x)) c).toNat).any (Zi told (c.getD (yU (fun x=>decide (0<=qE told x)) c).toNat 0)) then (0,false)
 else (c.getD (yU (fun x=>decide (0<=qE told x)) c).toNat 0,true)
theorem zay{α:Type}(p:α->Bool)(xs:List α)(d:α):(yU p xs=-1/\∀x∈xs,p x=false)\/∃k:Nat,yU p xs=(k:Int)/\k<xs.length/\p (xs.getD k d)=true/\∀x∈xs.take k,p x=false:=by
 unfold yU;cases h:xs.findIdx? p with
 |none=>exact Or.inl ⟨rfl,fun x hx=>by simpa using List.findIdx?_eq_none_iff.1 h x hx⟩
 |some k =>rw[List.findIdx?_eq_some_iff_getElem] at h;obtain⟨hk,hp,hj⟩:=h;refine Or.inr ⟨k,rfl,hk,by rw[List.getD_eq_getElem?_getD,List.getElem?_eq_getElem hk];exact hp,fun x hx=>?_⟩;obtain⟨j,hjk,rfl⟩:=List.getElem_of_mem hx;rw[List.length_take] at hjk;rw[List.getElem_take];simpa using hj j (by omega)
inductive YP (told c:List Int):Int × Bool->Prop
 |none (h:∀x∈c,x∉told/\-x∈told):YP told c (0,true)
 |one {x:Int} (hx:x∈c) (h0:x∉told) (h1:-x∉told) (h:∀y∈c,y≠x->y∉told/\-y∈told):YP told c (x,true)
 |held {x:Int} (hx:x∈c) (h:x∈told):YP told c (0,false)
 |two {x y:Int} (hx:x∈c) (hy:y∈c) (hne:x≠y) (h0:x∉told) (h1:-x∉told) (h2:y∉told) (h3:-y∉told):YP told c (0,false)
theorem zdK{told c:List Int}(hc:qV told):YP told c (qP told c):=by
 unfold qP;have hng:∀x,(decide (0<=qE told x))=false↔-x∈told:=fun x=>by
  rw[decide_eq_false_iff_not,zcy hc,Classical.not_not]
 have hnt:∀x,-x∈told->x∉told:=fun x h h2=>hc x h2 h;rcases zay (fun x=>decide (0<=qE told x)) c 0 with ⟨hi,h⟩|⟨k,hi,hk,hp,hl⟩
 ·rw[hi,if_pos (by omega)];exact .none fun x hx=>⟨hnt x ((hng x).1 (h x hx)),(hng x).1 (h x hx)⟩
 ·rw[hi,if_neg (by omega),Int.toNat_natCast];have hm:c.getD k 0∈c:=yR hk;have hpo:-(c.getD k 0)∉told:=(zcy hc).1 (of_decide_eq_true hp)
  by_cases hany:(c.drop k).any (Zi told (c.getD k 0))=true
  ·rw[if_pos hany];obtain⟨y,hy,hmo⟩:=List.any_eq_true.1 hany;have hyc:=List.mem_of_mem_drop hy;unfold Zi at hmo;rw[Bool.or_eq_true,Bool.and_eq_true] at hmo;rcases hmo with h1|⟨h1,h2⟩
   ·exact .held hyc (zan.1 (of_decide_eq_true h1))
   ·have h3:=zaf.1 (of_decide_eq_true h1)
    by_cases hot:c.getD k 0∈told
    ·exact .held hm hot
    ·exact .two hm hyc (fun e=>by rw[<-e,bne_self_eq_false] at h2;cases h2) hot hpo h3.1 h3.2
  ·rw[if_neg hany];have hany':∀y∈c.drop k,Zi told (c.getD k 0) y=false:=fun y hy=>by
    cases hh:Zi told (c.getD k 0) y with
    |false=>rfl
    |true=>exact absurd (List.any_eq_true.2 ⟨y,hy,hh⟩) hany
   have hot:c.getD k 0∉told:=fun h=>by
    have:=hany' (c.getD k 0) (by
     rw[List.getD_eq_getElem?_getD,List.getElem?_eq_getElem hk];exact List.mem_drop_iff_getElem.2 ⟨0,by omega,by simp⟩)
    unfold Zi at this;rw[Bool.or_eq_false_iff] at this;exact(of_decide_eq_false this.1) (zan.2 h)
   refine .one hm hot hpo fun y hy hne=>?_;rw[<-List.take_append_drop k c,List.mem_append] at hy;rcases hy with hy|hy
   ·have:=(hng y).1 (hl y hy);exact⟨hnt y this,this⟩
   ·have:=hany' y hy;unfold Zi at this;rw[Bool.or_eq_false_iff,Bool.and_eq_false_iff] at this;have h1:=of_decide_eq_false this.1;have h2:qE told y≠0:=by
     rcases this.2 with h|h
     ·exact of_decide_eq_false h
     ·simp at h;exact absurd h hne
    have h3:-y∈told:=by
     by_cases hm:-y∈told
     ·exact hm
     ·exact absurd (zaf.2 ⟨fun h=>h1 (zan.2 h),hm⟩) h2
    exact⟨hnt y h3,h3⟩
def zG(told:List Int)(l:List (List Int)):Int × Int :=
 match l.findIdx? (fun c=>(qP told c).2) with|some i=>((i:Int),(qP told (l.getD i [])).1)|none=>(-1,0)
theorem zfr{told:List Int}{l:List (List Int)}{k:Nat}(h0:∀j,j<k->(qP told (l.getD j [])).2=false)(hk:k<l.length)(h1:(qP told (l.getD k [])).2=true):zG told l=((k:Int),(qP told (l.getD k [])).1):=by
 have:l.findIdx? (fun c=>(qP told c).2)=some k:=by
  rw[List.findIdx?_eq_some_iff_getElem];refine⟨hk,?_,fun j hj=>?_⟩
  ·rw[List.getD_eq_getElem?_getD,List.getElem?_eq_getElem hk] at h1;exact h1
  ·have:=h0 j hj;rw[List.getD_eq_getElem?_getD,List.getElem?_eq_getElem (by omega)] at this;simpa using this
 unfold zG;rw[this]
theorem zng{told:List Int}{l:List (List Int)}(h0:∀j,j<l.length->(qP told (l.getD j [])).2=false):zG told l=(-1,0):=by
 have:l.findIdx? (fun c=>(qP told c).2)=none:=by
  rw[List.findIdx?_eq_none_iff];intro x hx;obtain⟨j,hj,rfl⟩:=List.getElem_of_mem hx;have:=h0 j hj;rw[List.getD_eq_getElem?_getD,List.getElem?_eq_getElem hj] at this;simpa using this
 unfold zG;rw[this]
inductive YI (told:List Int) (l:List (List Int)):Int × Int->Prop
 |none (h:∀c∈l,(∃x∈c,x∈told)\/∃x∈c,∃y∈c,x≠y/\x∉told/\-x∉told/\y∉told/\-y∉told):YI told l (-1,0)
 |bad {k:Nat} (hk:k<l.length) (h:∀x∈l.getD k [],x∉told/\-x∈told):YI told l ((k:Int),0)
 |one {k:Nat} {x:Int} (hk:k<l.length) (hx:x∈l.getD k []) (h0:x∉told) (h1:-x∉told) (h:∀y∈l.getD k [],y≠x->y∉told/\-y∈told):YI told l ((k:Int),x)
theorem Xt{told:List Int}{l:List (List Int)}(hc:qV told):YI told l (zG told l):=by
 unfold zG;cases h:l.findIdx? (fun c=>(qP told c).2) with
 |none =>
  rw[List.findIdx?_eq_none_iff] at h;refine .none fun c hcl=>?_;have h1:=h c hcl;have h2:=zdK (c:=c) hc;generalize qP told c=r at *;cases h2 with
  |none=>simp at h1
  |one=>simp at h1
  |held hx h=>exact Or.inl ⟨_,hx,h⟩
  |two hx hy hne q0 q1 q2 q3=>exact Or.inr ⟨_,hx,_,hy,hne,q0,q1,q2,q3⟩
 |some k =>
  rw[List.findIdx?_eq_some_iff_getElem] at h;obtain⟨hk,hp,-⟩:=h;have e:l.getD k []=l[k]:=by rw[List.getD_eq_getElem?_getD,List.getElem?_eq_getElem hk];rfl
  rw[<-e] at hp;have h2:=zdK (c:=l.getD k []) hc;show YI told l ((k:Int),(qP told (l.getD k [])).1);generalize qP told (l.getD k [])=r at *;cases h2 with
  |none h=>exact .bad hk h
  |one hx h0 h1 h=>exact .one hk hx h0 h1 h
  |held=>simp at hp
  |two=>simp at hp
inductive YC (l:List (List Int)):List Int->List Int->Int->Prop
 |stop {told:List Int} {i:Int} (h:zG told l=(i,0)):YC l told told i
 |step {told t:List Int} {i x b:Int} (h:zG told l=(i,x)) (hx:x≠0) (hs:YC l (told++[x]) t b):YC l told t b
def free(told:List Int):Nat:=(List.range 24).countP (fun i=>tv told i==0)
theorem zgf{p q:Nat->Bool}{l:List Nat}(h:∀x∈l,q x=true->p x=true){j:Nat}(hj:j∈l)(hp:p j=true)(hq:q j=false):l.countP q<l.countP p:=by
 induction l with
 |nil=>cases hj
 |cons a l ih =>
  have hle:l.countP q<=l.countP p:=List.countP_mono_left fun x hx=>h x (List.mem_cons_of_mem _ hx);rw[List.countP_cons,List.countP_cons]
  by_cases e:a=j
  ·subst e;rw[hp,hq];simp;omega
  ·have:=ih (fun x hx=>h x (List.mem_cons_of_mem _ hx)) (by cases hj with|head=>exact absurd rfl e|tail _ h=>exact h);have ha:=h a (List.mem_cons_self);cases hqa:q a with
   |true=>rw[ha hqa];simp;omega
   |false=>cases p a<;>simp<;>omega
theorem JY{told:List Int}{x:Int}(hn:-x∉told)(i:Nat):tv (told++[x]) i=if (i:Int)+1=x then 1 else if (i:Int)+1=-x then -1 else tv told i:=by
 unfold tv;simp only[List.mem_append,List.mem_singleton]
 by_cases h1:(i:Int)+1=x
 ·rw[if_pos (Or.inr h1),if_pos h1]
 ·rw[if_neg h1]
  by_cases h2:(i:Int)+1=-x
  ·have h0:(i:Int)+1∉told:=by rw[h2];exact hn
   rw[if_pos h2,if_neg (by rintro (h|h);exact h0 h;exact h1 h),if_pos (Or.inr (by omega))]
  ·rw[if_neg h2];have h3:¬-((i:Int)+1)=x:=by omega
   have e1:((i:Int)+1∈told\/(i:Int)+1=x)↔(i:Int)+1∈told:=⟨fun h=>h.resolve_right h1,Or.inl⟩;have e2:(-((i:Int)+1)∈told\/-((i:Int)+1)=x)↔-((i:Int)+1)∈told:=⟨fun h=>h.resolve_right h3,Or.inl⟩;simp only[e1,e2]
theorem Qw{told:List Int}{i:Nat}:tv told i=0↔(i:Int)+1∉told/\-((i:Int)+1)∉told:=by
 show qE told ((i:Int)+1)=0↔_;exact zaf
theorem zbF{told:List Int}{x:Int}(hl:zJ 24 x=true)(h0:x∉told)(h1:-x∉told):free (told++[x])<free told:=by
 rw[qx] at hl;have ht:=JY h1;unfold free;refine zgf (j:=(if 0<x then x else -x).toNat-1) (fun i _ hi=>?_) (List.mem_range.2 (by split<;>omega)) ?_ ?_
 ·have hi':tv (told++[x]) i=0:=by simpa using hi
  rw[ht] at hi'
  by_cases e1:(i:Int)+1=x
  ·rw[if_pos e1] at hi';cases hi'
  ·by_cases e2:(i:Int)+1=-x
   ·rw[if_neg e1,if_pos e2] at hi';cases hi'
   ·rw[if_neg e1,if_neg e2] at hi';simpa using hi'
 ·have:tv told ((if 0<x then x else -x).toNat-1)=0:=by
   rw[Qw]
   by_cases hp:0<x
   ·rw[if_pos hp,show ((x.toNat-1:Nat):Int)+1=x by omega];exact⟨h0,h1⟩
   ·rw[if_neg hp,show (((-x).toNat-1:Nat):Int)+1=-x by omega,Int.neg_neg];exact⟨h1,h0⟩
  simpa using this
 ·have:tv (told++[x]) ((if 0<x then x else -x).toNat-1)≠0:=by
   rw[ht]
   by_cases hp:0<x
   ·rw[if_pos hp,if_pos (by omega)];omega
   ·rw[if_neg hp,if_neg (by omega),if_pos (by omega)];omega
  simpa using this
theorem zd9{told:List Int}{x:Int}(hc:qV told)(hx:x≠0)(h1:-x∉told):qV (told++[x]):=by
 intro y hy hn;simp only[List.mem_append,List.mem_singleton] at hy hn;rcases hy with hy|hy
 ·rcases hn with hn|hn
  ·exact hc y hy hn
  ·exact h1 (by rw[show -x=y by omega];exact hy)
 ·rcases hn with hn|hn
  ·rw[hy] at hn;exact h1 hn
  ·omega
theorem zeK{v:Int}{told:List Int}{x:Int}(hc:zS v told)(hx:zJ v x=true):zS v (told++[x]):=by
 intro y hy;simp only[List.mem_append,List.mem_singleton] at hy;rcases hy with hy|hy
 ·exact hc y hy
 ·rw[hy];exact hx
theorem zhu:qV []:=fun x hx=>by cases hx
theorem zgx(v:Int):zS v []:=fun x hx=>by cases hx
def zU(v:Int)(l:List (List Int)):Prop:=∀c∈l,zS v c
theorem Zl{v x:Int}(hv:v<=24)(h:zJ v x=true):zJ 24 x=true:=by
 rw[qx] at *;omega
theorem XR{l:List (List Int)}{v:Int}(hl:zU v l){told:List Int}(hc:qV told)(hs:zS v told){i x:Int}(e:zG told l=(i,x))(hx:x≠0):zJ v x=true/\x∉told/\-x∉told/\qV (told++[x])/\zS v (told++[x]):=by
 have hn:=Xt (l:=l) hc;rw[e] at hn;cases hn with
 |none=>exact absurd rfl hx
 |bad=>exact absurd rfl hx
 |one hk hxc h0 h1 _ =>have hlx:=hl _ (yR hk) _ hxc;exact⟨hlx,h0,h1,zd9 hc hx h1,zeK hs hlx⟩
theorem YC.good{l:List (List Int)}{v:Int}(hl:zU v l){told t:List Int}{b:Int}(h:YC l told t b)(hc:qV told)(hs:zS v told):qV t/\zS v t:=by
 induction h with
 |stop _=>exact⟨hc,hs⟩
 |step e hx _ ih =>obtain⟨_,_,_,h4,h5⟩:=XR hl hc hs e hx;exact ih h4 h5
end
section
open Go.RowKit
inductive Yd (l:List (List Int)):List Int->Prop
 |bad {told c:List Int} (hc:c∈l) (h:∀x∈c,-x∈told):Yd l told
 |unit {told c:List Int} {x:Int} (hc:c∈l) (hx:x∈c) (h:∀y∈c,y≠x->-y∈told) (hr:Yd l (x :: told)):Yd l told
def Zc(l l':List (List Int)):Prop:=∀c∈l,∃c'∈l',∀x,x∈c↔x∈c'
theorem Zc.refl(l:List (List Int)):Zc l l:=fun c hc=>⟨c,hc,fun _=>Iff.rfl⟩
theorem Zc.trans{l m n:List (List Int)}(h:Zc l m)(h2:Zc m n):Zc l n:=fun c hc=>by
 obtain⟨d,hd,e⟩:=h c hc;obtain⟨f,hf,e2⟩:=h2 d hd;exact⟨f,hf,fun x=>(e x).trans (e2 x)⟩
theorem Zc.of_sub{l m:List (List Int)}(h:∀c∈l,c∈m):Zc l m:=fun c hc=>⟨c,h c hc,fun _=>Iff.rfl⟩
theorem Yd.mono{l l':List (List Int)}{told told':List Int}(h:Yd l told)(hs:Zc l l')(ht:∀x∈told,x∈told'):Yd l' told':=by
 induction h generalizing told' with
 |bad hc h =>obtain⟨c',hc',e⟩:=hs _ hc;exact .bad hc' fun x hx=>ht _ (h x ((e x).2 hx))
 |unit hc hx h _ ih =>
  obtain⟨c',hc',e⟩:=hs _ hc;refine .unit hc' ((e _).1 hx) (fun y hy hne=>ht _ (h y ((e y).2 hy) hne)) (ih fun z hz=>?_);rcases List.mem_cons.1 hz with rfl|hz
  ·exact List.mem_cons_self
  ·exact List.mem_cons_of_mem _ (ht z hz)
def XX(l:List (List Int))(t:List Int):Prop:=∀c∈l,(∃x∈c,x∈t)\/∃x∈c,∃y∈c,x≠y/\-x∉t/\-y∉t
def Jc(c:List Int):Prop:=∃x∈c,-x∈c
theorem zkT{l:List (List Int)}{t c:List Int}(h0:∀x∈c,x≠0)(hb:Jc c)(hs:XX l t):XX (l++[c]) t:=fun d hd=>by
 rcases List.mem_append.1 hd with hd|hd
 ·exact hs d hd
 ·rw[List.mem_singleton] at hd;subst hd;obtain⟨x,hx,hn⟩:=hb
  by_cases h1:x∈t
  ·exact Or.inl ⟨x,hx,h1⟩
  ·by_cases h2:-x∈t
   ·exact Or.inl ⟨-x,hn,h2⟩
   ·have:=h0 x hx;exact Or.inr ⟨x,hx,-x,hn,by omega,h2,by rw[Int.neg_neg];exact h1⟩
end
section
open Go.RowKit
def Zb(s:Nat × Nat)(x:Int):Nat × Nat :=
 if 0<x/\x<=24 then (s.1|||2^(x.toNat-1),s.2) else if -24<=x/\x<0 then (s.1,s.2|||2^((-x).toNat-1)) else s
def zk(c:List Int):Nat × Nat:=c.foldl Zb (0,0)
theorem zjH(c:List Int)(x:Int):zk (c++[x])=Zb (zk c) x:=by unfold zk;rw[List.foldl_append];rfl
theorem zdS(m k i:Nat):(m|||2^k).testBit i=(m.testBit i||decide (k=i)):=by
 rw[Nat.testBit_or,Nat.testBit_two_pow]
theorem zdh(c:List Int)(s:Nat × Nat)(i:Nat):((c.foldl Zb s).1.testBit i=(s.1.testBit i||decide (i<24/\(i:Int)+1∈c)))/\((c.foldl Zb s).2.testBit i=(s.2.testBit i||decide (i<24/\-((i:Int)+1)∈c))):=by
 induction c generalizing s with
 |nil=>simp
 |cons x c ih =>
  rw[List.foldl_cons,(ih _).1,(ih _).2];unfold Zb
  by_cases h1:0<x/\x<=24
  ·rw[if_pos h1];have e2:(-((i:Int)+1)∈x :: c)↔-((i:Int)+1)∈c:=by
    rw[List.mem_cons];exact⟨fun h=>h.resolve_left (by omega),Or.inr⟩
   have e1:(i<24/\(i:Int)+1∈x :: c)↔(x.toNat-1=i\/(i<24/\(i:Int)+1∈c)):=by
    rw[List.mem_cons];constructor
    ·rintro⟨h,h2|h2⟩
     ·exact Or.inl (by omega)
     ·exact Or.inr ⟨h,h2⟩
    ·rintro (h|⟨h,h2⟩)
     ·exact⟨by omega,Or.inl (by omega)⟩
     ·exact⟨h,Or.inr h2⟩
   refine⟨?_,by simp only[e2]⟩;show ((s.1|||2^(x.toNat-1)).testBit i||_)=_;rw[zdS,Bool.or_assoc,<-Bool.decide_or];simp only[e1]
  ·rw[if_neg h1]
   by_cases h2:-24<=x/\x<0
   ·rw[if_pos h2];have e2:((i:Int)+1∈x :: c)↔(i:Int)+1∈c:=by
     rw[List.mem_cons];exact⟨fun h=>h.resolve_left (by omega),Or.inr⟩
    have e1:(i<24/\-((i:Int)+1)∈x :: c)↔((-x).toNat-1=i\/(i<24/\-((i:Int)+1)∈c)):=by
     rw[List.mem_cons];constructor
     ·rintro⟨h,h3|h3⟩
      ·exact Or.inl (by omega)
      ·exact Or.inr ⟨h,h3⟩
     ·rintro (h|⟨h,h3⟩)
      ·exact⟨by omega,Or.inl (by omega)⟩
      ·exact⟨h,Or.inr h3⟩
    refine⟨by simp only[e2],?_⟩;show ((s.2|||2^((-x).toNat-1)).testBit i||_)=_;rw[zdS,Bool.or_assoc,<-Bool.decide_or];simp only[e1]
   ·rw[if_neg h2];have e1:(i<24/\(i:Int)+1∈x :: c)↔(i<24/\(i:Int)+1∈c):=by
     rw[List.mem_cons];exact⟨fun⟨h,h3⟩=>⟨h,h3.resolve_left (by omega)⟩,fun⟨h,h3⟩=>⟨h,Or.inr h3⟩⟩
    have e2:(i<24/\-((i:Int)+1)∈x :: c)↔(i<24/\-((i:Int)+1)∈c):=by
     rw[List.mem_cons];exact⟨fun⟨h,h3⟩=>⟨h,h3.resolve_left (by omega)⟩,fun⟨h,h3⟩=>⟨h,Or.inr h3⟩⟩
    simp only[e1,e2,and_self]
theorem Qx(c:List Int)(i:Nat):(zk c).1.testBit i=decide (i<24/\(i:Int)+1∈c):=by
 have:=(zdh c (0,0) i).1;simpa[zk] using this
theorem QI(c:List Int)(i:Nat):(zk c).2.testBit i=decide (i<24/\-((i:Int)+1)∈c):=by
 have:=(zdh c (0,0) i).2;simpa[zk] using this
def Small(s:Nat × Nat):Prop:=s.1<2^24/\s.2<2^24
theorem ze1{m:Nat}(h:∀i,24<=i->m.testBit i=false):m<2^24:=Nat.lt_pow_two_of_testBit m h
theorem zaX(c:List Int):Small (zk c) :=
 ⟨ze1 fun i hi=>by rw[Qx];simp;omega,ze1 fun i hi=>by rw[QI];simp;omega⟩
def qu(s:Nat × Nat):Bool:=decide (s.1&&&s.2≠0)
theorem zej{s:Nat × Nat}:qu s=true↔∃i,s.1.testBit i=true/\s.2.testBit i=true:=by
 unfold qu;rw[decide_eq_true_eq];constructor
 ·intro h;obtain⟨i,hi⟩:=Nat.exists_testBit_of_ne_zero h;rw[Nat.testBit_and,Bool.and_eq_true] at hi;exact⟨i,hi⟩
 ·rintro⟨i,h1,h2⟩ h;have:(s.1&&&s.2).testBit i=true:=by rw[Nat.testBit_and,h1,h2];rfl
  rw[h] at this;simp at this
def yP(s:Nat × Nat)(i:Nat):Option Int:=if s.1.testBit i=true then some ((i:Int)+1) else if s.2.testBit i=true then some (-((i:Int)+1)) else none
def yv(s:Nat × Nat)(k:Nat):List Int:=(List.range k).filterMap (yP s)
def qi(s:Nat × Nat):List Int:=yv s 24
theorem zab(s:Nat × Nat)(k:Nat):yv s (k+1)=yv s k++(yP s k).toList:=by
 unfold yv;rw[List.range_succ,List.filterMap_append];congr 1
theorem JZ(s:Nat × Nat)(k:Nat):(yv s k).length<=k:=by
 unfold yv;refine Nat.le_trans (List.length_filterMap_le _ _) ?_;simp
theorem zgi{s:Nat × Nat}(ha:qu s=false){x:Int}:x∈qi s↔∃i:Nat,i<24/\((x=(i:Int)+1/\s.1.testBit i=true)\/(x=-((i:Int)+1)/\s.2.testBit i=true)):=by
 unfold qi yv;rw[List.mem_filterMap];constructor
 ·rintro⟨i,hi,h⟩;rw[List.mem_range] at hi;unfold yP at h
  by_cases h1:s.1.testBit i=true
  ·rw[if_pos h1] at h;exact⟨i,hi,Or.inl ⟨(Option.some.inj h).symm,h1⟩⟩
  ·rw[if_neg h1] at h
   by_cases h2:s.2.testBit i=true
   ·rw[if_pos h2] at h;exact⟨i,hi,Or.inr ⟨(Option.some.inj h).symm,h2⟩⟩
   ·rw[if_neg h2] at h;cases h
 ·rintro⟨i,hi,⟨e,h1⟩|⟨e,h2⟩⟩
  ·exact⟨i,List.mem_range.2 hi,by unfold yP;rw[if_pos h1,e]⟩
  ·refine⟨i,List.mem_range.2 hi,?_⟩;unfold yP;rw[if_neg,if_pos h2,e];intro h1;have:=zej.2 ⟨i,h1,h2⟩;rw[ha] at this;cases this
theorem zmb{s:Nat × Nat}:zS 24 (qi s):=fun x hx=>by
 unfold qi yv at hx;obtain⟨i,hi,h⟩:=List.mem_filterMap.1 hx;rw[List.mem_range] at hi;rw[qx];unfold yP at h
 by_cases h1:s.1.testBit i=true
 ·rw[if_pos h1] at h;have:=Option.some.inj h;omega
 ·rw[if_neg h1] at h
  by_cases h2:s.2.testBit i=true
  ·rw[if_pos h2] at h;have:=Option.some.inj h;omega
  ·rw[if_neg h2] at h;cases h
theorem zkF{c:List Int}(hl:zS 24 c):qu (zk c)=true↔∃x∈c,-x∈c:=by
 rw[zej];constructor
 ·rintro⟨i,h1,h2⟩;rw[Qx,decide_eq_true_eq] at h1;rw[QI,decide_eq_true_eq] at h2;exact⟨_,h1.2,h2.2⟩
 ·rintro⟨x,hx,hn⟩;have h:=qx.1 (hl x hx)
  by_cases hp:0<x
  ·refine⟨x.toNat-1,?_,?_⟩
   ·rw[Qx,decide_eq_true_eq];exact⟨by omega,by rw[show ((x.toNat-1:Nat):Int)+1=x by omega];exact hx⟩
   ·rw[QI,decide_eq_true_eq];exact⟨by omega,by rw[show ((x.toNat-1:Nat):Int)+1=x by omega];exact hn⟩
  ·refine⟨(-x).toNat-1,?_,?_⟩
   ·rw[Qx,decide_eq_true_eq];exact⟨by omega,by rw[show (((-x).toNat-1:Nat):Int)+1=-x by omega];exact hn⟩
   ·rw[QI,decide_eq_true_eq];exact⟨by omega,by rw[show (((-x).toNat-1:Nat):Int)+1=-x by omega,Int.neg_neg];exact hx⟩
theorem Qe{c:List Int}(hl:zS 24 c)(ha:qu (zk c)=false){x:Int}:x∈qi (zk c)↔x∈c:=by
 rw[zgi ha];constructor
 ·rintro⟨i,hi,⟨e,h⟩|⟨e,h⟩⟩
  ·rw[Qx,decide_eq_true_eq] at h;rw[e];exact h.2
  ·rw[QI,decide_eq_true_eq] at h;rw[e];exact h.2
 ·intro hx;have h:=qx.1 (hl x hx)
  by_cases hp:0<x
  ·refine⟨x.toNat-1,by omega,Or.inl ⟨by omega,?_⟩⟩;rw[Qx,decide_eq_true_eq];exact⟨by omega,by rw[show ((x.toNat-1:Nat):Int)+1=x by omega];exact hx⟩
  ·refine⟨(-x).toNat-1,by omega,Or.inr ⟨by omega,?_⟩⟩;rw[QI,decide_eq_true_eq];exact⟨by omega,by rw[show (((-x).toNat-1:Nat):Int)+1=-x by omega,Int.neg_neg];exact hx⟩
end
section
open Go.RowKit
theorem zmM(x v:Int)(h0:0<=v)(h1:v<=24)(b:Nat)(w:World)(hc:w.cell? ⟨b,0,none⟩=some (.int .i64 v)) :
  zC 60 #[.int .i64 x,.pointer (some ⟨b,0,none⟩)] w fun e w'=>e=.returned (.bool (!zJ v x))/\w=w':=by
 have HL:=zH (zmP x v h0 h1 w);generalize zJ v x=B at *;go_enter Tryz.func60,Tryz.ntmps60;go_wp2_with fail;refine HL.out.mono ?_;rintro e w1 ⟨rfl,rfl⟩;go_wp2;go_ret;exact⟨by first|rfl|simp,rfl⟩
theorem ziR:∀args w,(callFunc 60 args).run Tryz.prog w=.ok (.enter 60 args) w:=by intro args w;kernel_rfl
def xk(v:Int)(c:List Int):Bool:=decide (48<c.length)||c.any (fun x=>!zJ v x)
def Y6(c:List Int):Int:=if 48<c.length then 4 else 2
def qU(v:Int)(l:List (List Int)):Int × Int :=
 if v<0\/24<v then (2,-1) else if 200<l.length then (4,-1) else match l.findIdx? (xk v) with|some i=>(Y6 (l.getD i []),(i:Int))|none=>(0,-1)
theorem zeN{v:Int}{l:List (List Int)}(h0:0<=v)(h1:v<=24)(hl:l.length<=200){k:Nat}(hk:k<l.length)(h2:∀j,j<k->xk v (l.getD j [])=false)(h3:xk v (l.getD k [])=true):qU v l=(Y6 (l.getD k []),(k:Int)):=by
 have:l.findIdx? (xk v)=some k:=by
  rw[List.findIdx?_eq_some_iff_getElem];refine⟨hk,?_,fun j hj=>?_⟩
  ·rw[List.getD_eq_getElem?_getD,List.getElem?_eq_getElem hk] at h3;exact h3
  ·have:=h2 j hj;rw[List.getD_eq_getElem?_getD,List.getElem?_eq_getElem (by omega)] at this;simpa using this
 unfold qU;rw[if_neg (by omega),if_neg (by omega),this]
theorem zcd{v:Int}{l:List (List Int)}(h0:0<=v)(h1:v<=24)(hl:l.length<=200)(h2:∀j,j<l.length->xk v (l.getD j [])=false):qU v l=(0,-1):=by
 have:l.findIdx? (xk v)=none:=by
  rw[List.findIdx?_eq_none_iff];intro x hx;obtain⟨j,hj,rfl⟩:=List.getElem_of_mem hx;have:=h2 j hj;rw[List.getD_eq_getElem?_getD,List.getElem?_eq_getElem hj] at this;simpa using this
 unfold qU;rw[if_neg (by omega),if_neg (by omega),this]
theorem zfd(v:Int)(l:List (List Int))(a:Option Addr)(cap:Nat)(w:World)(hI:qY w a l)(hm:l.length<=9223372036854775807) :
  zC 19 #[.int .i64 v,.slice a l.length cap] w fun e w'=>∃er,e=.returned er/\ZZ w' er (qU v l).1 (qU v l).2/\zB w w':=by
 have hb0:=below_new w (.cells #[.int .i64 v] 3)
 by_cases hv:v<0\/24<v
 ·have e:qU v l=(2,-1):=by unfold qU;rw[if_pos hv]
  rw[e];have fin:zR 19 #[.int .i64 v,.slice a l.length cap] w (.iface 76 (.int .i64 2)):=by
   have HB:=zH hb0;clear hb0 e hI
   by_cases h:v<0
   ·go_enter Tryz.func19,Tryz.ntmps19;go_wp2;go_ret;exact⟨rfl,HB.out⟩
   ·have h2:24<v:=by omega
    clear hv;go_enter Tryz.func19,Tryz.ntmps19;go_wp2;go_ret;exact⟨rfl,HB.out⟩
  exact fin.mono fun e w' ⟨he,hb⟩=>⟨_,he,Or.inr (Or.inl ⟨by omega,rfl,rfl⟩),hb⟩
 have hv0:0<=v:=by omega
 have hv1:v<=24:=by omega
 clear hv
 by_cases hl:200<l.length
 ·have e:qU v l=(4,-1):=by unfold qU;rw[if_neg (by omega),if_pos hl]
  rw[e];have fin:zR 19 #[.int .i64 v,.slice a l.length cap] w (.iface 76 (.int .i64 4)):=by
   have HB:=zH hb0;clear hb0 e hI;go_enter Tryz.func19,Tryz.ntmps19;go_wp2;go_ret;exact⟨rfl,HB.out⟩
  exact fin.mono fun e w' ⟨he,hb⟩=>⟨_,he,Or.inr (Or.inl ⟨by omega,rfl,rfl⟩),hb⟩
 have HI:=zH hI;have HB:=zH hb0;have HV:Hid (∀W,Below (w.heap.size+1) (w.alloc (.cells #[.int .i64 v] 3)) W->W.cell? ⟨w.heap.size,0,none⟩=some (.int .i64 v)):=fun W hW=>(hW.cell (p:=⟨w.heap.size,0,none⟩) (by simp)).trans (by simp);clear hI hb0;go_enter Tryz.func19,Tryz.ntmps19;go_wp2_with fail;go_loopw [20] (fun kV wr=>∃k:Nat,k<=l.length/\kV=.int .i64 k/\(∀j,j<k->xk v (l.getD j [])=false)/\Below (w.heap.size+1) (w.alloc (.cells #[.int .i64 v] 3)) wr) (fun kV _=>l.length-(intOf kV).toNat)
 case atStart=>exact⟨0,Nat.zero_le _,rfl,fun j h=>by omega,Below.refl _ _⟩
 case round =>
  obtain⟨k,hk,rfl,h1,hbr⟩:=hrel;have hbw:zB w wr:=HB.out.trans (hbr.mono (Nat.le_succ _));have hcv:=HV.out _ hbr;have H1:=zH h1;have HBR:=zH hbr;have HBW:=zH hbw;have hws:=hbw.size;have hws1:=hbr.size;rw[World.size_alloc] at hws1;clear h1 hbr hbw
  by_cases hlt:k<l.length
  ·obtain⟨ad,a',cap',rfl,hl',hc,g1,g2,g3⟩:=HI.out.below HBW.out k hlt;have HG:=zH g3;clear g3;generalize hx:l.getD k []=c at *;have HX:=zH hx;clear hx
   by_cases h48:48<c.length
   ·have hres:qU v l=(4,(k:Int)):=by
     rw[zeN hv0 hv1 (by omega) hlt H1.out (by rw[HX.out];simp[xk,h48]),HX.out];simp[Y6,h48]
    have HRES:=zH hres;have hbx:=HBW.out.trans ((below_new wr (.cells #[.int .i64 4,.int .i64 k] 104)).mono hws);have HBX:=zH hbx;clear hres hbx;go_wp2;go_ret;refine⟨_,rfl,?_,HBX.out⟩;rw[HRES.out];exact Or.inr (Or.inr ⟨by show (4:Int)≠0;omega,wr.heap.size,by simp,rfl,by simp,by simp⟩)
   ·have HC:=zH (J0 60 #[.pointer (some ⟨w.heap.size,0,none⟩)] (fun x=>!zJ v x) c a' cap' wr (by omega) ziR HG.out (fun W i hW hi=>(zmM (c.getD i 0) v hv0 hv1 w.heap.size W ((hW.cell (p:=⟨w.heap.size,0,none⟩) (by show w.heap.size<_;omega)).trans hcv)).mono fun e w' ⟨he,hw⟩=>⟨he,hw▸Below.refl _ _⟩));cases hp:c.any (fun x=>!zJ v x) with
    |true =>
     rw[hp] at HC;have hres:qU v l=(2,(k:Int)):=by
      rw[zeN hv0 hv1 (by omega) hlt H1.out (by rw[HX.out];unfold xk;rw[hp];simp),HX.out];simp[Y6,h48]
     have HRES:=zH hres;clear hres hp;go_wp2_with fail;refine HC.out.mono ?_;rintro e w1 ⟨rfl,hb1⟩;have hbw1:=HBW.out.trans (hb1.mono hws);have hbx:=hbw1.trans ((below_new w1 (.cells #[.int .i64 2,.int .i64 k] 104)).mono hbw1.size);have HBX:=zH hbx;clear hbx hbw1 hb1 HC;go_wp2;go_ret;refine⟨_,rfl,?_,HBX.out⟩;rw[HRES.out];exact Or.inr (Or.inr ⟨by show (2:Int)≠0;omega,w1.heap.size,by simp,rfl,by simp,by simp⟩)
    |false =>
     rw[hp] at HC;have HBC:Hid (xk v c=false):=by show xk v c=false;unfold xk;rw[hp];simp;omega
     clear hp;go_wp2_with fail;refine HC.out.mono ?_;rintro e w1 ⟨rfl,hb1⟩;have HB1:Hid (Below (w.heap.size+1) (w.alloc (.cells #[.int .i64 v] 3)) w1):=HBR.out.trans (hb1.mono hws1);clear hb1 HC;go_wp2;go_roundw
     case rel=>exact ⟨k + 1,hlt,by go_num,fun j hj=>(by
      rcases Nat.lt_succ_iff_lt_or_eq.1 hj with e|e
      ·exact H1.out j e
      ·rw [e,HX.out];exact HBC.out),HB1.out⟩
     case measure=>simp[intOf];omega
  ·obtain rfl:k=l.length:=by omega
   have hres:=zcd hv0 hv1 (by omega) H1.out;have HRES:=zH hres;clear hres;go_wp2;go_ret;exact⟨_,rfl,by rw[HRES.out];exact Or.inl ⟨rfl,rfl,rfl⟩,HBW.out⟩
end
end Go.Proofs.YtjmfeefogikdfaaGreatDoor
