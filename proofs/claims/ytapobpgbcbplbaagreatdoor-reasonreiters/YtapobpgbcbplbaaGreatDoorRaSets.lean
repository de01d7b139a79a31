/- reason: without, least. -/
import Derived.Test.YtapobpgbcbplbaaGreatDoorAb
import Derived.WalkSpells
import Derived.WalkLawsBesides
import Derived.Deep.DeepCutAuto
import Derived.Deep.Light
import Derived.Lib.QuietBelow
import Derived.Lib.MinMax
import Derived.BigQuiet
import Derived.Deep.RegionHeld3
import Derived.Deep.Slices
import Derived.RangeFuncBound
import Derived.OneCell
import Derived.Deep.AppendLies
set_option maxHeartbeats 2000000
set_option maxRecDepth 100000
namespace Go.Proofs.YtapobpgbcbplbaaGreatDoor
section
theorem Qr(w:World)(v:Value)(t:TypeId):(w.alloc (.cells #[v] t)).cell? ⟨w.heap.size,0,none⟩=some v:=by simp
theorem KH(w:World)(v:Value)(t:TypeId):(w.alloc (.cells #[v] t)).frozen? ⟨w.heap.size,0,none⟩=false:=by simp
end
section
open Go.RowKit
def ZN(w:World)(e:Value)(m pl:Int):Prop :=
 (m=0/\pl=-1/\e=.nilIface)\/(m≠0/\pl=-1/\e=.iface 64 (.int .i64 m)) \/
 (m≠0/\∃b,b<w.heap.size/\e=.iface 83 (.pointer (some ⟨b,0,none⟩))/\w.cell? ⟨b,0,none⟩=some (.int .i64 m)/\w.cell? ⟨b,1,none⟩=some (.int .i64 pl))
theorem ZN.below{w w':World}{e:Value}{m pl:Int}(h:ZN w e m pl)(hb:zB w w'):ZN w' e m pl:=by
 rcases h with h|h|⟨h0,b,h1,h2,h3,h4⟩
 ·exact Or.inl h
 ·exact Or.inr (Or.inl h)
 ·exact Or.inr (Or.inr ⟨h0,b,Nat.lt_of_lt_of_le h1 hb.size,h2,(hb.cell (p:=⟨b,0,none⟩) h1).trans h3,(hb.cell (p:=⟨b,1,none⟩) h1).trans h4⟩)
end
section
open Go.RowKit
def I64(x:Int):Prop:=-9223372036854775808<=x/\x<=9223372036854775807
theorem zf(w:World)(o:Obj):zB w (w.alloc o):=zF.alloc zN _
theorem xm(a:Addr)(i:Nat):(a.add i).block=a.block:=by unfold Addr.add;split<;>rfl
def qr(w:World)(a:Option Addr)(xs:List Int):Prop :=
 ∀i,i<xs.length->∃ad:Addr,a=some ad/\ad.block<w.heap.size/\w.cell? (ad.add i)=some (.int .i64 (xs.getD i 0))
theorem qr.below{w w':World}{a:Option Addr}{xs:List Int}(h:qr w a xs)(hb:zB w w'):qr w' a xs:=by
 intro i hi;obtain⟨ad,ha,hl,hc⟩:=h i hi;exact⟨ad,ha,Nat.lt_of_lt_of_le hl hb.size,(hb.cell (by rw[xm];exact hl)).trans hc⟩
theorem qr.nil(w:World)(a:Option Addr):qr w a []:=fun i hi=>by simp at hi
def yK(w:World)(a:Option Addr)(l:List (List Int)):Prop :=
 ∀i,i<l.length->∃(ad:Addr) (a':Option Addr) (cap:Nat),a=some ad/\ad.block<w.heap.size/\w.cell? (ad.add i)=some (.slice a' (l.getD i []).length cap)/\(l.getD i []).length<=cap/\cap<=9223372036854775807/\qr w a' (l.getD i [])
theorem yK.below{w w':World}{a:Option Addr}{l:List (List Int)}(h:yK w a l)(hb:zB w w'):yK w' a l:=by
 intro i hi;obtain⟨ad,a',cap,ha,hl,hc,h1,h2,h3⟩:=h i hi;exact⟨ad,a',cap,ha,Nat.lt_of_lt_of_le hl hb.size,(hb.cell (by rw[xm];exact hl)).trans hc,h1,h2,h3.below hb⟩
theorem xL{α:Type}{l:List α}{i:Nat}{d:α}(h:i<l.length):l.getD i d∈l:=by
 rw[List.getD_eq_getElem?_getD,List.getElem?_eq_getElem h];exact List.getElem_mem h
def yZ{α:Type}(p:α->Bool)(xs:List α):Int:=match xs.findIdx? p with|some i=>(i:Int)|none=>-1
theorem zgO{α:Type}{p:α->Bool}{xs:List α}{k:Nat}{d:α}(h0:∀j,j<k->p (xs.getD j d)=false)(hk:k<xs.length)(h1:p (xs.getD k d)=true):yZ p xs=(k:Int):=by
 have:xs.findIdx? p=some k:=by
  rw[List.findIdx?_eq_some_iff_getElem];refine⟨hk,?_,fun j hj=>?_⟩
  ·rw[List.getD_eq_getElem?_getD,List.getElem?_eq_getElem hk] at h1;exact h1
  ·have:=h0 j hj;rw[List.getD_eq_getElem?_getD,List.getElem?_eq_getElem (by omega)] at this;simpa using this
 simp[yZ,this]
theorem zlz{α:Type}{p:α->Bool}{xs:List α}{d:α}(h0:∀j,j<xs.length->p (xs.getD j d)=false):yZ p xs=-1:=by
 have:xs.findIdx? p=none:=by
  rw[List.findIdx?_eq_none_iff];intro x hx;obtain⟨j,hj,rfl⟩:=List.getElem_of_mem hx;have:=h0 j hj;rw[List.getD_eq_getElem?_getD,List.getElem?_eq_getElem hj] at this;simpa using this
 simp[yZ,this]
theorem zgf{α:Type}(p:α->Bool)(xs:List α):decide (0<=yZ p xs)=xs.any p:=by
 rw[Bool.eq_iff_iff];simp only[decide_eq_true_eq];unfold yZ;cases h:xs.findIdx? p with
 |none =>
  rw[List.findIdx?_eq_none_iff] at h;simp only[List.any_eq_true];constructor
  ·intro h;omega
  ·rintro⟨x,hx,hp⟩;rw[h x hx] at hp;cases hp
 |some i =>rw[List.findIdx?_eq_some_iff_getElem] at h;obtain⟨hi,hp,-⟩:=h;simp only[List.any_eq_true];exact⟨fun _=>⟨_,List.getElem_mem hi,hp⟩,fun _=>by omega⟩
theorem zbJ(F:Nat)(cb:Array Value)(p:Int->Bool)(xs:List Int)(a:Option Addr)(cap:Nat)(w:World)(hm:xs.length<=9223372036854775807)
  (hent:∀args w,(callFunc F args).run Tryz.prog w=.ok (.enter F args) w) (hI:qr w a xs)
  (hf:∀W i,zB w W->i<xs.length->zR F (#[.int .i64 (xs.getD i 0)]++cb) W (.bool (p (xs.getD i 0)))) :
  zR 192 #[.slice a xs.length cap,.func (.func F) #[] cb] w (.int .i64 (yZ p xs)):=by
 have HF:=zH hf;have HI:=zH hI;clear hf hI;go_enter Tryz.func192,Tryz.ntmps192;go_wp2_with fail;go_loopw [8] (fun kV wr=>∃k:Nat,k<=xs.length/\kV=.int .i64 k/\(∀j,j<k->p (xs.getD j 0)=false)/\zB w wr) (fun kV _=>xs.length-(intOf kV).toNat)
 case atStart=>exact⟨0,Nat.zero_le _,rfl,fun j h=>by omega,Below.refl _ _⟩
 case round =>
  obtain⟨k,hk,rfl,h1,hbr⟩:=hrel;have H1:=zH h1;have HBR:=zH hbr;clear h1 hbr
  by_cases hlt:k<xs.length
  ·obtain⟨ad,rfl,hl,hc⟩:=HI.out.below HBR.out k hlt;have HC:=zH (HF.out wr k HBR.out hlt);cases hp:p (xs.getD k 0) with
   |true =>rw[hp] at HC;have HP:=zH hp;clear hp;generalize hx:xs.getD k 0=x at *;have HX:=zH hx;clear hx;go_wp2_with fail;refine HC.out.mono ?_;rintro e w1 ⟨rfl,hb1⟩;have HB1:Hid (zB w w1):=zT HBR.out hb1;clear hb1 HC;go_wp2;go_ret;exact⟨by rw[zgO H1.out hlt (by rw[HX.out];exact HP.out)];rfl,HB1.out⟩
   |false =>
    rw[hp] at HC;have HP:=zH hp;clear hp;generalize hx:xs.getD k 0=x at *;have HX:=zH hx;clear hx;go_wp2_with fail;refine HC.out.mono ?_;rintro e w1 ⟨rfl,hb1⟩;have HB1:Hid (zB w w1):=zT HBR.out hb1;clear hb1 HC;go_wp2;go_roundw
    case rel=>exact ⟨k + 1,hlt,by go_num,fun j hj=>(by
     rcases Nat.lt_succ_iff_lt_or_eq.1 hj with e|e
     ·exact H1.out j e
     ·rw [e,HX.out];exact HP.out),HB1.out⟩
    case measure=>simp[intOf];omega
  ·obtain rfl:k=xs.length:=by omega
   go_wp2;go_ret;exact⟨by rw[zlz H1.out];rfl,HBR.out⟩
theorem zbz(F:Nat)(cb:Array Value)(p:Int->Bool)(xs:List Int)(a:Option Addr)(cap:Nat)(w:World)(hm:xs.length<=9223372036854775807)
  (hent:∀args w,(callFunc F args).run Tryz.prog w=.ok (.enter F args) w) (hI:qr w a xs)
  (hf:∀W i,zB w W->i<xs.length->zR F (#[.int .i64 (xs.getD i 0)]++cb) W (.bool (p (xs.getD i 0)))) :
  zR 158 #[.slice a xs.length cap,.func (.func F) #[] cb] w (.bool (xs.any p)):=by
 have H:=zH (zbJ F cb p xs a cap w hm hent hI hf);clear hf hI hent;rw[<-zgf];generalize yZ p xs=i at *;go_enter Tryz.func158,Tryz.ntmps158;go_wp2_with fail;refine H.out.mono ?_;rintro e w1 ⟨rfl,hb1⟩;have HB1:=zH hb1;clear hb1 H;go_wp2;go_ret;exact⟨by first|rfl|simp,HB1.out⟩
end
section
open Go.RowKit
def qi(v x:Int):Bool:=decide (x≠0/\-v<=x/\x<=v)
theorem zfw(x v:Int)(h0:0<=v)(h1:v<=24)(w:World) :
  zC 160 #[.int .i64 x,.int .i64 v] w fun e w'=>e=.returned (.bool (qi v x))/\w=w':=by
 by_cases hx:x=0
 ·have e:qi v x=false:=by simp[qi,hx]
  rw[e];go_enter Tryz.func160,Tryz.ntmps160;go_wp2;go_ret;exact⟨rfl,rfl⟩
 ·by_cases h2:-v<=x
  ·by_cases h3:x<=v
   ·have e:qi v x=true:=by simp[qi,hx,h2,h3]
    rw[e];have hx':(x != 0)=true:=by simpa using hx
    go_enter Tryz.func160,Tryz.ntmps160;go_wp2;go_ret;exact⟨rfl,rfl⟩
   ·have e:qi v x=false:=by simp[qi,h3]
    rw[e];go_enter Tryz.func160,Tryz.ntmps160;go_wp2;go_ret;exact⟨rfl,rfl⟩
  ·have e:qi v x=false:=by simp[qi,h2]
   rw[e];go_enter Tryz.func160,Tryz.ntmps160;go_wp2;go_ret;exact⟨rfl,rfl⟩
end
section
open Go.RowKit
def xh(vals:Nat)(x:Int):Bool:=if 0<x then vals.testBit (x.toNat-1) else !vals.testBit ((-x).toNat-1)
theorem zbk(vals t:Nat)(hv:vals<18446744073709551616):(bits BinOp.and IntKind.u64 ((vals:Int)/2^t) 1==1)=vals.testBit t:=by
 have e:(vals:Int)/2^t=((vals/2^t:Nat):Int):=by simp
 have hd:vals/2^t<=vals:=Nat.div_le_self _ _;rw[e,Nat.testBit_eq_decide_div_mod_eq];generalize vals/2^t=m at *;rw[and_one_u64 _ (by omega) (by omega),Bool.eq_iff_iff];simp;omega
end
section
open Go.RowKit
def tv(told:List Int)(i:Nat):Int:=if ((i:Int)+1)∈told then 1 else if -((i:Int)+1)∈told then -1 else 0
def qt(told:List Int)(x:Int):Int:=if x∈told then 1 else if -x∈told then -1 else 0
def qN(told:List Int):Prop:=∀x∈told,-x∉told
def yP(v:Int)(xs:List Int):Prop:=∀x∈xs,qi v x=true
theorem q7{v x:Int}:qi v x=true↔x≠0/\-v<=x/\x<=v:=by simp[qi]
theorem zlg(told:List Int)(t:Nat):qt told ((t:Int)+1)=tv told t:=rfl
theorem zkX{told:List Int}(hc:qN told)(t:Nat):qt told (-((t:Int)+1))=- tv told t:=by
 unfold qt tv;rw[Int.neg_neg]
 by_cases h1:((t:Int)+1)∈told
 ·have h2:=hc _ h1;rw[if_pos h1,if_neg h2,if_pos h1]
 ·by_cases h2:-((t:Int)+1)∈told
  ·rw[if_pos h2,if_neg h1,if_pos h2];rfl
  ·rw[if_neg h2,if_neg h1,if_neg h1,if_neg h2];rfl
theorem zkb(told:List Int)(t:Nat):-1<=tv told t/\tv told t<=1:=by
 unfold tv;split
 ·omega
 ·split<;>omega
theorem zkP(told:List Int)(x:Int):qt told x=-1\/qt told x=0\/qt told x=1:=by
 unfold qt;split
 ·omega
 ·split<;>omega
theorem Jy{told:List Int}{x:Int}:qt told x=0↔x∉told/\-x∉told:=by
 unfold qt
 by_cases h1:x∈told
 ·simp[h1]
 ·by_cases h2:-x∈told
  ·simp[h1,h2]
  ·simp[h1,h2]
theorem JY{told:List Int}{x:Int}:0<qt told x↔x∈told:=by
 unfold qt
 by_cases h1:x∈told
 ·simp[h1]
 ·by_cases h2:-x∈told<;>simp[h1,h2]
theorem zbd{told:List Int}(hc:qN told){x:Int}:0<=qt told x↔-x∉told:=by
 unfold qt
 by_cases h1:x∈told
 ·have:=hc x h1;simp[h1,this]
 ·by_cases h2:-x∈told<;>simp[h1,h2]
def xO(told:List Int)(one x:Int):Bool:=decide (0<qt told x)||(decide (qt told x=0)&&x != one)
def qD(told:List Int)(c:List Int):Int × Bool :=
 if yZ (fun x=>decide (0<=qt told x)) c<0 then (0,true)
 else if (c.drop (yZ (fun x=>decide (0<=qt told x)) c).toNat).any (xO told (c.getD (yZ (fun x=>decide (0<=qt told x)) c).toNat 0)) then (0,false)
 else (c.getD (yZ (fun x=>decide (0<=qt told x)) c).toNat 0,true)
theorem KN{α:Type}(p:α->Bool)(xs:List α)(d:α):(yZ p xs=-1/\∀x∈xs,p x=false)\/∃k:Nat,yZ p xs=(k:Int)/\k<xs.length/\p (xs.getD k d)=true/\∀x∈xs.take k,p x=false:=by
 unfold yZ;cases h:xs.findIdx? p with
 |none=>exact Or.inl ⟨rfl,fun x hx=>by simpa using List.findIdx?_eq_none_iff.1 h x hx⟩
 |some k =>rw[List.findIdx?_eq_some_iff_getElem] at h;obtain⟨hk,hp,hj⟩:=h;refine Or.inr ⟨k,rfl,hk,by rw[List.getD_eq_getElem?_getD,List.getElem?_eq_getElem hk];exact hp,fun x hx=>?_⟩;obtain⟨j,hjk,rfl⟩:=List.getElem_of_mem hx;rw[List.length_take] at hjk;rw[List.getElem_take];simpa using hj j (by omega)
inductive Yk (told c:List Int):Int × Bool->Prop
 |none (h:∀x∈c,x∉told/\-x∈told):Yk told c (0,true)
 |one {x:Int} (hx:x∈c) (h0:x∉told) (h1:-x∉told) (h:∀y∈c,y≠x->y∉told/\-y∈told):Yk told c (x,true)
 |held {x:Int} (hx:x∈c) (h:x∈told):Yk told c (0,false)
 |two {x y:Int} (hx:x∈c) (hy:y∈c) (hne:x≠y) (h0:x∉told) (h1:-x∉told) (h2:y∉told) (h3:-y∉told):Yk told c (0,false)
theorem zck{told c:List Int}(hc:qN told):Yk told c (qD told c):=by
 unfold qD;have hng:∀x,(decide (0<=qt told x))=false↔-x∈told:=fun x=>by
  rw[decide_eq_false_iff_not,zbd hc,Classical.not_not]
 have hnt:∀x,-x∈told->x∉told:=fun x h h2=>hc x h2 h;rcases KN (fun x=>decide (0<=qt told x)) c 0 with ⟨hi,h⟩|⟨k,hi,hk,hp,hl⟩
 ·rw[hi,if_pos (by omega)];exact .none fun x hx=>⟨hnt x ((hng x).1 (h x hx)),(hng x).1 (h x hx)⟩
 ·rw[hi,if_neg (by omega),Int.toNat_natCast];have hm:c.getD k 0∈c:=xL hk;have hpo:-(c.getD k 0)∉told:=(zbd hc).1 (of_decide_eq_true hp)
  by_cases hany:(c.drop k).any (xO told (c.getD k 0))=true
  ·rw[if_pos hany];obtain⟨y,hy,hmo⟩:=List.any_eq_true.1 hany;have hyc:=List.mem_of_mem_drop hy;unfold xO at hmo;rw[Bool.or_eq_true,Bool.and_eq_true] at hmo;rcases hmo with h1|⟨h1,h2⟩
   ·exact .held hyc (JY.1 (of_decide_eq_true h1))
   ·have h3:=Jy.1 (of_decide_eq_true h1)
    by_cases hot:c.getD k 0∈told
    ·exact .held hm hot
    ·exact .two hm hyc (fun e=>by rw[<-e,bne_self_eq_false] at h2;cases h2) hot hpo h3.1 h3.2
  ·rw[if_neg hany];have hany':∀y∈c.drop k,xO told (c.getD k 0) y=false:=fun y hy=>by
    cases hh:xO told (c.getD k 0) y with
    |false=>rfl
    |true=>exact absurd (List.any_eq_true.2 ⟨y,hy,hh⟩) hany
   have hot:c.getD k 0∉told:=fun h=>by
    have:=hany' (c.getD k 0) (by
     rw[List.getD_eq_getElem?_getD,List.getElem?_eq_getElem hk];exact List.mem_drop_iff_getElem.2 ⟨0,by omega,by simp⟩)
    unfold xO at this;rw[Bool.or_eq_false_iff] at this;exact(of_decide_eq_false this.1) (JY.2 h)
   refine .one hm hot hpo fun y hy hne=>?_;rw[<-List.take_append_drop k c,List.mem_append] at hy;rcases hy with hy|hy
   ·have:=(hng y).1 (hl y hy);exact⟨hnt y this,this⟩
   ·have:=hany' y hy;unfold xO at this;rw[Bool.or_eq_false_iff,Bool.and_eq_false_iff] at this;have h1:=of_decide_eq_false this.1;have h2:qt told y≠0:=by
     rcases this.2 with h|h
     ·exact of_decide_eq_false h
     ·simp at h;exact absurd h hne
    have h3:-y∈told:=by
     by_cases hm:-y∈told
     ·exact hm
     ·exact absurd (Jy.2 ⟨fun h=>h1 (JY.2 h),hm⟩) h2
    exact⟨hnt y h3,h3⟩
def zO(told:List Int)(l:List (List Int)):Int × Int :=
 match l.findIdx? (fun c=>(qD told c).2) with|some i=>((i:Int),(qD told (l.getD i [])).1)|none=>(-1,0)
theorem zfO{told:List Int}{l:List (List Int)}{k:Nat}(h0:∀j,j<k->(qD told (l.getD j [])).2=false)(hk:k<l.length)(h1:(qD told (l.getD k [])).2=true):zO told l=((k:Int),(qD told (l.getD k [])).1):=by
 have:l.findIdx? (fun c=>(qD told c).2)=some k:=by
  rw[List.findIdx?_eq_some_iff_getElem];refine⟨hk,?_,fun j hj=>?_⟩
  ·rw[List.getD_eq_getElem?_getD,List.getElem?_eq_getElem hk] at h1;exact h1
  ·have:=h0 j hj;rw[List.getD_eq_getElem?_getD,List.getElem?_eq_getElem (by omega)] at this;simpa using this
 unfold zO;rw[this]
theorem zfX{told:List Int}{l:List (List Int)}(h0:∀j,j<l.length->(qD told (l.getD j [])).2=false):zO told l=(-1,0):=by
 have:l.findIdx? (fun c=>(qD told c).2)=none:=by
  rw[List.findIdx?_eq_none_iff];intro x hx;obtain⟨j,hj,rfl⟩:=List.getElem_of_mem hx;have:=h0 j hj;rw[List.getD_eq_getElem?_getD,List.getElem?_eq_getElem hj] at this;simpa using this
 unfold zO;rw[this]
inductive YD (told:List Int) (l:List (List Int)):Int × Int->Prop
 |none (h:∀c∈l,(∃x∈c,x∈told)\/∃x∈c,∃y∈c,x≠y/\x∉told/\-x∉told/\y∉told/\-y∉told):YD told l (-1,0)
 |bad {k:Nat} (hk:k<l.length) (h:∀x∈l.getD k [],x∉told/\-x∈told):YD told l ((k:Int),0)
 |one {k:Nat} {x:Int} (hk:k<l.length) (hx:x∈l.getD k []) (h0:x∉told) (h1:-x∉told) (h:∀y∈l.getD k [],y≠x->y∉told/\-y∈told):YD told l ((k:Int),x)
theorem Xj{told:List Int}{l:List (List Int)}(hc:qN told):YD told l (zO told l):=by
 unfold zO;cases h:l.findIdx? (fun c=>(qD told c).2) with
 |none =>
  rw[List.findIdx?_eq_none_iff] at h;refine .none fun c hcl=>?_;have h1:=h c hcl;have h2:=zck (c:=c) hc;generalize qD told c=r at *;cases h2 with
  |none=>simp at h1
  |one=>simp at h1
  |held hx h=>exact Or.inl ⟨_,hx,h⟩
  |two hx hy hne q0 q1 q2 q3=>exact Or.inr ⟨_,hx,_,hy,hne,q0,q1,q2,q3⟩
 |some k =>
  rw[List.findIdx?_eq_some_iff_getElem] at h;obtain⟨hk,hp,-⟩:=h;have e:l.getD k []=l[k]:=by rw[List.getD_eq_getElem?_getD,List.getElem?_eq_getElem hk];rfl
  rw[<-e] at hp;have h2:=zck (c:=l.getD k []) hc;show YD told l ((k:Int),(qD told (l.getD k [])).1);generalize qD told (l.getD k [])=r at *;cases h2 with
  |none h=>exact .bad hk h
  |one hx h0 h1 h=>exact .one hk hx h0 h1 h
  |held=>simp at hp
  |two=>simp at hp
inductive Yh (l:List (List Int)):List Int->List Int->Int->Prop
 |stop {told:List Int} {i:Int} (h:zO told l=(i,0)):Yh l told told i
 |step {told t:List Int} {i x b:Int} (h:zO told l=(i,x)) (hx:x≠0) (hs:Yh l (told++[x]) t b):Yh l told t b
def free(told:List Int):Nat:=(List.range 24).countP (fun i=>tv told i==0)
theorem ziD{p q:Nat->Bool}{l:List Nat}(h:∀x∈l,q x=true->p x=true){j:Nat}(hj:j∈l)(hp:p j=true)(hq:q j=false):l.countP q<l.countP p:=by
 induction l with
 |nil=>cases hj
 |cons a l ih =>
  have hle:l.countP q<=l.countP p:=List.countP_mono_left fun x hx=>h x (List.mem_cons_of_mem _ hx);rw[List.countP_cons,List.countP_cons]
  by_cases e:a=j
  ·subst e;rw[hp,hq];simp;omega
  ·have:=ih (fun x hx=>h x (List.mem_cons_of_mem _ hx)) (by cases hj with|head=>exact absurd rfl e|tail _ h=>exact h);have ha:=h a (List.mem_cons_self);cases hqa:q a with
   |true=>rw[ha hqa];simp;omega
   |false=>cases p a<;>simp<;>omega
theorem zaJ{told:List Int}{x:Int}(hn:-x∉told)(i:Nat):tv (told++[x]) i=if (i:Int)+1=x then 1 else if (i:Int)+1=-x then -1 else tv told i:=by
 unfold tv;simp only[List.mem_append,List.mem_singleton]
 by_cases h1:(i:Int)+1=x
 ·rw[if_pos (Or.inr h1),if_pos h1]
 ·rw[if_neg h1]
  by_cases h2:(i:Int)+1=-x
  ·have h0:(i:Int)+1∉told:=by rw[h2];exact hn
   rw[if_pos h2,if_neg (by rintro (h|h);exact h0 h;exact h1 h),if_pos (Or.inr (by omega))]
  ·rw[if_neg h2];have h3:¬-((i:Int)+1)=x:=by omega
   have e1:((i:Int)+1∈told\/(i:Int)+1=x)↔(i:Int)+1∈told:=⟨fun h=>h.resolve_right h1,Or.inl⟩;have e2:(-((i:Int)+1)∈told\/-((i:Int)+1)=x)↔-((i:Int)+1)∈told:=⟨fun h=>h.resolve_right h3,Or.inl⟩;simp only[e1,e2]
theorem Z9{told:List Int}{i:Nat}:tv told i=0↔(i:Int)+1∉told/\-((i:Int)+1)∉told:=by
 show qt told ((i:Int)+1)=0↔_;exact Jy
theorem zdU{told:List Int}{x:Int}(hl:qi 24 x=true)(h0:x∉told)(h1:-x∉told):free (told++[x])<free told:=by
 rw[q7] at hl;have ht:=zaJ h1;unfold free;refine ziD (j:=(if 0<x then x else -x).toNat-1) (fun i _ hi=>?_) (List.mem_range.2 (by split<;>omega)) ?_ ?_
 ·have hi':tv (told++[x]) i=0:=by simpa using hi
  rw[ht] at hi'
  by_cases e1:(i:Int)+1=x
  ·rw[if_pos e1] at hi';cases hi'
  ·by_cases e2:(i:Int)+1=-x
   ·rw[if_neg e1,if_pos e2] at hi';cases hi'
   ·rw[if_neg e1,if_neg e2] at hi';simpa using hi'
 ·have:tv told ((if 0<x then x else -x).toNat-1)=0:=by
   rw[Z9]
   by_cases hp:0<x
   ·rw[if_pos hp,show ((x.toNat-1:Nat):Int)+1=x by omega];exact⟨h0,h1⟩
   ·rw[if_neg hp,show (((-x).toNat-1:Nat):Int)+1=-x by omega,Int.neg_neg];exact⟨h1,h0⟩
  simpa using this
 ·have:tv (told++[x]) ((if 0<x then x else -x).toNat-1)≠0:=by
   rw[ht]
   by_cases hp:0<x
   ·rw[if_pos hp,if_pos (by omega)];omega
   ·rw[if_neg hp,if_neg (by omega),if_pos (by omega)];omega
  simpa using this
theorem zeT{told:List Int}{x:Int}(hc:qN told)(hx:x≠0)(h1:-x∉told):qN (told++[x]):=by
 intro y hy hn;simp only[List.mem_append,List.mem_singleton] at hy hn;rcases hy with hy|hy
 ·rcases hn with hn|hn
  ·exact hc y hy hn
  ·exact h1 (by rw[show -x=y by omega];exact hy)
 ·rcases hn with hn|hn
  ·rw[hy] at hn;exact h1 hn
  ·omega
theorem zcV{v:Int}{told:List Int}{x:Int}(hc:yP v told)(hx:qi v x=true):yP v (told++[x]):=by
 intro y hy;simp only[List.mem_append,List.mem_singleton] at hy;rcases hy with hy|hy
 ·exact hc y hy
 ·rw[hy];exact hx
theorem znn:qN []:=fun x hx=>by cases hx
theorem zkr(v:Int):yP v []:=fun x hx=>by cases hx
def yt(v:Int)(l:List (List Int)):Prop:=∀c∈l,yP v c
theorem XY{v x:Int}(hv:v<=24)(h:qi v x=true):qi 24 x=true:=by
 rw[q7] at *;omega
theorem Xq{l:List (List Int)}{v:Int}(hl:yt v l){told:List Int}(hc:qN told)(hs:yP v told){i x:Int}(e:zO told l=(i,x))(hx:x≠0):qi v x=true/\x∉told/\-x∉told/\qN (told++[x])/\yP v (told++[x]):=by
 have hn:=Xj (l:=l) hc;rw[e] at hn;cases hn with
 |none=>exact absurd rfl hx
 |bad=>exact absurd rfl hx
 |one hk hxc h0 h1 _ =>have hlx:=hl _ (xL hk) _ hxc;exact⟨hlx,h0,h1,zeT hc hx h1,zcV hs hlx⟩
theorem Yh.good{l:List (List Int)}{v:Int}(hl:yt v l){told t:List Int}{b:Int}(h:Yh l told t b)(hc:qN told)(hs:yP v told):qN t/\yP v t:=by
 induction h with
 |stop _=>exact⟨hc,hs⟩
 |step e hx _ ih =>obtain⟨_,_,_,h4,h5⟩:=Xq hl hc hs e hx;exact ih h4 h5
end
section
open Go.RowKit
def Small(s:Nat × Nat):Prop:=s.1<2^24/\s.2<2^24
theorem zeO{m:Nat}(h:m<2^24){i:Nat}(hi:24<=i):m.testBit i=false:=Nat.testBit_lt_two_pow (Nat.lt_of_lt_of_le h (Nat.pow_le_pow_right (by omega) hi))
def xf(m v:Nat):Nat:=m^^^(m&&&2^v)
theorem Ye(m v i:Nat):(xf m v).testBit i=(m.testBit i&&!decide (v=i)):=by
 unfold xf;rw[Nat.testBit_xor,Nat.testBit_and,Nat.testBit_two_pow];cases m.testBit i<;>by_cases hj:v=i<;>simp[hj]
theorem zlP{m v:Nat}(hm:m<2^24)(hv:v<24):m&&&(18446744073709551615-2^v)=xf m v:=by
 apply Nat.eq_of_testBit_eq;intro i;have hp:2^v<2^64:=Nat.pow_lt_pow_right (by omega) (by omega);have e:18446744073709551615-2^v=2^64-(2^v+1):=by omega
 rw[Ye,Nat.testBit_and,e,Nat.testBit_two_pow_sub_succ hp,Nat.testBit_two_pow]
 by_cases hi:i<24
 ·rw[decide_eq_true (show i<64 by omega)];simp
 ·rw[zeO hm (by omega)];simp
end
section
open Go.RowKit
def Blk(W:World)(b:Nat)(t:TypeId)(cs:Array Value):Prop:=W.heap[b]?=some (.cells cs t (0,0))
theorem Blk.lt{W:World}{b:Nat}{t:TypeId}{cs:Array Value}(h:Blk W b t cs):b<W.heap.size:=(Array.getElem?_eq_some_iff.1 h).1
theorem Blk.cell{W:World}{b:Nat}{t:TypeId}{cs:Array Value}(h:Blk W b t cs)(i:Nat):W.cell? ⟨b,i,none⟩=cs[i]?:=by
 simp[World.cell?,show W.heap[b]?=_ from h]
theorem Blk.frozen{W:World}{b:Nat}{t:TypeId}{cs:Array Value}(h:Blk W b t cs)(i:Nat):W.frozen? ⟨b,i,none⟩=false:=by simp[World.frozen?,show W.heap[b]?=_ from h]
theorem Blk.new(W:World)(t:TypeId)(cs:Array Value):Blk (W.alloc (.cells cs t)) W.heap.size t cs:=World.alloc_heap_new W _
theorem Blk.kept{W W':World}{row:Option Nat}{b:Nat}{t:TypeId}{cs:Array Value}(h:Blk W b t cs)(hg:W.grownBy W' row)(hne:some b≠row):Blk W' b t cs:=(hg.block b h.lt hne).trans h
theorem Blk.alloc{W:World}{b:Nat}{t:TypeId}{cs:Array Value}(h:Blk W b t cs)(o:Obj):Blk (W.alloc o) b t cs:=h.kept (World.grownBy_alloc W o none) (by simp)
theorem Blk.below{B:Nat}{W W':World}{b:Nat}{t:TypeId}{cs:Array Value}(h:Blk W b t cs)(hb:Below B W W')(hB:b<B):Blk W' b t cs:=(hb.block b hB).trans h
theorem Blk.other{W:World}{b b' i:Nat}{t:TypeId}{cs:Array Value}{v:Value}(h:Blk W b t cs)(hne:b≠b'):Blk (W.setCell ⟨b',i,none⟩ v) b t cs:=(Below.heap_setCell _ _ _ b hne).trans h
theorem Blk.put{W:World}{b l:Nat}{t:TypeId}{cs:Array Value}{o':Obj}(h:Blk W b t cs)(hne:b≠l):Blk (W.putObj l o') b t cs:=(World.putObj_heap_other hne).trans h
theorem Blk.set{W:World}{b i:Nat}{t:TypeId}{cs:Array Value}{v:Value}(h:Blk W b t cs):Blk (W.setCell ⟨b,i,none⟩ v) b t (cs.setIfInBounds i v):=by
 obtain⟨hlt,hk⟩:=Array.getElem?_eq_some_iff.1 h;show (W.heap.modify b _)[b]?=_;rw[Array.getElem?_eq_getElem (by rw[Array.size_modify];exact hlt),Array.getElem_modify_self,hk];rfl
end
section
open Go.RowKit Go.Deep
theorem yo(b o i:Nat):(⟨b,o,none⟩:Addr).add i=⟨b,o+i,none⟩:=by
 unfold Addr.add
 by_cases h:i=0
 ·subst h;rfl
 ·rw[if_neg h]
def zn(l:List Int):List Value:=l.map (Value.int .i64)
theorem xu(l:List Int):(zn l).length=l.length:=by simp[zn]
theorem xU(l:List Int)(i:Nat)(h:i<l.length):(zn l)[i]?=some (.int .i64 (l.getD i 0)):=by simp[zn,List.getD_eq_getElem?_getD,h]
theorem QJ(l:List Int)(x:Int):zn (l++[x])=zn l++[.int .i64 x]:=by simp[zn]
theorem Zm:(Tryz.prog.info? 3).map (fun i=>(i.zero,i.size,i.bytes))=some (some (.int .i64 0),1,8):=by kernel_rfl
theorem yU{B n:Nat}{w:World}{v:Value}{t:TypeId}{cs:List Value}(h:w.ownsRow B t 1 v n cs):∃a c,v=.slice a n c/\n<=c/\c<=9223372036854775807:=by
 rcases h.2 with ⟨e,e0⟩|⟨g,cap,cur,e,-,-,h1,h2,-⟩
 ·exact⟨none,0,by rw[e,e0],by omega,by omega⟩
 ·unfold maxLen at h2;exact⟨_,_,e,h1,h2⟩
theorem zdc{B:Nat}{w:World}{a:Option Addr}{c:Nat}{l:List Int}(h:w.ownsRow B 3 1 (.slice a l.length c) l.length (zn l)):qr w a l:=by
 intro i hi;rcases h.2 with ⟨e,e0⟩|⟨g,cap,cur,e,hB,hg,-⟩
 ·omega
 ·injection e with e1 e2 e3;subst e1 e3;refine⟨_,rfl,(Array.getElem?_eq_some_iff.1 hg).1,?_⟩;have:=h.cellAt i (by omega);rw[yo,Nat.zero_add,this,xU l i hi]
theorem KF{B:Nat}{w w':World}{t:TypeId}{v:Value}{n:Nat}{cs:List Value}(h:w.ownsRow B t 1 v n cs)(hb:zB w w'):w'.ownsRow B t 1 v n cs:=by
 obtain⟨h1,h2⟩:=h;refine⟨h1,?_⟩;rcases h2 with h2|⟨g,cap,cur,hv,hg,hh,r⟩
 ·exact Or.inl h2
 ·exact Or.inr ⟨g,cap,cur,hv,hg,by rw[hb.block g (Array.getElem?_eq_some_iff.1 hh).1];exact hh,r⟩
theorem Yg(w:World)(x:Int)(t:TypeId):∀(j:Nat) (u:Value),[Value.int .i64 x][j]?=some u->(w.alloc (.cells #[.int .i64 x] t)).cell? ((⟨w.heap.size,0,none⟩:Addr).add j)=some u:=by
 intro j u hu;cases j with
 |zero=>simp at hu;subst hu;rw[yo];simp
 |succ j=>simp at hu
theorem QU(x:Int):∀u∈[Value.int .i64 x],u.oneCell'=true:=by
 intro u hu;rw[List.mem_singleton] at hu;subst hu;rfl
theorem Ku:(Tryz.prog.info? 202).map (fun i=>(i.zero,i.size,i.bytes))=some (some (.slice none 0 0),1,24):=by kernel_rfl
theorem zfr{α:Type}{l:List α}{k:Nat}{d:α}(h:k<l.length):l.drop k=l.getD k d :: l.drop (k+1):=by
 rw[List.drop_eq_getElem_cons h,List.getD_eq_getElem?_getD,List.getElem?_eq_getElem h];rfl
theorem yu{w:World}{base base':Nat}{e:TypeId}{size:Nat}{v:Value}{n:Nat}{xs:List Value}(h:w.ownsRow base e size v n xs)(hb:base'<=base):w.ownsRow base' e size v n xs:=by
 obtain⟨h1,h2⟩:=h;refine⟨h1,?_⟩;rcases h2 with h2|⟨g,cap,cur,hv,hg,r⟩
 ·exact Or.inl h2
 ·exact Or.inr ⟨g,cap,cur,hv,Nat.le_trans hb hg,r⟩
end
section
open Go.RowKit Go.Deep
theorem zbt(m t:Nat)(hm:m<18446744073709551616):(bits BinOp.and IntKind.u64 ((m:Int)/2^t) 1==1)=m.testBit t:=zbk m t hm
end
section
open Go.RowKit Go.Deep
theorem zg7:(Tryz.prog.info? 68).map (fun i=>(i.zero,i.size,i.bytes))=some (some (.int .u64 0),1,8):=by kernel_rfl
def Zi(l:List Nat):List Value:=l.map fun n:Nat=>Value.int .u64 n
theorem zlo(l:List Nat)(x:Nat):Zi (l++[x])=Zi l++[.int .u64 x]:=by simp[Zi]
theorem zbL(w:World)(x:Value)(t:TypeId):∀(j:Nat) (u:Value),[x][j]?=some u->(w.alloc (.cells #[x] t)).cell? ((⟨w.heap.size,0,none⟩:Addr).add j)=some u:=by
 intro j u hj;have:j=0:=by have:=(List.getElem?_eq_some_iff.1 hj).1;simp at this;omega
 subst this;rw[yo,(Blk.new w t #[x]).cell];exact hj
theorem zoh(x:Int):∀u∈[Value.int .u64 x],u.oneCell'=true:=fun u hu=>by rw[List.mem_singleton] at hu;subst hu;rfl
def zcP(W0:World)(F:FuncId)(cb:Array Value)(so:Nat->Bool)(n:Nat):Prop:=∀W (x:Nat),zB W0 W->x<2^n->zR F (#[.int .u64 x]++cb) W (.bool (so x))
def Zt(n set:Nat)(so:Nat->Bool):Bool:=(List.range n).any fun k=>set.testBit k&&so (xf set k)
def qg(n:Nat)(so:Nat->Bool)(k:Nat):List Nat:=(List.range k).filter fun s=>so s&&!Zt n s so
theorem zfA(n:Nat)(so:Nat->Bool)(k:Nat):qg n so (k+1)=qg n so k++(if (so k&&!Zt n k so)=true then [k] else []):=by
 unfold qg;rw[List.range_succ,List.filter_append];congr 1;cases h:(so k&&!Zt n k so)<;>simp[h]
theorem znP(n:Nat)(so:Nat->Bool)(k:Nat):(qg n so k).length<=k:=by
 unfold qg;exact Nat.le_trans (List.length_filter_le _ _) (by simp)
theorem zmn{m v n:Nat}(hm:m<2^n):xf m v<2^n:=Nat.lt_pow_two_of_testBit _ (fun i hi=>by rw[Ye,Nat.testBit_lt_two_pow (Nat.lt_of_lt_of_le hm (Nat.pow_le_pow_right (by omega) hi))];rfl)
theorem zi5(m k:Nat):(((m&&&2^k:Nat):Int) != 0)=m.testBit k:=by
 have h:=Nat.testBit_and m (2^k) k;rw[Nat.testBit_two_pow] at h;cases hb:m.testBit k with
 |true =>
  have:m&&&2^k≠0:=fun e=>by rw[e,hb] at h;simp at h
  simpa using this
 |false =>
  have:m&&&2^k=0:=Nat.eq_of_testBit_eq fun i=>by
   rw[Nat.testBit_and,Nat.testBit_two_pow,Nat.zero_testBit]
   by_cases e:k=i
   ·subst e;rw[hb];rfl
   ·simp[e]
  rw[this];rfl
theorem zji(n:Nat)(hn:n<=12)(set:Nat)(hs:set<2^n)(F:FuncId)(cb:Array Value)(hent:∀args w,(callFunc F args).run Tryz.prog w=.ok (.enter F args) w)(so:Nat->Bool)(w:World)(hso:zcP w F cb so n) :
  zR 39 #[.int .i64 n,.int .u64 set,.func (.func F) #[] cb] w (.bool (Zt n set so)):=by
 have HSO:Hid (∀W (x:Nat),zB w W->x<2^n->zR F (#[.int .u64 x]++cb) W (.bool (so x))):=hso;have h12:(2:Nat)^n<=4096:=Nat.pow_le_pow_right (n:=2) (by omega) hn;clear hso;go_enter Tryz.func39,Tryz.ntmps39;go_wp2_with fail;go_loopw [10] (fun kV wr=>∃k:Nat,k<=n/\kV=.int .i64 k/\(∀j,j<k->(set.testBit j&&so (xf set j))=false)/\zB w wr) (fun kV _=>n-(intOf kV).toNat)
 case atStart=>exact⟨0,Nat.zero_le _,rfl,fun j h=>by omega,Below.refl _ _⟩
 case round =>
  obtain⟨k,hk,rfl,hall,hbw⟩:=hrel;have HALL:=zH hall;have HBW:=zH hbw;clear hall hbw
  by_cases hlt:k<n
  ·have hki:(k:Int)<(n:Int):=by omega
   have hk0:(0:Int)<=(k:Int):=by omega
   have hp:(2:Nat)^k<=4096:=Nat.pow_le_pow_right (n:=2) (j:=12) (by omega) (by omega);have e2:((2:Int)^k)=((2^k:Nat):Int):=by simp
   have hsh:IntKind.u64.wrap (2^k)=(2:Int)^k:=by
    rw[e2,IntKind.wrap_u64];exact Int.emod_eq_of_lt (Int.natCast_nonneg _) (by omega)
   have han:=bits_and_u64_nat set (2^k) (by omega) (by omega);have hno:=u64_andNot_nat set (2^k) (by omega) (by omega);rw[zlP (Nat.lt_of_lt_of_le hs (Nat.pow_le_pow_right (by omega) (by omega))) (by omega)] at hno;rw[<-e2] at han hno;have hne:=zi5 set k;have HOF:=zH (HSO.out _ (xf set k) HBW.out (zmn hs));have HN1:Hid ((set.testBit k&&so (xf set k))=false->∀j,j<k+1->(set.testBit j&&so (xf set j))=false):=fun h j hj=>by
    by_cases e:j=k
    ·rw[e];exact h
    ·exact HALL.out j (by omega)
   have HY:Hid ((set.testBit k&&so (xf set k))=true->Zt n set so=true):=fun h=>List.any_eq_true.2 ⟨k,List.mem_range.2 hlt,h⟩;generalize xf set k=of at HOF HN1 HY hno;generalize (set&&&2^k)=am at *;generalize set.testBit k=tb at HN1 HY hne;clear e2 hp;cases tb with
   |false =>
    clear HOF HY;go_wp2;go_roundw
    case rel=>exact⟨k+1,hlt,by go_num,HN1.out rfl,HBW.out⟩
    case measure=>simp[intOf];omega
   |true =>
    go_wp2_with fail;refine HOF.out.mono ?_;rintro e w2 ⟨rfl,hb2⟩;have HB2:=zH (zT HBW.out hb2);clear hb2 HOF;cases hq:so of with
    |true =>have HR:=zH (HY.out (by rw[hq];rfl));clear hq;go_wp2;go_ret;exact⟨by rw[HR.out];rfl,HB2.out⟩
    |false =>
     have HR:=zH (HN1.out (by rw[hq];rfl));clear hq;go_wp2;go_roundw
     case rel=>exact⟨k+1,hlt,by go_num,HR.out,HB2.out⟩
     case measure=>simp[intOf];omega
  ·obtain rfl:k=n:=by omega
   have HF:Hid (Zt k set so=false):=by
    show _=_;unfold Zt;rw[List.any_eq_false];intro j hj;have:=HALL.out j (List.mem_range.1 hj);rw[this];simp
   clear HSO;go_wp2;go_ret;exact⟨by rw[HF.out];rfl,HBW.out⟩
theorem zeI(n:Nat)(hn:n<=12)(F:FuncId)(cb:Array Value)(hent:∀args w,(callFunc F args).run Tryz.prog w=.ok (.enter F args) w)(so:Nat->Bool)(w:World)(hso:zcP w F cb so n) :
  zC 17 #[.int .i64 n,.func (.func F) #[] cb] w fun e w'=>∃v,e=.returned v/\w'.ownsRow w.heap.size 68 1 v (qg n so (2^n)).length (Zi (qg n so (2^n)))/\zB w w':=by
 obtain⟨i0,hin,hz0,hz1,hz2⟩:=info_parts zg7;have HSO:Hid (∀W (x:Nat),zB w W->x<2^n->zR F (#[.int .u64 x]++cb) W (.bool (so x))):=hso;have HWI:Hid (∀W (x:Nat),zB w W->x<2^n->zR 39 #[.int .i64 n,.int .u64 x,.func (.func F) #[] cb] W (.bool (Zt n x so))):=fun W x hW hx=>zji n hn x hx F cb hent so W (fun W' y hW' hy=>hso W' y (zT hW hW') hy);have h12:(2:Nat)^n<=4096:=Nat.pow_le_pow_right (n:=2) (j:=12) (by omega) hn;have hsh:IntKind.u64.wrap (2^n)=((2^n:Nat):Int):=by
  rw[IntKind.wrap_u64,show ((2:Int)^n)=((2^n:Nat):Int) by simp];exact Int.emod_eq_of_lt (Int.natCast_nonneg _) (by omega)
 clear hso;generalize hN:(2^n:Nat)=N at *;clear hN;go_enter Tryz.func17,Tryz.ntmps17;go_wp2_with fail;go_loopw [5,9] (fun oV kV wr=>∃k:Nat,k<=N/\kV=.int .u64 k/\wr.ownsRow w.heap.size 68 1 oV (qg n so k).length (Zi (qg n so k))/\zB w wr) (fun _ kV _=>N-(intOf kV).toNat)
 case atStart=>exact⟨0,Nat.zero_le _,rfl,World.ownsRow_nil _ _ _ _,Below.refl _ _⟩
 case round =>
  obtain⟨k,hk,rfl,hrow,hbw⟩:=hrel;have HROW:=zH hrow;have HBW:=zH hbw;obtain⟨oa,oc,rfl,-⟩:=yU hrow;have hll:=znP n so k;clear hrow hbw
  by_cases hlt:k<N
  ·have hki:(k:Int)<(N:Int):=by omega
   have hw1:IntKind.u64.wrap ((k:Int)+1)=(k:Int)+1:=by rw[IntKind.wrap_u64];omega
   have HS1:=zH (HSO.out _ k HBW.out hlt);have HST:=zH (zfA n so k);generalize hL:(qg n so k).length=m at *;have HL:=zH hL;clear hL;go_wp2_with fail;refine HS1.out.mono ?_;rintro e w2 ⟨rfl,hb2⟩;have hb02:=zT HBW.out hb2;have HROW2:=zH (KF HROW.out hb2);have HB2:=zH hb02;have HW2:=zH (HWI.out w2 k hb02 hlt);clear hb2 hb02 HS1 HROW HBW;cases hq:so k with
   |false =>
    rw[hq] at HST;simp only[Bool.false_and,Bool.false_eq_true,if_false,List.append_nil] at HST;have HR8:Hid (w2.ownsRow w.heap.size 68 1 (.slice oa m oc) (qg n so (k+1)).length (Zi (qg n so (k+1)))):=by
     show World.ownsRow _ _ _ _ _ _ _;rw[HST.out,HL.out];exact HROW2.out
    clear HW2 HST hq;go_wp2;go_roundw
    case rel=>exact⟨k+1,hlt,by go_num,HR8.out,HB2.out⟩
    case measure=>simp[intOf];omega
   |true =>
    rw[hq] at HST;simp only[Bool.true_and] at HST;clear hq;go_wp2_with fail;refine HW2.out.mono ?_;rintro e w3 ⟨rfl,hb3⟩;have HROW3:=zH (KF HROW2.out hb3);have HB3:=zH (zT HB2.out hb3);have hs3:=HB3.out.size;clear hb3 HROW2 HB2 HW2;cases hq:Zt n k so with
    |true =>
     rw[hq] at HST;simp only[Bool.not_true,Bool.false_eq_true,if_false,List.append_nil] at HST;have HR8:Hid (w3.ownsRow w.heap.size 68 1 (.slice oa m oc) (qg n so (k+1)).length (Zi (qg n so (k+1)))):=by
      show World.ownsRow _ _ _ _ _ _ _;rw[HST.out,HL.out];exact HROW3.out
     clear HST hq;go_wp2;go_roundw
     case rel=>exact⟨k+1,hlt,by go_num,HR8.out,HB3.out⟩
     case measure=>simp[intOf];omega
    |false =>
     rw[hq] at HST;simp only[Bool.not_false,if_true] at HST;clear hq;go_upto_region 6 with fail;go_wp2_with (at_builtin;refine wpList_append_own_at _ rfl _ _ 39 rfl w.heap.size 68 i0 (.int .u64 0) 1 8 Tryz.underlying39 hin hz0 hz1 hz2 rfl (by decide) _ _ _ rfl (HROW3.out.alloc _) ⟨w3.heap.size,0,none⟩ 1 1 [.int .u64 k] rfl rfl ?e1 ?e2 ?e3 ?e4 ?e5 ?_)
     try(case e1=>exact zbL _ _ _)
     case e2=>first|exact zoh _|rfl
     case e3=>unfold maxLen;omega
     case e4=>omega
     case e5=>first|omega|(simp;omega)
     intro v8 w8 hown8 hgrow8 _ hloc8;have HR8:Hid (w8.ownsRow w.heap.size 68 1 v8 (qg n so (k+1)).length (Zi (qg n so (k+1)))):=by
      show World.ownsRow _ _ _ _ _ _ _;rw[HST.out,zlo,List.length_append,HL.out];exact hown8
     have HB8:Hid (zB w w8):=(HB3.out.alloc hs3 _).grown hgrow8 (by simp;omega) (fun k hk=>(HROW3.out.lt k hk).1);obtain⟨v8a,v8c,rfl,-⟩:=yU hown8;clear hown8 hgrow8 hloc8 HROW3 HST;go_wp2;go_roundw
     case rel=>exact⟨k+1,hlt,by go_num,HR8.out,HB8.out⟩
     case measure=>simp[intOf];omega
  ·obtain rfl:k=N:=by omega
   clear HSO HWI;go_wp2;go_ret;exact⟨_,rfl,HROW.out,HBW.out⟩
end
end Go.Proofs.YtapobpgbcbplbaaGreatDoor
