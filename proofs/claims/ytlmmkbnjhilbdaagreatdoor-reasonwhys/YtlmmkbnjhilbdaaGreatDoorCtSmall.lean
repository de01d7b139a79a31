/- pair, kind. -/
import Derived.Test.YtlmmkbnjhilbdaaGreatDoorSvCmpG
import Derived.Deep.Slices
import Derived.OneCell
set_option maxHeartbeats 1000000
set_option maxRecDepth 100000
namespace Go.Proofs.YtlmmkbnjhilbdaaGreatDoor
section
open Sv
instance lawfulBA:LawfulBEq ByteArray where
 eq_of_beq {a b} h:=ByteArray.ext (eq_of_beq (show (a.data==b.data)=true from h))
 rfl {a}:=beq_self_eq_true a.data
structure Ln where
 kind:Int
 name:ByteArray
 a:Int
 b:Int
 c:Int
 other:ByteArray
 rng:List zg
structure It where
 name:ByteArray
 a:Int
 b:Int
 c:Int
deriving DecidableEq,Inhabited
instance:Inhabited Ln:=⟨⟨0,⟨#[]⟩,0,0,0,⟨#[]⟩,[]⟩⟩
def Ln.it(x:Ln):It:=⟨x.name,x.a,x.b,x.c⟩
def Ln.pair(x:Ln):Prop:=x.kind=2\/x.kind=3
instance (x:Ln):Decidable x.pair:=inferInstanceAs (Decidable (_\/_))
def zh(s:ByteArray)(c:UInt8):ByteArray × ByteArray:=(⟨(Lib.cut s.data.toList [c]).1.toArray⟩,⟨(Lib.cut s.data.toList [c]).2.1.toArray⟩)
theorem ZD(s:ByteArray)(c:UInt8):(zh s c).1.size<=s.size/\(zh s c).2.size<=s.size:=by
 unfold zh Lib.cut;have hl:s.data.toList.length=s.size:=by simp
 split
 ·simp only[ByteArray.size,List.size_toArray,List.length_take,List.length_drop,Array.length_toList];omega
 ·simp only[ByteArray.size,List.size_toArray,Array.length_toList,List.length_nil];omega
def q7(w:ByteArray):Nat :=
 if w.toList=[112,97,99,107,97,103,101] then 1 else if w.toList=[110,101,101,100,115] then 2 else if w.toList=[99,108,97,115,104,101,115] then 3 else if w.toList=[114,111,111,116] then 4 else 0
theorem zoj(w:ByteArray):q7 w<=4:=by
 unfold q7
 repeat' split
 all_goals omega
def Xz(s:ByteArray):Except (Int × Option Nat) (List zg) :=
 if 1000<s.size then .error (4,none) else match ZR s with
  |.error (k,p)=>.error (k,some p)
  |.ok l=>.ok l
def Zo(k:Nat)(name:ByteArray)(ns:List Nat)(other rest:ByteArray):Except (Int × Option Nat) Ln :=
 match Xz rest with
 |.error e=>.error e
 |.ok l=>.ok ⟨(k:Int),name,((ns.getD 0 0:Nat):Int),((ns.getD 1 0:Nat):Int),((ns.getD 2 0:Nat):Int),other,l⟩
def Yl(s:ByteArray):Except (Int × Option Nat) Ln :=
 if q7 (zh s 32).1=0 then .error (3,none)
 else if q7 (zh s 32).1=4 then Zo 4 (zh (zh s 32).2 32).1 [] ⟨#[]⟩ (zh (zh s 32).2 32).2
 else match xH (zh (zh (zh s 32).2 32).2 32).1 with
  |.error e=>.error (e,none)
  |.ok ns =>
   if q7 (zh s 32).1=1 then
    if (zh (zh (zh s 32).2 32).2 32).2.size=0 then .ok ⟨1,(zh (zh s 32).2 32).1,((ns.getD 0 0:Nat):Int),((ns.getD 1 0:Nat):Int),((ns.getD 2 0:Nat):Int),⟨#[]⟩,[]⟩ else .error (3,none)
   else Zo (q7 (zh s 32).1) (zh (zh s 32).2 32).1 ns (zh (zh (zh (zh s 32).2 32).2 32).2 32).1 (zh (zh (zh (zh s 32).2 32).2 32).2 32).2
def yf(s:ByteArray):Nat->Nat->List (Nat × ByteArray)
 |0,_=>[]
 |f+1,k=>if s.size<=k then [] else
  (if (zh (s.extract k s.size) 10).1.size=0 then [] else [(k,(zh (s.extract k s.size) 10).1)])++yf s f (k+(zh (s.extract k s.size) 10).1.size+1)
def plF:List (Nat × ByteArray)->List (Nat × Ln)->Except (Int × Nat) (List (Nat × Ln))
 |[],acc=>.ok acc
 |x :: r,acc=>match Yl x.2 with
  |.error e=>.error (e.1,x.1)
  |.ok l=>plF r (acc++[(x.1,l)])
theorem zea(l r:List (Nat × ByteArray)):∀(acc:List (Nat × Ln)),plF (l++r) acc=match plF l acc with
  |.error e=>.error e
  |.ok acc'=>plF r acc':=by
 induction l with
 |nil=>intro acc;rfl
 |cons x l ih =>
  intro acc;rw[List.cons_append,plF,plF];split
  ·rfl
  ·exact ih _
theorem zo2:∀(l:List (Nat × ByteArray)) (acc:List (Nat × Ln)) (out:List (Nat × Ln)),plF l acc=.ok out->out.length=acc.length+l.length:=by
 intro l
 induction l with
 |nil=>intro acc out h;cases h;rfl
 |cons x l ih =>
  intro acc out h;unfold plF at h;split at h
  ·cases h
  ·have:=ih _ _ h;simp at this ⊢;omega
def InV(a b c:Int):Prop:=(0<=a/\a<=999)/\(0<=b/\b<=999)/\0<=c/\c<=999
instance (a b c:Int):Decidable (InV a b c):=inferInstanceAs (Decidable (_/\_))
open Classical in
noncomputable def qD(x:Ln):Int :=
 if x.kind<1\/4<x.kind then 1
 else if ¬zI x.name\/(x.pair/\¬zI x.other) then 5
 else if ¬x.pair/\x.other.size≠0 then 1
 else if x.kind=1/\x.rng≠[] then 1
 else if x.kind=4/\(x.a≠0\/x.b≠0\/x.c≠0) then 1
 else if ¬InV x.a x.b x.c then 2 else 0
def yo(l:List It):Nat:=((l.map It.name).eraseDups).length
noncomputable def zZ:List Ln->Nat->List It->Except (Int × Nat) (List It)
 |[],_,its=>.ok its
 |x :: r,i,its =>
  if qD x≠0 then .error (qD x,i)
  else if x.kind=1 then
   if x.it∈its then .error (9,i)
   else if 8<yo (its++[x.it])\/its.length=24 then .error (4,i)
   else zZ r (i+1) (its++[x.it])
  else zZ r (i+1) its
def qk(x y:It):Int:=if x.name.toList=y.name.toList then xg (tI y.a y.b y.c) (tI x.a x.b x.c) 3 else Lib.compareBytes x.name.data.toList y.name.data.toList
def ya(l:List It):List It:=l.mergeSort fun x y=>!decide (qk y x<0)
def qZ:List Ln->Nat->List It->Option Nat
 |[],_,_=>none
 |x :: r,i,its=>if x.pair/\x.it∉its then some i else qZ r (i+1) its
noncomputable def qq(ls:List Ln):Except (Int × Option Nat) (List It) :=
 if 100<ls.length then .error (4,none)
 else match zZ ls 0 [] with
  |.error e=>.error (e.1,some e.2)
  |.ok its=>match qZ ls 0 (ya its) with
   |some i=>.error (7,some i)
   |none=>.ok (ya its)
noncomputable def Zd(s:ByteArray):Except (Int × Option Nat) (List Ln × List It) :=
 if 20000<s.size then .error (4,none)
 else match plF (yf s s.size 0) [] with
  |.error e=>.error (e.1,some e.2)
  |.ok ps=>match qq (ps.map Prod.snd) with
   |.error (e,none)=>.error (e,none)
   |.error (e,some i)=>.error (e,some ((ps.map Prod.fst).getD i 0))
   |.ok its=>.ok (ps.map Prod.snd,its)
def yk(its:List It)(name:ByteArray):Option (Nat × Nat) :=
 its.zipIdx.foldl (fun r x=>if x.1.name=name then some ((r.map Prod.fst).getD x.2,x.2+1) else r) none
theorem JI(l:List It)(x:It)(name:ByteArray):yk (l++[x]) name=if x.name=name then some (((yk l name).map Prod.fst).getD l.length,l.length+1) else yk l name:=by
 unfold yk;rw[List.zipIdx_append,List.foldl_append];simp
def yg(its:List It)(name:ByteArray):Nat × Nat:=(yk its name).getD (0,0)
def xF(rng:List zg)(x:It):Prop:=InV x.a x.b x.c/\mem rng (Qj x.a.toNat x.b.toNat x.c.toNat)
open Classical in
noncomputable def qP(its:List It)(name:ByteArray)(rng:List zg):List Nat :=
 (List.range' (yg its name).1 ((yg its name).2-(yg its name).1)).filter fun i=>decide (xF rng (its.getD i default))
def qT(its:List It)(x:It):Int:=match its.findIdx? (fun y=>decide (x=y)) with|some i=>(i:Int)|none=>-1
def qJ(k:Int):Int:=-(k+1)
noncomputable def yj(its:List It)(n:Nat)(x:Ln):List (Int × List Int) :=
 if x.kind=4 then [((n:Int),(qP its x.name x.rng).map fun (k:Nat)=>((k:Int)+1))]
 else if x.kind=2 then [((n:Int),qJ (qT its x.it) :: (qP its x.other x.rng).map fun (k:Nat)=>((k:Int)+1))]
 else if x.kind=3 then (qP its x.other x.rng).map fun (k:Nat)=>((n:Int),[qJ (qT its x.it),qJ (k:Int)])
 else []
def yN(lines:List Bool)(n:Int):Bool:=decide (n=-1)||(decide (0<=n)&&lines.getD n.toNat false)
def qm(l:List (Int × List Int))(lines:List Bool):List (List Int):=(l.filter fun x=>yN lines x.1).map Prod.snd
end
section
open Go.RowKit
def I64(x:Int):Prop:=-9223372036854775808<=x/\x<=9223372036854775807
theorem below_new(w:World)(o:Obj):zB w (w.alloc o):=zF.alloc zN _
theorem xD(a:Addr)(i:Nat):(a.add i).block=a.block:=by unfold Addr.add;split<;>rfl
def zW(w:World)(a:Option Addr)(xs:List Int):Prop :=
 ∀i,i<xs.length->∃ad:Addr,a=some ad/\ad.block<w.heap.size/\w.cell? (ad.add i)=some (.int .i64 (xs.getD i 0))
theorem zW.below{w w':World}{a:Option Addr}{xs:List Int}(h:zW w a xs)(hb:zB w w'):zW w' a xs:=by
 intro i hi;obtain⟨ad,ha,hl,hc⟩:=h i hi;exact⟨ad,ha,Nat.lt_of_lt_of_le hl hb.size,(hb.cell (by rw[xD];exact hl)).trans hc⟩
theorem zW.nil(w:World)(a:Option Addr):zW w a []:=fun i hi=>by simp at hi
def yr(w:World)(a:Option Addr)(l:List (List Int)):Prop :=
 ∀i,i<l.length->∃(ad:Addr) (a':Option Addr) (cap:Nat),a=some ad/\ad.block<w.heap.size/\w.cell? (ad.add i)=some (.slice a' (l.getD i []).length cap)/\(l.getD i []).length<=cap/\cap<=9223372036854775807/\zW w a' (l.getD i [])
theorem yr.below{w w':World}{a:Option Addr}{l:List (List Int)}(h:yr w a l)(hb:zB w w'):yr w' a l:=by
 intro i hi;obtain⟨ad,a',cap,ha,hl,hc,h1,h2,h3⟩:=h i hi;exact⟨ad,a',cap,ha,Nat.lt_of_lt_of_le hl hb.size,(hb.cell (by rw[xD];exact hl)).trans hc,h1,h2,h3.below hb⟩
theorem y7{α:Type}{l:List α}{i:Nat}{d:α}(h:i<l.length):l.getD i d∈l:=by
 rw[List.getD_eq_getElem?_getD,List.getElem?_eq_getElem h];exact List.getElem_mem h
def yT{α:Type}(p:α->Bool)(xs:List α):Int:=match xs.findIdx? p with|some i=>(i:Int)|none=>-1
theorem zeA{α:Type}{p:α->Bool}{xs:List α}{k:Nat}{d:α}(h0:∀j,j<k->p (xs.getD j d)=false)(hk:k<xs.length)(h1:p (xs.getD k d)=true):yT p xs=(k:Int):=by
 have:xs.findIdx? p=some k:=by
  rw[List.findIdx?_eq_some_iff_getElem];refine⟨hk,?_,fun j hj=>?_⟩
  ·rw[List.getD_eq_getElem?_getD,List.getElem?_eq_getElem hk] at h1;exact h1
  ·have:=h0 j hj;rw[List.getD_eq_getElem?_getD,List.getElem?_eq_getElem (by omega)] at this;simpa using this
 simp[yT,this]
theorem zdD{α:Type}{p:α->Bool}{xs:List α}{d:α}(h0:∀j,j<xs.length->p (xs.getD j d)=false):yT p xs=-1:=by
 have:xs.findIdx? p=none:=by
  rw[List.findIdx?_eq_none_iff];intro x hx;obtain⟨j,hj,rfl⟩:=List.getElem_of_mem hx;have:=h0 j hj;rw[List.getD_eq_getElem?_getD,List.getElem?_eq_getElem hj] at this;simpa using this
 simp[yT,this]
theorem zfJ{α:Type}(p:α->Bool)(xs:List α):decide (0<=yT p xs)=xs.any p:=by
 rw[Bool.eq_iff_iff];simp only[decide_eq_true_eq];unfold yT;cases h:xs.findIdx? p with
 |none =>
  rw[List.findIdx?_eq_none_iff] at h;simp only[List.any_eq_true];constructor
  ·intro h;omega
  ·rintro⟨x,hx,hp⟩;rw[h x hx] at hp;cases hp
 |some i =>rw[List.findIdx?_eq_some_iff_getElem] at h;obtain⟨hi,hp,-⟩:=h;simp only[List.any_eq_true];exact⟨fun _=>⟨_,List.getElem_mem hi,hp⟩,fun _=>by omega⟩
theorem zcu(F:Nat)(cb:Array Value)(p:Int->Bool)(xs:List Int)(a:Option Addr)(cap:Nat)(w:World)(hm:xs.length<=9223372036854775807)
  (hent:∀args w,(callFunc F args).run Tryz.prog w=.ok (.enter F args) w) (hI:zW w a xs)
  (hf:∀W i,zB w W->i<xs.length->zR F (#[.int .i64 (xs.getD i 0)]++cb) W (.bool (p (xs.getD i 0)))) :
  zR 140 #[.slice a xs.length cap,.func (.func F) #[] cb] w (.int .i64 (yT p xs)):=by
 have HF:=zH hf;have HI:=zH hI;clear hf hI;go_enter Tryz.func140,Tryz.ntmps140;go_wp2_with fail;go_loopw [8] (fun kV wr=>∃k:Nat,k<=xs.length/\kV=.int .i64 k/\(∀j,j<k->p (xs.getD j 0)=false)/\zB w wr) (fun kV _=>xs.length-(intOf kV).toNat)
 case atStart=>exact⟨0,Nat.zero_le _,rfl,fun j h=>by omega,Below.refl _ _⟩
 case round =>
  obtain⟨k,hk,rfl,h1,hbr⟩:=hrel;have H1:=zH h1;have HBR:=zH hbr;clear h1 hbr
  by_cases hlt:k<xs.length
  ·obtain⟨ad,rfl,hl,hc⟩:=HI.out.below HBR.out k hlt;have HC:=zH (HF.out wr k HBR.out hlt);cases hp:p (xs.getD k 0) with
   |true =>rw[hp] at HC;have HP:=zH hp;clear hp;generalize hx:xs.getD k 0=x at *;have HX:=zH hx;clear hx;go_wp2_with fail;refine HC.out.mono ?_;rintro e w1 ⟨rfl,hb1⟩;have HB1:Hid (zB w w1):=zT HBR.out hb1;clear hb1 HC;go_wp2;go_ret;exact⟨by rw[zeA H1.out hlt (by rw[HX.out];exact HP.out)];rfl,HB1.out⟩
   |false =>
    rw[hp] at HC;have HP:=zH hp;clear hp;generalize hx:xs.getD k 0=x at *;have HX:=zH hx;clear hx;go_wp2_with fail;refine HC.out.mono ?_;rintro e w1 ⟨rfl,hb1⟩;have HB1:Hid (zB w w1):=zT HBR.out hb1;clear hb1 HC;go_wp2;go_roundw
    case rel=>exact ⟨k + 1,hlt,by go_num,fun j hj=>(by
     rcases Nat.lt_succ_iff_lt_or_eq.1 hj with e|e
     ·exact H1.out j e
     ·rw [e,HX.out];exact HP.out),HB1.out⟩
    case measure=>simp[intOf];omega
  ·obtain rfl:k=xs.length:=by omega
   go_wp2;go_ret;exact⟨by rw[zdD H1.out];rfl,HBR.out⟩
theorem JE(F:Nat)(cb:Array Value)(p:Int->Bool)(xs:List Int)(a:Option Addr)(cap:Nat)(w:World)(hm:xs.length<=9223372036854775807)
  (hent:∀args w,(callFunc F args).run Tryz.prog w=.ok (.enter F args) w) (hI:zW w a xs)
  (hf:∀W i,zB w W->i<xs.length->zR F (#[.int .i64 (xs.getD i 0)]++cb) W (.bool (p (xs.getD i 0)))) :
  zR 95 #[.slice a xs.length cap,.func (.func F) #[] cb] w (.bool (xs.any p)):=by
 have H:=zH (zcu F cb p xs a cap w hm hent hI hf);clear hf hI hent;rw[<-zfJ];generalize yT p xs=i at *;go_enter Tryz.func95,Tryz.ntmps95;go_wp2_with fail;refine H.out.mono ?_;rintro e w1 ⟨rfl,hb1⟩;have HB1:=zH hb1;clear hb1 H;go_wp2;go_ret;exact⟨by first|rfl|simp,HB1.out⟩
end
section
open Go.RowKit Go.Deep
theorem add_plain(b o i:Nat):(⟨b,o,none⟩:Addr).add i=⟨b,o+i,none⟩:=by
 unfold Addr.add
 by_cases h:i=0
 ·subst h;rfl
 ·rw[if_neg h]
def icells(l:List Int):List Value:=l.map (Value.int .i64)
theorem xT(l:List Int):(icells l).length=l.length:=by simp[icells]
theorem ZE(l:List Int)(i:Nat)(h:i<l.length):(icells l)[i]?=some (.int .i64 (l.getD i 0)):=by simp[icells,List.getD_eq_getElem?_getD,h]
theorem Qd(l:List Int)(x:Int):icells (l++[x])=icells l++[.int .i64 x]:=by simp[icells]
theorem Zt:(Tryz.prog.info? 3).map (fun i=>(i.zero,i.size,i.bytes))=some (some (.int .i64 0),1,8):=by kernel_rfl
theorem row_form{B n:Nat}{w:World}{v:Value}{t:TypeId}{cs:List Value}(h:w.ownsRow B t 1 v n cs):∃a c,v=.slice a n c/\n<=c/\c<=9223372036854775807:=by
 rcases h.2 with ⟨e,e0⟩|⟨g,cap,cur,e,-,-,h1,h2,-⟩
 ·exact⟨none,0,by rw[e,e0],by omega,by omega⟩
 ·unfold maxLen at h2;exact⟨_,_,e,h1,h2⟩
theorem zac{B:Nat}{w:World}{a:Option Addr}{c:Nat}{l:List Int}(h:w.ownsRow B 3 1 (.slice a l.length c) l.length (icells l)):zW w a l:=by
 intro i hi;rcases h.2 with ⟨e,e0⟩|⟨g,cap,cur,e,hB,hg,-⟩
 ·omega
 ·injection e with e1 e2 e3;subst e1 e3;refine⟨_,rfl,(Array.getElem?_eq_some_iff.1 hg).1,?_⟩;have:=h.cellAt i (by omega);rw[add_plain,Nat.zero_add,this,ZE l i hi]
theorem zg5{B:Nat}{w w':World}{t:TypeId}{v:Value}{n:Nat}{cs:List Value}(h:w.ownsRow B t 1 v n cs)(hb:zB w w'):w'.ownsRow B t 1 v n cs:=by
 obtain⟨h1,h2⟩:=h;refine⟨h1,?_⟩;rcases h2 with h2|⟨g,cap,cur,hv,hg,hh,r⟩
 ·exact Or.inl h2
 ·exact Or.inr ⟨g,cap,cur,hv,hg,by rw[hb.block g (Array.getElem?_eq_some_iff.1 hh).1];exact hh,r⟩
theorem Z3(w:World)(x:Int)(t:TypeId):∀(j:Nat) (u:Value),[Value.int .i64 x][j]?=some u->(w.alloc (.cells #[.int .i64 x] t)).cell? ((⟨w.heap.size,0,none⟩:Addr).add j)=some u:=by
 intro j u hu;cases j with
 |zero=>simp at hu;subst hu;rw[add_plain];simp
 |succ j=>simp at hu
theorem ZW(x:Int):∀u∈[Value.int .i64 x],u.oneCell'=true:=by
 intro u hu;rw[List.mem_singleton] at hu;subst hu;rfl
theorem X3:(Tryz.prog.info? 127).map (fun i=>(i.zero,i.size,i.bytes))=some (some (.slice none 0 0),1,24):=by kernel_rfl
theorem zlQ{c:List Int}{j:Nat}(h:j<c.length):c.take (j+1)=c.take j++[c.getD j 0]:=by
 rw[List.take_succ_eq_append_getElem h,List.getD_eq_getElem?_getD,List.getElem?_eq_getElem h];rfl
theorem zcb{α:Type}{l:List α}{k:Nat}{d:α}(h:k<l.length):l.drop k=l.getD k d :: l.drop (k+1):=by
 rw[List.drop_eq_getElem_cons h,List.getD_eq_getElem?_getD,List.getElem?_eq_getElem h];rfl
theorem ownsRow_base{w:World}{base base':Nat}{e:TypeId}{size:Nat}{v:Value}{n:Nat}{xs:List Value}(h:w.ownsRow base e size v n xs)(hb:base'<=base):w.ownsRow base' e size v n xs:=by
 obtain⟨h1,h2⟩:=h;refine⟨h1,?_⟩;rcases h2 with h2|⟨g,cap,cur,hv,hg,r⟩
 ·exact Or.inl h2
 ·exact Or.inr ⟨g,cap,cur,hv,Nat.le_trans hb hg,r⟩
end
section
open Go.RowKit Go.Deep
structure Kp(B:Nat)(w w':World):Prop where
 size:w.heap.size<=w'.heap.size
 block:∀k,k<w.heap.size->(k<B\/∃cur fr,w.heap[k]?=some (.cells cur 3 fr))->w'.heap[k]?=w.heap[k]?
section
variable {B:Nat} {w w' w'':World}
theorem Kp.refl(B:Nat)(w:World):Kp B w w:=⟨Nat.le_refl _,fun _ _ _=>rfl⟩
theorem Kp.trans(h:Kp B w w')(h2:Kp B w' w''):Kp B w w'':=⟨Nat.le_trans h.size h2.size,fun k hk hc=>by
 have e:=h.block k hk hc;rw[<-e];refine h2.block k (Nat.lt_of_lt_of_le hk h.size) ?_;rw [e];exact hc⟩
theorem Kp.zero(h:Kp B w w'):Kp 0 w w':=⟨h.size,fun k hk hc=>h.block k hk (hc.imp (fun h=>by omega) id)⟩
theorem Kp.new(hb:zB w w'):Kp B w w':=⟨hb.size,fun k hk _=>hb.block k hk⟩
theorem Kp.set{b i:Nat}{t:TypeId}{cs:Array Value}{v:Value}(hB:B<=b)(h:Blk w b t cs)(ht:t≠3):Kp B w (w.setCell ⟨b,i,none⟩ v):=by
 refine⟨by simp[World.setCell],fun k hk hc=>Below.heap_setCell _ _ _ k (fun e=>?_)⟩;have e':k=b:=e;subst e';rcases hc with hc|⟨cur,fr,hc⟩
 ·omega
 ·rw[show w.heap[k]?=_ from h] at hc;simp only[Option.some.injEq,Obj.cells.injEq] at hc;exact ht hc.2.1
theorem Kp.grown{e:TypeId}{size n:Nat}{v:Value}{xs:List Value}(h:w.ownsRow B e size v n xs)(hg:w.grownBy w' v.ownBlock)(he:e≠3):Kp B w w':=by
 refine⟨hg.size,fun k hk hc=>hg.block k hk (fun e'=>?_)⟩;obtain⟨h1,h2⟩:=h.lt k e'.symm;rcases hc with hc|⟨cur,fr,hc⟩
 ·omega
 ·rcases h.2 with ⟨hv,_⟩|⟨g,cap,cur',hv,_,hg',_⟩
  ·rw[hv] at e';cases e'
  ·rw[hv] at e';simp only[Value.ownBlock,Option.some.injEq] at e';subst e';rw[hg'] at hc;simp only[Option.some.injEq,Obj.cells.injEq] at hc;exact he hc.2.1
def qH(B:Nat)(w:World)(a:Option Addr)(xs:List Int):Prop :=
 ∀i,i<xs.length->∃ad:Addr,a=some ad/\ad.block<w.heap.size/\(ad.block<B\/∃cur fr,w.heap[ad.block]?=some (.cells cur 3 fr))/\w.cell? (ad.add i)=some (.int .i64 (xs.getD i 0))
theorem qH.ints{a:Option Addr}{xs:List Int}(h:qH B w a xs):zW w a xs:=fun i hi=>by
 obtain⟨ad,h1,h2,_,h4⟩:=h i hi;exact⟨ad,h1,h2,h4⟩
theorem qH.kp{a:Option Addr}{xs:List Int}(h:qH B w a xs)(hk:Kp B w w'):qH B w' a xs:=fun i hi=>by
 obtain⟨ad,h1,h2,h3,h4⟩:=h i hi;have e:=hk.block _ h2 h3;refine⟨ad,h1,Nat.lt_of_lt_of_le h2 hk.size,by rw[e];exact h3,?_⟩;rw[World.cell?_of_block (w:=w) (by rw[xD];exact e)];exact h4
theorem qH.more{a:Option Addr}{xs:List Int}(h:qH 0 w a xs):qH B w a xs:=fun i hi=>by
 obtain⟨ad,h1,h2,h3,h4⟩:=h i hi;exact⟨ad,h1,h2,h3.imp (fun h=>by omega) id,h4⟩
theorem qH.of{a:Option Addr}{xs:List Int}(h:zW w a xs)(hb:zB w w'):qH w.heap.size w' a xs:=fun i hi=>by
 obtain⟨ad,h1,h2,h3⟩:=h.below hb i hi;obtain⟨ad',h4,h5,_⟩:=h i hi;obtain rfl:=Option.some.inj (h1.symm.trans h4);exact⟨ad,h1,h2,Or.inl h5,h3⟩
def qe(B:Nat)(w:World)(cs:List Value)(l:List (List Int)):Prop :=
 cs.length=l.length/\∀i,i<l.length->∃(a:Option Addr) (cap:Nat),cs[i]?=some (.slice a (l.getD i []).length cap)/\(l.getD i []).length<=cap/\cap<=9223372036854775807/\qH B w a (l.getD i [])
theorem qe.kp{cs:List Value}{l:List (List Int)}(h:qe B w cs l)(hk:Kp B w w'):qe B w' cs l:=⟨h.1,fun i hi=>by
 obtain⟨a,cap,h1,h2,h3,h4⟩:=h.2 i hi;exact ⟨a,cap,h1,h2,h3,h4.kp hk⟩⟩
theorem qe.nil:qe B w [] []:=⟨rfl,fun i hi=>by simp at hi⟩
theorem qe.snoc{cs:List Value}{l:List (List Int)}(h:qe B w cs l){a:Option Addr}{cap:Nat}{c:List Int}(h1:c.length<=cap)(h2:cap<=9223372036854775807)(h3:qH B w a c):qe B w (cs++[.slice a c.length cap]) (l++[c]):=by
 refine⟨by simp[h.1],fun i hi=>?_⟩
 by_cases hl:i<l.length
 ·have e:(l++[c]).getD i []=l.getD i []:=by simp[List.getD_eq_getElem?_getD,List.getElem?_append_left hl]
  rw[e,List.getElem?_append_left (by rw[h.1];exact hl)];exact h.2 i hl
 ·have hi':i=l.length:=by simp at hi;omega
  subst hi';have e:(l++[c]).getD l.length []=c:=by simp[List.getD_eq_getElem?_getD]
  rw[e,List.getElem?_append_right (by rw[h.1];exact Nat.le_refl _),h.1];exact⟨a,cap,by simp,h1,h2,h3⟩
theorem qe.cls{cs:List Value}{l:List (List Int)}{a:Option Addr}{cap:Nat}(h:qe B w cs l)(hr:w.ownsRow B 127 1 (.slice a l.length cap) l.length cs):yr w a l:=by
 intro i hi;obtain⟨a',cap',h1,h2,h3,h4⟩:=h.2 i hi;rcases hr.2 with ⟨e,e0⟩|⟨g,cap2,cur,e,hB,hg,-⟩
 ·omega
 ·injection e with e1 e2 e3;subst e1 e3;refine⟨_,a',cap',rfl,(Array.getElem?_eq_some_iff.1 hg).1,?_,h2,h3,h4.ints⟩;have:=hr.cellAt i (by omega);rw[add_plain,Nat.zero_add,this,h1]
theorem qe.one{cs:List Value}{l:List (List Int)}(h:qe B w cs l):∀u∈cs,u.oneCell'=true:=fun u hu=>by
 obtain⟨i,hi,rfl⟩:=List.getElem_of_mem hu;obtain⟨a,cap,h1,_⟩:=h.2 i (by rw[<-h.1];exact hi);rw[List.getElem?_eq_getElem hi] at h1;rw[Option.some.inj h1];rfl
end
theorem qW{w:World}{B:Nat}{e T:TypeId}{size:Nat}{v:Value}{n:Nat}{xs:List Value}{b:Nat}{cs:Array Value}(hown:w.ownsRow B e size v n xs)(hb:Blk w b T cs)(hTe:T≠e):v.ownBlock≠some b:=by
 rcases hown.2 with ⟨rfl,_⟩|⟨g,cap,cur,rfl,_,hg,_⟩
 ·simp[Value.ownBlock]
 ·intro h;simp only[Value.ownBlock,Option.some.injEq] at h;subst h;rw[show w.heap[g]?=_ from hb] at hg;simp only[Option.some.injEq,Obj.cells.injEq] at hg;exact hTe hg.2.1
theorem Qp{w:World}{B:Nat}{e e2:TypeId}{size size2:Nat}{v v2:Value}{n n2:Nat}{xs xs2:List Value}(h1:w.ownsRow B e size v n xs)(h2:w.ownsRow B e2 size2 v2 n2 xs2)(hne:e≠e2):v.ownBlock=none\/v.ownBlock≠v2.ownBlock:=by
 rcases h1.2 with ⟨rfl,_⟩|⟨g,cap,cur,rfl,_,hg,_⟩
 ·exact Or.inl rfl
 ·refine Or.inr fun e'=>?_;exact qW h2 (b:=g) (cs:=cur) (T:=e) hg hne e'.symm
theorem zU{B:Nat}{w w':World}{t:TypeId}{size:Nat}{v:Value}{n:Nat}{cs:List Value}(h:w.ownsRow B t size v n cs)(hb:zB w w'):w'.ownsRow B t size v n cs:=by
 obtain⟨h1,h2⟩:=h;refine⟨h1,?_⟩;rcases h2 with h2|⟨g,cap,cur,hv,hg,hh,r⟩
 ·exact Or.inl h2
 ·exact Or.inr ⟨g,cap,cur,hv,hg,by rw[hb.block g (Array.getElem?_eq_some_iff.1 hh).1];exact hh,r⟩
end
section
open Go.RowKit Go.Deep Sv
structure qS(w:World)(v:Value)(n:Nat)(cs:List Value):Prop where
 form:∃a cap,v=.slice a n cap/\(a=none->cap=0)/\n<=cap/\cap<=9223372036854775807/\(a=none\/∃g,a=some ⟨g,0,none⟩)
 cells:0<n->∃g cap,v=.slice (some ⟨g,0,none⟩) n cap/\g<w.heap.size/\∀(j:Nat) u,cs[j]?=some u->w.cell? ⟨g,j,none⟩=some u
theorem qS.below{B:Nat}{w w':World}{v:Value}{n:Nat}{cs:List Value}(h:qS w v n cs)(hb:Below B w w')(hB:w.heap.size<=B):qS w' v n cs :=
 ⟨h.form,fun hn=>by
  obtain⟨g,cap,e,hg,hc⟩:=h.cells hn;exact ⟨g,cap,e,Nat.lt_of_lt_of_le hg hb.size,fun j u hu=>(hb.cell (p:=⟨g,j,none⟩) (by show g<B;omega)).trans (hc j u hu)⟩⟩
theorem zx{B:Nat}{w:World}{v:Value}{t:TypeId}{k n:Nat}{cs:List Value}(h:w.ownsRow B t k v n cs):qS w v n cs:=by
 have hl:=h.1;rcases h.2 with ⟨e,e0⟩|⟨g,cap,cur,e,hB,hg,hn,hm,hsz,htake⟩
 ·exact⟨⟨none,0,by rw[e,e0],fun _=>rfl,by omega,by omega,Or.inl rfl⟩,fun hi=>by omega⟩
 ·unfold maxLen at hm;refine⟨⟨_,_,e,(fun h=>by cases h),hn,hm,Or.inr ⟨g,rfl⟩⟩,fun _=>⟨g,cap,e,(h.lt g (by rw[e];rfl)).2,fun j u hu=>?_⟩⟩;have hj:=(List.getElem?_eq_some_iff.1 hu).1;rw[<-htake,List.getElem?_take,if_pos (by omega)] at hu;rw[<-hu];simp[World.cell?,hg]
def qC(x:It):List Value:=[.string x.name,.int .i64 x.a,.int .i64 x.b,.int .i64 x.c]
def zS(l:List It):List Value:=l.flatMap qC
theorem Yk(l:List It):(zS l).length=l.length*4:=by
 induction l with
 |nil=>rfl
 |cons x l ih=>unfold zS at *;rw[List.flatMap_cons,List.length_append,ih];simp[qC];omega
theorem zkm(a b:List It):zS (a++b)=zS a++zS b:=by simp[zS]
theorem QZ:∀(l:List It) (i:Nat),i<l.length->∀(j:Nat) (u:Value),(qC (l.getD i default))[j]?=some u->(zS l)[i*4+j]?=some u
 |[],i,h,_,_,_=>by simp at h
 |x :: l,0,_,j,u,hu=>by
  have hj:j<4:=by have:=(List.getElem?_eq_some_iff.1 hu).1;simpa[qC] using this
  rw[show zS (x :: l)=qC x++zS l from rfl,Nat.zero_mul,Nat.zero_add,List.getElem?_append_left (by simpa[qC] using hj)];simpa using hu
 |x :: l,i+1,h,j,u,hu=>by
  have ih:=QZ l i (by simpa using h) j u (by simpa using hu);rw[show zS (x :: l)=qC x++zS l from rfl,List.getElem?_append_right (by simp[qC];omega)];rw[show (i+1)*4+j-(qC x).length=i*4+j by simp[qC];omega];exact ih
def yJ(w:World)(v:Value)(l:List It):Prop:=qS w v l.length (zS l)
theorem yJ.at{w:World}{v:Value}{l:List It}(h:yJ w v l)(i:Nat)(hi:i<l.length):∃g cap,v=.slice (some ⟨g,0,none⟩) l.length cap/\g<w.heap.size/\w.cell? ⟨g,i*4,none⟩=some (.string (l.getD i default).name)/\w.cell? ⟨g,i*4+1,none⟩=some (.int .i64 (l.getD i default).a)/\w.cell? ⟨g,i*4+2,none⟩=some (.int .i64 (l.getD i default).b)/\w.cell? ⟨g,i*4+3,none⟩=some (.int .i64 (l.getD i default).c):=by
 obtain⟨g,cap,e,hg,hc⟩:=h.cells (by omega);exact⟨g,cap,e,hg,hc _ _ (QZ l i hi 0 _ rfl),hc _ _ (QZ l i hi 1 _ rfl),hc _ _ (QZ l i hi 2 _ rfl),hc _ _ (QZ l i hi 3 _ rfl)⟩
def ZH(x:Ln)(v:Value):List Value:=[.int .i64 x.kind,.string x.name,.int .i64 x.a,.int .i64 x.b,.int .i64 x.c,.string x.other,v]
def qd:List Ln->List Value->List Value
 |x :: l,v :: vs=>ZH x v++qd l vs
 |_,_=>[]
theorem X2:∀(l:List Ln) (vs:List Value),vs.length=l.length->(qd l vs).length=l.length*7
 |[],[],_=>rfl
 |x :: l,v :: vs,h=>by
  have:=X2 l vs (by simpa using h);rw[qd,List.length_append,this];simp[ZH];omega
 |[],v :: vs,h=>by simp at h
 |x :: l,[],h=>by simp at h
theorem zbD:∀(l:List Ln) (vs:List Value) (x:Ln) (v:Value),vs.length=l.length->qd (l++[x]) (vs++[v])=qd l vs++ZH x v
 |[],[],x,v,_=>by simp[qd]
 |y :: l,u :: vs,x,v,h=>by
  have:=zbD l vs x v (by simpa using h);simp[qd,this]
 |[],v :: vs,_,_,h=>by simp at h
 |x :: l,[],_,_,h=>by simp at h
theorem zb9:∀(l:List Ln) (vs:List Value),vs.length=l.length->∀(i:Nat),i<l.length->∀(j:Nat) (u:Value),(ZH (l.getD i default) (vs.getD i undef))[j]?=some u->(qd l vs)[i*7+j]?=some u
 |[],[],_,i,h,_,_,_=>by simp at h
 |x :: l,v :: vs,_,0,_,j,u,hu=>by
  have hj:j<7:=by have:=(List.getElem?_eq_some_iff.1 hu).1;simpa[ZH] using this
  rw[qd,Nat.zero_mul,Nat.zero_add,List.getElem?_append_left (by simpa[ZH] using hj)];simpa using hu
 |x :: l,v :: vs,hl,i+1,h,j,u,hu=>by
  have ih:=zb9 l vs (by simpa using hl) i (by simpa using h) j u (by simpa using hu);rw[qd,List.getElem?_append_right (by simp[ZH];omega)];rw[show (i+1)*7+j-(ZH x v).length=i*7+j by simp[ZH];omega];exact ih
 |[],v :: vs,h,_,_,_,_,_=>by simp at h
 |x :: l,[],h,_,_,_,_,_=>by simp at h
def qu(w:World)(l:List Ln)(vs:List Value):Prop:=vs.length=l.length/\∀i,i<l.length->zi w (vs.getD i undef) (l.getD i default).rng/\Rg (l.getD i default).rng
theorem qu.below{B:Nat}{w w':World}{l:List Ln}{vs:List Value}(h:qu w l vs)(hb:Below B w w')(hB:w.heap.size<=B):qu w' l vs:=⟨h.1,fun i hi=>⟨(h.2 i hi).1.below hb hB,(h.2 i hi).2⟩⟩
theorem zhs(w:World):qu w [] []:=⟨rfl,fun i h=>by simp at h⟩
theorem qu.snoc{w:World}{l:List Ln}{vs:List Value}(h:qu w l vs){x:Ln}{v:Value}(hv:zi w v x.rng)(hr:Rg x.rng):qu w (l++[x]) (vs++[v]):=by
 refine⟨by simp[h.1],fun i hi=>?_⟩
 by_cases hl:i<l.length
 ·have e1:(l++[x]).getD i default=l.getD i default:=by simp[List.getD_eq_getElem?_getD,List.getElem?_append_left hl]
  have e2:(vs++[v]).getD i undef=vs.getD i undef:=by simp[List.getD_eq_getElem?_getD,List.getElem?_append_left (show i<vs.length by rw[h.1];exact hl)]
  rw[e1,e2];exact h.2 i hl
 ·obtain rfl:i=l.length:=by simp at hi;omega
  have e1:(l++[x]).getD l.length default=x:=by simp[List.getD_eq_getElem?_getD]
  have e2:(vs++[v]).getD l.length undef=v:=by simp[List.getD_eq_getElem?_getD,<-h.1]
  rw[e1,e2];exact⟨hv,hr⟩
def xW(w:World)(v:Value)(l:List Ln):Prop:=∃vs,qu w l vs/\qS w v l.length (qd l vs)
theorem xW.below{B:Nat}{w w':World}{v:Value}{l:List Ln}(h:xW w v l)(hb:Below B w w')(hB:w.heap.size<=B):xW w' v l:=by
 obtain⟨vs,h1,h2⟩:=h;exact⟨vs,h1.below hb hB,h2.below hb hB⟩
theorem xW.at{w:World}{v:Value}{l:List Ln}(h:xW w v l)(i:Nat)(hi:i<l.length):∃g cap rv,v=.slice (some ⟨g,0,none⟩) l.length cap/\g<w.heap.size/\zi w rv (l.getD i default).rng/\Rg (l.getD i default).rng/\w.cell? ⟨g,i*7,none⟩=some (.int .i64 (l.getD i default).kind)/\w.cell? ⟨g,i*7+1,none⟩=some (.string (l.getD i default).name)/\w.cell? ⟨g,i*7+2,none⟩=some (.int .i64 (l.getD i default).a)/\w.cell? ⟨g,i*7+3,none⟩=some (.int .i64 (l.getD i default).b)/\w.cell? ⟨g,i*7+4,none⟩=some (.int .i64 (l.getD i default).c)/\w.cell? ⟨g,i*7+5,none⟩=some (.string (l.getD i default).other)/\w.cell? ⟨g,i*7+6,none⟩=some rv:=by
 obtain⟨vs,h1,h2⟩:=h;obtain⟨g,cap,e,hg,hc⟩:=h2.cells (by omega);have H:=fun j u hu=>hc _ _ (zb9 l vs h1.1 i hi j u hu);exact⟨g,cap,vs.getD i undef,e,hg,(h1.2 i hi).1,(h1.2 i hi).2,H 0 _ rfl,H 1 _ rfl,H 2 _ rfl,H 3 _ rfl,H 4 _ rfl,H 5 _ rfl,H 6 _ rfl⟩
end
section
open Go.RowKit Sv
theorem yB(x:Ln)(v:Value)(w:World) :
  zC 50 #[.agg #[.int .i64 x.kind,.string x.name,.int .i64 x.a,.int .i64 x.b,.int .i64 x.c,.string x.other,v]] w fun e w'=>e=.returned (.bool (decide x.pair))/\w'=w.alloc (.cells #[.int .i64 x.kind,.string x.name,.int .i64 x.a,.int .i64 x.b,.int .i64 x.c,.string x.other,v] 69):=by
 have hd:decide x.pair=(decide (x.kind=2)||decide (x.kind=3)):=by
  by_cases h2:x.kind=2<;>by_cases h3:x.kind=3<;>simp[Ln.pair,h2,h3]
 rw[hd];clear hd;generalize x.kind=k
 by_cases h2:k=2
 ·subst h2;go_enter Tryz.func50,Tryz.ntmps50;go_wp2;go_ret;exact⟨rfl,rfl⟩
 ·by_cases h3:k=3
  ·subst h3;go_enter Tryz.func50,Tryz.ntmps50;go_wp2;go_ret;exact⟨rfl,rfl⟩
  ·have e2:(k==2)=false:=by simpa using h2
   have e3:(k==3)=false:=by simpa using h3
   have HD:Hid ((decide (k=2)||decide (k=3))=false):=by show _=_;simp[h2,h3]
   go_enter Tryz.func50,Tryz.ntmps50;go_wp2;go_ret;exact⟨by rw[HD.out];rfl,rfl⟩
def wl:Nat->List UInt8
 |1=>[112,97,99,107,97,103,101]
 |2=>[110,101,101,100,115]
 |3=>[99,108,97,115,104,101,115]
 |4=>[114,111,111,116]
 |_=>[]
structure ZO(w:World):Prop where
 c0:w.cell? ⟨1,0,none⟩=some (.string ⟨#[]⟩)
 c1:w.cell? ⟨1,1,none⟩=some (.string ⟨#[112,97,99,107,97,103,101]⟩)
 c2:w.cell? ⟨1,2,none⟩=some (.string ⟨#[110,101,101,100,115]⟩)
 c3:w.cell? ⟨1,3,none⟩=some (.string ⟨#[99,108,97,115,104,101,115]⟩)
 c4:w.cell? ⟨1,4,none⟩=some (.string ⟨#[114,111,111,116]⟩)
theorem ZO.below{B:Nat}{w w':World}(h:ZO w)(hb:Below B w w')(hB:1<B):ZO w' :=
 ⟨(hb.cell (p:=⟨1,0,none⟩) hB).trans h.c0,(hb.cell (p:=⟨1,1,none⟩) hB).trans h.c1,(hb.cell (p:=⟨1,2,none⟩) hB).trans h.c2,(hb.cell (p:=⟨1,3,none⟩) hB).trans h.c3,(hb.cell (p:=⟨1,4,none⟩) hB).trans h.c4⟩
abbrev XV:Value:=.agg #[.string ⟨#[]⟩,.string ⟨#[112,97,99,107,97,103,101]⟩,.string ⟨#[110,101,101,100,115]⟩,.string ⟨#[99,108,97,115,104,101,115]⟩,.string ⟨#[114,111,111,116]⟩]
theorem wix(W:World):(Instr.index 214 XV (.int .i64 0)).run Tryz.prog W=.ok (.string ⟨#[]⟩) W/\(Instr.index 214 XV (.int .i64 1)).run Tryz.prog W=.ok (.string ⟨#[112,97,99,107,97,103,101]⟩) W/\(Instr.index 214 XV (.int .i64 2)).run Tryz.prog W=.ok (.string ⟨#[110,101,101,100,115]⟩) W/\(Instr.index 214 XV (.int .i64 3)).run Tryz.prog W=.ok (.string ⟨#[99,108,97,115,104,101,115]⟩) W/\(Instr.index 214 XV (.int .i64 4)).run Tryz.prog W=.ok (.string ⟨#[114,111,111,116]⟩) W:=by
 refine⟨?_,?_,?_,?_,?_⟩<;>kernel_rfl
theorem zio{s:ByteArray}{k:Nat}(hk:1<=k)(hk4:k<=4)(h:s.toList=wl k):q7 s=k:=by
 match k,hk,hk4,h with
 |1,_,_,h=>unfold q7;rw[h];rfl
 |2,_,_,h=>unfold q7;rw[h];rfl
 |3,_,_,h=>unfold q7;rw[h];rfl
 |4,_,_,h=>unfold q7;rw[h];rfl
theorem zcB{s:ByteArray}(h:s.toList=[]\/∀j,j<5->s.toList≠wl j):q7 s=0:=by
 rcases h with h|h
 ·unfold q7;rw[h];rfl
 ·unfold q7;have h1:s.toList≠[112,97,99,107,97,103,101]:=h 1 (by omega);have h2:s.toList≠[110,101,101,100,115]:=h 2 (by omega);have h3:s.toList≠[99,108,97,115,104,101,115]:=h 3 (by omega);have h4:s.toList≠[114,111,111,116]:=h 4 (by omega);rw[if_neg h1,if_neg h2,if_neg h3,if_neg h4]
theorem Kz(s:ByteArray)(w:World)(hw:ZO w) :
  zC 74 #[.string s] w fun e w'=>e=.returned (.int .i64 (q7 s:Nat))/\w'=w:=by
 obtain⟨c0,c1,c2,c3,c4⟩:=hw;go_enter Tryz.func74,Tryz.ntmps74;go_wp2_with fail;clear c0 c1 c2 c3 c4;go_loop [6] (fun i=>∃k:Nat,k<=5/\i=.int .i64 k/\∀j,j<k->s.toList≠wl j) (fun i=>5-(intOf i).toNat)
 case atStart=>exact⟨0,by omega,rfl,fun j h=>by omega⟩
 case round =>
  obtain⟨k,hk,rfl,hne⟩:=hrel;obtain⟨x0,x1,x2,x3,x4⟩:=wix w;have HNE:=zH hne;clear hne
  by_cases h5:k=5
  ·subst h5;have HK:Hid (q7 s=0):=zcB (Or.inr HNE.out);go_wp2;go_ret;exact⟨by rw[HK.out];rfl,rfl⟩
  ·have h4:k<5:=by omega
   clear h5 hk
   by_cases hs:s.toList=wl k
   ·have HK:Hid (q7 s=k):=by
     show _=_
     by_cases h0:k=0
     ·subst h0;exact zcB (Or.inl hs)
     ·exact zio (by omega) (by omega) hs
    match k,h4 with
    |0,_ =>
     have hb:(([]:List UInt8)==s.toList)=true:=by rw[hs];rfl
     have hb2:s.toList.isEmpty=true:=by rw[hs];rfl
     clear hs;go_wp2;go_ret;exact⟨by rw[HK.out];rfl,rfl⟩
    |1,_ =>
     have hb:([112,97,99,107,97,103,101]==s.toList)=true:=by rw[hs];rfl
     clear hs;go_wp2;go_ret;exact⟨by rw[HK.out];rfl,rfl⟩
    |2,_ =>
     have hb:([110,101,101,100,115]==s.toList)=true:=by rw[hs];rfl
     clear hs;go_wp2;go_ret;exact⟨by rw[HK.out];rfl,rfl⟩
    |3,_ =>
     have hb:([99,108,97,115,104,101,115]==s.toList)=true:=by rw[hs];rfl
     clear hs;go_wp2;go_ret;exact⟨by rw[HK.out];rfl,rfl⟩
    |4,_ =>
     have hb:([114,111,111,116]==s.toList)=true:=by rw[hs];rfl
     clear hs;go_wp2;go_ret;exact⟨by rw[HK.out];rfl,rfl⟩
   ·have HN2:Hid (∀j,j<k+1->s.toList≠wl j):=fun j hj=>by
     rcases Nat.lt_succ_iff_lt_or_eq.1 hj with h|h
     ·exact HNE.out j h
     ·rw[h];exact hs
    have hs':(wl k==s.toList)=false:=by rw[beq_eq_false_iff_ne];exact fun e=>hs e.symm
    clear hs
    match k,h4 with
    |0,_ =>
     have hb:(([]:List UInt8)==s.toList)=false:=hs';have hb2:s.toList.isEmpty=false:=by
      cases h:s.toList with
      |nil=>rw[h] at hb;cases hb
      |cons a t=>rfl
     clear hs';go_wp2;go_round
     case rel=>exact⟨1,by omega,rfl,HN2.out⟩
     case measure=>simp[intOf]
    |1,_ =>
     have hb:([112,97,99,107,97,103,101]==s.toList)=false:=hs';clear hs';go_wp2;go_round
     case rel=>exact⟨2,by omega,rfl,HN2.out⟩
     case measure=>simp[intOf]
    |2,_ =>
     have hb:([110,101,101,100,115]==s.toList)=false:=hs';clear hs';go_wp2;go_round
     case rel=>exact⟨3,by omega,rfl,HN2.out⟩
     case measure=>simp[intOf]
    |3,_ =>
     have hb:([99,108,97,115,104,101,115]==s.toList)=false:=hs';clear hs';go_wp2;go_round
     case rel=>exact⟨4,by omega,rfl,HN2.out⟩
     case measure=>simp[intOf]
    |4,_ =>
     have hb:([114,111,111,116]==s.toList)=false:=hs';clear hs';go_wp2;go_round
     case rel=>exact⟨5,by omega,rfl,HN2.out⟩
     case measure=>simp[intOf]
end
end Go.Proofs.YtlmmkbnjhilbdaaGreatDoor
