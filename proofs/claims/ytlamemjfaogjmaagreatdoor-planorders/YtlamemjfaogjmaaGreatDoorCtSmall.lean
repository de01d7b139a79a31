/- pair, kind. -/
import Derived.Test.YtlamemjfaogjmaaGreatDoorSvHas
set_option maxHeartbeats 1000000
set_option maxRecDepth 100000
namespace Go.Proofs.YtlamemjfaogjmaaGreatDoor
section
open Go.RowKit Sv
def qg(x y:Int):Int:=if x<y then -1 else if y<x then 1 else 0
theorem K6(x:Int)(w:World):zC 175 #[.int .i64 x] w fun e w'=>e=.returned (.bool false)/\w'=w:=by
 go_enter Tryz.func175,Tryz.ntmps175;go_wp2;go_ret;exact⟨rfl,rfl⟩
theorem zeq(x y:Int)(w:World):zC 154 #[.int .i64 x,.int .i64 y] w fun e w'=>e=.returned (.int .i64 (qg x y))/\w'=w:=by
 have H1:Hid (∀W,zC 175 #[.int .i64 x] W fun e w'=>e=.returned (.bool false)/\w'=W):=fun W=>K6 x W;have H2:Hid (∀W,zC 175 #[.int .i64 y] W fun e w'=>e=.returned (.bool false)/\w'=W):=fun W=>K6 y W
 by_cases h:x<y
 ·have HC:Hid (qg x y=-1):=by show _=_;unfold qg;rw[if_pos h]
  go_enter Tryz.func154,Tryz.ntmps154;go_wp2_with fail;refine(H1.out _).mono ?_;rintro e w1 ⟨rfl,rfl⟩;go_wp2_with fail;refine(H2.out _).mono ?_;rintro e w2 ⟨rfl,rfl⟩;go_wp2;go_ret;exact⟨by rw[HC.out];rfl,rfl⟩
 ·by_cases h':y<x
  ·have HC:Hid (qg x y=1):=by show _=_;unfold qg;rw[if_neg h,if_pos h']
   go_enter Tryz.func154,Tryz.ntmps154;go_wp2_with fail;refine(H1.out _).mono ?_;rintro e w1 ⟨rfl,rfl⟩;go_wp2_with fail;refine(H2.out _).mono ?_;rintro e w2 ⟨rfl,rfl⟩;go_wp2;go_ret;exact⟨by rw[HC.out];rfl,rfl⟩
  ·have HC:Hid (qg x y=0):=by show _=_;unfold qg;rw[if_neg h,if_neg h']
   go_enter Tryz.func154,Tryz.ntmps154;go_wp2_with fail;refine(H1.out _).mono ?_;rintro e w1 ⟨rfl,rfl⟩;go_wp2_with fail;refine(H2.out _).mono ?_;rintro e w2 ⟨rfl,rfl⟩;go_wp2;go_ret;exact⟨by rw[HC.out];rfl,rfl⟩
def qp(x y:Nat->Int):Nat->Int
 |0=>0
 |n+1=>if qg (x (2-n)) (y (2-n))≠0 then qg (x (2-n)) (y (2-n)) else qp x y n
end
section
open Go.RowKit Sv
def tI(a b c:Int)(j:Nat):Int:=if j=0 then a else if j=1 then b else c
end
section
open Go.RowKit Go.Sort Sv
def Gr(w w':World):Prop:=∃q os,w'=grow (w.drewN q) os
theorem Gr.refl(w:World):Gr w w:=⟨0,#[],by rw[grow_empty];rfl⟩
theorem zgZ(w:World)(os:Array Obj)(q:Nat):(grow w os).drewN q=grow (w.drewN q) os:=rfl
theorem zbq(w:World)(p q:Nat):(w.drewN p).drewN q=w.drewN (p+q):=by unfold World.drewN;simp[Nat.add_assoc]
theorem Gr.trans{a b c:World}(h:Gr a b)(k:Gr b c):Gr a c:=by
 obtain⟨q,os,rfl⟩:=h;obtain⟨q',os',rfl⟩:=k;exact⟨q+q',os++os',by rw[zgZ,zbq,grow_grow]⟩
theorem Gr.alloc{a b:World}(h:Gr a b)(o:Obj):Gr a (b.alloc o):=h.trans ⟨0,#[o],by rw[alloc_eq_grow];rfl⟩
theorem Gr.drew{a b:World}(h:Gr a b):Gr a b.drew:=h.trans ⟨1,#[],by rw[grow_empty];rfl⟩
theorem Gr.below{a b:World}(h:Gr a b):zB a b:=by
 obtain⟨q,os,rfl⟩:=h;refine⟨rfl,rfl,rfl,by simp[grow,World.drewN],fun k hk=>?_⟩;show (a.heap++os)[k]?=a.heap[k]?;rw[Array.getElem?_append_left hk]
theorem zcM(x y:Nat->Int)(bx bv:Nat)(w:World)(lx:bx<w.heap.size)(ly:bv<w.heap.size)(hx:∀j,j<3->w.cell? ⟨bx,j,none⟩=some (.int .i64 (x j)))(hy:∀j,j<3->w.cell? ⟨bv,j,none⟩=some (.int .i64 (y j))) :
  zC 127 #[.slice (some ⟨bx,0,none⟩) 3 3,.slice (some ⟨bv,0,none⟩) 3 3] w fun e w'=>e=.returned (.int .i64 (qp x y 3))/\Gr w w':=by
 have HC:Hid (∀X Y W,zC 154 #[.int .i64 X,.int .i64 Y] W fun e w'=>e=.returned (.int .i64 (qg X Y))/\w'=W):=fun X Y W=>zeq X Y W;have hcell:Hid ((∀W,zB w W->∀j,j<3->W.cell? ⟨bx,j,none⟩=some (.int .i64 (x j)))/\(∀W,zB w W->∀j,j<3->W.cell? ⟨bv,j,none⟩=some (.int .i64 (y j)))):=⟨fun W hb j hj=>(hb.cell (p:=⟨bx,j,none⟩) lx).trans (hx j hj),fun W hb j hj=>(hb.cell (p:=⟨bv,j,none⟩) ly).trans (hy j hj)⟩;clear hx hy lx ly;go_enter Tryz.func127,Tryz.ntmps127;go_wp2_with fail;go_loopw [11] (fun iV wr=>∃k:Nat,k<=3/\iV=.int .i64 k/\qp x y 3=qp x y (3-k)/\Gr w wr) (fun iV _=>3-(intOf iV).toNat)
 case atStart=>exact⟨0,by omega,rfl,rfl,Gr.refl _⟩
 case round =>
  obtain⟨k,hk,rfl,heq,hbr⟩:=hrel;have HE:=zH heq;have HBR:=zH hbr;clear heq hbr
  by_cases hlt:k<3
  ·have c0:=hcell.out.1 _ HBR.out.below k hlt;have c1:=hcell.out.2 _ HBR.out.below k hlt;have HS:Hid (qp x y (3-k)=if qg (x k) (y k)≠0 then qg (x k) (y k) else qp x y (3-(k+1))):=by
    show _=_
    match k,hlt with
    |0,_=>rfl
    |1,_=>rfl
    |2,_=>rfl
   generalize x k=X at *;generalize y k=Y at *;go_wp2_with fail;refine(HC.out _ _ _).mono ?_;rintro e w1 ⟨rfl,rfl⟩;generalize qg X Y=Z at *
   by_cases hz:Z=0
   ·subst hz;go_wp2;go_roundw
    case rel=>exact⟨k+1,by omega,by go_num,by rw[HE.out,HS.out,if_neg (by simp)],HBR.out⟩
    case measure=>simp[intOf];omega
   ·have hz2:(Z==0)=false:=by rw[beq_eq_false_iff_ne];exact hz
    go_wp2;go_ret;exact⟨by rw[HE.out,HS.out,if_pos hz];rfl,HBR.out⟩
  ·obtain rfl:k=3:=by omega
   go_wp2;go_ret;exact⟨by rw[HE.out];rfl,HBR.out⟩
theorem zhb(a b c d e f:Int)(w:World) :
  zC 99 #[.agg #[.int .i64 a,.int .i64 b,.int .i64 c],.agg #[.int .i64 d,.int .i64 e,.int .i64 f]] w fun r w'=>r=.returned (.int .i64 (qp (tI a b c) (tI d e f) 3))/\Gr w w':=by
 have kv:=(Blk.new w 87 #[.int .i64 a,.int .i64 b,.int .i64 c]).alloc (.cells #[.int .i64 d,.int .i64 e,.int .i64 f] 87);have kw:=Blk.new (w.alloc (.cells #[.int .i64 a,.int .i64 b,.int .i64 c] 87)) 87 #[.int .i64 d,.int .i64 e,.int .i64 f];rw[World.size_alloc] at kw;have hB0:Gr w ((w.alloc (.cells #[.int .i64 a,.int .i64 b,.int .i64 c] 87)).alloc (.cells #[.int .i64 d,.int .i64 e,.int .i64 f] 87)):=((Gr.refl w).alloc _).alloc _;have HX:Hid (zC 127 #[.slice (some ⟨w.heap.size,0,none⟩) 3 3,.slice (some ⟨w.heap.size+1,0,none⟩) 3 3] ((w.alloc (.cells #[.int .i64 a,.int .i64 b,.int .i64 c] 87)).alloc (.cells #[.int .i64 d,.int .i64 e,.int .i64 f] 87)).drew fun r w'=>r=.returned (.int .i64 (qp (tI a b c) (tI d e f) 3))/\Gr w w'):=by
  generalize (w.alloc (.cells #[.int .i64 a,.int .i64 b,.int .i64 c] 87)).alloc (.cells #[.int .i64 d,.int .i64 e,.int .i64 f] 87)=W0 at *;have hd:zB W0 W0.drew:=zF.drew;have kv2:=kv.below hd kv.lt;have kw2:=kw.below hd kw.lt;refine(zcM (tI a b c) (tI d e f) w.heap.size (w.heap.size+1) W0.drew kv2.lt kw2.lt ?_ ?_).mono ?_
  ·intro j hj;rw[kv2.cell j]
   match j,hj with
   |0,_=>rfl
   |1,_=>rfl
   |2,_=>rfl
  ·intro j hj;rw[kw2.cell j]
   match j,hj with
   |0,_=>rfl
   |1,_=>rfl
   |2,_=>rfl
  ·rintro r w1 ⟨h1,h2⟩;have hb:Gr w W0.drew:=hB0.drew;exact⟨h1,hb.trans h2⟩
 clear kv kw hB0;go_enter Tryz.func99,Tryz.ntmps99;go_wp2_with fail;go_region_held3 (fun _=>True) (exact trivial)
  (((with_reducible refine HX.out.mono ?_);rintro r w1 ⟨rfl,hb1⟩;have HB1:=zH hb1;clear hb1))
 go_wp2;go_ret;exact⟨rfl,HB1.out⟩
end
section
open Sv
instance lawfulBA:LawfulBEq ByteArray where
 eq_of_beq {a b} h:=ByteArray.ext (eq_of_beq (show (a.data==b.data)=true from h))
 rfl {a}:=beq_self_eq_true a.data
structure Ln where
 kind:Int
 name:ByteArray
 a:Int
 b:Int
 c:Int
 other:ByteArray
 rng:List Span
structure It where
 name:ByteArray
 a:Int
 b:Int
 c:Int
deriving DecidableEq,Inhabited
instance:Inhabited Ln:=⟨⟨0,⟨#[]⟩,0,0,0,⟨#[]⟩,[]⟩⟩
def Ln.it(x:Ln):It:=⟨x.name,x.a,x.b,x.c⟩
def Ln.pair(x:Ln):Prop:=x.kind=2\/x.kind=3
instance (x:Ln):Decidable x.pair:=inferInstanceAs (Decidable (_\/_))
def cutF(s:ByteArray)(c:UInt8):ByteArray × ByteArray:=(⟨(Lib.cut s.data.toList [c]).1.toArray⟩,⟨(Lib.cut s.data.toList [c]).2.1.toArray⟩)
theorem cutF_size(s:ByteArray)(c:UInt8):(cutF s c).1.size<=s.size/\(cutF s c).2.size<=s.size:=by
 unfold cutF Lib.cut;have hl:s.data.toList.length=s.size:=by simp
 split
 ·simp only[ByteArray.size,List.size_toArray,List.length_take,List.length_drop,Array.length_toList];omega
 ·simp only[ByteArray.size,List.size_toArray,Array.length_toList,List.length_nil];omega
def kindF(w:ByteArray):Nat :=
 if w.toList=[112,97,99,107,97,103,101] then 1 else if w.toList=[110,101,101,100,115] then 2 else if w.toList=[99,108,97,115,104,101,115] then 3 else if w.toList=[114,111,111,116] then 4 else 0
theorem kindF_le(w:ByteArray):kindF w<=4:=by
 unfold kindF
 repeat' split
 all_goals omega
def rngF(s:ByteArray):Except (Int × Option Nat) (List Span) :=
 if 1000<s.size then .error (4,none) else match yH s with
  |.error (k,p)=>.error (k,some p)
  |.ok l=>.ok l
def tailF(k:Nat)(name:ByteArray)(ns:List Nat)(other rest:ByteArray):Except (Int × Option Nat) Ln :=
 match rngF rest with
 |.error e=>.error e
 |.ok l=>.ok ⟨(k:Int),name,((ns.getD 0 0:Nat):Int),((ns.getD 1 0:Nat):Int),((ns.getD 2 0:Nat):Int),other,l⟩
def lineF(s:ByteArray):Except (Int × Option Nat) Ln :=
 if kindF (cutF s 32).1=0 then .error (3,none)
 else if kindF (cutF s 32).1=4 then tailF 4 (cutF (cutF s 32).2 32).1 [] ⟨#[]⟩ (cutF (cutF s 32).2 32).2
 else match versF (cutF (cutF (cutF s 32).2 32).2 32).1 with
  |.error e=>.error (e,none)
  |.ok ns =>
   if kindF (cutF s 32).1=1 then
    if (cutF (cutF (cutF s 32).2 32).2 32).2.size=0 then .ok ⟨1,(cutF (cutF s 32).2 32).1,((ns.getD 0 0:Nat):Int),((ns.getD 1 0:Nat):Int),((ns.getD 2 0:Nat):Int),⟨#[]⟩,[]⟩ else .error (3,none)
   else tailF (kindF (cutF s 32).1) (cutF (cutF s 32).2 32).1 ns (cutF (cutF (cutF (cutF s 32).2 32).2 32).2 32).1 (cutF (cutF (cutF (cutF s 32).2 32).2 32).2 32).2
def qu(s:ByteArray):Nat->Nat->List (Nat × ByteArray)
 |0,_=>[]
 |f+1,k=>if s.size<=k then [] else
  (if (cutF (s.extract k s.size) 10).1.size=0 then [] else [(k,(cutF (s.extract k s.size) 10).1)])++qu s f (k+(cutF (s.extract k s.size) 10).1.size+1)
def plF:List (Nat × ByteArray)->List (Nat × Ln)->Except (Int × Nat) (List (Nat × Ln))
 |[],acc=>.ok acc
 |x :: r,acc=>match lineF x.2 with
  |.error e=>.error (e.1,x.1)
  |.ok l=>plF r (acc++[(x.1,l)])
theorem QV(l r:List (Nat × ByteArray)):∀(acc:List (Nat × Ln)),plF (l++r) acc=match plF l acc with
  |.error e=>.error e
  |.ok acc'=>plF r acc':=by
 induction l with
 |nil=>intro acc;rfl
 |cons x l ih =>
  intro acc;rw[List.cons_append,plF,plF];split
  ·rfl
  ·exact ih _
theorem zda:∀(l:List (Nat × ByteArray)) (acc:List (Nat × Ln)) (out:List (Nat × Ln)),plF l acc=.ok out->out.length=acc.length+l.length:=by
 intro l
 induction l with
 |nil=>intro acc out h;cases h;rfl
 |cons x l ih =>
  intro acc out h;unfold plF at h;split at h
  ·cases h
  ·have:=ih _ _ h;simp at this ⊢;omega
def InV(a b c:Int):Prop:=(0<=a/\a<=999)/\(0<=b/\b<=999)/\0<=c/\c<=999
instance (a b c:Int):Decidable (InV a b c):=inferInstanceAs (Decidable (_/\_))
open Classical in
noncomputable def zM(x:Ln):Int :=
 if x.kind<1\/4<x.kind then 1
 else if ¬zh x.name\/(x.pair/\¬zh x.other) then 5
 else if ¬x.pair/\x.other.size≠0 then 1
 else if x.kind=1/\x.rng≠[] then 1
 else if x.kind=4/\(x.a≠0\/x.b≠0\/x.c≠0) then 1
 else if ¬InV x.a x.b x.c then 2 else 0
def qD(l:List It):Nat:=((l.map It.name).eraseDups).length
noncomputable def zE:List Ln->Nat->List It->Except (Int × Nat) (List It)
 |[],_,its=>.ok its
 |x :: r,i,its =>
  if zM x≠0 then .error (zM x,i)
  else if x.kind=1 then
   if x.it∈its then .error (9,i)
   else if 8<qD (its++[x.it])\/its.length=24 then .error (4,i)
   else zE r (i+1) (its++[x.it])
  else zE r (i+1) its
def zw(x y:It):Int:=if x.name.toList=y.name.toList then qp (tI y.a y.b y.c) (tI x.a x.b x.c) 3 else Lib.compareBytes x.name.data.toList y.name.data.toList
def qq(l:List It):List It:=l.mergeSort fun x y=>!decide (zw y x<0)
def zI:List Ln->Nat->List It->Option Nat
 |[],_,_=>none
 |x :: r,i,its=>if x.pair/\x.it∉its then some i else zI r (i+1) its
noncomputable def zk(ls:List Ln):Except (Int × Option Nat) (List It) :=
 if 100<ls.length then .error (4,none)
 else match zE ls 0 [] with
  |.error e=>.error (e.1,some e.2)
  |.ok its=>match zI ls 0 (qq its) with
   |some i=>.error (7,some i)
   |none=>.ok (qq its)
noncomputable def qP(s:ByteArray):Except (Int × Option Nat) (List Ln × List It) :=
 if 20000<s.size then .error (4,none)
 else match plF (qu s s.size 0) [] with
  |.error e=>.error (e.1,some e.2)
  |.ok ps=>match zk (ps.map Prod.snd) with
   |.error (e,none)=>.error (e,none)
   |.error (e,some i)=>.error (e,some ((ps.map Prod.fst).getD i 0))
   |.ok its=>.ok (ps.map Prod.snd,its)
def qv(its:List It)(name:ByteArray):Option (Nat × Nat) :=
 its.zipIdx.foldl (fun r x=>if x.1.name=name then some ((r.map Prod.fst).getD x.2,x.2+1) else r) none
theorem Y8(l:List It)(x:It)(name:ByteArray):qv (l++[x]) name=if x.name=name then some (((qv l name).map Prod.fst).getD l.length,l.length+1) else qv l name:=by
 unfold qv;rw[List.zipIdx_append,List.foldl_append];simp
def qo(its:List It)(name:ByteArray):Nat × Nat:=(qv its name).getD (0,0)
def qL(rng:List Span)(x:It):Prop:=InV x.a x.b x.c/\mem rng (yV x.a.toNat x.b.toNat x.c.toNat)
open Classical in
noncomputable def zO(its:List It)(name:ByteArray)(rng:List Span):List Nat :=
 (List.range' (qo its name).1 ((qo its name).2-(qo its name).1)).filter fun i=>decide (qL rng (its.getD i default))
def zJ(its:List It)(x:It):Int:=match its.findIdx? (fun y=>decide (x=y)) with|some i=>(i:Int)|none=>-1
end
section
open Go.RowKit Go.Deep Sv
structure qt(w:World)(v:Value)(n:Nat)(cs:List Value):Prop where
 form:∃a cap,v=.slice a n cap/\(a=none->cap=0)/\n<=cap/\cap<=9223372036854775807/\(a=none\/∃g,a=some ⟨g,0,none⟩)
 cells:0<n->∃g cap,v=.slice (some ⟨g,0,none⟩) n cap/\g<w.heap.size/\∀(j:Nat) u,cs[j]?=some u->w.cell? ⟨g,j,none⟩=some u
theorem qt.below{B:Nat}{w w':World}{v:Value}{n:Nat}{cs:List Value}(h:qt w v n cs)(hb:Below B w w')(hB:w.heap.size<=B):qt w' v n cs :=
 ⟨h.form,fun hn=>by
  obtain⟨g,cap,e,hg,hc⟩:=h.cells hn;exact ⟨g,cap,e,Nat.lt_of_lt_of_le hg hb.size,fun j u hu=>(hb.cell (p:=⟨g,j,none⟩) (by show g<B;omega)).trans (hc j u hu)⟩⟩
theorem zD{B:Nat}{w:World}{v:Value}{t:TypeId}{k n:Nat}{cs:List Value}(h:w.ownsRow B t k v n cs):qt w v n cs:=by
 have hl:=h.1;rcases h.2 with ⟨e,e0⟩|⟨g,cap,cur,e,hB,hg,hn,hm,hsz,htake⟩
 ·exact⟨⟨none,0,by rw[e,e0],fun _=>rfl,by omega,by omega,Or.inl rfl⟩,fun hi=>by omega⟩
 ·unfold maxLen at hm;refine⟨⟨_,_,e,(fun h=>by cases h),hn,hm,Or.inr ⟨g,rfl⟩⟩,fun _=>⟨g,cap,e,(h.lt g (by rw[e];rfl)).2,fun j u hu=>?_⟩⟩;have hj:=(List.getElem?_eq_some_iff.1 hu).1;rw[<-htake,List.getElem?_take,if_pos (by omega)] at hu;rw[<-hu];simp[World.cell?,hg]
def zr(x:It):List Value:=[.string x.name,.int .i64 x.a,.int .i64 x.b,.int .i64 x.c]
def zf(l:List It):List Value:=l.flatMap zr
theorem yr(l:List It):(zf l).length=l.length*4:=by
 induction l with
 |nil=>rfl
 |cons x l ih=>unfold zf at *;rw[List.flatMap_cons,List.length_append,ih];simp[zr];omega
theorem Q9(a b:List It):zf (a++b)=zf a++zf b:=by simp[zf]
theorem Zb:∀(l:List It) (i:Nat),i<l.length->∀(j:Nat) (u:Value),(zr (l.getD i default))[j]?=some u->(zf l)[i*4+j]?=some u
 |[],i,h,_,_,_=>by simp at h
 |x :: l,0,_,j,u,hu=>by
  have hj:j<4:=by have:=(List.getElem?_eq_some_iff.1 hu).1;simpa[zr] using this
  rw[show zf (x :: l)=zr x++zf l from rfl,Nat.zero_mul,Nat.zero_add,List.getElem?_append_left (by simpa[zr] using hj)];simpa using hu
 |x :: l,i+1,h,j,u,hu=>by
  have ih:=Zb l i (by simpa using h) j u (by simpa using hu);rw[show zf (x :: l)=zr x++zf l from rfl,List.getElem?_append_right (by simp[zr];omega)];rw[show (i+1)*4+j-(zr x).length=i*4+j by simp[zr];omega];exact ih
def zS(w:World)(v:Value)(l:List It):Prop:=qt w v l.length (zf l)
theorem zS.at{w:World}{v:Value}{l:List It}(h:zS w v l)(i:Nat)(hi:i<l.length):∃g cap,v=.slice (some ⟨g,0,none⟩) l.length cap/\g<w.heap.size/\w.cell? ⟨g,i*4,none⟩=some (.string (l.getD i default).name)/\w.cell? ⟨g,i*4+1,none⟩=some (.int .i64 (l.getD i default).a)/\w.cell? ⟨g,i*4+2,none⟩=some (.int .i64 (l.getD i default).b)/\w.cell? ⟨g,i*4+3,none⟩=some (.int .i64 (l.getD i default).c):=by
 obtain⟨g,cap,e,hg,hc⟩:=h.cells (by omega);exact⟨g,cap,e,hg,hc _ _ (Zb l i hi 0 _ rfl),hc _ _ (Zb l i hi 1 _ rfl),hc _ _ (Zb l i hi 2 _ rfl),hc _ _ (Zb l i hi 3 _ rfl)⟩
def yQ(x:Ln)(v:Value):List Value:=[.int .i64 x.kind,.string x.name,.int .i64 x.a,.int .i64 x.b,.int .i64 x.c,.string x.other,v]
def zG:List Ln->List Value->List Value
 |x :: l,v :: vs=>yQ x v++zG l vs
 |_,_=>[]
theorem QL:∀(l:List Ln) (vs:List Value),vs.length=l.length->(zG l vs).length=l.length*7
 |[],[],_=>rfl
 |x :: l,v :: vs,h=>by
  have:=QL l vs (by simpa using h);rw[zG,List.length_append,this];simp[yQ];omega
 |[],v :: vs,h=>by simp at h
 |x :: l,[],h=>by simp at h
theorem Xi:∀(l:List Ln) (vs:List Value) (x:Ln) (v:Value),vs.length=l.length->zG (l++[x]) (vs++[v])=zG l vs++yQ x v
 |[],[],x,v,_=>by simp[zG]
 |y :: l,u :: vs,x,v,h=>by
  have:=Xi l vs x v (by simpa using h);simp[zG,this]
 |[],v :: vs,_,_,h=>by simp at h
 |x :: l,[],_,_,h=>by simp at h
theorem Y9:∀(l:List Ln) (vs:List Value),vs.length=l.length->∀(i:Nat),i<l.length->∀(j:Nat) (u:Value),(yQ (l.getD i default) (vs.getD i undef))[j]?=some u->(zG l vs)[i*7+j]?=some u
 |[],[],_,i,h,_,_,_=>by simp at h
 |x :: l,v :: vs,_,0,_,j,u,hu=>by
  have hj:j<7:=by have:=(List.getElem?_eq_some_iff.1 hu).1;simpa[yQ] using this
  rw[zG,Nat.zero_mul,Nat.zero_add,List.getElem?_append_left (by simpa[yQ] using hj)];simpa using hu
 |x :: l,v :: vs,hl,i+1,h,j,u,hu=>by
  have ih:=Y9 l vs (by simpa using hl) i (by simpa using h) j u (by simpa using hu);rw[zG,List.getElem?_append_right (by simp[yQ];omega)];rw[show (i+1)*7+j-(yQ x v).length=i*7+j by simp[yQ];omega];exact ih
 |[],v :: vs,h,_,_,_,_,_=>by simp at h
 |x :: l,[],h,_,_,_,_,_=>by simp at h
def zY(w:World)(l:List Ln)(vs:List Value):Prop:=vs.length=l.length/\∀i,i<l.length->zb w (vs.getD i undef) (l.getD i default).rng/\Rg (l.getD i default).rng
theorem zY.below{B:Nat}{w w':World}{l:List Ln}{vs:List Value}(h:zY w l vs)(hb:Below B w w')(hB:w.heap.size<=B):zY w' l vs:=⟨h.1,fun i hi=>⟨(h.2 i hi).1.below hb hB,(h.2 i hi).2⟩⟩
theorem zep(w:World):zY w [] []:=⟨rfl,fun i h=>by simp at h⟩
theorem zY.snoc{w:World}{l:List Ln}{vs:List Value}(h:zY w l vs){x:Ln}{v:Value}(hv:zb w v x.rng)(hr:Rg x.rng):zY w (l++[x]) (vs++[v]):=by
 refine⟨by simp[h.1],fun i hi=>?_⟩
 by_cases hl:i<l.length
 ·have e1:(l++[x]).getD i default=l.getD i default:=by simp[List.getD_eq_getElem?_getD,List.getElem?_append_left hl]
  have e2:(vs++[v]).getD i undef=vs.getD i undef:=by simp[List.getD_eq_getElem?_getD,List.getElem?_append_left (show i<vs.length by rw[h.1];exact hl)]
  rw[e1,e2];exact h.2 i hl
 ·obtain rfl:i=l.length:=by simp at hi;omega
  have e1:(l++[x]).getD l.length default=x:=by simp[List.getD_eq_getElem?_getD]
  have e2:(vs++[v]).getD l.length undef=v:=by simp[List.getD_eq_getElem?_getD,<-h.1]
  rw[e1,e2];exact⟨hv,hr⟩
def yI(w:World)(v:Value)(l:List Ln):Prop:=∃vs,zY w l vs/\qt w v l.length (zG l vs)
theorem yI.below{B:Nat}{w w':World}{v:Value}{l:List Ln}(h:yI w v l)(hb:Below B w w')(hB:w.heap.size<=B):yI w' v l:=by
 obtain⟨vs,h1,h2⟩:=h;exact⟨vs,h1.below hb hB,h2.below hb hB⟩
theorem yI.at{w:World}{v:Value}{l:List Ln}(h:yI w v l)(i:Nat)(hi:i<l.length):∃g cap rv,v=.slice (some ⟨g,0,none⟩) l.length cap/\g<w.heap.size/\zb w rv (l.getD i default).rng/\Rg (l.getD i default).rng/\w.cell? ⟨g,i*7,none⟩=some (.int .i64 (l.getD i default).kind)/\w.cell? ⟨g,i*7+1,none⟩=some (.string (l.getD i default).name)/\w.cell? ⟨g,i*7+2,none⟩=some (.int .i64 (l.getD i default).a)/\w.cell? ⟨g,i*7+3,none⟩=some (.int .i64 (l.getD i default).b)/\w.cell? ⟨g,i*7+4,none⟩=some (.int .i64 (l.getD i default).c)/\w.cell? ⟨g,i*7+5,none⟩=some (.string (l.getD i default).other)/\w.cell? ⟨g,i*7+6,none⟩=some rv:=by
 obtain⟨vs,h1,h2⟩:=h;obtain⟨g,cap,e,hg,hc⟩:=h2.cells (by omega);have H:=fun j u hu=>hc _ _ (Y9 l vs h1.1 i hi j u hu);exact⟨g,cap,vs.getD i undef,e,hg,(h1.2 i hi).1,(h1.2 i hi).2,H 0 _ rfl,H 1 _ rfl,H 2 _ rfl,H 3 _ rfl,H 4 _ rfl,H 5 _ rfl,H 6 _ rfl⟩
end
section
open Go.RowKit Sv
theorem qF(x:Ln)(v:Value)(w:World) :
  zC 59 #[.agg #[.int .i64 x.kind,.string x.name,.int .i64 x.a,.int .i64 x.b,.int .i64 x.c,.string x.other,v]] w fun e w'=>e=.returned (.bool (decide x.pair))/\w'=w.alloc (.cells #[.int .i64 x.kind,.string x.name,.int .i64 x.a,.int .i64 x.b,.int .i64 x.c,.string x.other,v] 92):=by
 have hd:decide x.pair=(decide (x.kind=2)||decide (x.kind=3)):=by
  by_cases h2:x.kind=2<;>by_cases h3:x.kind=3<;>simp[Ln.pair,h2,h3]
 rw[hd];clear hd;generalize x.kind=k
 by_cases h2:k=2
 ·subst h2;go_enter Tryz.func59,Tryz.ntmps59;go_wp2;go_ret;exact⟨rfl,rfl⟩
 ·by_cases h3:k=3
  ·subst h3;go_enter Tryz.func59,Tryz.ntmps59;go_wp2;go_ret;exact⟨rfl,rfl⟩
  ·have e2:(k==2)=false:=by simpa using h2
   have e3:(k==3)=false:=by simpa using h3
   have HD:Hid ((decide (k=2)||decide (k=3))=false):=by show _=_;simp[h2,h3]
   go_enter Tryz.func59,Tryz.ntmps59;go_wp2;go_ret;exact⟨by rw[HD.out];rfl,rfl⟩
def wl:Nat->List UInt8
 |1=>[112,97,99,107,97,103,101]
 |2=>[110,101,101,100,115]
 |3=>[99,108,97,115,104,101,115]
 |4=>[114,111,111,116]
 |_=>[]
structure xg(w:World):Prop where
 c0:w.cell? ⟨2,0,none⟩=some (.string ⟨#[]⟩)
 c1:w.cell? ⟨2,1,none⟩=some (.string ⟨#[112,97,99,107,97,103,101]⟩)
 c2:w.cell? ⟨2,2,none⟩=some (.string ⟨#[110,101,101,100,115]⟩)
 c3:w.cell? ⟨2,3,none⟩=some (.string ⟨#[99,108,97,115,104,101,115]⟩)
 c4:w.cell? ⟨2,4,none⟩=some (.string ⟨#[114,111,111,116]⟩)
theorem xg.below{B:Nat}{w w':World}(h:xg w)(hb:Below B w w')(hB:2<B):xg w' :=
 ⟨(hb.cell (p:=⟨2,0,none⟩) hB).trans h.c0,(hb.cell (p:=⟨2,1,none⟩) hB).trans h.c1,(hb.cell (p:=⟨2,2,none⟩) hB).trans h.c2,(hb.cell (p:=⟨2,3,none⟩) hB).trans h.c3,(hb.cell (p:=⟨2,4,none⟩) hB).trans h.c4⟩
abbrev ZJ:Value:=.agg #[.string ⟨#[]⟩,.string ⟨#[112,97,99,107,97,103,101]⟩,.string ⟨#[110,101,101,100,115]⟩,.string ⟨#[99,108,97,115,104,101,115]⟩,.string ⟨#[114,111,111,116]⟩]
theorem wix(W:World):(Instr.index 167 ZJ (.int .i64 0)).run Tryz.prog W=.ok (.string ⟨#[]⟩) W/\(Instr.index 167 ZJ (.int .i64 1)).run Tryz.prog W=.ok (.string ⟨#[112,97,99,107,97,103,101]⟩) W/\(Instr.index 167 ZJ (.int .i64 2)).run Tryz.prog W=.ok (.string ⟨#[110,101,101,100,115]⟩) W/\(Instr.index 167 ZJ (.int .i64 3)).run Tryz.prog W=.ok (.string ⟨#[99,108,97,115,104,101,115]⟩) W/\(Instr.index 167 ZJ (.int .i64 4)).run Tryz.prog W=.ok (.string ⟨#[114,111,111,116]⟩) W:=by
 refine⟨?_,?_,?_,?_,?_⟩<;>kernel_rfl
theorem JK{s:ByteArray}{k:Nat}(hk:1<=k)(hk4:k<=4)(h:s.toList=wl k):kindF s=k:=by
 match k,hk,hk4,h with
 |1,_,_,h=>unfold kindF;rw[h];rfl
 |2,_,_,h=>unfold kindF;rw[h];rfl
 |3,_,_,h=>unfold kindF;rw[h];rfl
 |4,_,_,h=>unfold kindF;rw[h];rfl
theorem Km{s:ByteArray}(h:s.toList=[]\/∀j,j<5->s.toList≠wl j):kindF s=0:=by
 rcases h with h|h
 ·unfold kindF;rw[h];rfl
 ·unfold kindF;have h1:s.toList≠[112,97,99,107,97,103,101]:=h 1 (by omega);have h2:s.toList≠[110,101,101,100,115]:=h 2 (by omega);have h3:s.toList≠[99,108,97,115,104,101,115]:=h 3 (by omega);have h4:s.toList≠[114,111,111,116]:=h 4 (by omega);rw[if_neg h1,if_neg h2,if_neg h3,if_neg h4]
theorem Ye(s:ByteArray)(w:World)(hw:xg w) :
  zC 57 #[.string s] w fun e w'=>e=.returned (.int .i64 (kindF s:Nat))/\w'=w:=by
 obtain⟨c0,c1,c2,c3,c4⟩:=hw;go_enter Tryz.func57,Tryz.ntmps57;go_wp2_with fail;clear c0 c1 c2 c3 c4;go_loop [6] (fun i=>∃k:Nat,k<=5/\i=.int .i64 k/\∀j,j<k->s.toList≠wl j) (fun i=>5-(intOf i).toNat)
 case atStart=>exact⟨0,by omega,rfl,fun j h=>by omega⟩
 case round =>
  obtain⟨k,hk,rfl,hne⟩:=hrel;obtain⟨x0,x1,x2,x3,x4⟩:=wix w;have HNE:=zH hne;clear hne
  by_cases h5:k=5
  ·subst h5;have HK:Hid (kindF s=0):=Km (Or.inr HNE.out);go_wp2;go_ret;exact⟨by rw[HK.out];rfl,rfl⟩
  ·have h4:k<5:=by omega
   clear h5 hk
   by_cases hs:s.toList=wl k
   ·have HK:Hid (kindF s=k):=by
     show _=_
     by_cases h0:k=0
     ·subst h0;exact Km (Or.inl hs)
     ·exact JK (by omega) (by omega) hs
    match k,h4 with
    |0,_ =>
     have hb:(([]:List UInt8)==s.toList)=true:=by rw[hs];rfl
     have hb2:s.toList.isEmpty=true:=by rw[hs];rfl
     clear hs;go_wp2;go_ret;exact⟨by rw[HK.out];rfl,rfl⟩
    |1,_ =>
     have hb:([112,97,99,107,97,103,101]==s.toList)=true:=by rw[hs];rfl
     clear hs;go_wp2;go_ret;exact⟨by rw[HK.out];rfl,rfl⟩
    |2,_ =>
     have hb:([110,101,101,100,115]==s.toList)=true:=by rw[hs];rfl
     clear hs;go_wp2;go_ret;exact⟨by rw[HK.out];rfl,rfl⟩
    |3,_ =>
     have hb:([99,108,97,115,104,101,115]==s.toList)=true:=by rw[hs];rfl
     clear hs;go_wp2;go_ret;exact⟨by rw[HK.out];rfl,rfl⟩
    |4,_ =>
     have hb:([114,111,111,116]==s.toList)=true:=by rw[hs];rfl
     clear hs;go_wp2;go_ret;exact⟨by rw[HK.out];rfl,rfl⟩
   ·have HN2:Hid (∀j,j<k+1->s.toList≠wl j):=fun j hj=>by
     rcases Nat.lt_succ_iff_lt_or_eq.1 hj with h|h
     ·exact HNE.out j h
     ·rw[h];exact hs
    have hs':(wl k==s.toList)=false:=by rw[beq_eq_false_iff_ne];exact fun e=>hs e.symm
    clear hs
    match k,h4 with
    |0,_ =>
     have hb:(([]:List UInt8)==s.toList)=false:=hs';have hb2:s.toList.isEmpty=false:=by
      cases h:s.toList with
      |nil=>rw[h] at hb;cases hb
      |cons a t=>rfl
     clear hs';go_wp2;go_round
     case rel=>exact⟨1,by omega,rfl,HN2.out⟩
     case measure=>simp[intOf]
    |1,_ =>
     have hb:([112,97,99,107,97,103,101]==s.toList)=false:=hs';clear hs';go_wp2;go_round
     case rel=>exact⟨2,by omega,rfl,HN2.out⟩
     case measure=>simp[intOf]
    |2,_ =>
     have hb:([110,101,101,100,115]==s.toList)=false:=hs';clear hs';go_wp2;go_round
     case rel=>exact⟨3,by omega,rfl,HN2.out⟩
     case measure=>simp[intOf]
    |3,_ =>
     have hb:([99,108,97,115,104,101,115]==s.toList)=false:=hs';clear hs';go_wp2;go_round
     case rel=>exact⟨4,by omega,rfl,HN2.out⟩
     case measure=>simp[intOf]
    |4,_ =>
     have hb:([114,111,111,116]==s.toList)=false:=hs';clear hs';go_wp2;go_round
     case rel=>exact⟨5,by omega,rfl,HN2.out⟩
     case measure=>simp[intOf]
end
end Go.Proofs.YtlamemjfaogjmaaGreatDoor
