/- errors.As, api.Tell, plain.Place and the laws' 'at': also of an error at a place. -/
import Derived.Test.YtiihalknffbjpaaGreatDoorSvHas
set_option maxHeartbeats 4000000
set_option maxRecDepth 100000
namespace Go.Proofs.YtiihalknffbjpaaGreatDoor
section
open Go.RowKit Sv
def zeU(x y:Int):Int:=if x<y then -1 else if y<x then 1 else 0
theorem zpf(x:Int)(w:World):zC 358 #[.int .i64 x] w fun e w'=>e=.returned (.bool false)/\w'=w:=by
 go_enter Tryz.func358,Tryz.ntmps358;go_wp2;go_ret;exact⟨rfl,rfl⟩
theorem ztL(x y:Int)(w:World):zC 342 #[.int .i64 x,.int .i64 y] w fun e w'=>e=.returned (.int .i64 (zeU x y))/\w'=w:=by
 have H1:Hid (∀W,zC 358 #[.int .i64 x] W fun e w'=>e=.returned (.bool false)/\w'=W):=fun W=>zpf x W;have H2:Hid (∀W,zC 358 #[.int .i64 y] W fun e w'=>e=.returned (.bool false)/\w'=W):=fun W=>zpf y W
 by_cases h:x<y
 ·have HC:Hid (zeU x y=-1):=by show _=_;unfold zeU;rw[if_pos h]
  go_enter Tryz.func342,Tryz.ntmps342;go_wp2_with fail;refine(H1.out _).mono ?_;rintro e w1 ⟨rfl,rfl⟩;go_wp2_with fail;refine(H2.out _).mono ?_;rintro e w2 ⟨rfl,rfl⟩;go_wp2;go_ret;exact⟨by rw[HC.out];rfl,rfl⟩
 ·by_cases h':y<x
  ·have HC:Hid (zeU x y=1):=by show _=_;unfold zeU;rw[if_neg h,if_pos h']
   go_enter Tryz.func342,Tryz.ntmps342;go_wp2_with fail;refine(H1.out _).mono ?_;rintro e w1 ⟨rfl,rfl⟩;go_wp2_with fail;refine(H2.out _).mono ?_;rintro e w2 ⟨rfl,rfl⟩;go_wp2;go_ret;exact⟨by rw[HC.out];rfl,rfl⟩
  ·have HC:Hid (zeU x y=0):=by show _=_;unfold zeU;rw[if_neg h,if_neg h']
   go_enter Tryz.func342,Tryz.ntmps342;go_wp2_with fail;refine(H1.out _).mono ?_;rintro e w1 ⟨rfl,rfl⟩;go_wp2_with fail;refine(H2.out _).mono ?_;rintro e w2 ⟨rfl,rfl⟩;go_wp2;go_ret;exact⟨by rw[HC.out];rfl,rfl⟩
def zfD(x y:Nat->Int):Nat->Int
 |0=>0
 |n+1=>if zeU (x (2-n)) (y (2-n))≠0 then zeU (x (2-n)) (y (2-n)) else zfD x y n
end
section
open Go.RowKit Sv
def tI(a b c:Int)(j:Nat):Int:=if j=0 then a else if j=1 then b else c
end
section
open Go.RowKit Go.Sort Sv
def Gr(w w':World):Prop:=∃q os,w'=grow (w.drewN q) os
theorem Gr.refl(w:World):Gr w w:=⟨0,#[],by rw[grow_empty];rfl⟩
theorem znH(w:World)(os:Array Obj)(q:Nat):(grow w os).drewN q=grow (w.drewN q) os:=rfl
theorem zk5(w:World)(p q:Nat):(w.drewN p).drewN q=w.drewN (p+q):=by unfold World.drewN;simp[Nat.add_assoc]
theorem Gr.trans{a b c:World}(h:Gr a b)(k:Gr b c):Gr a c:=by
 obtain⟨q,os,rfl⟩:=h;obtain⟨q',os',rfl⟩:=k;exact⟨q+q',os++os',by rw[znH,zk5,grow_grow]⟩
theorem Gr.alloc{a b:World}(h:Gr a b)(o:Obj):Gr a (b.alloc o):=h.trans ⟨0,#[o],by rw[alloc_eq_grow];rfl⟩
theorem Gr.drew{a b:World}(h:Gr a b):Gr a b.drew:=h.trans ⟨1,#[],by rw[grow_empty];rfl⟩
theorem Gr.below{a b:World}(h:Gr a b):zB a b:=by
 obtain⟨q,os,rfl⟩:=h;refine⟨rfl,rfl,rfl,by simp[grow,World.drewN],fun k hk=>?_⟩;show (a.heap++os)[k]?=a.heap[k]?;rw[Array.getElem?_append_left hk]
theorem zmp(x y:Nat->Int)(bx bv:Nat)(w:World)(lx:bx<w.heap.size)(ly:bv<w.heap.size)(hx:∀j,j<3->w.cell? ⟨bx,j,none⟩=some (.int .i64 (x j)))(hy:∀j,j<3->w.cell? ⟨bv,j,none⟩=some (.int .i64 (y j))) :
  zC 308 #[.slice (some ⟨bx,0,none⟩) 3 3,.slice (some ⟨bv,0,none⟩) 3 3] w fun e w'=>e=.returned (.int .i64 (zfD x y 3))/\Gr w w':=by
 have HC:Hid (∀X Y W,zC 342 #[.int .i64 X,.int .i64 Y] W fun e w'=>e=.returned (.int .i64 (zeU X Y))/\w'=W):=fun X Y W=>ztL X Y W;have hcell:Hid ((∀W,zB w W->∀j,j<3->W.cell? ⟨bx,j,none⟩=some (.int .i64 (x j)))/\(∀W,zB w W->∀j,j<3->W.cell? ⟨bv,j,none⟩=some (.int .i64 (y j)))):=⟨fun W hb j hj=>(hb.cell (p:=⟨bx,j,none⟩) lx).trans (hx j hj),fun W hb j hj=>(hb.cell (p:=⟨bv,j,none⟩) ly).trans (hy j hj)⟩;clear hx hy lx ly;go_enter Tryz.func308,Tryz.ntmps308;go_wp2_with fail;go_loopw [11] (fun iV wr=>∃k:Nat,k<=3/\iV=.int .i64 k/\zfD x y 3=zfD x y (3-k)/\Gr w wr) (fun iV _=>3-(intOf iV).toNat)
 case atStart=>exact⟨0,by omega,rfl,rfl,Gr.refl _⟩
 case round =>
  obtain⟨k,hk,rfl,heq,hbr⟩:=hrel;have HE:=zH heq;have HBR:=zH hbr;clear heq hbr
  by_cases hlt:k<3
  ·have c0:=hcell.out.1 _ HBR.out.below k hlt;have c1:=hcell.out.2 _ HBR.out.below k hlt;have HS:Hid (zfD x y (3-k)=if zeU (x k) (y k)≠0 then zeU (x k) (y k) else zfD x y (3-(k+1))):=by
    show _=_
    match k,hlt with
    |0,_=>rfl
    |1,_=>rfl
    |2,_=>rfl
   generalize x k=X at *;generalize y k=Y at *;go_wp2_with fail;refine(HC.out _ _ _).mono ?_;rintro e w1 ⟨rfl,rfl⟩;generalize zeU X Y=Z at *
   by_cases hz:Z=0
   ·subst hz;go_wp2;go_roundw
    case rel=>exact⟨k+1,by omega,by go_num,by rw[HE.out,HS.out,if_neg (by simp)],HBR.out⟩
    case measure=>simp[intOf];omega
   ·have hz2:(Z==0)=false:=by rw[beq_eq_false_iff_ne];exact hz
    go_wp2;go_ret;exact⟨by rw[HE.out,HS.out,if_pos hz];rfl,HBR.out⟩
  ·obtain rfl:k=3:=by omega
   go_wp2;go_ret;exact⟨by rw[HE.out];rfl,HBR.out⟩
theorem zuY(a b c d e f:Int)(w:World) :
  zC 267 #[.agg #[.int .i64 a,.int .i64 b,.int .i64 c],.agg #[.int .i64 d,.int .i64 e,.int .i64 f]] w fun r w'=>r=.returned (.int .i64 (zfD (tI a b c) (tI d e f) 3))/\Gr w w':=by
 have kv:=(Blk.new w 84 #[.int .i64 a,.int .i64 b,.int .i64 c]).alloc (.cells #[.int .i64 d,.int .i64 e,.int .i64 f] 84);have kw:=Blk.new (w.alloc (.cells #[.int .i64 a,.int .i64 b,.int .i64 c] 84)) 84 #[.int .i64 d,.int .i64 e,.int .i64 f];rw[World.size_alloc] at kw;have hB0:Gr w ((w.alloc (.cells #[.int .i64 a,.int .i64 b,.int .i64 c] 84)).alloc (.cells #[.int .i64 d,.int .i64 e,.int .i64 f] 84)):=((Gr.refl w).alloc _).alloc _;have HX:Hid (zC 308 #[.slice (some ⟨w.heap.size,0,none⟩) 3 3,.slice (some ⟨w.heap.size+1,0,none⟩) 3 3] ((w.alloc (.cells #[.int .i64 a,.int .i64 b,.int .i64 c] 84)).alloc (.cells #[.int .i64 d,.int .i64 e,.int .i64 f] 84)).drew fun r w'=>r=.returned (.int .i64 (zfD (tI a b c) (tI d e f) 3))/\Gr w w'):=by
  generalize (w.alloc (.cells #[.int .i64 a,.int .i64 b,.int .i64 c] 84)).alloc (.cells #[.int .i64 d,.int .i64 e,.int .i64 f] 84)=W0 at *;have hd:zB W0 W0.drew:=zF.drew;have kv2:=kv.below hd kv.lt;have kw2:=kw.below hd kw.lt;refine(zmp (tI a b c) (tI d e f) w.heap.size (w.heap.size+1) W0.drew kv2.lt kw2.lt ?_ ?_).mono ?_
  ·intro j hj;rw[kv2.cell j]
   match j,hj with
   |0,_=>rfl
   |1,_=>rfl
   |2,_=>rfl
  ·intro j hj;rw[kw2.cell j]
   match j,hj with
   |0,_=>rfl
   |1,_=>rfl
   |2,_=>rfl
  ·rintro r w1 ⟨h1,h2⟩;have hb:Gr w W0.drew:=hB0.drew;exact⟨h1,hb.trans h2⟩
 clear kv kw hB0;go_enter Tryz.func267,Tryz.ntmps267;go_wp2_with fail;go_region_held3 (fun _=>True) (exact trivial)
  (((with_reducible refine HX.out.mono ?_);rintro r w1 ⟨rfl,hb1⟩;have HB1:=zH hb1;clear hb1))
 go_wp2;go_ret;exact⟨rfl,HB1.out⟩
end
section
open Sv
instance lawfulBA:LawfulBEq ByteArray where
 eq_of_beq {a b} h:=ByteArray.ext (eq_of_beq (show (a.data==b.data)=true from h))
 rfl {a}:=beq_self_eq_true a.data
structure Ln where
 kind:Int
 name:ByteArray
 a:Int
 b:Int
 c:Int
 other:ByteArray
 rng:List zau
structure It where
 name:ByteArray
 a:Int
 b:Int
 c:Int
deriving DecidableEq,Inhabited
instance:Inhabited Ln:=⟨⟨0,⟨#[]⟩,0,0,0,⟨#[]⟩,[]⟩⟩
def Ln.it(x:Ln):It:=⟨x.name,x.a,x.b,x.c⟩
def Ln.pair(x:Ln):Prop:=x.kind=2\/x.kind=3
instance (x:Ln):Decidable x.pair:=inferInstanceAs (Decidable (_\/_))
def zas(s:ByteArray)(c:UInt8):ByteArray × ByteArray:=(⟨(Lib.cut s.data.toList [c]).1.toArray⟩,⟨(Lib.cut s.data.toList [c]).2.1.toArray⟩)
theorem zaJ(s:ByteArray)(c:UInt8):(zas s c).1.size<=s.size/\(zas s c).2.size<=s.size:=by
 unfold zas Lib.cut;have hl:s.data.toList.length=s.size:=by simp
 split
 ·simp only[ByteArray.size,List.size_toArray,List.length_take,List.length_drop,Array.length_toList];omega
 ·simp only[ByteArray.size,List.size_toArray,Array.length_toList,List.length_nil];omega
def za8(w:ByteArray):Nat :=
 if w.toList=[112,97,99,107,97,103,101] then 1 else if w.toList=[110,101,101,100,115] then 2 else if w.toList=[99,108,97,115,104,101,115] then 3 else if w.toList=[114,111,111,116] then 4 else 0
theorem zlK(w:ByteArray):za8 w<=4:=by
 unfold za8
 repeat' split
 all_goals omega
def zmu(s:ByteArray):Except (Int × Option Nat) (List zau) :=
 if 1000<s.size then .error (4,none) else match zda s with
  |.error (k,p)=>.error (k,some p)
  |.ok l=>.ok l
def zfL(k:Nat)(name:ByteArray)(ns:List Nat)(other rest:ByteArray):Except (Int × Option Nat) Ln :=
 match zmu rest with
 |.error e=>.error e
 |.ok l=>.ok ⟨(k:Int),name,((ns.getD 0 0:Nat):Int),((ns.getD 1 0:Nat):Int),((ns.getD 2 0:Nat):Int),other,l⟩
def zgv(s:ByteArray):Except (Int × Option Nat) Ln :=
 if za8 (zas s 32).1=0 then .error (3,none)
 else if za8 (zas s 32).1=4 then zfL 4 (zas (zas s 32).2 32).1 [] ⟨#[]⟩ (zas (zas s 32).2 32).2
 else match zce (zas (zas (zas s 32).2 32).2 32).1 with
  |.error e=>.error (e,none)
  |.ok ns =>
   if za8 (zas s 32).1=1 then
    if (zas (zas (zas s 32).2 32).2 32).2.size=0 then .ok ⟨1,(zas (zas s 32).2 32).1,((ns.getD 0 0:Nat):Int),((ns.getD 1 0:Nat):Int),((ns.getD 2 0:Nat):Int),⟨#[]⟩,[]⟩ else .error (3,none)
   else zfL (za8 (zas s 32).1) (zas (zas s 32).2 32).1 ns (zas (zas (zas (zas s 32).2 32).2 32).2 32).1 (zas (zas (zas (zas s 32).2 32).2 32).2 32).2
def zfM(s:ByteArray):Nat->Nat->List (Nat × ByteArray)
 |0,_=>[]
 |f+1,k=>if s.size<=k then [] else
  (if (zas (s.extract k s.size) 10).1.size=0 then [] else [(k,(zas (s.extract k s.size) 10).1)])++zfM s f (k+(zas (s.extract k s.size) 10).1.size+1)
def plF:List (Nat × ByteArray)->List (Nat × Ln)->Except (Int × Nat) (List (Nat × Ln))
 |[],acc=>.ok acc
 |x :: r,acc=>match zgv x.2 with
  |.error e=>.error (e.1,x.1)
  |.ok l=>plF r (acc++[(x.1,l)])
theorem zhU(l r:List (Nat × ByteArray)):∀(acc:List (Nat × Ln)),plF (l++r) acc=match plF l acc with
  |.error e=>.error e
  |.ok acc'=>plF r acc':=by
 induction l with
 |nil=>intro acc;rfl
 |cons x l ih =>
  intro acc;rw[List.cons_append,plF,plF];split
  ·rfl
  ·exact ih _
theorem zta:∀(l:List (Nat × ByteArray)) (acc:List (Nat × Ln)) (out:List (Nat × Ln)),plF l acc=.ok out->out.length=acc.length+l.length:=by
 intro l
 induction l with
 |nil=>intro acc out h;cases h;rfl
 |cons x l ih =>
  intro acc out h;unfold plF at h;split at h
  ·cases h
  ·have:=ih _ _ h;simp at this ⊢;omega
def InV(a b c:Int):Prop:=(0<=a/\a<=999)/\(0<=b/\b<=999)/\0<=c/\c<=999
instance (a b c:Int):Decidable (InV a b c):=inferInstanceAs (Decidable (_/\_))
open Classical in
noncomputable def zaC(x:Ln):Int :=
 if x.kind<1\/4<x.kind then 1
 else if ¬zaj x.name\/(x.pair/\¬zaj x.other) then 5
 else if ¬x.pair/\x.other.size≠0 then 1
 else if x.kind=1/\x.rng≠[] then 1
 else if x.kind=4/\(x.a≠0\/x.b≠0\/x.c≠0) then 1
 else if ¬InV x.a x.b x.c then 2 else 0
def zbk(l:List It):Nat:=((l.map It.name).eraseDups).length
noncomputable def zbj:List Ln->Nat->List It->Except (Int × Nat) (List It)
 |[],_,its=>.ok its
 |x :: r,i,its =>
  if zaC x≠0 then .error (zaC x,i)
  else if x.kind=1 then
   if x.it∈its then .error (9,i)
   else if 8<zbk (its++[x.it])\/its.length=24 then .error (4,i)
   else zbj r (i+1) (its++[x.it])
  else zbj r (i+1) its
def zbe(x y:It):Int:=if x.name.toList=y.name.toList then zfD (tI y.a y.b y.c) (tI x.a x.b x.c) 3 else Lib.compareBytes x.name.data.toList y.name.data.toList
def zco(l:List It):List It:=l.mergeSort fun x y=>!decide (zbe y x<0)
def zbC:List Ln->Nat->List It->Option Nat
 |[],_,_=>none
 |x :: r,i,its=>if x.pair/\x.it∉its then some i else zbC r (i+1) its
noncomputable def zd7(ls:List Ln):Except (Int × Option Nat) (List It) :=
 if 100<ls.length then .error (4,none)
 else match zbj ls 0 [] with
  |.error e=>.error (e.1,some e.2)
  |.ok its=>match zbC ls 0 (zco its) with
   |some i=>.error (7,some i)
   |none=>.ok (zco its)
noncomputable def zbR(s:ByteArray):Except (Int × Option Nat) (List Ln × List It) :=
 if 20000<s.size then .error (4,none)
 else match plF (zfM s s.size 0) [] with
  |.error e=>.error (e.1,some e.2)
  |.ok ps=>match zd7 (ps.map Prod.snd) with
   |.error (e,none)=>.error (e,none)
   |.error (e,some i)=>.error (e,some ((ps.map Prod.fst).getD i 0))
   |.ok its=>.ok (ps.map Prod.snd,its)
def zbr(its:List It)(name:ByteArray):Option (Nat × Nat) :=
 its.zipIdx.foldl (fun r x=>if x.1.name=name then some ((r.map Prod.fst).getD x.2,x.2+1) else r) none
theorem zeq(l:List It)(x:It)(name:ByteArray):zbr (l++[x]) name=if x.name=name then some (((zbr l name).map Prod.fst).getD l.length,l.length+1) else zbr l name:=by
 unfold zbr;rw[List.zipIdx_append,List.foldl_append];simp
def zcn(its:List It)(name:ByteArray):Nat × Nat:=(zbr its name).getD (0,0)
def ziF(rng:List zau)(x:It):Prop:=InV x.a x.b x.c/\mem rng (zoh x.a.toNat x.b.toNat x.c.toNat)
open Classical in
noncomputable def zaP(its:List It)(name:ByteArray)(rng:List zau):List Nat :=
 (List.range' (zcn its name).1 ((zcn its name).2-(zcn its name).1)).filter fun i=>decide (ziF rng (its.getD i default))
def zaZ(its:List It)(x:It):Int:=match its.findIdx? (fun y=>decide (x=y)) with|some i=>(i:Int)|none=>-1
def zaI(k:Int):Int:=-(k+1)
noncomputable def zcQ(its:List It)(n:Nat)(x:Ln):List (Int × List Int) :=
 if x.kind=4 then [((n:Int),(zaP its x.name x.rng).map fun (k:Nat)=>((k:Int)+1))]
 else if x.kind=2 then [((n:Int),zaI (zaZ its x.it) :: (zaP its x.other x.rng).map fun (k:Nat)=>((k:Int)+1))]
 else if x.kind=3 then (zaP its x.other x.rng).map fun (k:Nat)=>((n:Int),[zaI (zaZ its x.it),zaI (k:Int)])
 else []
end
section
open Go.RowKit Go.Deep
structure Kp(B:Nat)(w w':World):Prop where
 size:w.heap.size<=w'.heap.size
 block:∀k,k<w.heap.size->(k<B\/∃cur fr,w.heap[k]?=some (.cells cur 3 fr))->w'.heap[k]?=w.heap[k]?
section
variable {B:Nat} {w w' w'':World}
theorem Kp.trans(h:Kp B w w')(h2:Kp B w' w''):Kp B w w'':=⟨Nat.le_trans h.size h2.size,fun k hk hc=>by
 have e:=h.block k hk hc;rw[<-e];refine h2.block k (Nat.lt_of_lt_of_le hk h.size) ?_;rw [e];exact hc⟩
theorem Kp.new(hb:zB w w'):Kp B w w':=⟨hb.size,fun k hk _=>hb.block k hk⟩
theorem Kp.set{b i:Nat}{t:TypeId}{cs:Array Value}{v:Value}(hB:B<=b)(h:Blk w b t cs)(ht:t≠3):Kp B w (w.setCell ⟨b,i,none⟩ v):=by
 refine⟨by simp[World.setCell],fun k hk hc=>Below.heap_setCell _ _ _ k (fun e=>?_)⟩;have e':k=b:=e;subst e';rcases hc with hc|⟨cur,fr,hc⟩
 ·omega
 ·rw[show w.heap[k]?=_ from h] at hc;simp only[Option.some.injEq,Obj.cells.injEq] at hc;exact ht hc.2.1
theorem Kp.grown{e:TypeId}{size n:Nat}{v:Value}{xs:List Value}(h:w.ownsRow B e size v n xs)(hg:w.grownBy w' v.ownBlock)(he:e≠3):Kp B w w':=by
 refine⟨hg.size,fun k hk hc=>hg.block k hk (fun e'=>?_)⟩;obtain⟨h1,h2⟩:=h.lt k e'.symm;rcases hc with hc|⟨cur,fr,hc⟩
 ·omega
 ·rcases h.2 with ⟨hv,_⟩|⟨g,cap,cur',hv,_,hg',_⟩
  ·rw[hv] at e';cases e'
  ·rw[hv] at e';simp only[Value.ownBlock,Option.some.injEq] at e';subst e';rw[hg'] at hc;simp only[Option.some.injEq,Obj.cells.injEq] at hc;exact he hc.2.1
def zdj(B:Nat)(w:World)(a:Option Addr)(xs:List Int):Prop :=
 ∀i,i<xs.length->∃ad:Addr,a=some ad/\ad.block<w.heap.size/\(ad.block<B\/∃cur fr,w.heap[ad.block]?=some (.cells cur 3 fr))/\w.cell? (ad.add i)=some (.int .i64 (xs.getD i 0))
theorem zdj.ints{a:Option Addr}{xs:List Int}(h:zdj B w a xs):zaN w a xs:=fun i hi=>by
 obtain⟨ad,h1,h2,_,h4⟩:=h i hi;exact⟨ad,h1,h2,h4⟩
theorem zdj.kp{a:Option Addr}{xs:List Int}(h:zdj B w a xs)(hk:Kp B w w'):zdj B w' a xs:=fun i hi=>by
 obtain⟨ad,h1,h2,h3,h4⟩:=h i hi;have e:=hk.block _ h2 h3;refine⟨ad,h1,Nat.lt_of_lt_of_le h2 hk.size,by rw[e];exact h3,?_⟩;rw[World.cell?_of_block (w:=w) (by rw[zbN];exact e)];exact h4
def zg5(B:Nat)(w:World)(cs:List Value)(l:List (List Int)):Prop :=
 cs.length=l.length/\∀i,i<l.length->∃(a:Option Addr) (cap:Nat),cs[i]?=some (.slice a (l.getD i []).length cap)/\(l.getD i []).length<=cap/\cap<=9223372036854775807/\zdj B w a (l.getD i [])
theorem zg5.kp{cs:List Value}{l:List (List Int)}(h:zg5 B w cs l)(hk:Kp B w w'):zg5 B w' cs l:=⟨h.1,fun i hi=>by
 obtain⟨a,cap,h1,h2,h3,h4⟩:=h.2 i hi;exact ⟨a,cap,h1,h2,h3,h4.kp hk⟩⟩
theorem zg5.nil:zg5 B w [] []:=⟨rfl,fun i hi=>by simp at hi⟩
theorem zg5.snoc{cs:List Value}{l:List (List Int)}(h:zg5 B w cs l){a:Option Addr}{cap:Nat}{c:List Int}(h1:c.length<=cap)(h2:cap<=9223372036854775807)(h3:zdj B w a c):zg5 B w (cs++[.slice a c.length cap]) (l++[c]):=by
 refine⟨by simp[h.1],fun i hi=>?_⟩
 by_cases hl:i<l.length
 ·have e:(l++[c]).getD i []=l.getD i []:=by simp[List.getD_eq_getElem?_getD,List.getElem?_append_left hl]
  rw[e,List.getElem?_append_left (by rw[h.1];exact hl)];exact h.2 i hl
 ·have hi':i=l.length:=by simp at hi;omega
  subst hi';have e:(l++[c]).getD l.length []=c:=by simp[List.getD_eq_getElem?_getD]
  rw[e,List.getElem?_append_right (by rw[h.1];exact Nat.le_refl _),h.1];exact⟨a,cap,by simp,h1,h2,h3⟩
theorem zg5.cls{cs:List Value}{l:List (List Int)}{a:Option Addr}{cap:Nat}(h:zg5 B w cs l)(hr:w.ownsRow B 81 1 (.slice a l.length cap) l.length cs):zey w a l:=by
 intro i hi;obtain⟨a',cap',h1,h2,h3,h4⟩:=h.2 i hi;rcases hr.2 with ⟨e,e0⟩|⟨g,cap2,cur,e,hB,hg,-⟩
 ·omega
 ·injection e with e1 e2 e3;subst e1 e3;refine⟨_,a',cap',rfl,(Array.getElem?_eq_some_iff.1 hg).1,?_,h2,h3,h4.ints⟩;have:=hr.cellAt i (by omega);rw[zbF,Nat.zero_add,this,h1]
end
theorem zcg{w:World}{B:Nat}{e T:TypeId}{size:Nat}{v:Value}{n:Nat}{xs:List Value}{b:Nat}{cs:Array Value}(hown:w.ownsRow B e size v n xs)(hb:Blk w b T cs)(hTe:T≠e):v.ownBlock≠some b:=by
 rcases hown.2 with ⟨rfl,_⟩|⟨g,cap,cur,rfl,_,hg,_⟩
 ·simp[Value.ownBlock]
 ·intro h;simp only[Value.ownBlock,Option.some.injEq] at h;subst h;rw[show w.heap[g]?=_ from hb] at hg;simp only[Option.some.injEq,Obj.cells.injEq] at hg;exact hTe hg.2.1
theorem zaM{w:World}{B:Nat}{e e2:TypeId}{size size2:Nat}{v v2:Value}{n n2:Nat}{xs xs2:List Value}(h1:w.ownsRow B e size v n xs)(h2:w.ownsRow B e2 size2 v2 n2 xs2)(hne:e≠e2):v.ownBlock=none\/v.ownBlock≠v2.ownBlock:=by
 rcases h1.2 with ⟨rfl,_⟩|⟨g,cap,cur,rfl,_,hg,_⟩
 ·exact Or.inl rfl
 ·refine Or.inr fun e'=>?_;exact zcg h2 (b:=g) (cs:=cur) (T:=e) hg hne e'.symm
theorem zaf{B:Nat}{w w':World}{t:TypeId}{size:Nat}{v:Value}{n:Nat}{cs:List Value}(h:w.ownsRow B t size v n cs)(hb:zB w w'):w'.ownsRow B t size v n cs:=by
 obtain⟨h1,h2⟩:=h;refine⟨h1,?_⟩;rcases h2 with h2|⟨g,cap,cur,hv,hg,hh,r⟩
 ·exact Or.inl h2
 ·exact Or.inr ⟨g,cap,cur,hv,hg,by rw[hb.block g (Array.getElem?_eq_some_iff.1 hh).1];exact hh,r⟩
end
section
open Go.RowKit Go.Deep Sv
structure zct(w:World)(v:Value)(n:Nat)(cs:List Value):Prop where
 form:∃a cap,v=.slice a n cap/\(a=none->cap=0)/\n<=cap/\cap<=9223372036854775807/\(a=none\/∃g,a=some ⟨g,0,none⟩)
 cells:0<n->∃g cap,v=.slice (some ⟨g,0,none⟩) n cap/\g<w.heap.size/\∀(j:Nat) u,cs[j]?=some u->w.cell? ⟨g,j,none⟩=some u
theorem zct.below{B:Nat}{w w':World}{v:Value}{n:Nat}{cs:List Value}(h:zct w v n cs)(hb:Below B w w')(hB:w.heap.size<=B):zct w' v n cs :=
 ⟨h.form,fun hn=>by
  obtain⟨g,cap,e,hg,hc⟩:=h.cells hn;exact ⟨g,cap,e,Nat.lt_of_lt_of_le hg hb.size,fun j u hu=>(hb.cell (p:=⟨g,j,none⟩) (by show g<B;omega)).trans (hc j u hu)⟩⟩
theorem zad{B:Nat}{w:World}{v:Value}{t:TypeId}{k n:Nat}{cs:List Value}(h:w.ownsRow B t k v n cs):zct w v n cs:=by
 have hl:=h.1;rcases h.2 with ⟨e,e0⟩|⟨g,cap,cur,e,hB,hg,hn,hm,hsz,htake⟩
 ·exact⟨⟨none,0,by rw[e,e0],fun _=>rfl,by omega,by omega,Or.inl rfl⟩,fun hi=>by omega⟩
 ·unfold maxLen at hm;refine⟨⟨_,_,e,(fun h=>by cases h),hn,hm,Or.inr ⟨g,rfl⟩⟩,fun _=>⟨g,cap,e,(h.lt g (by rw[e];rfl)).2,fun j u hu=>?_⟩⟩;have hj:=(List.getElem?_eq_some_iff.1 hu).1;rw[<-htake,List.getElem?_take,if_pos (by omega)] at hu;rw[<-hu];simp[World.cell?,hg]
def zba(x:It):List Value:=[.string x.name,.int .i64 x.a,.int .i64 x.b,.int .i64 x.c]
def zac(l:List It):List Value:=l.flatMap zba
theorem zaq(l:List It):(zac l).length=l.length*4:=by
 induction l with
 |nil=>rfl
 |cons x l ih=>unfold zac at *;rw[List.flatMap_cons,List.length_append,ih];simp[zba];omega
theorem zcc(a b:List It):zac (a++b)=zac a++zac b:=by simp[zac]
theorem zb3:∀(l:List It) (i:Nat),i<l.length->∀(j:Nat) (u:Value),(zba (l.getD i default))[j]?=some u->(zac l)[i*4+j]?=some u
 |[],i,h,_,_,_=>by simp at h
 |x :: l,0,_,j,u,hu=>by
  have hj:j<4:=by have:=(List.getElem?_eq_some_iff.1 hu).1;simpa[zba] using this
  rw[show zac (x :: l)=zba x++zac l from rfl,Nat.zero_mul,Nat.zero_add,List.getElem?_append_left (by simpa[zba] using hj)];simpa using hu
 |x :: l,i+1,h,j,u,hu=>by
  have ih:=zb3 l i (by simpa using h) j u (by simpa using hu);rw[show zac (x :: l)=zba x++zac l from rfl,List.getElem?_append_right (by simp[zba];omega)];rw[show (i+1)*4+j-(zba x).length=i*4+j by simp[zba];omega];exact ih
def zcj(w:World)(v:Value)(l:List It):Prop:=zct w v l.length (zac l)
theorem zcj.at{w:World}{v:Value}{l:List It}(h:zcj w v l)(i:Nat)(hi:i<l.length):∃g cap,v=.slice (some ⟨g,0,none⟩) l.length cap/\g<w.heap.size/\w.cell? ⟨g,i*4,none⟩=some (.string (l.getD i default).name)/\w.cell? ⟨g,i*4+1,none⟩=some (.int .i64 (l.getD i default).a)/\w.cell? ⟨g,i*4+2,none⟩=some (.int .i64 (l.getD i default).b)/\w.cell? ⟨g,i*4+3,none⟩=some (.int .i64 (l.getD i default).c):=by
 obtain⟨g,cap,e,hg,hc⟩:=h.cells (by omega);exact⟨g,cap,e,hg,hc _ _ (zb3 l i hi 0 _ rfl),hc _ _ (zb3 l i hi 1 _ rfl),hc _ _ (zb3 l i hi 2 _ rfl),hc _ _ (zb3 l i hi 3 _ rfl)⟩
def zfG(x:Ln)(v:Value):List Value:=[.int .i64 x.kind,.string x.name,.int .i64 x.a,.int .i64 x.b,.int .i64 x.c,.string x.other,v]
def zay:List Ln->List Value->List Value
 |x :: l,v :: vs=>zfG x v++zay l vs
 |_,_=>[]
theorem zcb:∀(l:List Ln) (vs:List Value),vs.length=l.length->(zay l vs).length=l.length*7
 |[],[],_=>rfl
 |x :: l,v :: vs,h=>by
  have:=zcb l vs (by simpa using h);rw[zay,List.length_append,this];simp[zfG];omega
 |[],v :: vs,h=>by simp at h
 |x :: l,[],h=>by simp at h
theorem zdO:∀(l:List Ln) (vs:List Value) (x:Ln) (v:Value),vs.length=l.length->zay (l++[x]) (vs++[v])=zay l vs++zfG x v
 |[],[],x,v,_=>by simp[zay]
 |y :: l,u :: vs,x,v,h=>by
  have:=zdO l vs x v (by simpa using h);simp[zay,this]
 |[],v :: vs,_,_,h=>by simp at h
 |x :: l,[],_,_,h=>by simp at h
theorem zeW:∀(l:List Ln) (vs:List Value),vs.length=l.length->∀(i:Nat),i<l.length->∀(j:Nat) (u:Value),(zfG (l.getD i default) (vs.getD i undef))[j]?=some u->(zay l vs)[i*7+j]?=some u
 |[],[],_,i,h,_,_,_=>by simp at h
 |x :: l,v :: vs,_,0,_,j,u,hu=>by
  have hj:j<7:=by have:=(List.getElem?_eq_some_iff.1 hu).1;simpa[zfG] using this
  rw[zay,Nat.zero_mul,Nat.zero_add,List.getElem?_append_left (by simpa[zfG] using hj)];simpa using hu
 |x :: l,v :: vs,hl,i+1,h,j,u,hu=>by
  have ih:=zeW l vs (by simpa using hl) i (by simpa using h) j u (by simpa using hu);rw[zay,List.getElem?_append_right (by simp[zfG];omega)];rw[show (i+1)*7+j-(zfG x v).length=i*7+j by simp[zfG];omega];exact ih
 |[],v :: vs,h,_,_,_,_,_=>by simp at h
 |x :: l,[],h,_,_,_,_,_=>by simp at h
def zbT(w:World)(l:List Ln)(vs:List Value):Prop:=vs.length=l.length/\∀i,i<l.length->zaW w (vs.getD i undef) (l.getD i default).rng/\Rg (l.getD i default).rng
theorem zbT.below{B:Nat}{w w':World}{l:List Ln}{vs:List Value}(h:zbT w l vs)(hb:Below B w w')(hB:w.heap.size<=B):zbT w' l vs:=⟨h.1,fun i hi=>⟨(h.2 i hi).1.below hb hB,(h.2 i hi).2⟩⟩
theorem zp9(w:World):zbT w [] []:=⟨rfl,fun i h=>by simp at h⟩
theorem zbT.snoc{w:World}{l:List Ln}{vs:List Value}(h:zbT w l vs){x:Ln}{v:Value}(hv:zaW w v x.rng)(hr:Rg x.rng):zbT w (l++[x]) (vs++[v]):=by
 refine⟨by simp[h.1],fun i hi=>?_⟩
 by_cases hl:i<l.length
 ·have e1:(l++[x]).getD i default=l.getD i default:=by simp[List.getD_eq_getElem?_getD,List.getElem?_append_left hl]
  have e2:(vs++[v]).getD i undef=vs.getD i undef:=by simp[List.getD_eq_getElem?_getD,List.getElem?_append_left (show i<vs.length by rw[h.1];exact hl)]
  rw[e1,e2];exact h.2 i hl
 ·obtain rfl:i=l.length:=by simp at hi;omega
  have e1:(l++[x]).getD l.length default=x:=by simp[List.getD_eq_getElem?_getD]
  have e2:(vs++[v]).getD l.length undef=v:=by simp[List.getD_eq_getElem?_getD,<-h.1]
  rw[e1,e2];exact⟨hv,hr⟩
def zgT(w:World)(v:Value)(l:List Ln):Prop:=∃vs,zbT w l vs/\zct w v l.length (zay l vs)
theorem zgT.below{B:Nat}{w w':World}{v:Value}{l:List Ln}(h:zgT w v l)(hb:Below B w w')(hB:w.heap.size<=B):zgT w' v l:=by
 obtain⟨vs,h1,h2⟩:=h;exact⟨vs,h1.below hb hB,h2.below hb hB⟩
theorem zgT.at{w:World}{v:Value}{l:List Ln}(h:zgT w v l)(i:Nat)(hi:i<l.length):∃g cap rv,v=.slice (some ⟨g,0,none⟩) l.length cap/\g<w.heap.size/\zaW w rv (l.getD i default).rng/\Rg (l.getD i default).rng/\w.cell? ⟨g,i*7,none⟩=some (.int .i64 (l.getD i default).kind)/\w.cell? ⟨g,i*7+1,none⟩=some (.string (l.getD i default).name)/\w.cell? ⟨g,i*7+2,none⟩=some (.int .i64 (l.getD i default).a)/\w.cell? ⟨g,i*7+3,none⟩=some (.int .i64 (l.getD i default).b)/\w.cell? ⟨g,i*7+4,none⟩=some (.int .i64 (l.getD i default).c)/\w.cell? ⟨g,i*7+5,none⟩=some (.string (l.getD i default).other)/\w.cell? ⟨g,i*7+6,none⟩=some rv:=by
 obtain⟨vs,h1,h2⟩:=h;obtain⟨g,cap,e,hg,hc⟩:=h2.cells (by omega);have H:=fun j u hu=>hc _ _ (zeW l vs h1.1 i hi j u hu);exact⟨g,cap,vs.getD i undef,e,hg,(h1.2 i hi).1,(h1.2 i hi).2,H 0 _ rfl,H 1 _ rfl,H 2 _ rfl,H 3 _ rfl,H 4 _ rfl,H 5 _ rfl,H 6 _ rfl⟩
end
section
open Go.RowKit Sv
theorem zaO(x:Ln)(v:Value)(w:World) :
  zC 135 #[.agg #[.int .i64 x.kind,.string x.name,.int .i64 x.a,.int .i64 x.b,.int .i64 x.c,.string x.other,v]] w fun e w'=>e=.returned (.bool (decide x.pair))/\w'=w.alloc (.cells #[.int .i64 x.kind,.string x.name,.int .i64 x.a,.int .i64 x.b,.int .i64 x.c,.string x.other,v] 130):=by
 have hd:decide x.pair=(decide (x.kind=2)||decide (x.kind=3)):=by
  by_cases h2:x.kind=2<;>by_cases h3:x.kind=3<;>simp[Ln.pair,h2,h3]
 rw[hd];clear hd;generalize x.kind=k
 by_cases h2:k=2
 ·subst h2;go_enter Tryz.func135,Tryz.ntmps135;go_wp2;go_ret;exact⟨rfl,rfl⟩
 ·by_cases h3:k=3
  ·subst h3;go_enter Tryz.func135,Tryz.ntmps135;go_wp2;go_ret;exact⟨rfl,rfl⟩
  ·have e2:(k==2)=false:=by simpa using h2
   have e3:(k==3)=false:=by simpa using h3
   have HD:Hid ((decide (k=2)||decide (k=3))=false):=by show _=_;simp[h2,h3]
   go_enter Tryz.func135,Tryz.ntmps135;go_wp2;go_ret;exact⟨by rw[HD.out];rfl,rfl⟩
def wl:Nat->List UInt8
 |1=>[112,97,99,107,97,103,101]
 |2=>[110,101,101,100,115]
 |3=>[99,108,97,115,104,101,115]
 |4=>[114,111,111,116]
 |_=>[]
structure zds(w:World):Prop where
 c0:w.cell? ⟨3,0,none⟩=some (.string ⟨#[]⟩)
 c1:w.cell? ⟨3,1,none⟩=some (.string ⟨#[112,97,99,107,97,103,101]⟩)
 c2:w.cell? ⟨3,2,none⟩=some (.string ⟨#[110,101,101,100,115]⟩)
 c3:w.cell? ⟨3,3,none⟩=some (.string ⟨#[99,108,97,115,104,101,115]⟩)
 c4:w.cell? ⟨3,4,none⟩=some (.string ⟨#[114,111,111,116]⟩)
theorem zds.below{B:Nat}{w w':World}(h:zds w)(hb:Below B w w')(hB:3<B):zds w' :=
 ⟨(hb.cell (p:=⟨3,0,none⟩) hB).trans h.c0,(hb.cell (p:=⟨3,1,none⟩) hB).trans h.c1,(hb.cell (p:=⟨3,2,none⟩) hB).trans h.c2,(hb.cell (p:=⟨3,3,none⟩) hB).trans h.c3,(hb.cell (p:=⟨3,4,none⟩) hB).trans h.c4⟩
abbrev ziX:Value:=.agg #[.string ⟨#[]⟩,.string ⟨#[112,97,99,107,97,103,101]⟩,.string ⟨#[110,101,101,100,115]⟩,.string ⟨#[99,108,97,115,104,101,115]⟩,.string ⟨#[114,111,111,116]⟩]
theorem wix(W:World):(Instr.index 330 ziX (.int .i64 0)).run Tryz.prog W=.ok (.string ⟨#[]⟩) W/\(Instr.index 330 ziX (.int .i64 1)).run Tryz.prog W=.ok (.string ⟨#[112,97,99,107,97,103,101]⟩) W/\(Instr.index 330 ziX (.int .i64 2)).run Tryz.prog W=.ok (.string ⟨#[110,101,101,100,115]⟩) W/\(Instr.index 330 ziX (.int .i64 3)).run Tryz.prog W=.ok (.string ⟨#[99,108,97,115,104,101,115]⟩) W/\(Instr.index 330 ziX (.int .i64 4)).run Tryz.prog W=.ok (.string ⟨#[114,111,111,116]⟩) W:=by
 refine⟨?_,?_,?_,?_,?_⟩<;>kernel_rfl
theorem zlr{s:ByteArray}{k:Nat}(hk:1<=k)(hk4:k<=4)(h:s.toList=wl k):za8 s=k:=by
 match k,hk,hk4,h with
 |1,_,_,h=>unfold za8;rw[h];rfl
 |2,_,_,h=>unfold za8;rw[h];rfl
 |3,_,_,h=>unfold za8;rw[h];rfl
 |4,_,_,h=>unfold za8;rw[h];rfl
theorem zhh{s:ByteArray}(h:s.toList=[]\/∀j,j<5->s.toList≠wl j):za8 s=0:=by
 rcases h with h|h
 ·unfold za8;rw[h];rfl
 ·unfold za8;have h1:s.toList≠[112,97,99,107,97,103,101]:=h 1 (by omega);have h2:s.toList≠[110,101,101,100,115]:=h 2 (by omega);have h3:s.toList≠[99,108,97,115,104,101,115]:=h 3 (by omega);have h4:s.toList≠[114,111,111,116]:=h 4 (by omega);rw[if_neg h1,if_neg h2,if_neg h3,if_neg h4]
theorem ziz(s:ByteArray)(w:World)(hw:zds w) :
  zC 133 #[.string s] w fun e w'=>e=.returned (.int .i64 (za8 s:Nat))/\w'=w:=by
 obtain⟨c0,c1,c2,c3,c4⟩:=hw;go_enter Tryz.func133,Tryz.ntmps133;go_wp2_with fail;clear c0 c1 c2 c3 c4;go_loop [6] (fun i=>∃k:Nat,k<=5/\i=.int .i64 k/\∀j,j<k->s.toList≠wl j) (fun i=>5-(intOf i).toNat)
 case atStart=>exact⟨0,by omega,rfl,fun j h=>by omega⟩
 case round =>
  obtain⟨k,hk,rfl,hne⟩:=hrel;obtain⟨x0,x1,x2,x3,x4⟩:=wix w;have HNE:=zH hne;clear hne
  by_cases h5:k=5
  ·subst h5;have HK:Hid (za8 s=0):=zhh (Or.inr HNE.out);go_wp2;go_ret;exact⟨by rw[HK.out];rfl,rfl⟩
  ·have h4:k<5:=by omega
   clear h5 hk
   by_cases hs:s.toList=wl k
   ·have HK:Hid (za8 s=k):=by
     show _=_
     by_cases h0:k=0
     ·subst h0;exact zhh (Or.inl hs)
     ·exact zlr (by omega) (by omega) hs
    match k,h4 with
    |0,_ =>
     have hb:(([]:List UInt8)==s.toList)=true:=by rw[hs];rfl
     have hb2:s.toList.isEmpty=true:=by rw[hs];rfl
     clear hs;go_wp2;go_ret;exact⟨by rw[HK.out];rfl,rfl⟩
    |1,_ =>
     have hb:([112,97,99,107,97,103,101]==s.toList)=true:=by rw[hs];rfl
     clear hs;go_wp2;go_ret;exact⟨by rw[HK.out];rfl,rfl⟩
    |2,_ =>
     have hb:([110,101,101,100,115]==s.toList)=true:=by rw[hs];rfl
     clear hs;go_wp2;go_ret;exact⟨by rw[HK.out];rfl,rfl⟩
    |3,_ =>
     have hb:([99,108,97,115,104,101,115]==s.toList)=true:=by rw[hs];rfl
     clear hs;go_wp2;go_ret;exact⟨by rw[HK.out];rfl,rfl⟩
    |4,_ =>
     have hb:([114,111,111,116]==s.toList)=true:=by rw[hs];rfl
     clear hs;go_wp2;go_ret;exact⟨by rw[HK.out];rfl,rfl⟩
   ·have HN2:Hid (∀j,j<k+1->s.toList≠wl j):=fun j hj=>by
     rcases Nat.lt_succ_iff_lt_or_eq.1 hj with h|h
     ·exact HNE.out j h
     ·rw[h];exact hs
    have hs':(wl k==s.toList)=false:=by rw[beq_eq_false_iff_ne];exact fun e=>hs e.symm
    clear hs
    match k,h4 with
    |0,_ =>
     have hb:(([]:List UInt8)==s.toList)=false:=hs';have hb2:s.toList.isEmpty=false:=by
      cases h:s.toList with
      |nil=>rw[h] at hb;cases hb
      |cons a t=>rfl
     clear hs';go_wp2;go_round
     case rel=>exact⟨1,by omega,rfl,HN2.out⟩
     case measure=>simp[intOf]
    |1,_ =>
     have hb:([112,97,99,107,97,103,101]==s.toList)=false:=hs';clear hs';go_wp2;go_round
     case rel=>exact⟨2,by omega,rfl,HN2.out⟩
     case measure=>simp[intOf]
    |2,_ =>
     have hb:([110,101,101,100,115]==s.toList)=false:=hs';clear hs';go_wp2;go_round
     case rel=>exact⟨3,by omega,rfl,HN2.out⟩
     case measure=>simp[intOf]
    |3,_ =>
     have hb:([99,108,97,115,104,101,115]==s.toList)=false:=hs';clear hs';go_wp2;go_round
     case rel=>exact⟨4,by omega,rfl,HN2.out⟩
     case measure=>simp[intOf]
    |4,_ =>
     have hb:([114,111,111,116]==s.toList)=false:=hs';clear hs';go_wp2;go_round
     case rel=>exact⟨5,by omega,rfl,HN2.out⟩
     case measure=>simp[intOf]
end
section
open Go.RowKit Go.Extern.Stop Go.Stop Go.Extern
namespace Errs
theorem zt3(v:Value)(w:World):(ReflectliteType.typeOf #[.iface 260 v]).run Tryz.prog w=.ok (.iface 362 (.agg #[.pointer (some ⟨12,260,none⟩)])) w:=by kernel_rfl
theorem zkj(w:World):(ReflectliteType.relation "AssignableTo" ReflectliteType.assignableTo #[.agg #[.pointer (some ⟨12,260,none⟩)],.iface 362 (.agg #[.pointer (some ⟨12,57,none⟩)])]).run Tryz.prog w=.ok (.bool false) w:=by kernel_rfl
theorem zjU(h:Value)(w:World):(Go.method 613 260 h "Unwrap").run Tryz.prog w=.ok (385,h) w:=by kernel_rfl
theorem zwU(v:Value)(w:World):(Instr.typeAssert (.iface 260 v) 31 367 true).run Tryz.prog w=.ok (.tuple #[.nilIface,.bool false]) w:=run_typeAssert_lacksB Tryz.underlying367 (by kernel_rfl) (by kernel_rfl) _ 31 w
theorem znj(v:Value)(w:World):(Instr.typeAssert (.iface 260 v) 31 334 true).run Tryz.prog w=.ok (.tuple #[.iface 260 v,.bool true]) w:=run_typeAssert_hasB Tryz.underlying334 (by kernel_rfl) _ 31 w
theorem as_at(n:Int)(ba:Nat)(t:Addr)(old:Value)(w:World)(hg:w.cell? ⟨2,0,none⟩=some (.iface 362 (.agg #[.pointer (some ⟨12,31,none⟩)])))(ht0:w.cell? t=some old)(hf0:w.frozen? t=false)(hba:w.cell? ⟨ba,0,none⟩=some (.int .i64 n)) :
  zC 105 #[.iface 260 (.pointer (some ⟨ba,0,none⟩)),.iface 197 (.pointer (some t))] w fun ev w'=>ev=.returned (.bool true)/\w'=((((w.alloc (.cells #[.pointer (some t)] 197)).alloc (.cells #[.pointer (some ⟨12,197,none⟩),.pointer (some ⟨w.heap.size,0,none⟩),.int .u64 150] 298)).alloc (.cells #[.pointer (some ⟨12,197,none⟩),.pointer (some ⟨w.heap.size,0,none⟩),.int .u64 150] 298)).alloc (.cells #[.int .i64 n] 57)).setCell t (.int .i64 n):=by
 have h6:=@run_callFunc_extern Tryz.prog 180 _ (fun args=>ReflectliteValue.unpack (args.getD 0 (.tuple #[]))) Tryz.func180 (by kernel_rfl) (by kernel_rfl) (by kernel_rfl) (by kernel_rfl);have h7:=@run_callFunc_extern Tryz.prog 181 _ (ReflectliteValue.methodAny (ReflectliteValue.valueError "reflectlite.Value.Type" 0) (fun t _ _ _=>ReflectliteType.toType t)) Tryz.func181 (by kernel_rfl) (by kernel_rfl) (by kernel_rfl) (by kernel_rfl);have h8:=@run_callFunc_extern Tryz.prog 182 _ (ReflectliteValue.method (ReflectliteValue.valueError "reflectlite.Value.IsNil" 0) ReflectliteValue.isNil) Tryz.func182 (by kernel_rfl) (by kernel_rfl) (by kernel_rfl) (by kernel_rfl);have h27:=@run_callFunc_extern Tryz.prog 379 _ (ReflectliteType.abiMethod fun t=>do pure (.int .u8 (<-Rtype.kind t))) Tryz.func379 (by kernel_rfl) (by kernel_rfl) (by kernel_rfl) (by kernel_rfl);have h37:=@run_callFunc_extern Tryz.prog 392 _ (ReflectliteType.method ReflectliteType.elem) Tryz.func392 (by kernel_rfl) (by kernel_rfl) (by kernel_rfl) (by kernel_rfl);have h38:=@run_callFunc_extern Tryz.prog 393 _ (ReflectliteType.relation "Implements" ReflectliteType.implements_) Tryz.func393 (by kernel_rfl) (by kernel_rfl) (by kernel_rfl) (by kernel_rfl);have h10:=@run_callFunc_extern Tryz.prog 242 _ ReflectliteType.typeOf Tryz.func242 (by kernel_rfl) (by kernel_rfl) (by kernel_rfl) (by kernel_rfl);have h35:=@run_callFunc_extern Tryz.prog 390 _ (ReflectliteType.relation "AssignableTo" ReflectliteType.assignableTo) Tryz.func390 (by kernel_rfl) (by kernel_rfl) (by kernel_rfl) (by kernel_rfl);have h11:=@run_callFunc_extern Tryz.prog 243 _ (ReflectliteValue.method (ReflectliteValue.valueError "reflectlite.Value.Elem" 0) ReflectliteValue.elem) Tryz.func243 (by kernel_rfl) (by kernel_rfl) (by kernel_rfl) (by kernel_rfl);have h12:=@run_callFunc_extern Tryz.prog 244 _ ReflectliteValue.set Tryz.func244 (by kernel_rfl) (by kernel_rfl) (by kernel_rfl) (by kernel_rfl);have tO:=zoC;have mA:=zcL;have a25:=zgs;have v25:=zmd;have f6:=zlC;have f7:=zvw;have mK:=zhk;have mE:=zho;have mI:=zdx;have k27:=zv3;have k25:=zv2;have e27:=zvx;have i25:=zgL;have n8:=zsU ⟨w.heap.size,0,none⟩ t ((w.alloc (.cells #[.pointer (some t)] 197)).alloc (.cells #[.pointer (some ⟨12,197,none⟩),.pointer (some ⟨w.heap.size,0,none⟩),.int .u64 150] 298)) (by simp);have hlt:2<w.heap.size:=by
  rcases Nat.lt_or_ge 2 w.heap.size with h|h
  ·exact h
  ·simp[World.cell?,Array.getElem?_eq_none h] at hg
 have hg2:((w.alloc (.cells #[.pointer (some t)] 197)).alloc (.cells #[.pointer (some ⟨12,197,none⟩),.pointer (some ⟨w.heap.size,0,none⟩),.int .u64 150] 298)).cell? ⟨2,0,none⟩=some (.iface 362 (.agg #[.pointer (some ⟨12,31,none⟩)])):=by
  rw[World.cell?_alloc_lt _ _ ⟨2,0,none⟩ (by simp only[World.size_alloc];omega),World.cell?_alloc_lt _ _ ⟨2,0,none⟩ hlt];exact hg
 have htl:t.block<w.heap.size:=by
  rcases Nat.lt_or_ge t.block w.heap.size with h|h
  ·exact h
  ·simp[World.cell?,Array.getElem?_eq_none h] at ht0
 have el:=zsV ⟨w.heap.size,0,none⟩ t (((w.alloc (.cells #[.pointer (some t)] 197)).alloc (.cells #[.pointer (some ⟨12,197,none⟩),.pointer (some ⟨w.heap.size,0,none⟩),.int .u64 150] 298)).alloc (.cells #[.pointer (some ⟨12,197,none⟩),.pointer (some ⟨w.heap.size,0,none⟩),.int .u64 150] 298)) (by rw[World.cell?_alloc_lt _ _ ⟨w.heap.size,0,none⟩ (by simp;omega)];simp);have st:=zw5 t ⟨w.heap.size+1+1+1,0,none⟩ n old ((((w.alloc (.cells #[.pointer (some t)] 197)).alloc (.cells #[.pointer (some ⟨12,197,none⟩),.pointer (some ⟨w.heap.size,0,none⟩),.int .u64 150] 298)).alloc (.cells #[.pointer (some ⟨12,197,none⟩),.pointer (some ⟨w.heap.size,0,none⟩),.int .u64 150] 298)).alloc (.cells #[.int .i64 n] 57))
  (by rw[World.cell?_alloc_at _ _ _ _ (by simp)];rfl)
  (by rw[World.cell?_alloc_lt _ _ t (by simp;omega),World.cell?_alloc_lt _ _ t (by simp;omega),World.cell?_alloc_lt _ _ t (by simp;omega),World.cell?_alloc_lt _ _ t htl];exact ht0)
  (by rw[World.frozen?_alloc_old _ _ t (by simp;omega),World.frozen?_alloc_old _ _ t (by simp;omega),World.frozen?_alloc_old _ _ t (by simp;omega),World.frozen?_alloc_old _ _ t (Nat.ne_of_lt htl)];exact hf0)
 have hbl:ba<w.heap.size:=by
  rcases Nat.lt_or_ge ba w.heap.size with h|h
  ·exact h
  ·simp[World.cell?,Array.getElem?_eq_none h] at hba
 have hb3:(((w.alloc (.cells #[.pointer (some t)] 197)).alloc (.cells #[.pointer (some ⟨12,197,none⟩),.pointer (some ⟨w.heap.size,0,none⟩),.int .u64 150] 298)).alloc (.cells #[.pointer (some ⟨12,197,none⟩),.pointer (some ⟨w.heap.size,0,none⟩),.int .u64 150] 298)).cell? ⟨ba,0,none⟩=some (.int .i64 n):=by
  rw[World.cell?_alloc_lt _ _ ⟨ba,0,none⟩ (by simp only[World.size_alloc];omega),World.cell?_alloc_lt _ _ ⟨ba,0,none⟩ (by simp only[World.size_alloc];omega),World.cell?_alloc_lt _ _ ⟨ba,0,none⟩ hbl];exact hba
 have tA:=zt3;have aA:=zkj;have mU:=zjU;have n1:=zwU;have y1:=znj;go_enter Tryz.func105,Tryz.ntmps105;go_wp2;refine wp_loop_rounds 2 ?_;rw[rounds_succ];go_wp2;rw[rounds_succ];go_wp2;go_ret;exact⟨rfl,rfl⟩
end Errs
theorem zo7(n:Int)(ba:Nat)(w:World)(hg:ziC w)(hba:w.cell? ⟨ba,0,none⟩=some (.int .i64 n)) :
  zR 39 #[.iface 260 (.pointer (some ⟨ba,0,none⟩))] w (.int .i64 n):=by
 have hbl:ba<w.heap.size:=by
  rcases Nat.lt_or_ge ba w.heap.size with h|h
  ·exact h
  ·simp[World.cell?,Array.getElem?_eq_none h] at hba
 have H:=Errs.as_at n ba ⟨w.heap.size,0,none⟩ (.int .i64 0) (w.alloc (.cells #[.int .i64 0] 57)) (hg.below (zF.alloc zN _)) (zhX _ _ _) (zju _ _ _) ((World.cell?_alloc_lt _ _ ⟨ba,0,none⟩ hbl).trans hba);clear hba;go_enter Tryz.func39,Tryz.ntmps39;go_wp2_with fail;refine H.mono ?_;rintro e w' ⟨rfl,hw⟩;have hc:w'.cell? ⟨w.heap.size,0,none⟩=some (.int .i64 n):=by
  rw[hw];refine World.cell?_setCell_same' _ _ _ ?_;rw[World.cell?_alloc_lt _ _ ⟨w.heap.size,0,none⟩ (by simp;omega),World.cell?_alloc_lt _ _ ⟨w.heap.size,0,none⟩ (by simp;omega),World.cell?_alloc_lt _ _ ⟨w.heap.size,0,none⟩ (by simp;omega),World.cell?_alloc_lt _ _ ⟨w.heap.size,0,none⟩ (by simp),zhX];rfl
 have hb:zB w w':=by
  rw[hw];exact(((((zF.alloc zN _).alloc (by simp) _).alloc (by simp;omega) _).alloc (by simp;omega) _).alloc (by simp;omega) _).setCell zN _
 clear H hw;go_wp2;go_ret;exact⟨rfl,hb⟩
theorem zpA(w:World):zC 140 #[.nilIface] w fun e w'=>e=.returned (.tuple #[.int .i64 0,.int .i64 (-1)])/\w=w':=by
 go_enter Tryz.func140,Tryz.ntmps140;go_wp2_with fail;refine(zqJ _).mono ?_;rintro e w' ⟨rfl,rfl⟩;go_wp2_with fail;refine wp_loop_rounds 1 ?_;rw[rounds_succ];go_wp2;go_ret2;exact⟨rfl,rfl⟩
theorem zw8(n:Int)(w:World):(Instr.typeAssert (.iface 57 (.int .i64 n)) 31 260 true).run Tryz.prog w=.ok (.tuple #[.pointer none,.bool false]) w:=by kernel_rfl
theorem zvB(b:Nat)(w:World):(Instr.typeAssert (.iface 260 (.pointer (some ⟨b,0,none⟩))) 31 260 true).run Tryz.prog w=.ok (.tuple #[.pointer (some ⟨b,0,none⟩),.bool true]) w:=by kernel_rfl
theorem zrC(n:Int)(w:World):(Instr.typeAssert (.iface 57 (.int .i64 n)) 31 334 true).run Tryz.prog w=.ok (.tuple #[.nilIface,.bool false]) w:=run_typeAssert_lacksB Tryz.underlying334 (by kernel_rfl) (by kernel_rfl) _ 31 w
theorem zku(n:Int)(w:World)(hg:ziC w):zR 140 #[.iface 57 (.int .i64 n)] w (.tuple #[.int .i64 n,.int .i64 (-1)]):=by
 have H:=zfs n w hg;have h1:=zw8 n;have h2:=zrC n;go_enter Tryz.func140,Tryz.ntmps140;go_wp2_with fail;refine H.mono ?_;rintro e w' ⟨rfl,hb⟩;clear H;go_wp2_with fail;refine wp_loop_rounds 1 ?_;rw[rounds_succ];go_wp2;go_ret2;exact⟨rfl,hb⟩
theorem zsh(n pl:Int)(b:Nat)(w:World)(hg:ziC w)(h0:w.cell? ⟨b,0,none⟩=some (.int .i64 n))(h1:w.cell? ⟨b,1,none⟩=some (.int .i64 pl)) :
  zR 140 #[.iface 260 (.pointer (some ⟨b,0,none⟩))] w (.tuple #[.int .i64 n,.int .i64 pl]):=by
 have hbl:b<w.heap.size:=by
  rcases Nat.lt_or_ge b w.heap.size with h|h
  ·exact h
  ·simp[World.cell?,Array.getElem?_eq_none h] at h0
 have H:=zo7 n b w hg h0;have h2:=zvB b;have H1:=zH h1;clear h1 h0;go_enter Tryz.func140,Tryz.ntmps140;go_wp2_with fail;refine H.mono ?_;rintro e w' ⟨rfl,hb⟩;have c1:w'.cell? ⟨b,1,none⟩=some (.int .i64 pl):=(hb.cell (p:=⟨b,1,none⟩) hbl).trans H1.out;clear H;go_wp2_with fail;refine wp_loop_rounds 1 ?_;rw[rounds_succ];go_wp2_with fail;go_quiet (fail);have hbn:zB w (w'.drewN nq):=hb.trans ⟨rfl,rfl,rfl,Nat.le_refl _,fun _ _=>rfl⟩;have HBN:=zH hbn;clear hbn;go_wp2;go_ret2;exact⟨rfl,HBN.out⟩
theorem zp6(e:Value)(m pl:Int)(w:World)(hg:ziC w)(h:zmr w e m pl):zR 140 #[e] w (.tuple #[.int .i64 m,.int .i64 pl]):=by
 rcases h with ⟨rfl,rfl,rfl⟩|⟨_,rfl,rfl⟩|⟨_,b,_,rfl,h0,h1⟩
 ·exact(zpA w).mono fun e w' ⟨he,hw⟩=>⟨he,hw▸Below.refl _ _⟩
 ·exact zku m w hg
 ·exact zsh m pl b w hg h0 h1
theorem ze1(k:Int)(w:World):zR 61 #[.int .i64 k] w (.agg #[.int .i64 k,.int .i64 (-1)]):=by
 go_enter Tryz.func61,Tryz.ntmps61;go_wp2;exact bodyPost_ret (v:=.agg #[.int .i64 k,.int .i64 (-1)]) (by simp[results,Tryz.results61,go_sem]) rfl ⟨rfl,zF.alloc zN _⟩
theorem zwa(m k pl pk:Int)(v:Value)(w:World)(hg:ziC w)(hv:zmr w v m pl) :
  zR 63 #[v,.agg #[.int .i64 k,.int .i64 pk]] w (.bool (m==k&&pl==pk)):=by
 have HH:Hid (∀W:World,zB w W->zR 140 #[v] W (.tuple #[.int .i64 m,.int .i64 pl])):=fun W hW=>zp6 v m pl W (hg.below hW) (hv.below hW);clear hv hg;have hb1:zB w (w.alloc (.cells #[.int .i64 k,.int .i64 pk] 96)):=zF.alloc zN _;have fin:∀q r:Bool,(m==k)=q->(pl==pk)=r->zR 63 #[v,.agg #[.int .i64 k,.int .i64 pk]] w (.bool (q&&r)):=by
  intro q r hq hr;cases q<;>cases r
  all_goals
   go_enter Tryz.func63,Tryz.ntmps63;go_wp2_with fail;refine(HH.out _ hb1).mono ?_;rintro e w2 ⟨rfl,hb2⟩;have c0:w2.cell? ⟨w.heap.size,0,none⟩=some (.int .i64 k):=(hb2.cell (p:=⟨w.heap.size,0,none⟩) (by simp)).trans (by simp);have c1:w2.cell? ⟨w.heap.size,1,none⟩=some (.int .i64 pk):=(hb2.cell (p:=⟨w.heap.size,1,none⟩) (by simp)).trans (by simp);have hb3:zB w w2:=hb1.trans (hb2.mono (by simp));clear hb2;go_wp2;go_ret;exact⟨rfl,hb3⟩
 exact fin _ _ rfl rfl
end
end Go.Proofs.YtiihalknffbjpaaGreatDoor
