/- Maps by names. -/
import Derived.Test.YtiihalknffbjpaaGreatDoorSvHas
set_option maxHeartbeats 1000000
set_option maxRecDepth 100000
namespace Go.Proofs.YtiihalknffbjpaaGreatDoor
section
open Go.RowKit Sv
def qC(x y:Int):Int:=if x<y then -1 else if y<x then 1 else 0
theorem zbF(x:Int)(w:World):zC 358 #[.int .i64 x] w fun e w'=>e=.returned (.bool false)/\w'=w:=by
 go_enter Tryz.func358,Tryz.ntmps358;go_wp2;go_ret;exact⟨rfl,rfl⟩
theorem ziI(x y:Int)(w:World):zC 342 #[.int .i64 x,.int .i64 y] w fun e w'=>e=.returned (.int .i64 (qC x y))/\w'=w:=by
 have H1:Hid (∀W,zC 358 #[.int .i64 x] W fun e w'=>e=.returned (.bool false)/\w'=W):=fun W=>zbF x W;have H2:Hid (∀W,zC 358 #[.int .i64 y] W fun e w'=>e=.returned (.bool false)/\w'=W):=fun W=>zbF y W
 by_cases h:x<y
 ·have HC:Hid (qC x y=-1):=by show _=_;unfold qC;rw[if_pos h]
  go_enter Tryz.func342,Tryz.ntmps342;go_wp2_with fail;refine(H1.out _).mono ?_;rintro e w1 ⟨rfl,rfl⟩;go_wp2_with fail;refine(H2.out _).mono ?_;rintro e w2 ⟨rfl,rfl⟩;go_wp2;go_ret;exact⟨by rw[HC.out];rfl,rfl⟩
 ·by_cases h':y<x
  ·have HC:Hid (qC x y=1):=by show _=_;unfold qC;rw[if_neg h,if_pos h']
   go_enter Tryz.func342,Tryz.ntmps342;go_wp2_with fail;refine(H1.out _).mono ?_;rintro e w1 ⟨rfl,rfl⟩;go_wp2_with fail;refine(H2.out _).mono ?_;rintro e w2 ⟨rfl,rfl⟩;go_wp2;go_ret;exact⟨by rw[HC.out];rfl,rfl⟩
  ·have HC:Hid (qC x y=0):=by show _=_;unfold qC;rw[if_neg h,if_neg h']
   go_enter Tryz.func342,Tryz.ntmps342;go_wp2_with fail;refine(H1.out _).mono ?_;rintro e w1 ⟨rfl,rfl⟩;go_wp2_with fail;refine(H2.out _).mono ?_;rintro e w2 ⟨rfl,rfl⟩;go_wp2;go_ret;exact⟨by rw[HC.out];rfl,rfl⟩
def qT(x y:Nat->Int):Nat->Int
 |0=>0
 |n+1=>if qC (x (2-n)) (y (2-n))≠0 then qC (x (2-n)) (y (2-n)) else qT x y n
end
section
open Go.RowKit Sv
def tI(a b c:Int)(j:Nat):Int:=if j=0 then a else if j=1 then b else c
end
section
open Go.RowKit Go.Sort Sv
def Gr(w w':World):Prop:=∃q os,w'=grow (w.drewN q) os
theorem Gr.refl(w:World):Gr w w:=⟨0,#[],by rw[grow_empty];rfl⟩
theorem zlA(w:World)(os:Array Obj)(q:Nat):(grow w os).drewN q=grow (w.drewN q) os:=rfl
theorem zfR(w:World)(p q:Nat):(w.drewN p).drewN q=w.drewN (p+q):=by unfold World.drewN;simp[Nat.add_assoc]
theorem Gr.trans{a b c:World}(h:Gr a b)(k:Gr b c):Gr a c:=by
 obtain⟨q,os,rfl⟩:=h;obtain⟨q',os',rfl⟩:=k;exact⟨q+q',os++os',by rw[zlA,zfR,grow_grow]⟩
theorem Gr.alloc{a b:World}(h:Gr a b)(o:Obj):Gr a (b.alloc o):=h.trans ⟨0,#[o],by rw[alloc_eq_grow];rfl⟩
theorem Gr.drew{a b:World}(h:Gr a b):Gr a b.drew:=h.trans ⟨1,#[],by rw[grow_empty];rfl⟩
theorem Gr.below{a b:World}(h:Gr a b):zB a b:=by
 obtain⟨q,os,rfl⟩:=h;refine⟨rfl,rfl,rfl,by simp[grow,World.drewN],fun k hk=>?_⟩;show (a.heap++os)[k]?=a.heap[k]?;rw[Array.getElem?_append_left hk]
theorem zhV(x y:Nat->Int)(bx bv:Nat)(w:World)(lx:bx<w.heap.size)(ly:bv<w.heap.size)(hx:∀j,j<3->w.cell? ⟨bx,j,none⟩=some (.int .i64 (x j)))(hy:∀j,j<3->w.cell? ⟨bv,j,none⟩=some (.int .i64 (y j))) :
  zC 308 #[.slice (some ⟨bx,0,none⟩) 3 3,.slice (some ⟨bv,0,none⟩) 3 3] w fun e w'=>e=.returned (.int .i64 (qT x y 3))/\Gr w w':=by
 have HC:Hid (∀X Y W,zC 342 #[.int .i64 X,.int .i64 Y] W fun e w'=>e=.returned (.int .i64 (qC X Y))/\w'=W):=fun X Y W=>ziI X Y W;have hcell:Hid ((∀W,zB w W->∀j,j<3->W.cell? ⟨bx,j,none⟩=some (.int .i64 (x j)))/\(∀W,zB w W->∀j,j<3->W.cell? ⟨bv,j,none⟩=some (.int .i64 (y j)))):=⟨fun W hb j hj=>(hb.cell (p:=⟨bx,j,none⟩) lx).trans (hx j hj),fun W hb j hj=>(hb.cell (p:=⟨bv,j,none⟩) ly).trans (hy j hj)⟩;clear hx hy lx ly;go_enter Tryz.func308,Tryz.ntmps308;go_wp2_with fail;go_loopw [11] (fun iV wr=>∃k:Nat,k<=3/\iV=.int .i64 k/\qT x y 3=qT x y (3-k)/\Gr w wr) (fun iV _=>3-(intOf iV).toNat)
 case atStart=>exact⟨0,by omega,rfl,rfl,Gr.refl _⟩
 case round =>
  obtain⟨k,hk,rfl,heq,hbr⟩:=hrel;have HE:=zH heq;have HBR:=zH hbr;clear heq hbr
  by_cases hlt:k<3
  ·have c0:=hcell.out.1 _ HBR.out.below k hlt;have c1:=hcell.out.2 _ HBR.out.below k hlt;have HS:Hid (qT x y (3-k)=if qC (x k) (y k)≠0 then qC (x k) (y k) else qT x y (3-(k+1))):=by
    show _=_
    match k,hlt with
    |0,_=>rfl
    |1,_=>rfl
    |2,_=>rfl
   generalize x k=X at *;generalize y k=Y at *;go_wp2_with fail;refine(HC.out _ _ _).mono ?_;rintro e w1 ⟨rfl,rfl⟩;generalize qC X Y=Z at *
   by_cases hz:Z=0
   ·subst hz;go_wp2;go_roundw
    case rel=>exact⟨k+1,by omega,by go_num,by rw[HE.out,HS.out,if_neg (by simp)],HBR.out⟩
    case measure=>simp[intOf];omega
   ·have hz2:(Z==0)=false:=by rw[beq_eq_false_iff_ne];exact hz
    go_wp2;go_ret;exact⟨by rw[HE.out,HS.out,if_pos hz];rfl,HBR.out⟩
  ·obtain rfl:k=3:=by omega
   go_wp2;go_ret;exact⟨by rw[HE.out];rfl,HBR.out⟩
theorem zjA(a b c d e f:Int)(w:World) :
  zC 267 #[.agg #[.int .i64 a,.int .i64 b,.int .i64 c],.agg #[.int .i64 d,.int .i64 e,.int .i64 f]] w fun r w'=>r=.returned (.int .i64 (qT (tI a b c) (tI d e f) 3))/\Gr w w':=by
 have kv:=(Blk.new w 84 #[.int .i64 a,.int .i64 b,.int .i64 c]).alloc (.cells #[.int .i64 d,.int .i64 e,.int .i64 f] 84);have kw:=Blk.new (w.alloc (.cells #[.int .i64 a,.int .i64 b,.int .i64 c] 84)) 84 #[.int .i64 d,.int .i64 e,.int .i64 f];rw[World.size_alloc] at kw;have hB0:Gr w ((w.alloc (.cells #[.int .i64 a,.int .i64 b,.int .i64 c] 84)).alloc (.cells #[.int .i64 d,.int .i64 e,.int .i64 f] 84)):=((Gr.refl w).alloc _).alloc _;have HX:Hid (zC 308 #[.slice (some ⟨w.heap.size,0,none⟩) 3 3,.slice (some ⟨w.heap.size+1,0,none⟩) 3 3] ((w.alloc (.cells #[.int .i64 a,.int .i64 b,.int .i64 c] 84)).alloc (.cells #[.int .i64 d,.int .i64 e,.int .i64 f] 84)).drew fun r w'=>r=.returned (.int .i64 (qT (tI a b c) (tI d e f) 3))/\Gr w w'):=by
  generalize (w.alloc (.cells #[.int .i64 a,.int .i64 b,.int .i64 c] 84)).alloc (.cells #[.int .i64 d,.int .i64 e,.int .i64 f] 84)=W0 at *;have hd:zB W0 W0.drew:=zF.drew;have kv2:=kv.below hd kv.lt;have kw2:=kw.below hd kw.lt;refine(zhV (tI a b c) (tI d e f) w.heap.size (w.heap.size+1) W0.drew kv2.lt kw2.lt ?_ ?_).mono ?_
  ·intro j hj;rw[kv2.cell j]
   match j,hj with
   |0,_=>rfl
   |1,_=>rfl
   |2,_=>rfl
  ·intro j hj;rw[kw2.cell j]
   match j,hj with
   |0,_=>rfl
   |1,_=>rfl
   |2,_=>rfl
  ·rintro r w1 ⟨h1,h2⟩;have hb:Gr w W0.drew:=hB0.drew;exact⟨h1,hb.trans h2⟩
 clear kv kw hB0;go_enter Tryz.func267,Tryz.ntmps267;go_wp2_with fail;go_region_held3 (fun _=>True) (exact trivial)
  (((with_reducible refine HX.out.mono ?_);rintro r w1 ⟨rfl,hb1⟩;have HB1:=zH hb1;clear hb1))
 go_wp2;go_ret;exact⟨rfl,HB1.out⟩
end
section
open Sv
instance lawfulBA:LawfulBEq ByteArray where
 eq_of_beq {a b} h:=ByteArray.ext (eq_of_beq (show (a.data==b.data)=true from h))
 rfl {a}:=beq_self_eq_true a.data
structure Ln where
 kind:Int
 name:ByteArray
 a:Int
 b:Int
 c:Int
 other:ByteArray
 rng:List zc
structure It where
 name:ByteArray
 a:Int
 b:Int
 c:Int
deriving DecidableEq,Inhabited
instance:Inhabited Ln:=⟨⟨0,⟨#[]⟩,0,0,0,⟨#[]⟩,[]⟩⟩
def Ln.it(x:Ln):It:=⟨x.name,x.a,x.b,x.c⟩
def Ln.pair(x:Ln):Prop:=x.kind=2\/x.kind=3
instance (x:Ln):Decidable x.pair:=inferInstanceAs (Decidable (_\/_))
def za(s:ByteArray)(c:UInt8):ByteArray × ByteArray:=(⟨(Lib.cut s.data.toList [c]).1.toArray⟩,⟨(Lib.cut s.data.toList [c]).2.1.toArray⟩)
theorem qe(s:ByteArray)(c:UInt8):(za s c).1.size<=s.size/\(za s c).2.size<=s.size:=by
 unfold za Lib.cut;have hl:s.data.toList.length=s.size:=by simp
 split
 ·simp only[ByteArray.size,List.size_toArray,List.length_take,List.length_drop,Array.length_toList];omega
 ·simp only[ByteArray.size,List.size_toArray,Array.length_toList,List.length_nil];omega
def zw(w:ByteArray):Nat :=
 if w.toList=[112,97,99,107,97,103,101] then 1 else if w.toList=[110,101,101,100,115] then 2 else if w.toList=[99,108,97,115,104,101,115] then 3 else if w.toList=[114,111,111,116] then 4 else 0
theorem zbG(w:ByteArray):zw w<=4:=by
 unfold zw
 repeat' split
 all_goals omega
def xe(s:ByteArray):Except (Int × Option Nat) (List zc) :=
 if 1000<s.size then .error (4,none) else match xO s with
  |.error (k,p)=>.error (k,some p)
  |.ok l=>.ok l
def yS(k:Nat)(name:ByteArray)(ns:List Nat)(other rest:ByteArray):Except (Int × Option Nat) Ln :=
 match xe rest with
 |.error e=>.error e
 |.ok l=>.ok ⟨(k:Int),name,((ns.getD 0 0:Nat):Int),((ns.getD 1 0:Nat):Int),((ns.getD 2 0:Nat):Int),other,l⟩
def Zl(s:ByteArray):Except (Int × Option Nat) Ln :=
 if zw (za s 32).1=0 then .error (3,none)
 else if zw (za s 32).1=4 then yS 4 (za (za s 32).2 32).1 [] ⟨#[]⟩ (za (za s 32).2 32).2
 else match zz (za (za (za s 32).2 32).2 32).1 with
  |.error e=>.error (e,none)
  |.ok ns =>
   if zw (za s 32).1=1 then
    if (za (za (za s 32).2 32).2 32).2.size=0 then .ok ⟨1,(za (za s 32).2 32).1,((ns.getD 0 0:Nat):Int),((ns.getD 1 0:Nat):Int),((ns.getD 2 0:Nat):Int),⟨#[]⟩,[]⟩ else .error (3,none)
   else yS (zw (za s 32).1) (za (za s 32).2 32).1 ns (za (za (za (za s 32).2 32).2 32).2 32).1 (za (za (za (za s 32).2 32).2 32).2 32).2
def qV(s:ByteArray):Nat->Nat->List (Nat × ByteArray)
 |0,_=>[]
 |f+1,k=>if s.size<=k then [] else
  (if (za (s.extract k s.size) 10).1.size=0 then [] else [(k,(za (s.extract k s.size) 10).1)])++qV s f (k+(za (s.extract k s.size) 10).1.size+1)
def plF:List (Nat × ByteArray)->List (Nat × Ln)->Except (Int × Nat) (List (Nat × Ln))
 |[],acc=>.ok acc
 |x :: r,acc=>match Zl x.2 with
  |.error e=>.error (e.1,x.1)
  |.ok l=>plF r (acc++[(x.1,l)])
theorem YT(l r:List (Nat × ByteArray)):∀(acc:List (Nat × Ln)),plF (l++r) acc=match plF l acc with
  |.error e=>.error e
  |.ok acc'=>plF r acc':=by
 induction l with
 |nil=>intro acc;rfl
 |cons x l ih =>
  intro acc;rw[List.cons_append,plF,plF];split
  ·rfl
  ·exact ih _
theorem ziP:∀(l:List (Nat × ByteArray)) (acc:List (Nat × Ln)) (out:List (Nat × Ln)),plF l acc=.ok out->out.length=acc.length+l.length:=by
 intro l
 induction l with
 |nil=>intro acc out h;cases h;rfl
 |cons x l ih =>
  intro acc out h;unfold plF at h;split at h
  ·cases h
  ·have:=ih _ _ h;simp at this ⊢;omega
def InV(a b c:Int):Prop:=(0<=a/\a<=999)/\(0<=b/\b<=999)/\0<=c/\c<=999
instance (a b c:Int):Decidable (InV a b c):=inferInstanceAs (Decidable (_/\_))
open Classical in
noncomputable def qp(x:Ln):Int :=
 if x.kind<1\/4<x.kind then 1
 else if ¬zl x.name\/(x.pair/\¬zl x.other) then 5
 else if ¬x.pair/\x.other.size≠0 then 1
 else if x.kind=1/\x.rng≠[] then 1
 else if x.kind=4/\(x.a≠0\/x.b≠0\/x.c≠0) then 1
 else if ¬InV x.a x.b x.c then 2 else 0
def qO(l:List It):Nat:=((l.map It.name).eraseDups).length
noncomputable def zU:List Ln->Nat->List It->Except (Int × Nat) (List It)
 |[],_,its=>.ok its
 |x :: r,i,its =>
  if qp x≠0 then .error (qp x,i)
  else if x.kind=1 then
   if x.it∈its then .error (9,i)
   else if 8<qO (its++[x.it])\/its.length=24 then .error (4,i)
   else zU r (i+1) (its++[x.it])
  else zU r (i+1) its
def zO(x y:It):Int:=if x.name.toList=y.name.toList then qT (tI y.a y.b y.c) (tI x.a x.b x.c) 3 else Lib.compareBytes x.name.data.toList y.name.data.toList
def qR(l:List It):List It:=l.mergeSort fun x y=>!decide (zO y x<0)
def qd:List Ln->Nat->List It->Option Nat
 |[],_,_=>none
 |x :: r,i,its=>if x.pair/\x.it∉its then some i else qd r (i+1) its
noncomputable def zQ(ls:List Ln):Except (Int × Option Nat) (List It) :=
 if 100<ls.length then .error (4,none)
 else match zU ls 0 [] with
  |.error e=>.error (e.1,some e.2)
  |.ok its=>match qd ls 0 (qR its) with
   |some i=>.error (7,some i)
   |none=>.ok (qR its)
noncomputable def yD(s:ByteArray):Except (Int × Option Nat) (List Ln × List It) :=
 if 20000<s.size then .error (4,none)
 else match plF (qV s s.size 0) [] with
  |.error e=>.error (e.1,some e.2)
  |.ok ps=>match zQ (ps.map Prod.snd) with
   |.error (e,none)=>.error (e,none)
   |.error (e,some i)=>.error (e,some ((ps.map Prod.fst).getD i 0))
   |.ok its=>.ok (ps.map Prod.snd,its)
def qX(its:List It)(name:ByteArray):Option (Nat × Nat) :=
 its.zipIdx.foldl (fun r x=>if x.1.name=name then some ((r.map Prod.fst).getD x.2,x.2+1) else r) none
theorem XM(l:List It)(x:It)(name:ByteArray):qX (l++[x]) name=if x.name=name then some (((qX l name).map Prod.fst).getD l.length,l.length+1) else qX l name:=by
 unfold qX;rw[List.zipIdx_append,List.foldl_append];simp
def qQ(its:List It)(name:ByteArray):Nat × Nat:=(qX its name).getD (0,0)
def yM(rng:List zc)(x:It):Prop:=InV x.a x.b x.c/\mem rng (Zm x.a.toNat x.b.toNat x.c.toNat)
open Classical in
noncomputable def zZ(its:List It)(name:ByteArray)(rng:List zc):List Nat :=
 (List.range' (qQ its name).1 ((qQ its name).2-(qQ its name).1)).filter fun i=>decide (yM rng (its.getD i default))
def ql(its:List It)(x:It):Int:=match its.findIdx? (fun y=>decide (x=y)) with|some i=>(i:Int)|none=>-1
def zp(k:Int):Int:=-(k+1)
noncomputable def yj(its:List It)(n:Nat)(x:Ln):List (Int × List Int) :=
 if x.kind=4 then [((n:Int),(zZ its x.name x.rng).map fun (k:Nat)=>((k:Int)+1))]
 else if x.kind=2 then [((n:Int),zp (ql its x.it) :: (zZ its x.other x.rng).map fun (k:Nat)=>((k:Int)+1))]
 else if x.kind=3 then (zZ its x.other x.rng).map fun (k:Nat)=>((n:Int),[zp (ql its x.it),zp (k:Int)])
 else []
def q7(lines:List Bool)(n:Int):Bool:=decide (n=-1)||(decide (0<=n)&&lines.getD n.toNat false)
def zS(l:List (Int × List Int))(lines:List Bool):List (List Int):=(l.filter fun x=>q7 lines x.1).map Prod.snd
end
section
open Go.RowKit Go.Deep
structure Kp(B:Nat)(w w':World):Prop where
 size:w.heap.size<=w'.heap.size
 block:∀k,k<w.heap.size->(k<B\/∃cur fr,w.heap[k]?=some (.cells cur 3 fr))->w'.heap[k]?=w.heap[k]?
section
variable {B:Nat} {w w' w'':World}
theorem Kp.refl(B:Nat)(w:World):Kp B w w:=⟨Nat.le_refl _,fun _ _ _=>rfl⟩
theorem Kp.trans(h:Kp B w w')(h2:Kp B w' w''):Kp B w w'':=⟨Nat.le_trans h.size h2.size,fun k hk hc=>by
 have e:=h.block k hk hc;rw[<-e];refine h2.block k (Nat.lt_of_lt_of_le hk h.size) ?_;rw [e];exact hc⟩
theorem Kp.zero(h:Kp B w w'):Kp 0 w w':=⟨h.size,fun k hk hc=>h.block k hk (hc.imp (fun h=>by omega) id)⟩
theorem Kp.new(hb:zB w w'):Kp B w w':=⟨hb.size,fun k hk _=>hb.block k hk⟩
theorem Kp.set{b i:Nat}{t:TypeId}{cs:Array Value}{v:Value}(hB:B<=b)(h:Blk w b t cs)(ht:t≠3):Kp B w (w.setCell ⟨b,i,none⟩ v):=by
 refine⟨by simp[World.setCell],fun k hk hc=>Below.heap_setCell _ _ _ k (fun e=>?_)⟩;have e':k=b:=e;subst e';rcases hc with hc|⟨cur,fr,hc⟩
 ·omega
 ·rw[show w.heap[k]?=_ from h] at hc;simp only[Option.some.injEq,Obj.cells.injEq] at hc;exact ht hc.2.1
theorem Kp.grown{e:TypeId}{size n:Nat}{v:Value}{xs:List Value}(h:w.ownsRow B e size v n xs)(hg:w.grownBy w' v.ownBlock)(he:e≠3):Kp B w w':=by
 refine⟨hg.size,fun k hk hc=>hg.block k hk (fun e'=>?_)⟩;obtain⟨h1,h2⟩:=h.lt k e'.symm;rcases hc with hc|⟨cur,fr,hc⟩
 ·omega
 ·rcases h.2 with ⟨hv,_⟩|⟨g,cap,cur',hv,_,hg',_⟩
  ·rw[hv] at e';cases e'
  ·rw[hv] at e';simp only[Value.ownBlock,Option.some.injEq] at e';subst e';rw[hg'] at hc;simp only[Option.some.injEq,Obj.cells.injEq] at hc;exact he hc.2.1
def zW(B:Nat)(w:World)(a:Option Addr)(xs:List Int):Prop :=
 ∀i,i<xs.length->∃ad:Addr,a=some ad/\ad.block<w.heap.size/\(ad.block<B\/∃cur fr,w.heap[ad.block]?=some (.cells cur 3 fr))/\w.cell? (ad.add i)=some (.int .i64 (xs.getD i 0))
theorem zW.ints{a:Option Addr}{xs:List Int}(h:zW B w a xs):qh w a xs:=fun i hi=>by
 obtain⟨ad,h1,h2,_,h4⟩:=h i hi;exact⟨ad,h1,h2,h4⟩
theorem zW.kp{a:Option Addr}{xs:List Int}(h:zW B w a xs)(hk:Kp B w w'):zW B w' a xs:=fun i hi=>by
 obtain⟨ad,h1,h2,h3,h4⟩:=h i hi;have e:=hk.block _ h2 h3;refine⟨ad,h1,Nat.lt_of_lt_of_le h2 hk.size,by rw[e];exact h3,?_⟩;rw[World.cell?_of_block (w:=w) (by rw[yH];exact e)];exact h4
theorem zW.more{a:Option Addr}{xs:List Int}(h:zW 0 w a xs):zW B w a xs:=fun i hi=>by
 obtain⟨ad,h1,h2,h3,h4⟩:=h i hi;exact⟨ad,h1,h2,h3.imp (fun h=>by omega) id,h4⟩
theorem zW.of{a:Option Addr}{xs:List Int}(h:qh w a xs)(hb:zB w w'):zW w.heap.size w' a xs:=fun i hi=>by
 obtain⟨ad,h1,h2,h3⟩:=h.below hb i hi;obtain⟨ad',h4,h5,_⟩:=h i hi;obtain rfl:=Option.some.inj (h1.symm.trans h4);exact⟨ad,h1,h2,Or.inl h5,h3⟩
def zE(B:Nat)(w:World)(cs:List Value)(l:List (List Int)):Prop :=
 cs.length=l.length/\∀i,i<l.length->∃(a:Option Addr) (cap:Nat),cs[i]?=some (.slice a (l.getD i []).length cap)/\(l.getD i []).length<=cap/\cap<=9223372036854775807/\zW B w a (l.getD i [])
theorem zE.kp{cs:List Value}{l:List (List Int)}(h:zE B w cs l)(hk:Kp B w w'):zE B w' cs l:=⟨h.1,fun i hi=>by
 obtain⟨a,cap,h1,h2,h3,h4⟩:=h.2 i hi;exact ⟨a,cap,h1,h2,h3,h4.kp hk⟩⟩
theorem zE.nil:zE B w [] []:=⟨rfl,fun i hi=>by simp at hi⟩
theorem zE.snoc{cs:List Value}{l:List (List Int)}(h:zE B w cs l){a:Option Addr}{cap:Nat}{c:List Int}(h1:c.length<=cap)(h2:cap<=9223372036854775807)(h3:zW B w a c):zE B w (cs++[.slice a c.length cap]) (l++[c]):=by
 refine⟨by simp[h.1],fun i hi=>?_⟩
 by_cases hl:i<l.length
 ·have e:(l++[c]).getD i []=l.getD i []:=by simp[List.getD_eq_getElem?_getD,List.getElem?_append_left hl]
  rw[e,List.getElem?_append_left (by rw[h.1];exact hl)];exact h.2 i hl
 ·have hi':i=l.length:=by simp at hi;omega
  subst hi';have e:(l++[c]).getD l.length []=c:=by simp[List.getD_eq_getElem?_getD]
  rw[e,List.getElem?_append_right (by rw[h.1];exact Nat.le_refl _),h.1];exact⟨a,cap,by simp,h1,h2,h3⟩
theorem zE.cls{cs:List Value}{l:List (List Int)}{a:Option Addr}{cap:Nat}(h:zE B w cs l)(hr:w.ownsRow B 81 1 (.slice a l.length cap) l.length cs):qn w a l:=by
 intro i hi;obtain⟨a',cap',h1,h2,h3,h4⟩:=h.2 i hi;rcases hr.2 with ⟨e,e0⟩|⟨g,cap2,cur,e,hB,hg,-⟩
 ·omega
 ·injection e with e1 e2 e3;subst e1 e3;refine⟨_,a',cap',rfl,(Array.getElem?_eq_some_iff.1 hg).1,?_,h2,h3,h4.ints⟩;have:=hr.cellAt i (by omega);rw[yd,Nat.zero_add,this,h1]
theorem zE.one{cs:List Value}{l:List (List Int)}(h:zE B w cs l):∀u∈cs,u.oneCell'=true:=fun u hu=>by
 obtain⟨i,hi,rfl⟩:=List.getElem_of_mem hu;obtain⟨a,cap,h1,_⟩:=h.2 i (by rw[<-h.1];exact hi);rw[List.getElem?_eq_getElem hi] at h1;rw[Option.some.inj h1];rfl
end
theorem qE{w:World}{B:Nat}{e T:TypeId}{size:Nat}{v:Value}{n:Nat}{xs:List Value}{b:Nat}{cs:Array Value}(hown:w.ownsRow B e size v n xs)(hb:Blk w b T cs)(hTe:T≠e):v.ownBlock≠some b:=by
 rcases hown.2 with ⟨rfl,_⟩|⟨g,cap,cur,rfl,_,hg,_⟩
 ·simp[Value.ownBlock]
 ·intro h;simp only[Value.ownBlock,Option.some.injEq] at h;subst h;rw[show w.heap[g]?=_ from hb] at hg;simp only[Option.some.injEq,Obj.cells.injEq] at hg;exact hTe hg.2.1
theorem xr{w:World}{B:Nat}{e e2:TypeId}{size size2:Nat}{v v2:Value}{n n2:Nat}{xs xs2:List Value}(h1:w.ownsRow B e size v n xs)(h2:w.ownsRow B e2 size2 v2 n2 xs2)(hne:e≠e2):v.ownBlock=none\/v.ownBlock≠v2.ownBlock:=by
 rcases h1.2 with ⟨rfl,_⟩|⟨g,cap,cur,rfl,_,hg,_⟩
 ·exact Or.inl rfl
 ·refine Or.inr fun e'=>?_;exact qE h2 (b:=g) (cs:=cur) (T:=e) hg hne e'.symm
theorem zm{B:Nat}{w w':World}{t:TypeId}{size:Nat}{v:Value}{n:Nat}{cs:List Value}(h:w.ownsRow B t size v n cs)(hb:zB w w'):w'.ownsRow B t size v n cs:=by
 obtain⟨h1,h2⟩:=h;refine⟨h1,?_⟩;rcases h2 with h2|⟨g,cap,cur,hv,hg,hh,r⟩
 ·exact Or.inl h2
 ·exact Or.inr ⟨g,cap,cur,hv,hg,by rw[hb.block g (Array.getElem?_eq_some_iff.1 hh).1];exact hh,r⟩
end
section
open Go.RowKit Go.Deep Sv
structure qY(w:World)(v:Value)(n:Nat)(cs:List Value):Prop where
 form:∃a cap,v=.slice a n cap/\(a=none->cap=0)/\n<=cap/\cap<=9223372036854775807/\(a=none\/∃g,a=some ⟨g,0,none⟩)
 cells:0<n->∃g cap,v=.slice (some ⟨g,0,none⟩) n cap/\g<w.heap.size/\∀(j:Nat) u,cs[j]?=some u->w.cell? ⟨g,j,none⟩=some u
theorem qY.below{B:Nat}{w w':World}{v:Value}{n:Nat}{cs:List Value}(h:qY w v n cs)(hb:Below B w w')(hB:w.heap.size<=B):qY w' v n cs :=
 ⟨h.form,fun hn=>by
  obtain⟨g,cap,e,hg,hc⟩:=h.cells hn;exact ⟨g,cap,e,Nat.lt_of_lt_of_le hg hb.size,fun j u hu=>(hb.cell (p:=⟨g,j,none⟩) (by show g<B;omega)).trans (hc j u hu)⟩⟩
theorem zj{B:Nat}{w:World}{v:Value}{t:TypeId}{k n:Nat}{cs:List Value}(h:w.ownsRow B t k v n cs):qY w v n cs:=by
 have hl:=h.1;rcases h.2 with ⟨e,e0⟩|⟨g,cap,cur,e,hB,hg,hn,hm,hsz,htake⟩
 ·exact⟨⟨none,0,by rw[e,e0],fun _=>rfl,by omega,by omega,Or.inl rfl⟩,fun hi=>by omega⟩
 ·unfold maxLen at hm;refine⟨⟨_,_,e,(fun h=>by cases h),hn,hm,Or.inr ⟨g,rfl⟩⟩,fun _=>⟨g,cap,e,(h.lt g (by rw[e];rfl)).2,fun j u hu=>?_⟩⟩;have hj:=(List.getElem?_eq_some_iff.1 hu).1;rw[<-htake,List.getElem?_take,if_pos (by omega)] at hu;rw[<-hu];simp[World.cell?,hg]
def zG(x:It):List Value:=[.string x.name,.int .i64 x.a,.int .i64 x.b,.int .i64 x.c]
def zh(l:List It):List Value:=l.flatMap zG
theorem xq(l:List It):(zh l).length=l.length*4:=by
 induction l with
 |nil=>rfl
 |cons x l ih=>unfold zh at *;rw[List.flatMap_cons,List.length_append,ih];simp[zG];omega
theorem Xc(a b:List It):zh (a++b)=zh a++zh b:=by simp[zh]
theorem Z6:∀(l:List It) (i:Nat),i<l.length->∀(j:Nat) (u:Value),(zG (l.getD i default))[j]?=some u->(zh l)[i*4+j]?=some u
 |[],i,h,_,_,_=>by simp at h
 |x :: l,0,_,j,u,hu=>by
  have hj:j<4:=by have:=(List.getElem?_eq_some_iff.1 hu).1;simpa[zG] using this
  rw[show zh (x :: l)=zG x++zh l from rfl,Nat.zero_mul,Nat.zero_add,List.getElem?_append_left (by simpa[zG] using hj)];simpa using hu
 |x :: l,i+1,h,j,u,hu=>by
  have ih:=Z6 l i (by simpa using h) j u (by simpa using hu);rw[show zh (x :: l)=zG x++zh l from rfl,List.getElem?_append_right (by simp[zG];omega)];rw[show (i+1)*4+j-(zG x).length=i*4+j by simp[zG];omega];exact ih
def qP(w:World)(v:Value)(l:List It):Prop:=qY w v l.length (zh l)
theorem qP.at{w:World}{v:Value}{l:List It}(h:qP w v l)(i:Nat)(hi:i<l.length):∃g cap,v=.slice (some ⟨g,0,none⟩) l.length cap/\g<w.heap.size/\w.cell? ⟨g,i*4,none⟩=some (.string (l.getD i default).name)/\w.cell? ⟨g,i*4+1,none⟩=some (.int .i64 (l.getD i default).a)/\w.cell? ⟨g,i*4+2,none⟩=some (.int .i64 (l.getD i default).b)/\w.cell? ⟨g,i*4+3,none⟩=some (.int .i64 (l.getD i default).c):=by
 obtain⟨g,cap,e,hg,hc⟩:=h.cells (by omega);exact⟨g,cap,e,hg,hc _ _ (Z6 l i hi 0 _ rfl),hc _ _ (Z6 l i hi 1 _ rfl),hc _ _ (Z6 l i hi 2 _ rfl),hc _ _ (Z6 l i hi 3 _ rfl)⟩
def xX(x:Ln)(v:Value):List Value:=[.int .i64 x.kind,.string x.name,.int .i64 x.a,.int .i64 x.b,.int .i64 x.c,.string x.other,v]
def qb:List Ln->List Value->List Value
 |x :: l,v :: vs=>xX x v++qb l vs
 |_,_=>[]
theorem YW:∀(l:List Ln) (vs:List Value),vs.length=l.length->(qb l vs).length=l.length*7
 |[],[],_=>rfl
 |x :: l,v :: vs,h=>by
  have:=YW l vs (by simpa using h);rw[qb,List.length_append,this];simp[xX];omega
 |[],v :: vs,h=>by simp at h
 |x :: l,[],h=>by simp at h
theorem Js:∀(l:List Ln) (vs:List Value) (x:Ln) (v:Value),vs.length=l.length->qb (l++[x]) (vs++[v])=qb l vs++xX x v
 |[],[],x,v,_=>by simp[qb]
 |y :: l,u :: vs,x,v,h=>by
  have:=Js l vs x v (by simpa using h);simp[qb,this]
 |[],v :: vs,_,_,h=>by simp at h
 |x :: l,[],_,_,h=>by simp at h
theorem Jy:∀(l:List Ln) (vs:List Value),vs.length=l.length->∀(i:Nat),i<l.length->∀(j:Nat) (u:Value),(xX (l.getD i default) (vs.getD i undef))[j]?=some u->(qb l vs)[i*7+j]?=some u
 |[],[],_,i,h,_,_,_=>by simp at h
 |x :: l,v :: vs,_,0,_,j,u,hu=>by
  have hj:j<7:=by have:=(List.getElem?_eq_some_iff.1 hu).1;simpa[xX] using this
  rw[qb,Nat.zero_mul,Nat.zero_add,List.getElem?_append_left (by simpa[xX] using hj)];simpa using hu
 |x :: l,v :: vs,hl,i+1,h,j,u,hu=>by
  have ih:=Jy l vs (by simpa using hl) i (by simpa using h) j u (by simpa using hu);rw[qb,List.getElem?_append_right (by simp[xX];omega)];rw[show (i+1)*7+j-(xX x v).length=i*7+j by simp[xX];omega];exact ih
 |[],v :: vs,h,_,_,_,_,_=>by simp at h
 |x :: l,[],h,_,_,_,_,_=>by simp at h
def qv(w:World)(l:List Ln)(vs:List Value):Prop:=vs.length=l.length/\∀i,i<l.length->zg w (vs.getD i undef) (l.getD i default).rng/\Rg (l.getD i default).rng
theorem qv.below{B:Nat}{w w':World}{l:List Ln}{vs:List Value}(h:qv w l vs)(hb:Below B w w')(hB:w.heap.size<=B):qv w' l vs:=⟨h.1,fun i hi=>⟨(h.2 i hi).1.below hb hB,(h.2 i hi).2⟩⟩
theorem zh2(w:World):qv w [] []:=⟨rfl,fun i h=>by simp at h⟩
theorem qv.snoc{w:World}{l:List Ln}{vs:List Value}(h:qv w l vs){x:Ln}{v:Value}(hv:zg w v x.rng)(hr:Rg x.rng):qv w (l++[x]) (vs++[v]):=by
 refine⟨by simp[h.1],fun i hi=>?_⟩
 by_cases hl:i<l.length
 ·have e1:(l++[x]).getD i default=l.getD i default:=by simp[List.getD_eq_getElem?_getD,List.getElem?_append_left hl]
  have e2:(vs++[v]).getD i undef=vs.getD i undef:=by simp[List.getD_eq_getElem?_getD,List.getElem?_append_left (show i<vs.length by rw[h.1];exact hl)]
  rw[e1,e2];exact h.2 i hl
 ·obtain rfl:i=l.length:=by simp at hi;omega
  have e1:(l++[x]).getD l.length default=x:=by simp[List.getD_eq_getElem?_getD]
  have e2:(vs++[v]).getD l.length undef=v:=by simp[List.getD_eq_getElem?_getD,<-h.1]
  rw[e1,e2];exact⟨hv,hr⟩
def xN(w:World)(v:Value)(l:List Ln):Prop:=∃vs,qv w l vs/\qY w v l.length (qb l vs)
theorem xN.below{B:Nat}{w w':World}{v:Value}{l:List Ln}(h:xN w v l)(hb:Below B w w')(hB:w.heap.size<=B):xN w' v l:=by
 obtain⟨vs,h1,h2⟩:=h;exact⟨vs,h1.below hb hB,h2.below hb hB⟩
theorem xN.at{w:World}{v:Value}{l:List Ln}(h:xN w v l)(i:Nat)(hi:i<l.length):∃g cap rv,v=.slice (some ⟨g,0,none⟩) l.length cap/\g<w.heap.size/\zg w rv (l.getD i default).rng/\Rg (l.getD i default).rng/\w.cell? ⟨g,i*7,none⟩=some (.int .i64 (l.getD i default).kind)/\w.cell? ⟨g,i*7+1,none⟩=some (.string (l.getD i default).name)/\w.cell? ⟨g,i*7+2,none⟩=some (.int .i64 (l.getD i default).a)/\w.cell? ⟨g,i*7+3,none⟩=some (.int .i64 (l.getD i default).b)/\w.cell? ⟨g,i*7+4,none⟩=some (.int .i64 (l.getD i default).c)/\w.cell? ⟨g,i*7+5,none⟩=some (.string (l.getD i default).other)/\w.cell? ⟨g,i*7+6,none⟩=some rv:=by
 obtain⟨vs,h1,h2⟩:=h;obtain⟨g,cap,e,hg,hc⟩:=h2.cells (by omega);have H:=fun j u hu=>hc _ _ (Jy l vs h1.1 i hi j u hu);exact⟨g,cap,vs.getD i undef,e,hg,(h1.2 i hi).1,(h1.2 i hi).2,H 0 _ rfl,H 1 _ rfl,H 2 _ rfl,H 3 _ rfl,H 4 _ rfl,H 5 _ rfl,H 6 _ rfl⟩
end
section
open Go.RowKit Go.Maps
theorem Yg:Keyed Tryz.prog 9:=string_keyed Tryz.underlying9
theorem Yb{s:ByteArray}(h:s.size<=100000):keyOf Tryz.prog 9 (.string s)=some (.string s.data.toList):=WideMaps.keyOf_string_mk Tryz.underlying9 (by unfold maxLen;omega)
def Z5(s:ByteArray):Lit:=.string s.data.toList
theorem Jk(s:ByteArray):WideAt.IsKeyLit (Z5 s):=trivial
theorem zcJ{a b:ByteArray}(h:Z5 a=Z5 b):a=b:=by
 unfold Z5 at h;injection h with h;exact ByteArray.ext (Array.toList_inj.1 h)
structure Zh{β:Type}(el:β->DataW Unit)(D:DataW Unit)(f:ByteArray->Option β)(n:Nat):Prop where
 tidy:Tidy D
 size:Maps.size D=n
 has:∀a,Maps.has D (Z5 a)=(f a).isSome
 at':∀a b,f a=some b->∀z,D.atKey (Z5 a) z=el b
section
variable {β:Type} {el:β->DataW Unit} {D:DataW Unit} {f:ByteArray->Option β} {n:Nat}
theorem Zh.empty:Zh el (.map []) (fun _=>(none:Option β)) 0:=⟨tidy_empty,rfl,fun a=>by simp[Maps.has],fun a b h=>by cases h⟩
theorem Zh.put(h:Zh el D f n)(a:ByteArray)(b:β):Zh el (D.put (Z5 a) (el b)) (fun c=>if c=a then some b else f c) (if (f a).isSome then n else n+1):=by
 refine⟨h.tidy.put (Jk a) _,?_,fun c=>?_,fun c d hd z=>?_⟩
 ·rw[size_put h.tidy,h.has,h.size]
 ·by_cases e:c=a
  ·subst e;rw[has_put_same h.tidy.isMap (Jk c)];simp
  ·rw[has_put_other (fun e'=>e (zcJ e')),h.has,if_neg e]
 ·by_cases e:c=a
  ·subst e;rw[if_pos rfl] at hd;cases hd;exact atKey_put_same h.tidy.isMap (Jk c) _ _
  ·rw[if_neg e] at hd;rw[atKey_put_other (fun e'=>e (zcJ e'))];exact h.at' c d hd z
end
def Qt(r:Nat × Nat):DataW Unit:=.agg [.lit (.int .i64 r.1),.lit (.int .i64 r.2)]
def Qh(r:Nat × Nat):Value:=.agg #[.int .i64 r.1,.int .i64 r.2]
def zcD:List Value->Option (DataW Unit × List MemPlace)
 |[.int .i64 a,.int .i64 b]=>some (.agg [.lit (.int .i64 a),.lit (.int .i64 b)],[])
 |_=>none
def Yu:Value->Option (DataW Unit × List MemPlace)
 |.agg cs=>zcD cs.toList
 |_=>none
theorem XB(r:Nat × Nat):Yu (Qh r)=some (Qt r,[]):=rfl
theorem zca{v:Value}{r:Nat × Nat}{ps:List MemPlace}(h:Yu v=some (Qt r,ps)):v=Qh r:=by
 unfold Yu at h;split at h
 ·rename_i cs;unfold zcD at h;split at h
  ·rename_i a b e;simp only[Option.some.injEq,Prod.mk.injEq,Qt,DataW.agg.injEq,List.cons.injEq,DataW.lit.injEq,Lit.int.injEq,true_and,and_true] at h;obtain⟨⟨h1,h2⟩,-⟩:=h;rw[show cs=#[.int .i64 a,.int .i64 b] from Array.toList_inj.1 e,h1,h2];rfl
  ·cases h
 ·cases h
theorem zbE(w:World):(zeroValue 341).run Tryz.prog w=.ok (.agg #[.int .i64 0,.int .i64 0]) w:=by kernel_rfl
def qJ(w:World)(bm:Nat)(f:ByteArray->Option (Nat × Nat))(N:Nat):Prop:=∃D n,w.ownsMap Tryz.prog 9 Yu bm n D/\Zh Qt D f n/\n<=N
theorem qJ.below{B:Nat}{w w':World}{bm N:Nat}{f:ByteArray->Option (Nat × Nat)}(h:qJ w bm f N)(hb:Below B w w')(hB:w.heap.size<=B):qJ w' bm f N:=by
 obtain⟨D,n,h1,h2,h3⟩:=h;exact⟨D,n,QT h1 (hb.mono hB),h2,h3⟩
theorem qJ.block{w w':World}{bm N:Nat}{f:ByteArray->Option (Nat × Nat)}(h:qJ w bm f N)(hb:w'.heap[bm]?=w.heap[bm]?):qJ w' bm f N:=by
 obtain⟨D,n,⟨es,clock,h1,h2⟩,hR⟩:=h;exact⟨D,n,⟨es,clock,hb.trans h1,h2⟩,hR⟩
theorem qJ.made(w:World):qJ (w.alloc (.map #[] 0)) w.heap.size (fun _=>none) 0:=⟨.map [],0,World.ownsMap_made w _ _ _,Zh.empty,Nat.le_refl _⟩
theorem qJ.ne{w:World}{bm N b:Nat}{f:ByteArray->Option (Nat × Nat)}{t:TypeId}{cs:Array Value}(h:qJ w bm f N)(hb:Blk w b t cs):bm≠b:=by
 rintro rfl;obtain⟨D,n,⟨es,clock,h1,_⟩,_⟩:=h;have:=h1.symm.trans hb;cases this
theorem qJ.look{w:World}{bm N:Nat}{f:ByteArray->Option (Nat × Nat)}(h:qJ w bm f N){s:ByteArray}(hs:s.size<=100000) :
  (Instr.lookup 226 (.map (some bm)) (.string s) true).run Tryz.prog w=.ok (.tuple #[Qh ((f s).getD (0,0)),.bool (f s).isSome]) w/\(Instr.lookup 226 (.map (some bm)) (.string s) false).run Tryz.prog w=.ok (Qh ((f s).getD (0,0))) w:=by
 obtain⟨D,n,hD,hR,-⟩:=h;have key:∀v ps,Yu v=some (D.atKey (.string s.data.toList) (Qt (0,0)),ps)->v=Qh ((f s).getD (0,0)):=fun v ps hv=>by
  cases hf:f s with
  |none =>have hh:=hR.has s;rw[hf] at hh;rw[atKey_of_not_has (show Maps.has D (.string s.data.toList)=false from hh)] at hv;exact zca hv
  |some r =>rw[show D.atKey (.string s.data.toList) (Qt (0,0))=Qt r from hR.at' s r hf _] at hv;exact zca hv
 constructor
 ·obtain⟨v,ps,hrun,hv⟩:=hD.look_ok Yg Tryz.underlying226 (zbE w) (XB (0,0)) (Yb hs);rw[key v ps hv,show Maps.has D (.string s.data.toList)=(f s).isSome from hR.has s] at hrun;exact hrun
 ·obtain⟨v,ps,hrun,hv⟩:=hD.lookup Yg Tryz.underlying226 (zbE w) (XB (0,0)) (Yb hs);rw[key v ps hv] at hrun;exact hrun
theorem qJ.put{w:World}{bm N:Nat}{f:ByteArray->Option (Nat × Nat)}(h:qJ w bm f N){s:ByteArray}(hs:s.size<=100000)(r:Nat × Nat)(hN:N<1000000) :
  ∃w',(Instr.mapUpdate 226 (.map (some bm)) (.string s) (Qh r)).run Tryz.prog w=.ok () w'/\qJ w' bm (fun c=>if c=s then some r else f c) (N+1)/\w.grownBy w' (some bm):=by
 obtain⟨D,n,hD,hR,hn⟩:=h;obtain⟨w',hrun,g1,k1⟩:=hD.update Yg Tryz.underlying226 (by unfold maxLen;omega) (Yb hs) (XB r);have hR1:=hR.put s r;exact⟨w',hrun,⟨_,_,hR1.size▸QG g1,hR1,by split<;>omega⟩,k1⟩
theorem J9(l:List It)(x:It):qO (l++[x])=if x.name∈l.map It.name then qO l else qO l+1:=by
 unfold qO;rw[List.map_append,List.eraseDups_append,List.length_append,List.map_cons,List.map_nil]
 by_cases h:x.name∈l.map It.name
 ·rw[if_pos h,show [x.name].removeAll (l.map It.name)=[] by simp only[List.removeAll,List.filter_cons,List.filter_nil,List.elem_eq_mem,h,decide_true,Bool.not_true,Bool.false_eq_true,if_false]];rfl
 ·rw[if_neg h,show [x.name].removeAll (l.map It.name)=[x.name] by simp only[List.removeAll,List.filter_cons,List.filter_nil,List.elem_eq_mem,h,decide_false,Bool.not_false,if_true]];rfl
theorem zcp(l:List It):qO l<=l.length:=by
 unfold qO;have:∀m:List ByteArray,m.eraseDups.length<=m.length:=by
  intro m
  induction h:m.length using Nat.strongRecOn generalizing m with
  |_ n ih =>
   cases m with
   |nil=>simp
   |cons a m =>rw[List.eraseDups_cons];have h1:=List.length_filter_le (fun b=>!(b==a)) m;have:=ih (m.filter fun b=>!(b==a)).length (by rw[<-h];simp only[List.length_cons];omega) _ rfl;simp only[List.length_cons] at h ⊢;omega
 simpa using this (l.map It.name)
def Ze(l:List It)(c:ByteArray):Option Unit:=if c∈l.map It.name then some () else none
def yN(w:World)(bm:Nat)(l:List It):Prop:=∃D,w.ownsMap Tryz.prog 9 unitElem bm (qO l) D/\Zh (fun _:Unit=>.agg []) D (Ze l) (qO l)
theorem yN.made(w:World):yN (w.alloc (.map #[] 0)) w.heap.size []:=⟨.map [],World.ownsMap_made w _ _ _,Zh.empty⟩
theorem yN.below{B:Nat}{w w':World}{bm:Nat}{l:List It}(h:yN w bm l)(hb:Below B w w')(hB:w.heap.size<=B):yN w' bm l:=by
 obtain⟨D,h1,h2⟩:=h;exact⟨D,QT h1 (hb.mono hB),h2⟩
theorem yN.lt{w:World}{bm:Nat}{l:List It}(h:yN w bm l):bm<w.heap.size:=by obtain⟨D,h1,_⟩:=h;exact h1.lt
theorem yN.block{w w':World}{bm:Nat}{l:List It}(h:yN w bm l)(hb:w'.heap[bm]?=w.heap[bm]?):yN w' bm l:=by
 obtain⟨D,⟨es,clock,h1,h2⟩,hR⟩:=h;exact⟨D,⟨es,clock,hb.trans h1,h2⟩,hR⟩
theorem yN.put{w:World}{bm:Nat}{l:List It}(h:yN w bm l)(hl:l.length<1000000){x:It}(hs:x.name.size<=100000) :
  ∃w',(Instr.mapUpdate 390 (.map (some bm)) (.string x.name) (.agg #[])).run Tryz.prog w=.ok () w'/\yN w' bm (l++[x])/\w.grownBy w' (some bm):=by
 obtain⟨D,hD,hR⟩:=h;have hle:=zcp l;obtain⟨w',hrun,g1,k1⟩:=hD.update Yg Tryz.underlying390 (by unfold maxLen;omega) (Yb hs) unitElem_mk;have hR1:=hR.put x.name ();have e1:(fun c=>if c=x.name then some () else Ze l c)=Ze (l++[x]):=by
  funext c;unfold Ze
  by_cases h:c=x.name
  ·simp[h]
  ·simp[h]
 have e2:(if (Ze l x.name).isSome then qO l else qO l+1)=qO (l++[x]):=by
  rw[J9];unfold Ze
  by_cases h:x.name∈l.map It.name
  ·rw[if_pos h,if_pos h];rfl
  ·rw[if_neg h,if_neg h];rfl
 rw[e1,e2] at hR1;exact⟨w',hrun,⟨_,hR1.size▸QG g1,hR1⟩,k1⟩
theorem yN.len{w:World}{bm:Nat}{l:List It}(h:yN w bm l)(ty:TypeId):(Builtin.len_ #[390] ty #[.map (some bm)]).run Tryz.prog w=.ok (.int .i64 (qO l)) w:=by
 obtain⟨D,hD,hR⟩:=h;rw[hD.len Tryz.underlying390 ty,hR.size]
end
end Go.Proofs.YtiihalknffbjpaaGreatDoor
