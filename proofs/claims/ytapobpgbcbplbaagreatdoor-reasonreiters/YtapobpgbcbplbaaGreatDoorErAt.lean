/- errors.As, api.Tell, plain.Place and the laws' 'at': also of an error at a place. -/
import Derived.Test.YtapobpgbcbplbaaGreatDoorSvCmpG
set_option maxHeartbeats 4000000
set_option maxRecDepth 100000
namespace Go.Proofs.YtapobpgbcbplbaaGreatDoor
section
open Sv
instance lawfulBA:LawfulBEq ByteArray where
 eq_of_beq {a b} h:=ByteArray.ext (eq_of_beq (show (a.data==b.data)=true from h))
 rfl {a}:=beq_self_eq_true a.data
structure Ln where
 kind:Int
 name:ByteArray
 a:Int
 b:Int
 c:Int
 other:ByteArray
 rng:List zh
structure It where
 name:ByteArray
 a:Int
 b:Int
 c:Int
deriving DecidableEq,Inhabited
instance:Inhabited Ln:=⟨⟨0,⟨#[]⟩,0,0,0,⟨#[]⟩,[]⟩⟩
def Ln.it(x:Ln):It:=⟨x.name,x.a,x.b,x.c⟩
def Ln.pair(x:Ln):Prop:=x.kind=2\/x.kind=3
instance (x:Ln):Decidable x.pair:=inferInstanceAs (Decidable (_\/_))
def zg(s:ByteArray)(c:UInt8):ByteArray × ByteArray:=(⟨(Lib.cut s.data.toList [c]).1.toArray⟩,⟨(Lib.cut s.data.toList [c]).2.1.toArray⟩)
theorem Za(s:ByteArray)(c:UInt8):(zg s c).1.size<=s.size/\(zg s c).2.size<=s.size:=by
 unfold zg Lib.cut;have hl:s.data.toList.length=s.size:=by simp
 split
 ·simp only[ByteArray.size,List.size_toArray,List.length_take,List.length_drop,Array.length_toList];omega
 ·simp only[ByteArray.size,List.size_toArray,Array.length_toList,List.length_nil];omega
def qI(w:ByteArray):Nat :=
 if w.toList=[112,97,99,107,97,103,101] then 1 else if w.toList=[110,101,101,100,115] then 2 else if w.toList=[99,108,97,115,104,101,115] then 3 else if w.toList=[114,111,111,116] then 4 else 0
theorem znM(w:ByteArray):qI w<=4:=by
 unfold qI
 repeat' split
 all_goals omega
def Yy(s:ByteArray):Except (Int × Option Nat) (List zh) :=
 if 1000<s.size then .error (4,none) else match Qh s with
  |.error (k,p)=>.error (k,some p)
  |.ok l=>.ok l
def xI(k:Nat)(name:ByteArray)(ns:List Nat)(other rest:ByteArray):Except (Int × Option Nat) Ln :=
 match Yy rest with
 |.error e=>.error e
 |.ok l=>.ok ⟨(k:Int),name,((ns.getD 0 0:Nat):Int),((ns.getD 1 0:Nat):Int),((ns.getD 2 0:Nat):Int),other,l⟩
def Qp(s:ByteArray):Except (Int × Option Nat) Ln :=
 if qI (zg s 32).1=0 then .error (3,none)
 else if qI (zg s 32).1=4 then xI 4 (zg (zg s 32).2 32).1 [] ⟨#[]⟩ (zg (zg s 32).2 32).2
 else match xC (zg (zg (zg s 32).2 32).2 32).1 with
  |.error e=>.error (e,none)
  |.ok ns =>
   if qI (zg s 32).1=1 then
    if (zg (zg (zg s 32).2 32).2 32).2.size=0 then .ok ⟨1,(zg (zg s 32).2 32).1,((ns.getD 0 0:Nat):Int),((ns.getD 1 0:Nat):Int),((ns.getD 2 0:Nat):Int),⟨#[]⟩,[]⟩ else .error (3,none)
   else xI (qI (zg s 32).1) (zg (zg s 32).2 32).1 ns (zg (zg (zg (zg s 32).2 32).2 32).2 32).1 (zg (zg (zg (zg s 32).2 32).2 32).2 32).2
def qK(s:ByteArray):Nat->Nat->List (Nat × ByteArray)
 |0,_=>[]
 |f+1,k=>if s.size<=k then [] else
  (if (zg (s.extract k s.size) 10).1.size=0 then [] else [(k,(zg (s.extract k s.size) 10).1)])++qK s f (k+(zg (s.extract k s.size) 10).1.size+1)
def plF:List (Nat × ByteArray)->List (Nat × Ln)->Except (Int × Nat) (List (Nat × Ln))
 |[],acc=>.ok acc
 |x :: r,acc=>match Qp x.2 with
  |.error e=>.error (e.1,x.1)
  |.ok l=>plF r (acc++[(x.1,l)])
theorem zdb(l r:List (Nat × ByteArray)):∀(acc:List (Nat × Ln)),plF (l++r) acc=match plF l acc with
  |.error e=>.error e
  |.ok acc'=>plF r acc':=by
 induction l with
 |nil=>intro acc;rfl
 |cons x l ih =>
  intro acc;rw[List.cons_append,plF,plF];split
  ·rfl
  ·exact ih _
theorem zoo:∀(l:List (Nat × ByteArray)) (acc:List (Nat × Ln)) (out:List (Nat × Ln)),plF l acc=.ok out->out.length=acc.length+l.length:=by
 intro l
 induction l with
 |nil=>intro acc out h;cases h;rfl
 |cons x l ih =>
  intro acc out h;unfold plF at h;split at h
  ·cases h
  ·have:=ih _ _ h;simp at this ⊢;omega
def InV(a b c:Int):Prop:=(0<=a/\a<=999)/\(0<=b/\b<=999)/\0<=c/\c<=999
instance (a b c:Int):Decidable (InV a b c):=inferInstanceAs (Decidable (_/\_))
open Classical in
noncomputable def qJ(x:Ln):Int :=
 if x.kind<1\/4<x.kind then 1
 else if ¬zV x.name\/(x.pair/\¬zV x.other) then 5
 else if ¬x.pair/\x.other.size≠0 then 1
 else if x.kind=1/\x.rng≠[] then 1
 else if x.kind=4/\(x.a≠0\/x.b≠0\/x.c≠0) then 1
 else if ¬InV x.a x.b x.c then 2 else 0
def qX(l:List It):Nat:=((l.map It.name).eraseDups).length
noncomputable def ql:List Ln->Nat->List It->Except (Int × Nat) (List It)
 |[],_,its=>.ok its
 |x :: r,i,its =>
  if qJ x≠0 then .error (qJ x,i)
  else if x.kind=1 then
   if x.it∈its then .error (9,i)
   else if 8<qX (its++[x.it])\/its.length=24 then .error (4,i)
   else ql r (i+1) (its++[x.it])
  else ql r (i+1) its
def qf(x y:It):Int:=if x.name.toList=y.name.toList then yI (tI y.a y.b y.c) (tI x.a x.b x.c) 3 else Lib.compareBytes x.name.data.toList y.name.data.toList
def qL(l:List It):List It:=l.mergeSort fun x y=>!decide (qf y x<0)
def yn:List Ln->Nat->List It->Option Nat
 |[],_,_=>none
 |x :: r,i,its=>if x.pair/\x.it∉its then some i else yn r (i+1) its
noncomputable def qU(ls:List Ln):Except (Int × Option Nat) (List It) :=
 if 100<ls.length then .error (4,none)
 else match ql ls 0 [] with
  |.error e=>.error (e.1,some e.2)
  |.ok its=>match yn ls 0 (qL its) with
   |some i=>.error (7,some i)
   |none=>.ok (qL its)
noncomputable def xz(s:ByteArray):Except (Int × Option Nat) (List Ln × List It) :=
 if 20000<s.size then .error (4,none)
 else match plF (qK s s.size 0) [] with
  |.error e=>.error (e.1,some e.2)
  |.ok ps=>match qU (ps.map Prod.snd) with
   |.error (e,none)=>.error (e,none)
   |.error (e,some i)=>.error (e,some ((ps.map Prod.fst).getD i 0))
   |.ok its=>.ok (ps.map Prod.snd,its)
def yf(its:List It)(name:ByteArray):Option (Nat × Nat) :=
 its.zipIdx.foldl (fun r x=>if x.1.name=name then some ((r.map Prod.fst).getD x.2,x.2+1) else r) none
theorem zeY(l:List It)(x:It)(name:ByteArray):yf (l++[x]) name=if x.name=name then some (((yf l name).map Prod.fst).getD l.length,l.length+1) else yf l name:=by
 unfold yf;rw[List.zipIdx_append,List.foldl_append];simp
def q8(its:List It)(name:ByteArray):Nat × Nat:=(yf its name).getD (0,0)
def xF(rng:List zh)(x:It):Prop:=InV x.a x.b x.c/\mem rng (QV x.a.toNat x.b.toNat x.c.toNat)
open Classical in
noncomputable def qS(its:List It)(name:ByteArray)(rng:List zh):List Nat :=
 (List.range' (q8 its name).1 ((q8 its name).2-(q8 its name).1)).filter fun i=>decide (xF rng (its.getD i default))
def qQ(its:List It)(x:It):Int:=match its.findIdx? (fun y=>decide (x=y)) with|some i=>(i:Int)|none=>-1
def qj(k:Int):Int:=-(k+1)
noncomputable def qY(its:List It)(n:Nat)(x:Ln):List (Int × List Int) :=
 if x.kind=4 then [((n:Int),(qS its x.name x.rng).map fun (k:Nat)=>((k:Int)+1))]
 else if x.kind=2 then [((n:Int),qj (qQ its x.it) :: (qS its x.other x.rng).map fun (k:Nat)=>((k:Int)+1))]
 else if x.kind=3 then (qS its x.other x.rng).map fun (k:Nat)=>((n:Int),[qj (qQ its x.it),qj (k:Int)])
 else []
def yH(lines:List Bool)(n:Int):Bool:=decide (n=-1)||(decide (0<=n)&&lines.getD n.toNat false)
def qb(l:List (Int × List Int))(lines:List Bool):List (List Int):=(l.filter fun x=>yH lines x.1).map Prod.snd
end
section
open Go.RowKit Go.Deep
structure Kp(B:Nat)(w w':World):Prop where
 size:w.heap.size<=w'.heap.size
 block:∀k,k<w.heap.size->(k<B\/∃cur fr,w.heap[k]?=some (.cells cur 3 fr))->w'.heap[k]?=w.heap[k]?
section
variable {B:Nat} {w w' w'':World}
theorem Kp.refl(B:Nat)(w:World):Kp B w w:=⟨Nat.le_refl _,fun _ _ _=>rfl⟩
theorem Kp.trans(h:Kp B w w')(h2:Kp B w' w''):Kp B w w'':=⟨Nat.le_trans h.size h2.size,fun k hk hc=>by
 have e:=h.block k hk hc;rw[<-e];refine h2.block k (Nat.lt_of_lt_of_le hk h.size) ?_;rw [e];exact hc⟩
theorem Kp.zero(h:Kp B w w'):Kp 0 w w':=⟨h.size,fun k hk hc=>h.block k hk (hc.imp (fun h=>by omega) id)⟩
theorem Kp.new(hb:zB w w'):Kp B w w':=⟨hb.size,fun k hk _=>hb.block k hk⟩
theorem Kp.set{b i:Nat}{t:TypeId}{cs:Array Value}{v:Value}(hB:B<=b)(h:Blk w b t cs)(ht:t≠3):Kp B w (w.setCell ⟨b,i,none⟩ v):=by
 refine⟨by simp[World.setCell],fun k hk hc=>Below.heap_setCell _ _ _ k (fun e=>?_)⟩;have e':k=b:=e;subst e';rcases hc with hc|⟨cur,fr,hc⟩
 ·omega
 ·rw[show w.heap[k]?=_ from h] at hc;simp only[Option.some.injEq,Obj.cells.injEq] at hc;exact ht hc.2.1
theorem Kp.grown{e:TypeId}{size n:Nat}{v:Value}{xs:List Value}(h:w.ownsRow B e size v n xs)(hg:w.grownBy w' v.ownBlock)(he:e≠3):Kp B w w':=by
 refine⟨hg.size,fun k hk hc=>hg.block k hk (fun e'=>?_)⟩;obtain⟨h1,h2⟩:=h.lt k e'.symm;rcases hc with hc|⟨cur,fr,hc⟩
 ·omega
 ·rcases h.2 with ⟨hv,_⟩|⟨g,cap,cur',hv,_,hg',_⟩
  ·rw[hv] at e';cases e'
  ·rw[hv] at e';simp only[Value.ownBlock,Option.some.injEq] at e';subst e';rw[hg'] at hc;simp only[Option.some.injEq,Obj.cells.injEq] at hc;exact he hc.2.1
def qp(B:Nat)(w:World)(a:Option Addr)(xs:List Int):Prop :=
 ∀i,i<xs.length->∃ad:Addr,a=some ad/\ad.block<w.heap.size/\(ad.block<B\/∃cur fr,w.heap[ad.block]?=some (.cells cur 3 fr))/\w.cell? (ad.add i)=some (.int .i64 (xs.getD i 0))
theorem qp.ints{a:Option Addr}{xs:List Int}(h:qp B w a xs):qr w a xs:=fun i hi=>by
 obtain⟨ad,h1,h2,_,h4⟩:=h i hi;exact⟨ad,h1,h2,h4⟩
theorem qp.kp{a:Option Addr}{xs:List Int}(h:qp B w a xs)(hk:Kp B w w'):qp B w' a xs:=fun i hi=>by
 obtain⟨ad,h1,h2,h3,h4⟩:=h i hi;have e:=hk.block _ h2 h3;refine⟨ad,h1,Nat.lt_of_lt_of_le h2 hk.size,by rw[e];exact h3,?_⟩;rw[World.cell?_of_block (w:=w) (by rw[xm];exact e)];exact h4
theorem qp.more{a:Option Addr}{xs:List Int}(h:qp 0 w a xs):qp B w a xs:=fun i hi=>by
 obtain⟨ad,h1,h2,h3,h4⟩:=h i hi;exact⟨ad,h1,h2,h3.imp (fun h=>by omega) id,h4⟩
theorem qp.of{a:Option Addr}{xs:List Int}(h:qr w a xs)(hb:zB w w'):qp w.heap.size w' a xs:=fun i hi=>by
 obtain⟨ad,h1,h2,h3⟩:=h.below hb i hi;obtain⟨ad',h4,h5,_⟩:=h i hi;obtain rfl:=Option.some.inj (h1.symm.trans h4);exact⟨ad,h1,h2,Or.inl h5,h3⟩
def zX(B:Nat)(w:World)(cs:List Value)(l:List (List Int)):Prop :=
 cs.length=l.length/\∀i,i<l.length->∃(a:Option Addr) (cap:Nat),cs[i]?=some (.slice a (l.getD i []).length cap)/\(l.getD i []).length<=cap/\cap<=9223372036854775807/\qp B w a (l.getD i [])
theorem zX.kp{cs:List Value}{l:List (List Int)}(h:zX B w cs l)(hk:Kp B w w'):zX B w' cs l:=⟨h.1,fun i hi=>by
 obtain⟨a,cap,h1,h2,h3,h4⟩:=h.2 i hi;exact ⟨a,cap,h1,h2,h3,h4.kp hk⟩⟩
theorem zX.nil:zX B w [] []:=⟨rfl,fun i hi=>by simp at hi⟩
theorem zX.snoc{cs:List Value}{l:List (List Int)}(h:zX B w cs l){a:Option Addr}{cap:Nat}{c:List Int}(h1:c.length<=cap)(h2:cap<=9223372036854775807)(h3:qp B w a c):zX B w (cs++[.slice a c.length cap]) (l++[c]):=by
 refine⟨by simp[h.1],fun i hi=>?_⟩
 by_cases hl:i<l.length
 ·have e:(l++[c]).getD i []=l.getD i []:=by simp[List.getD_eq_getElem?_getD,List.getElem?_append_left hl]
  rw[e,List.getElem?_append_left (by rw[h.1];exact hl)];exact h.2 i hl
 ·have hi':i=l.length:=by simp at hi;omega
  subst hi';have e:(l++[c]).getD l.length []=c:=by simp[List.getD_eq_getElem?_getD]
  rw[e,List.getElem?_append_right (by rw[h.1];exact Nat.le_refl _),h.1];exact⟨a,cap,by simp,h1,h2,h3⟩
theorem zX.cls{cs:List Value}{l:List (List Int)}{a:Option Addr}{cap:Nat}(h:zX B w cs l)(hr:w.ownsRow B 202 1 (.slice a l.length cap) l.length cs):yK w a l:=by
 intro i hi;obtain⟨a',cap',h1,h2,h3,h4⟩:=h.2 i hi;rcases hr.2 with ⟨e,e0⟩|⟨g,cap2,cur,e,hB,hg,-⟩
 ·omega
 ·injection e with e1 e2 e3;subst e1 e3;refine⟨_,a',cap',rfl,(Array.getElem?_eq_some_iff.1 hg).1,?_,h2,h3,h4.ints⟩;have:=hr.cellAt i (by omega);rw[yo,Nat.zero_add,this,h1]
theorem zX.one{cs:List Value}{l:List (List Int)}(h:zX B w cs l):∀u∈cs,u.oneCell'=true:=fun u hu=>by
 obtain⟨i,hi,rfl⟩:=List.getElem_of_mem hu;obtain⟨a,cap,h1,_⟩:=h.2 i (by rw[<-h.1];exact hi);rw[List.getElem?_eq_getElem hi] at h1;rw[Option.some.inj h1];rfl
end
theorem qC{w:World}{B:Nat}{e T:TypeId}{size:Nat}{v:Value}{n:Nat}{xs:List Value}{b:Nat}{cs:Array Value}(hown:w.ownsRow B e size v n xs)(hb:Blk w b T cs)(hTe:T≠e):v.ownBlock≠some b:=by
 rcases hown.2 with ⟨rfl,_⟩|⟨g,cap,cur,rfl,_,hg,_⟩
 ·simp[Value.ownBlock]
 ·intro h;simp only[Value.ownBlock,Option.some.injEq] at h;subst h;rw[show w.heap[g]?=_ from hb] at hg;simp only[Option.some.injEq,Obj.cells.injEq] at hg;exact hTe hg.2.1
theorem ZV{w:World}{B:Nat}{e e2:TypeId}{size size2:Nat}{v v2:Value}{n n2:Nat}{xs xs2:List Value}(h1:w.ownsRow B e size v n xs)(h2:w.ownsRow B e2 size2 v2 n2 xs2)(hne:e≠e2):v.ownBlock=none\/v.ownBlock≠v2.ownBlock:=by
 rcases h1.2 with ⟨rfl,_⟩|⟨g,cap,cur,rfl,_,hg,_⟩
 ·exact Or.inl rfl
 ·refine Or.inr fun e'=>?_;exact qC h2 (b:=g) (cs:=cur) (T:=e) hg hne e'.symm
theorem zS{B:Nat}{w w':World}{t:TypeId}{size:Nat}{v:Value}{n:Nat}{cs:List Value}(h:w.ownsRow B t size v n cs)(hb:zB w w'):w'.ownsRow B t size v n cs:=by
 obtain⟨h1,h2⟩:=h;refine⟨h1,?_⟩;rcases h2 with h2|⟨g,cap,cur,hv,hg,hh,r⟩
 ·exact Or.inl h2
 ·exact Or.inr ⟨g,cap,cur,hv,hg,by rw[hb.block g (Array.getElem?_eq_some_iff.1 hh).1];exact hh,r⟩
end
section
open Go.RowKit Go.Deep Sv
structure qT(w:World)(v:Value)(n:Nat)(cs:List Value):Prop where
 form:∃a cap,v=.slice a n cap/\(a=none->cap=0)/\n<=cap/\cap<=9223372036854775807/\(a=none\/∃g,a=some ⟨g,0,none⟩)
 cells:0<n->∃g cap,v=.slice (some ⟨g,0,none⟩) n cap/\g<w.heap.size/\∀(j:Nat) u,cs[j]?=some u->w.cell? ⟨g,j,none⟩=some u
theorem qT.below{B:Nat}{w w':World}{v:Value}{n:Nat}{cs:List Value}(h:qT w v n cs)(hb:Below B w w')(hB:w.heap.size<=B):qT w' v n cs :=
 ⟨h.form,fun hn=>by
  obtain⟨g,cap,e,hg,hc⟩:=h.cells hn;exact ⟨g,cap,e,Nat.lt_of_lt_of_le hg hb.size,fun j u hu=>(hb.cell (p:=⟨g,j,none⟩) (by show g<B;omega)).trans (hc j u hu)⟩⟩
theorem zD{B:Nat}{w:World}{v:Value}{t:TypeId}{k n:Nat}{cs:List Value}(h:w.ownsRow B t k v n cs):qT w v n cs:=by
 have hl:=h.1;rcases h.2 with ⟨e,e0⟩|⟨g,cap,cur,e,hB,hg,hn,hm,hsz,htake⟩
 ·exact⟨⟨none,0,by rw[e,e0],fun _=>rfl,by omega,by omega,Or.inl rfl⟩,fun hi=>by omega⟩
 ·unfold maxLen at hm;refine⟨⟨_,_,e,(fun h=>by cases h),hn,hm,Or.inr ⟨g,rfl⟩⟩,fun _=>⟨g,cap,e,(h.lt g (by rw[e];rfl)).2,fun j u hu=>?_⟩⟩;have hj:=(List.getElem?_eq_some_iff.1 hu).1;rw[<-htake,List.getElem?_take,if_pos (by omega)] at hu;rw[<-hu];simp[World.cell?,hg]
def qn(x:It):List Value:=[.string x.name,.int .i64 x.a,.int .i64 x.b,.int .i64 x.c]
def zQ(l:List It):List Value:=l.flatMap qn
theorem Ql(l:List It):(zQ l).length=l.length*4:=by
 induction l with
 |nil=>rfl
 |cons x l ih=>unfold zQ at *;rw[List.flatMap_cons,List.length_append,ih];simp[qn];omega
theorem zlZ(a b:List It):zQ (a++b)=zQ a++zQ b:=by simp[zQ]
theorem Qw:∀(l:List It) (i:Nat),i<l.length->∀(j:Nat) (u:Value),(qn (l.getD i default))[j]?=some u->(zQ l)[i*4+j]?=some u
 |[],i,h,_,_,_=>by simp at h
 |x :: l,0,_,j,u,hu=>by
  have hj:j<4:=by have:=(List.getElem?_eq_some_iff.1 hu).1;simpa[qn] using this
  rw[show zQ (x :: l)=qn x++zQ l from rfl,Nat.zero_mul,Nat.zero_add,List.getElem?_append_left (by simpa[qn] using hj)];simpa using hu
 |x :: l,i+1,h,j,u,hu=>by
  have ih:=Qw l i (by simpa using h) j u (by simpa using hu);rw[show zQ (x :: l)=qn x++zQ l from rfl,List.getElem?_append_right (by simp[qn];omega)];rw[show (i+1)*4+j-(qn x).length=i*4+j by simp[qn];omega];exact ih
def yJ(w:World)(v:Value)(l:List It):Prop:=qT w v l.length (zQ l)
theorem yJ.at{w:World}{v:Value}{l:List It}(h:yJ w v l)(i:Nat)(hi:i<l.length):∃g cap,v=.slice (some ⟨g,0,none⟩) l.length cap/\g<w.heap.size/\w.cell? ⟨g,i*4,none⟩=some (.string (l.getD i default).name)/\w.cell? ⟨g,i*4+1,none⟩=some (.int .i64 (l.getD i default).a)/\w.cell? ⟨g,i*4+2,none⟩=some (.int .i64 (l.getD i default).b)/\w.cell? ⟨g,i*4+3,none⟩=some (.int .i64 (l.getD i default).c):=by
 obtain⟨g,cap,e,hg,hc⟩:=h.cells (by omega);exact⟨g,cap,e,hg,hc _ _ (Qw l i hi 0 _ rfl),hc _ _ (Qw l i hi 1 _ rfl),hc _ _ (Qw l i hi 2 _ rfl),hc _ _ (Qw l i hi 3 _ rfl)⟩
def x8(x:Ln)(v:Value):List Value:=[.int .i64 x.kind,.string x.name,.int .i64 x.a,.int .i64 x.b,.int .i64 x.c,.string x.other,v]
def qq:List Ln->List Value->List Value
 |x :: l,v :: vs=>x8 x v++qq l vs
 |_,_=>[]
theorem Kq:∀(l:List Ln) (vs:List Value),vs.length=l.length->(qq l vs).length=l.length*7
 |[],[],_=>rfl
 |x :: l,v :: vs,h=>by
  have:=Kq l vs (by simpa using h);rw[qq,List.length_append,this];simp[x8];omega
 |[],v :: vs,h=>by simp at h
 |x :: l,[],h=>by simp at h
theorem zeh:∀(l:List Ln) (vs:List Value) (x:Ln) (v:Value),vs.length=l.length->qq (l++[x]) (vs++[v])=qq l vs++x8 x v
 |[],[],x,v,_=>by simp[qq]
 |y :: l,u :: vs,x,v,h=>by
  have:=zeh l vs x v (by simpa using h);simp[qq,this]
 |[],v :: vs,_,_,h=>by simp at h
 |x :: l,[],_,_,h=>by simp at h
theorem zcu:∀(l:List Ln) (vs:List Value),vs.length=l.length->∀(i:Nat),i<l.length->∀(j:Nat) (u:Value),(x8 (l.getD i default) (vs.getD i undef))[j]?=some u->(qq l vs)[i*7+j]?=some u
 |[],[],_,i,h,_,_,_=>by simp at h
 |x :: l,v :: vs,_,0,_,j,u,hu=>by
  have hj:j<7:=by have:=(List.getElem?_eq_some_iff.1 hu).1;simpa[x8] using this
  rw[qq,Nat.zero_mul,Nat.zero_add,List.getElem?_append_left (by simpa[x8] using hj)];simpa using hu
 |x :: l,v :: vs,hl,i+1,h,j,u,hu=>by
  have ih:=zcu l vs (by simpa using hl) i (by simpa using h) j u (by simpa using hu);rw[qq,List.getElem?_append_right (by simp[x8];omega)];rw[show (i+1)*7+j-(x8 x v).length=i*7+j by simp[x8];omega];exact ih
 |[],v :: vs,h,_,_,_,_,_=>by simp at h
 |x :: l,[],h,_,_,_,_,_=>by simp at h
def qu(w:World)(l:List Ln)(vs:List Value):Prop:=vs.length=l.length/\∀i,i<l.length->zi w (vs.getD i undef) (l.getD i default).rng/\Rg (l.getD i default).rng
theorem qu.below{B:Nat}{w w':World}{l:List Ln}{vs:List Value}(h:qu w l vs)(hb:Below B w w')(hB:w.heap.size<=B):qu w' l vs:=⟨h.1,fun i hi=>⟨(h.2 i hi).1.below hb hB,(h.2 i hi).2⟩⟩
theorem zm8(w:World):qu w [] []:=⟨rfl,fun i h=>by simp at h⟩
theorem qu.snoc{w:World}{l:List Ln}{vs:List Value}(h:qu w l vs){x:Ln}{v:Value}(hv:zi w v x.rng)(hr:Rg x.rng):qu w (l++[x]) (vs++[v]):=by
 refine⟨by simp[h.1],fun i hi=>?_⟩
 by_cases hl:i<l.length
 ·have e1:(l++[x]).getD i default=l.getD i default:=by simp[List.getD_eq_getElem?_getD,List.getElem?_append_left hl]
  have e2:(vs++[v]).getD i undef=vs.getD i undef:=by simp[List.getD_eq_getElem?_getD,List.getElem?_append_left (show i<vs.length by rw[h.1];exact hl)]
  rw[e1,e2];exact h.2 i hl
 ·obtain rfl:i=l.length:=by simp at hi;omega
  have e1:(l++[x]).getD l.length default=x:=by simp[List.getD_eq_getElem?_getD]
  have e2:(vs++[v]).getD l.length undef=v:=by simp[List.getD_eq_getElem?_getD,<-h.1]
  rw[e1,e2];exact⟨hv,hr⟩
def xj(w:World)(v:Value)(l:List Ln):Prop:=∃vs,qu w l vs/\qT w v l.length (qq l vs)
theorem xj.below{B:Nat}{w w':World}{v:Value}{l:List Ln}(h:xj w v l)(hb:Below B w w')(hB:w.heap.size<=B):xj w' v l:=by
 obtain⟨vs,h1,h2⟩:=h;exact⟨vs,h1.below hb hB,h2.below hb hB⟩
theorem xj.at{w:World}{v:Value}{l:List Ln}(h:xj w v l)(i:Nat)(hi:i<l.length):∃g cap rv,v=.slice (some ⟨g,0,none⟩) l.length cap/\g<w.heap.size/\zi w rv (l.getD i default).rng/\Rg (l.getD i default).rng/\w.cell? ⟨g,i*7,none⟩=some (.int .i64 (l.getD i default).kind)/\w.cell? ⟨g,i*7+1,none⟩=some (.string (l.getD i default).name)/\w.cell? ⟨g,i*7+2,none⟩=some (.int .i64 (l.getD i default).a)/\w.cell? ⟨g,i*7+3,none⟩=some (.int .i64 (l.getD i default).b)/\w.cell? ⟨g,i*7+4,none⟩=some (.int .i64 (l.getD i default).c)/\w.cell? ⟨g,i*7+5,none⟩=some (.string (l.getD i default).other)/\w.cell? ⟨g,i*7+6,none⟩=some rv:=by
 obtain⟨vs,h1,h2⟩:=h;obtain⟨g,cap,e,hg,hc⟩:=h2.cells (by omega);have H:=fun j u hu=>hc _ _ (zcu l vs h1.1 i hi j u hu);exact⟨g,cap,vs.getD i undef,e,hg,(h1.2 i hi).1,(h1.2 i hi).2,H 0 _ rfl,H 1 _ rfl,H 2 _ rfl,H 3 _ rfl,H 4 _ rfl,H 5 _ rfl,H 6 _ rfl⟩
end
section
open Go.RowKit Sv
theorem ye(x:Ln)(v:Value)(w:World) :
  zC 53 #[.agg #[.int .i64 x.kind,.string x.name,.int .i64 x.a,.int .i64 x.b,.int .i64 x.c,.string x.other,v]] w fun e w'=>e=.returned (.bool (decide x.pair))/\w'=w.alloc (.cells #[.int .i64 x.kind,.string x.name,.int .i64 x.a,.int .i64 x.b,.int .i64 x.c,.string x.other,v] 38):=by
 have hd:decide x.pair=(decide (x.kind=2)||decide (x.kind=3)):=by
  by_cases h2:x.kind=2<;>by_cases h3:x.kind=3<;>simp[Ln.pair,h2,h3]
 rw[hd];clear hd;generalize x.kind=k
 by_cases h2:k=2
 ·subst h2;go_enter Tryz.func53,Tryz.ntmps53;go_wp2;go_ret;exact⟨rfl,rfl⟩
 ·by_cases h3:k=3
  ·subst h3;go_enter Tryz.func53,Tryz.ntmps53;go_wp2;go_ret;exact⟨rfl,rfl⟩
  ·have e2:(k==2)=false:=by simpa using h2
   have e3:(k==3)=false:=by simpa using h3
   have HD:Hid ((decide (k=2)||decide (k=3))=false):=by show _=_;simp[h2,h3]
   go_enter Tryz.func53,Tryz.ntmps53;go_wp2;go_ret;exact⟨by rw[HD.out];rfl,rfl⟩
def wl:Nat->List UInt8
 |1=>[112,97,99,107,97,103,101]
 |2=>[110,101,101,100,115]
 |3=>[99,108,97,115,104,101,115]
 |4=>[114,111,111,116]
 |_=>[]
structure Zq(w:World):Prop where
 c0:w.cell? ⟨0,0,none⟩=some (.string ⟨#[]⟩)
 c1:w.cell? ⟨0,1,none⟩=some (.string ⟨#[112,97,99,107,97,103,101]⟩)
 c2:w.cell? ⟨0,2,none⟩=some (.string ⟨#[110,101,101,100,115]⟩)
 c3:w.cell? ⟨0,3,none⟩=some (.string ⟨#[99,108,97,115,104,101,115]⟩)
 c4:w.cell? ⟨0,4,none⟩=some (.string ⟨#[114,111,111,116]⟩)
theorem Zq.below{B:Nat}{w w':World}(h:Zq w)(hb:Below B w w')(hB:0<B):Zq w' :=
 ⟨(hb.cell (p:=⟨0,0,none⟩) hB).trans h.c0,(hb.cell (p:=⟨0,1,none⟩) hB).trans h.c1,(hb.cell (p:=⟨0,2,none⟩) hB).trans h.c2,(hb.cell (p:=⟨0,3,none⟩) hB).trans h.c3,(hb.cell (p:=⟨0,4,none⟩) hB).trans h.c4⟩
abbrev YZ:Value:=.agg #[.string ⟨#[]⟩,.string ⟨#[112,97,99,107,97,103,101]⟩,.string ⟨#[110,101,101,100,115]⟩,.string ⟨#[99,108,97,115,104,101,115]⟩,.string ⟨#[114,111,111,116]⟩]
theorem wix(W:World):(Instr.index 170 YZ (.int .i64 0)).run Tryz.prog W=.ok (.string ⟨#[]⟩) W/\(Instr.index 170 YZ (.int .i64 1)).run Tryz.prog W=.ok (.string ⟨#[112,97,99,107,97,103,101]⟩) W/\(Instr.index 170 YZ (.int .i64 2)).run Tryz.prog W=.ok (.string ⟨#[110,101,101,100,115]⟩) W/\(Instr.index 170 YZ (.int .i64 3)).run Tryz.prog W=.ok (.string ⟨#[99,108,97,115,104,101,115]⟩) W/\(Instr.index 170 YZ (.int .i64 4)).run Tryz.prog W=.ok (.string ⟨#[114,111,111,116]⟩) W:=by
 refine⟨?_,?_,?_,?_,?_⟩<;>kernel_rfl
theorem zh9{s:ByteArray}{k:Nat}(hk:1<=k)(hk4:k<=4)(h:s.toList=wl k):qI s=k:=by
 match k,hk,hk4,h with
 |1,_,_,h=>unfold qI;rw[h];rfl
 |2,_,_,h=>unfold qI;rw[h];rfl
 |3,_,_,h=>unfold qI;rw[h];rfl
 |4,_,_,h=>unfold qI;rw[h];rfl
theorem zeb{s:ByteArray}(h:s.toList=[]\/∀j,j<5->s.toList≠wl j):qI s=0:=by
 rcases h with h|h
 ·unfold qI;rw[h];rfl
 ·unfold qI;have h1:s.toList≠[112,97,99,107,97,103,101]:=h 1 (by omega);have h2:s.toList≠[110,101,101,100,115]:=h 2 (by omega);have h3:s.toList≠[99,108,97,115,104,101,115]:=h 3 (by omega);have h4:s.toList≠[114,111,111,116]:=h 4 (by omega);rw[if_neg h1,if_neg h2,if_neg h3,if_neg h4]
theorem XE(s:ByteArray)(w:World)(hw:Zq w) :
  zC 51 #[.string s] w fun e w'=>e=.returned (.int .i64 (qI s:Nat))/\w'=w:=by
 obtain⟨c0,c1,c2,c3,c4⟩:=hw;go_enter Tryz.func51,Tryz.ntmps51;go_wp2_with fail;clear c0 c1 c2 c3 c4;go_loop [6] (fun i=>∃k:Nat,k<=5/\i=.int .i64 k/\∀j,j<k->s.toList≠wl j) (fun i=>5-(intOf i).toNat)
 case atStart=>exact⟨0,by omega,rfl,fun j h=>by omega⟩
 case round =>
  obtain⟨k,hk,rfl,hne⟩:=hrel;obtain⟨x0,x1,x2,x3,x4⟩:=wix w;have HNE:=zH hne;clear hne
  by_cases h5:k=5
  ·subst h5;have HK:Hid (qI s=0):=zeb (Or.inr HNE.out);go_wp2;go_ret;exact⟨by rw[HK.out];rfl,rfl⟩
  ·have h4:k<5:=by omega
   clear h5 hk
   by_cases hs:s.toList=wl k
   ·have HK:Hid (qI s=k):=by
     show _=_
     by_cases h0:k=0
     ·subst h0;exact zeb (Or.inl hs)
     ·exact zh9 (by omega) (by omega) hs
    match k,h4 with
    |0,_ =>
     have hb:(([]:List UInt8)==s.toList)=true:=by rw[hs];rfl
     have hb2:s.toList.isEmpty=true:=by rw[hs];rfl
     clear hs;go_wp2;go_ret;exact⟨by rw[HK.out];rfl,rfl⟩
    |1,_ =>
     have hb:([112,97,99,107,97,103,101]==s.toList)=true:=by rw[hs];rfl
     clear hs;go_wp2;go_ret;exact⟨by rw[HK.out];rfl,rfl⟩
    |2,_ =>
     have hb:([110,101,101,100,115]==s.toList)=true:=by rw[hs];rfl
     clear hs;go_wp2;go_ret;exact⟨by rw[HK.out];rfl,rfl⟩
    |3,_ =>
     have hb:([99,108,97,115,104,101,115]==s.toList)=true:=by rw[hs];rfl
     clear hs;go_wp2;go_ret;exact⟨by rw[HK.out];rfl,rfl⟩
    |4,_ =>
     have hb:([114,111,111,116]==s.toList)=true:=by rw[hs];rfl
     clear hs;go_wp2;go_ret;exact⟨by rw[HK.out];rfl,rfl⟩
   ·have HN2:Hid (∀j,j<k+1->s.toList≠wl j):=fun j hj=>by
     rcases Nat.lt_succ_iff_lt_or_eq.1 hj with h|h
     ·exact HNE.out j h
     ·rw[h];exact hs
    have hs':(wl k==s.toList)=false:=by rw[beq_eq_false_iff_ne];exact fun e=>hs e.symm
    clear hs
    match k,h4 with
    |0,_ =>
     have hb:(([]:List UInt8)==s.toList)=false:=hs';have hb2:s.toList.isEmpty=false:=by
      cases h:s.toList with
      |nil=>rw[h] at hb;cases hb
      |cons a t=>rfl
     clear hs';go_wp2;go_round
     case rel=>exact⟨1,by omega,rfl,HN2.out⟩
     case measure=>simp[intOf]
    |1,_ =>
     have hb:([112,97,99,107,97,103,101]==s.toList)=false:=hs';clear hs';go_wp2;go_round
     case rel=>exact⟨2,by omega,rfl,HN2.out⟩
     case measure=>simp[intOf]
    |2,_ =>
     have hb:([110,101,101,100,115]==s.toList)=false:=hs';clear hs';go_wp2;go_round
     case rel=>exact⟨3,by omega,rfl,HN2.out⟩
     case measure=>simp[intOf]
    |3,_ =>
     have hb:([99,108,97,115,104,101,115]==s.toList)=false:=hs';clear hs';go_wp2;go_round
     case rel=>exact⟨4,by omega,rfl,HN2.out⟩
     case measure=>simp[intOf]
    |4,_ =>
     have hb:([114,111,111,116]==s.toList)=false:=hs';clear hs';go_wp2;go_round
     case rel=>exact⟨5,by omega,rfl,HN2.out⟩
     case measure=>simp[intOf]
end
section
open Go.RowKit Go.Extern.Stop Go.Stop Go.Extern
namespace Errs
theorem zkw(v:Value)(w:World):(ReflectliteType.typeOf #[.iface 83 v]).run Tryz.prog w=.ok (.iface 244 (.agg #[.pointer (some ⟨10,83,none⟩)])) w:=by kernel_rfl
theorem zoO(w:World):(ReflectliteType.relation "AssignableTo" ReflectliteType.assignableTo #[.agg #[.pointer (some ⟨10,83,none⟩)],.iface 244 (.agg #[.pointer (some ⟨10,64,none⟩)])]).run Tryz.prog w=.ok (.bool false) w:=by kernel_rfl
theorem ziU(h:Value)(w:World):(Go.method 468 83 h "Unwrap").run Tryz.prog w=.ok (261,h) w:=by kernel_rfl
theorem zkc(v:Value)(w:World):(Instr.typeAssert (.iface 83 v) 41 249 true).run Tryz.prog w=.ok (.tuple #[.nilIface,.bool false]) w:=run_typeAssert_lacksB Tryz.underlying249 (by kernel_rfl) (by kernel_rfl) _ 41 w
theorem zfH(v:Value)(w:World):(Instr.typeAssert (.iface 83 v) 41 252 true).run Tryz.prog w=.ok (.tuple #[.iface 83 v,.bool true]) w:=run_typeAssert_hasB Tryz.underlying252 (by kernel_rfl) _ 41 w
theorem as_at(n:Int)(ba:Nat)(t:Addr)(old:Value)(w:World)(hg:w.cell? ⟨1,0,none⟩=some (.iface 244 (.agg #[.pointer (some ⟨10,41,none⟩)])))(ht0:w.cell? t=some old)(hf0:w.frozen? t=false)(hba:w.cell? ⟨ba,0,none⟩=some (.int .i64 n)) :
  zC 55 #[.iface 83 (.pointer (some ⟨ba,0,none⟩)),.iface 125 (.pointer (some t))] w fun ev w'=>ev=.returned (.bool true)/\w'=((((w.alloc (.cells #[.pointer (some t)] 125)).alloc (.cells #[.pointer (some ⟨10,125,none⟩),.pointer (some ⟨w.heap.size,0,none⟩),.int .u64 150] 179)).alloc (.cells #[.pointer (some ⟨10,125,none⟩),.pointer (some ⟨w.heap.size,0,none⟩),.int .u64 150] 179)).alloc (.cells #[.int .i64 n] 64)).setCell t (.int .i64 n):=by
 have h6:=@run_callFunc_extern Tryz.prog 87 _ (fun args=>ReflectliteValue.unpack (args.getD 0 (.tuple #[]))) Tryz.func87 (by kernel_rfl) (by kernel_rfl) (by kernel_rfl) (by kernel_rfl);have h7:=@run_callFunc_extern Tryz.prog 88 _ (ReflectliteValue.methodAny (ReflectliteValue.valueError "reflectlite.Value.Type" 0) (fun t _ _ _=>ReflectliteType.toType t)) Tryz.func88 (by kernel_rfl) (by kernel_rfl) (by kernel_rfl) (by kernel_rfl);have h8:=@run_callFunc_extern Tryz.prog 89 _ (ReflectliteValue.method (ReflectliteValue.valueError "reflectlite.Value.IsNil" 0) ReflectliteValue.isNil) Tryz.func89 (by kernel_rfl) (by kernel_rfl) (by kernel_rfl) (by kernel_rfl);have h27:=@run_callFunc_extern Tryz.prog 254 _ (ReflectliteType.abiMethod fun t=>do pure (.int .u8 (<-Rtype.kind t))) Tryz.func254 (by kernel_rfl) (by kernel_rfl) (by kernel_rfl) (by kernel_rfl);have h37:=@run_callFunc_extern Tryz.prog 270 _ (ReflectliteType.method ReflectliteType.elem) Tryz.func270 (by kernel_rfl) (by kernel_rfl) (by kernel_rfl) (by kernel_rfl);have h38:=@run_callFunc_extern Tryz.prog 271 _ (ReflectliteType.relation "Implements" ReflectliteType.implements_) Tryz.func271 (by kernel_rfl) (by kernel_rfl) (by kernel_rfl) (by kernel_rfl);have h10:=@run_callFunc_extern Tryz.prog 149 _ ReflectliteType.typeOf Tryz.func149 (by kernel_rfl) (by kernel_rfl) (by kernel_rfl) (by kernel_rfl);have h35:=@run_callFunc_extern Tryz.prog 268 _ (ReflectliteType.relation "AssignableTo" ReflectliteType.assignableTo) Tryz.func268 (by kernel_rfl) (by kernel_rfl) (by kernel_rfl) (by kernel_rfl);have h11:=@run_callFunc_extern Tryz.prog 150 _ (ReflectliteValue.method (ReflectliteValue.valueError "reflectlite.Value.Elem" 0) ReflectliteValue.elem) Tryz.func150 (by kernel_rfl) (by kernel_rfl) (by kernel_rfl) (by kernel_rfl);have h12:=@run_callFunc_extern Tryz.prog 151 _ ReflectliteValue.set Tryz.func151 (by kernel_rfl) (by kernel_rfl) (by kernel_rfl) (by kernel_rfl);have tO:=zei;have mA:=zcj;have a25:=zbY;have v25:=zdx;have f6:=zd6;have f7:=zdR;have mK:=zeK;have mE:=zdV;have mI:=zdL;have k27:=zbP;have k25:=zct;have e27:=zdA;have i25:=zbN;have n8:=zcy ⟨w.heap.size,0,none⟩ t ((w.alloc (.cells #[.pointer (some t)] 125)).alloc (.cells #[.pointer (some ⟨10,125,none⟩),.pointer (some ⟨w.heap.size,0,none⟩),.int .u64 150] 179)) (by simp);have hlt:1<w.heap.size:=by
  rcases Nat.lt_or_ge 1 w.heap.size with h|h
  ·exact h
  ·simp[World.cell?,Array.getElem?_eq_none h] at hg
 have hg2:((w.alloc (.cells #[.pointer (some t)] 125)).alloc (.cells #[.pointer (some ⟨10,125,none⟩),.pointer (some ⟨w.heap.size,0,none⟩),.int .u64 150] 179)).cell? ⟨1,0,none⟩=some (.iface 244 (.agg #[.pointer (some ⟨10,41,none⟩)])):=by
  rw[World.cell?_alloc_lt _ _ ⟨1,0,none⟩ (by simp only[World.size_alloc];omega),World.cell?_alloc_lt _ _ ⟨1,0,none⟩ hlt];exact hg
 have htl:t.block<w.heap.size:=by
  rcases Nat.lt_or_ge t.block w.heap.size with h|h
  ·exact h
  ·simp[World.cell?,Array.getElem?_eq_none h] at ht0
 have el:=zdF ⟨w.heap.size,0,none⟩ t (((w.alloc (.cells #[.pointer (some t)] 125)).alloc (.cells #[.pointer (some ⟨10,125,none⟩),.pointer (some ⟨w.heap.size,0,none⟩),.int .u64 150] 179)).alloc (.cells #[.pointer (some ⟨10,125,none⟩),.pointer (some ⟨w.heap.size,0,none⟩),.int .u64 150] 179)) (by rw[World.cell?_alloc_lt _ _ ⟨w.heap.size,0,none⟩ (by simp;omega)];simp);have st:=zdq t ⟨w.heap.size+1+1+1,0,none⟩ n old ((((w.alloc (.cells #[.pointer (some t)] 125)).alloc (.cells #[.pointer (some ⟨10,125,none⟩),.pointer (some ⟨w.heap.size,0,none⟩),.int .u64 150] 179)).alloc (.cells #[.pointer (some ⟨10,125,none⟩),.pointer (some ⟨w.heap.size,0,none⟩),.int .u64 150] 179)).alloc (.cells #[.int .i64 n] 64))
  (by rw[World.cell?_alloc_at _ _ _ _ (by simp)];rfl)
  (by rw[World.cell?_alloc_lt _ _ t (by simp;omega),World.cell?_alloc_lt _ _ t (by simp;omega),World.cell?_alloc_lt _ _ t (by simp;omega),World.cell?_alloc_lt _ _ t htl];exact ht0)
  (by rw[World.frozen?_alloc_old _ _ t (by simp;omega),World.frozen?_alloc_old _ _ t (by simp;omega),World.frozen?_alloc_old _ _ t (by simp;omega),World.frozen?_alloc_old _ _ t (Nat.ne_of_lt htl)];exact hf0)
 have hbl:ba<w.heap.size:=by
  rcases Nat.lt_or_ge ba w.heap.size with h|h
  ·exact h
  ·simp[World.cell?,Array.getElem?_eq_none h] at hba
 have hb3:(((w.alloc (.cells #[.pointer (some t)] 125)).alloc (.cells #[.pointer (some ⟨10,125,none⟩),.pointer (some ⟨w.heap.size,0,none⟩),.int .u64 150] 179)).alloc (.cells #[.pointer (some ⟨10,125,none⟩),.pointer (some ⟨w.heap.size,0,none⟩),.int .u64 150] 179)).cell? ⟨ba,0,none⟩=some (.int .i64 n):=by
  rw[World.cell?_alloc_lt _ _ ⟨ba,0,none⟩ (by simp only[World.size_alloc];omega),World.cell?_alloc_lt _ _ ⟨ba,0,none⟩ (by simp only[World.size_alloc];omega),World.cell?_alloc_lt _ _ ⟨ba,0,none⟩ hbl];exact hba
 have tA:=zkw;have aA:=zoO;have mU:=ziU;have n1:=zkc;have y1:=zfH;go_enter Tryz.func55,Tryz.ntmps55;go_wp2;refine wp_loop_rounds 2 ?_;rw[rounds_succ];go_wp2;rw[rounds_succ];go_wp2;go_ret;exact⟨rfl,rfl⟩
end Errs
theorem zkg(n:Int)(ba:Nat)(w:World)(hg:xP w)(hba:w.cell? ⟨ba,0,none⟩=some (.int .i64 n)) :
  zR 26 #[.iface 83 (.pointer (some ⟨ba,0,none⟩))] w (.int .i64 n):=by
 have hbl:ba<w.heap.size:=by
  rcases Nat.lt_or_ge ba w.heap.size with h|h
  ·exact h
  ·simp[World.cell?,Array.getElem?_eq_none h] at hba
 have H:=Errs.as_at n ba ⟨w.heap.size,0,none⟩ (.int .i64 0) (w.alloc (.cells #[.int .i64 0] 64)) (hg.below (zF.alloc zN _)) (Qr _ _ _) (KH _ _ _) ((World.cell?_alloc_lt _ _ ⟨ba,0,none⟩ hbl).trans hba);clear hba;go_enter Tryz.func26,Tryz.ntmps26;go_wp2_with fail;refine H.mono ?_;rintro e w' ⟨rfl,hw⟩;have hc:w'.cell? ⟨w.heap.size,0,none⟩=some (.int .i64 n):=by
  rw[hw];refine World.cell?_setCell_same' _ _ _ ?_;rw[World.cell?_alloc_lt _ _ ⟨w.heap.size,0,none⟩ (by simp;omega),World.cell?_alloc_lt _ _ ⟨w.heap.size,0,none⟩ (by simp;omega),World.cell?_alloc_lt _ _ ⟨w.heap.size,0,none⟩ (by simp;omega),World.cell?_alloc_lt _ _ ⟨w.heap.size,0,none⟩ (by simp),Qr];rfl
 have hb:zB w w':=by
  rw[hw];exact(((((zF.alloc zN _).alloc (by simp) _).alloc (by simp;omega) _).alloc (by simp;omega) _).alloc (by simp;omega) _).setCell zN _
 clear H hw;go_wp2;go_ret;exact⟨rfl,hb⟩
theorem zjz(n:Int)(w:World):(Instr.typeAssert (.iface 64 (.int .i64 n)) 41 83 true).run Tryz.prog w=.ok (.tuple #[.pointer none,.bool false]) w:=by kernel_rfl
theorem zib(b:Nat)(w:World):(Instr.typeAssert (.iface 83 (.pointer (some ⟨b,0,none⟩))) 41 83 true).run Tryz.prog w=.ok (.tuple #[.pointer (some ⟨b,0,none⟩),.bool true]) w:=by kernel_rfl
end
end Go.Proofs.YtapobpgbcbplbaaGreatDoor