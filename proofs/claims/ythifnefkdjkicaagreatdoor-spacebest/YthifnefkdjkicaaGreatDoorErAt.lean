import Derived.Test.YthifnefkdjkicaaGreatDoorSvCmpG
set_option maxHeartbeats 4000000
set_option maxRecDepth 100000
namespace Go.Proofs.YthifnefkdjkicaaGreatDoor
section
open Sv
instance lawfulBA:LawfulBEq ByteArray where
 eq_of_beq {a b} h:=ByteArray.ext (eq_of_beq (show (a.data==b.data)=true from h))
 rfl {a}:=beq_self_eq_true a.data
structure Ln where
 kind:Int
 name:ByteArray
 a:Int
 b:Int
 c:Int
 other:ByteArray
 rng:List zf
structure It where
 name:ByteArray
 a:Int
 b:Int
 c:Int
deriving DecidableEq,Inhabited
instance:Inhabited Ln:=⟨⟨0,⟨#[]⟩,0,0,0,⟨#[]⟩,[]⟩⟩
def Ln.it(x:Ln):It:=⟨x.name,x.a,x.b,x.c⟩
def Ln.pair(x:Ln):Prop:=x.kind=2\/x.kind=3
instance (x:Ln):Decidable x.pair:=inferInstanceAs (Decidable (_\/_))
def zb(s:ByteArray)(c:UInt8):ByteArray × ByteArray:=(⟨(Lib.cut s.data.toList [c]).1.toArray⟩,⟨(Lib.cut s.data.toList [c]).2.1.toArray⟩)
theorem qD(s:ByteArray)(c:UInt8):(zb s c).1.size<=s.size/\(zb s c).2.size<=s.size:=by
 unfold zb Lib.cut;have hl:s.data.toList.length=s.size:=by simp
 split
 ·simp only[ByteArray.size,List.size_toArray,List.length_take,List.length_drop,Array.length_toList];omega
 ·simp only[ByteArray.size,List.size_toArray,Array.length_toList,List.length_nil];omega
def zO(w:ByteArray):Nat :=
 if w.toList=[112,97,99,107,97,103,101] then 1 else if w.toList=[110,101,101,100,115] then 2 else if w.toList=[99,108,97,115,104,101,115] then 3 else if w.toList=[114,111,111,116] then 4 else 0
theorem zfl(w:ByteArray):zO w<=4:=by
 unfold zO
 repeat' split
 all_goals omega
def xq(s:ByteArray):Except (Int × Option Nat) (List zf) :=
 if 1000<s.size then .error (4,none) else match Zi s with
  |.error (k,p)=>.error (k,some p)
  |.ok l=>.ok l
def xm(k:Nat)(name:ByteArray)(ns:List Nat)(other rest:ByteArray):Except (Int × Option Nat) Ln :=
 match xq rest with
 |.error e=>.error e
 |.ok l=>.ok ⟨(k:Int),name,((ns.getD 0 0:Nat):Int),((ns.getD 1 0:Nat):Int),((ns.getD 2 0:Nat):Int),other,l⟩
def ZU(s:ByteArray):Except (Int × Option Nat) Ln :=
 if zO (zb s 32).1=0 then .error (3,none)
 else if zO (zb s 32).1=4 then xm 4 (zb (zb s 32).2 32).1 [] ⟨#[]⟩ (zb (zb s 32).2 32).2
 else match zS (zb (zb (zb s 32).2 32).2 32).1 with
  |.error e=>.error (e,none)
  |.ok ns =>
   if zO (zb s 32).1=1 then
    if (zb (zb (zb s 32).2 32).2 32).2.size=0 then .ok ⟨1,(zb (zb s 32).2 32).1,((ns.getD 0 0:Nat):Int),((ns.getD 1 0:Nat):Int),((ns.getD 2 0:Nat):Int),⟨#[]⟩,[]⟩ else .error (3,none)
   else xm (zO (zb s 32).1) (zb (zb s 32).2 32).1 ns (zb (zb (zb (zb s 32).2 32).2 32).2 32).1 (zb (zb (zb (zb s 32).2 32).2 32).2 32).2
def yc(s:ByteArray):Nat->Nat->List (Nat × ByteArray)
 |0,_=>[]
 |f+1,k=>if s.size<=k then [] else
  (if (zb (s.extract k s.size) 10).1.size=0 then [] else [(k,(zb (s.extract k s.size) 10).1)])++yc s f (k+(zb (s.extract k s.size) 10).1.size+1)
def plF:List (Nat × ByteArray)->List (Nat × Ln)->Except (Int × Nat) (List (Nat × Ln))
 |[],acc=>.ok acc
 |x :: r,acc=>match ZU x.2 with
  |.error e=>.error (e.1,x.1)
  |.ok l=>plF r (acc++[(x.1,l)])
theorem Ks(l r:List (Nat × ByteArray)):∀(acc:List (Nat × Ln)),plF (l++r) acc=match plF l acc with
  |.error e=>.error e
  |.ok acc'=>plF r acc':=by
 induction l with
 |nil=>intro acc;rfl
 |cons x l ih =>
  intro acc;rw[List.cons_append,plF,plF];split
  ·rfl
  ·exact ih _
theorem zg2:∀(l:List (Nat × ByteArray)) (acc:List (Nat × Ln)) (out:List (Nat × Ln)),plF l acc=.ok out->out.length=acc.length+l.length:=by
 intro l
 induction l with
 |nil=>intro acc out h;cases h;rfl
 |cons x l ih =>
  intro acc out h;unfold plF at h;split at h
  ·cases h
  ·have:=ih _ _ h;simp at this ⊢;omega
def InV(a b c:Int):Prop:=(0<=a/\a<=999)/\(0<=b/\b<=999)/\0<=c/\c<=999
instance (a b c:Int):Decidable (InV a b c):=inferInstanceAs (Decidable (_/\_))
open Classical in
noncomputable def qJ(x:Ln):Int :=
 if x.kind<1\/4<x.kind then 1
 else if ¬zr x.name\/(x.pair/\¬zr x.other) then 5
 else if ¬x.pair/\x.other.size≠0 then 1
 else if x.kind=1/\x.rng≠[] then 1
 else if x.kind=4/\(x.a≠0\/x.b≠0\/x.c≠0) then 1
 else if ¬InV x.a x.b x.c then 2 else 0
def qY(l:List It):Nat:=((l.map It.name).eraseDups).length
noncomputable def qg:List Ln->Nat->List It->Except (Int × Nat) (List It)
 |[],_,its=>.ok its
 |x :: r,i,its =>
  if qJ x≠0 then .error (qJ x,i)
  else if x.kind=1 then
   if x.it∈its then .error (9,i)
   else if 8<qY (its++[x.it])\/its.length=24 then .error (4,i)
   else qg r (i+1) (its++[x.it])
  else qg r (i+1) its
def qb(x y:It):Int:=if x.name.toList=y.name.toList then q8 (tI y.a y.b y.c) (tI x.a x.b x.c) 3 else Lib.compareBytes x.name.data.toList y.name.data.toList
def qX(l:List It):List It:=l.mergeSort fun x y=>!decide (qb y x<0)
def qu:List Ln->Nat->List It->Option Nat
 |[],_,_=>none
 |x :: r,i,its=>if x.pair/\x.it∉its then some i else qu r (i+1) its
noncomputable def qA(ls:List Ln):Except (Int × Option Nat) (List It) :=
 if 100<ls.length then .error (4,none)
 else match qg ls 0 [] with
  |.error e=>.error (e.1,some e.2)
  |.ok its=>match qu ls 0 (qX its) with
   |some i=>.error (7,some i)
   |none=>.ok (qX its)
noncomputable def yM(s:ByteArray):Except (Int × Option Nat) (List Ln × List It) :=
 if 20000<s.size then .error (4,none)
 else match plF (yc s s.size 0) [] with
  |.error e=>.error (e.1,some e.2)
  |.ok ps=>match qA (ps.map Prod.snd) with
   |.error (e,none)=>.error (e,none)
   |.error (e,some i)=>.error (e,some ((ps.map Prod.fst).getD i 0))
   |.ok its=>.ok (ps.map Prod.snd,its)
def ye(its:List It)(name:ByteArray):Option (Nat × Nat) :=
 its.zipIdx.foldl (fun r x=>if x.1.name=name then some ((r.map Prod.fst).getD x.2,x.2+1) else r) none
theorem zbx(l:List It)(x:It)(name:ByteArray):ye (l++[x]) name=if x.name=name then some (((ye l name).map Prod.fst).getD l.length,l.length+1) else ye l name:=by
 unfold ye;rw[List.zipIdx_append,List.foldl_append];simp
def ya(its:List It)(name:ByteArray):Nat × Nat:=(ye its name).getD (0,0)
def yZ(rng:List zf)(x:It):Prop:=InV x.a x.b x.c/\mem rng (ZR x.a.toNat x.b.toNat x.c.toNat)
open Classical in
noncomputable def qs(its:List It)(name:ByteArray)(rng:List zf):List Nat :=
 (List.range' (ya its name).1 ((ya its name).2-(ya its name).1)).filter fun i=>decide (yZ rng (its.getD i default))
def qI(its:List It)(x:It):Int:=match its.findIdx? (fun y=>decide (x=y)) with|some i=>(i:Int)|none=>-1
def zE(k:Int):Int:=-(k+1)
noncomputable def yy(its:List It)(n:Nat)(x:Ln):List (Int × List Int) :=
 if x.kind=4 then [((n:Int),(qs its x.name x.rng).map fun (k:Nat)=>((k:Int)+1))]
 else if x.kind=2 then [((n:Int),zE (qI its x.it) :: (qs its x.other x.rng).map fun (k:Nat)=>((k:Int)+1))]
 else if x.kind=3 then (qs its x.other x.rng).map fun (k:Nat)=>((n:Int),[zE (qI its x.it),zE (k:Int)])
 else []
end
section
open Go.RowKit Go.Deep
structure Kp(B:Nat)(w w':World):Prop where
 size:w.heap.size<=w'.heap.size
 block:∀k,k<w.heap.size->(k<B\/∃cur fr,w.heap[k]?=some (.cells cur 3 fr))->w'.heap[k]?=w.heap[k]?
section
variable {B:Nat} {w w' w'':World}
theorem Kp.refl(B:Nat)(w:World):Kp B w w:=⟨Nat.le_refl _,fun _ _ _=>rfl⟩
theorem Kp.trans(h:Kp B w w')(h2:Kp B w' w''):Kp B w w'':=⟨Nat.le_trans h.size h2.size,fun k hk hc=>by
 have e:=h.block k hk hc;rw[<-e];refine h2.block k (Nat.lt_of_lt_of_le hk h.size) ?_;rw [e];exact hc⟩
theorem Kp.zero(h:Kp B w w'):Kp 0 w w':=⟨h.size,fun k hk hc=>h.block k hk (hc.imp (fun h=>by omega) id)⟩
theorem Kp.new(hb:zB w w'):Kp B w w':=⟨hb.size,fun k hk _=>hb.block k hk⟩
theorem Kp.set{b i:Nat}{t:TypeId}{cs:Array Value}{v:Value}(hB:B<=b)(h:Blk w b t cs)(ht:t≠3):Kp B w (w.setCell ⟨b,i,none⟩ v):=by
 refine⟨by simp[World.setCell],fun k hk hc=>Below.heap_setCell _ _ _ k (fun e=>?_)⟩;have e':k=b:=e;subst e';rcases hc with hc|⟨j,fr,hc⟩
 ·omega
 ·rw[show w.heap[k]?=_ from h] at hc;simp only[Option.some.injEq,Obj.cells.injEq] at hc;exact ht hc.2.1
theorem Kp.grown{e:TypeId}{size n:Nat}{v:Value}{xs:List Value}(h:w.ownsRow B e size v n xs)(hg:w.grownBy w' v.ownBlock)(he:e≠3):Kp B w w':=by
 refine⟨hg.size,fun k hk hc=>hg.block k hk (fun e'=>?_)⟩;obtain⟨h1,h2⟩:=h.lt k e'.symm;rcases hc with hc|⟨q,fr,hc⟩
 ·omega
 ·rcases h.2 with ⟨hv,_⟩|⟨g,p,j,hv,_,o,_⟩
  ·rw[hv] at e';cases e'
  ·rw[hv] at e';simp only[Value.ownBlock,Option.some.injEq] at e';subst e';rw[o] at hc;simp only[Option.some.injEq,Obj.cells.injEq] at hc;exact he hc.2.1
def qU(B:Nat)(w:World)(a:Option Addr)(xs:List Int):Prop :=
 ∀i,i<xs.length->∃ad:Addr,a=some ad/\ad.block<w.heap.size/\(ad.block<B\/∃j fr,w.heap[ad.block]?=some (.cells j 3 fr))/\w.cell? (ad.add i)=some (.int .i64 (xs.getD i 0))
theorem qU.ints{a:Option Addr}{xs:List Int}(h:qU B w a xs):qe w a xs:=fun i hi=>by
 obtain⟨ad,h1,h2,_,h4⟩:=h i hi;exact⟨ad,h1,h2,h4⟩
theorem qU.kp{a:Option Addr}{xs:List Int}(h:qU B w a xs)(hk:Kp B w w'):qU B w' a xs:=fun i hi=>by
 obtain⟨ad,h1,h2,h3,h4⟩:=h i hi;have e:=hk.block _ h2 h3;refine⟨ad,h1,Nat.lt_of_lt_of_le h2 hk.size,by rw[e];exact h3,?_⟩;rw[World.cell?_of_block (w:=w) (by rw[Zt];exact e)];exact h4
theorem qU.more{a:Option Addr}{xs:List Int}(h:qU 0 w a xs):qU B w a xs:=fun i hi=>by
 obtain⟨ad,h1,h2,h3,h4⟩:=h i hi;exact⟨ad,h1,h2,h3.imp (fun h=>by omega) id,h4⟩
theorem qU.of{a:Option Addr}{xs:List Int}(h:qe w a xs)(hb:zB w w'):qU w.heap.size w' a xs:=fun i hi=>by
 obtain⟨ad,h1,h2,h3⟩:=h.below hb i hi;obtain⟨j,h4,h5,_⟩:=h i hi;obtain rfl:=Option.some.inj (h1.symm.trans h4);exact⟨ad,h1,h2,Or.inl h5,h3⟩
def qW(B:Nat)(w:World)(cs:List Value)(l:List (List Int)):Prop :=
 cs.length=l.length/\∀i,i<l.length->∃(a:Option Addr) (cap:Nat),cs[i]?=some (.slice a (l.getD i []).length cap)/\(l.getD i []).length<=cap/\cap<=9223372036854775807/\qU B w a (l.getD i [])
theorem qW.kp{cs:List Value}{l:List (List Int)}(h:qW B w cs l)(hk:Kp B w w'):qW B w' cs l:=⟨h.1,fun i hi=>by
 obtain⟨a,j,h1,h2,h3,h4⟩:=h.2 i hi;exact ⟨a,j,h1,h2,h3,h4.kp hk⟩⟩
theorem qW.nil:qW B w [] []:=⟨rfl,fun i hi=>by simp at hi⟩
theorem qW.snoc{cs:List Value}{l:List (List Int)}(h:qW B w cs l){a:Option Addr}{cap:Nat}{c:List Int}(h1:c.length<=cap)(h2:cap<=9223372036854775807)(h3:qU B w a c):qW B w (cs++[.slice a c.length cap]) (l++[c]):=by
 refine⟨by simp[h.1],fun i hi=>?_⟩
 by_cases hl:i<l.length
 ·have e:(l++[c]).getD i []=l.getD i []:=by simp[List.getD_eq_getElem?_getD,List.getElem?_append_left hl]
  rw[e,List.getElem?_append_left (by rw[h.1];exact hl)];exact h.2 i hl
 ·have hi':i=l.length:=by simp at hi;omega
  subst hi';have e:(l++[c]).getD l.length []=c:=by simp[List.getD_eq_getElem?_getD]
  rw[e,List.getElem?_append_right (by rw[h.1];exact Nat.le_refl _),h.1];exact⟨a,cap,by simp,h1,h2,h3⟩
theorem qW.cls{cs:List Value}{l:List (List Int)}{a:Option Addr}{cap:Nat}(h:qW B w cs l)(hr:w.ownsRow B 107 1 (.slice a l.length cap) l.length cs):xJ w a l:=by
 intro i hi;obtain⟨a',j,h1,h2,h3,h4⟩:=h.2 i hi;rcases hr.2 with ⟨e,e0⟩|⟨g,o,p,e,hB,hg,-⟩
 ·omega
 ·injection e with e1 e2 e3;subst e1 e3;refine⟨_,a',j,rfl,(Array.getElem?_eq_some_iff.1 hg).1,?_,h2,h3,h4.ints⟩;have:=hr.cellAt i (by omega);rw[ZK,Nat.zero_add,this,h1]
theorem qW.one{cs:List Value}{l:List (List Int)}(h:qW B w cs l):∀u∈cs,u.oneCell'=true:=fun u hu=>by
 obtain⟨i,hi,rfl⟩:=List.getElem_of_mem hu;obtain⟨a,j,h1,_⟩:=h.2 i (by rw[<-h.1];exact hi);rw[List.getElem?_eq_getElem hi] at h1;rw[Option.some.inj h1];rfl
end
theorem Xo{w:World}{B:Nat}{e T:TypeId}{size:Nat}{v:Value}{n:Nat}{xs:List Value}{b:Nat}{cs:Array Value}(hown:w.ownsRow B e size v n xs)(hb:Blk w b T cs)(hTe:T≠e):v.ownBlock≠some b:=by
 rcases hown.2 with ⟨rfl,_⟩|⟨g,j,o,rfl,_,hg,_⟩
 ·simp[Value.ownBlock]
 ·intro h;simp only[Value.ownBlock,Option.some.injEq] at h;subst h;rw[show w.heap[g]?=_ from hb] at hg;simp only[Option.some.injEq,Obj.cells.injEq] at hg;exact hTe hg.2.1
theorem ZP{w:World}{B:Nat}{e e2:TypeId}{size size2:Nat}{v v2:Value}{n n2:Nat}{xs xs2:List Value}(h1:w.ownsRow B e size v n xs)(h2:w.ownsRow B e2 size2 v2 n2 xs2)(hne:e≠e2):v.ownBlock=none\/v.ownBlock≠v2.ownBlock:=by
 rcases h1.2 with ⟨rfl,_⟩|⟨g,o,j,rfl,_,hg,_⟩
 ·exact Or.inl rfl
 ·refine Or.inr fun e'=>?_;exact Xo h2 (b:=g) (cs:=j) (T:=e) hg hne e'.symm
theorem zI{B:Nat}{w w':World}{t:TypeId}{size:Nat}{v:Value}{n:Nat}{cs:List Value}(h:w.ownsRow B t size v n cs)(hb:zB w w'):w'.ownsRow B t size v n cs:=by
 obtain⟨h1,h2⟩:=h;refine⟨h1,?_⟩;rcases h2 with h2|⟨g,j,o,hv,hg,hh,r⟩
 ·exact Or.inl h2
 ·exact Or.inr ⟨g,j,o,hv,hg,by rw[hb.block g (Array.getElem?_eq_some_iff.1 hh).1];exact hh,r⟩
end
section
open Go.RowKit Go.Deep Sv
structure yf(w:World)(v:Value)(n:Nat)(cs:List Value):Prop where
 form:∃a cap,v=.slice a n cap/\(a=none->cap=0)/\n<=cap/\cap<=9223372036854775807/\(a=none\/∃g,a=some ⟨g,0,none⟩)
 cells:0<n->∃g cap,v=.slice (some ⟨g,0,none⟩) n cap/\g<w.heap.size/\∀(j:Nat) u,cs[j]?=some u->w.cell? ⟨g,j,none⟩=some u
theorem yf.below{B:Nat}{w w':World}{v:Value}{n:Nat}{cs:List Value}(h:yf w v n cs)(hb:Below B w w')(hB:w.heap.size<=B):yf w' v n cs :=
 ⟨h.form,fun hn=>by
  obtain⟨g,o,e,hg,hc⟩:=h.cells hn;exact ⟨g,o,e,Nat.lt_of_lt_of_le hg hb.size,fun j u hu=>(hb.cell (p:=⟨g,j,none⟩) (by show g<B;omega)).trans (hc j u hu)⟩⟩
theorem zD{B:Nat}{w:World}{v:Value}{t:TypeId}{k n:Nat}{cs:List Value}(h:w.ownsRow B t k v n cs):yf w v n cs:=by
 have hl:=h.1;rcases h.2 with ⟨e,e0⟩|⟨g,p,q,e,hB,hg,hn,hm,y,o⟩
 ·exact⟨⟨none,0,by rw[e,e0],fun _=>rfl,by omega,by omega,Or.inl rfl⟩,fun hi=>by omega⟩
 ·unfold maxLen at hm;refine⟨⟨_,_,e,(fun h=>by cases h),hn,hm,Or.inr ⟨g,rfl⟩⟩,fun _=>⟨g,p,e,(h.lt g (by rw[e];rfl)).2,fun j u hu=>?_⟩⟩;have hj:=(List.getElem?_eq_some_iff.1 hu).1;rw[<-o,List.getElem?_take,zA2 (by omega)] at hu;rw[<-hu];simp[World.cell?,hg]
def zX(x:It):List Value:=[.string x.name,.int .i64 x.a,.int .i64 x.b,.int .i64 x.c]
def zl(l:List It):List Value:=l.flatMap zX
theorem xF(l:List It):(zl l).length=l.length*4:=by
 induction l with
 |nil=>rfl
 |cons x l ih=>unfold zl at *;rw[List.flatMap_cons,List.length_append,ih];simp[zX];omega
theorem Jk(a b:List It):zl (a++b)=zl a++zl b:=by simp[zl]
theorem Yv:∀(l:List It) (i:Nat),i<l.length->∀(j:Nat) (u:Value),(zX (l.getD i default))[j]?=some u->(zl l)[i*4+j]?=some u
 |[],i,h,_,_,_=>by simp at h
 |x :: l,0,_,j,u,hu=>by
  have hj:j<4:=by have:=(List.getElem?_eq_some_iff.1 hu).1;simpa[zX] using this
  rw[show zl (x :: l)=zX x++zl l from rfl,Nat.zero_mul,Nat.zero_add,List.getElem?_append_left (by simpa[zX] using hj)];simpa using hu
 |x :: l,i+1,h,j,u,hu=>by
  have ih:=Yv l i (by simpa using h) j u (by simpa using hu);rw[show zl (x :: l)=zX x++zl l from rfl,List.getElem?_append_right (by simp[zX];omega)];rw[show (i+1)*4+j-(zX x).length=i*4+j by simp[zX];omega];exact ih
def yd(w:World)(v:Value)(l:List It):Prop:=yf w v l.length (zl l)
theorem yd.at{w:World}{v:Value}{l:List It}(h:yd w v l)(i:Nat)(hi:i<l.length):∃g j,v=.slice (some ⟨g,0,none⟩) l.length j/\g<w.heap.size/\w.cell? ⟨g,i*4,none⟩=some (.string (l.getD i default).name)/\w.cell? ⟨g,i*4+1,none⟩=some (.int .i64 (l.getD i default).a)/\w.cell? ⟨g,i*4+2,none⟩=some (.int .i64 (l.getD i default).b)/\w.cell? ⟨g,i*4+3,none⟩=some (.int .i64 (l.getD i default).c):=by
 obtain⟨g,j,e,hg,hc⟩:=h.cells (by omega);exact⟨g,j,e,hg,hc _ _ (Yv l i hi 0 _ rfl),hc _ _ (Yv l i hi 1 _ rfl),hc _ _ (Yv l i hi 2 _ rfl),hc _ _ (Yv l i hi 3 _ rfl)⟩
def ZD(x:Ln)(v:Value):List Value:=[.int .i64 x.kind,.string x.name,.int .i64 x.a,.int .i64 x.b,.int .i64 x.c,.string x.other,v]
def qw:List Ln->List Value->List Value
 |x :: l,v :: vs=>ZD x v++qw l vs
 |_,_=>[]
theorem Kx:∀(l:List Ln) (vs:List Value),vs.length=l.length->(qw l vs).length=l.length*7
 |[],[],_=>rfl
 |x :: l,v :: vs,h=>by
  have:=Kx l vs (by simpa using h);rw[qw,List.length_append,this];simp[ZD];omega
 |[],v :: vs,h=>by simp at h
 |x :: l,[],h=>by simp at h
theorem zbT:∀(l:List Ln) (vs:List Value) (x:Ln) (v:Value),vs.length=l.length->qw (l++[x]) (vs++[v])=qw l vs++ZD x v
 |[],[],x,v,_=>by simp[qw]
 |y :: l,u :: vs,x,v,h=>by
  have:=zbT l vs x v (by simpa using h);simp[qw,this]
 |[],v :: vs,_,_,h=>by simp at h
 |x :: l,[],_,_,h=>by simp at h
theorem J2:∀(l:List Ln) (vs:List Value),vs.length=l.length->∀(i:Nat),i<l.length->∀(j:Nat) (u:Value),(ZD (l.getD i default) (vs.getD i undef))[j]?=some u->(qw l vs)[i*7+j]?=some u
 |[],[],_,i,h,_,_,_=>by simp at h
 |x :: l,v :: vs,_,0,_,j,u,hu=>by
  have hj:j<7:=by have:=(List.getElem?_eq_some_iff.1 hu).1;simpa[ZD] using this
  rw[qw,Nat.zero_mul,Nat.zero_add,List.getElem?_append_left (by simpa[ZD] using hj)];simpa using hu
 |x :: l,v :: vs,hl,i+1,h,j,u,hu=>by
  have ih:=J2 l vs (by simpa using hl) i (by simpa using h) j u (by simpa using hu);rw[qw,List.getElem?_append_right (by simp[ZD];omega)];rw[show (i+1)*7+j-(ZD x v).length=i*7+j by simp[ZD];omega];exact ih
 |[],v :: vs,h,_,_,_,_,_=>by simp at h
 |x :: l,[],h,_,_,_,_,_=>by simp at h
def qO(w:World)(l:List Ln)(vs:List Value):Prop:=vs.length=l.length/\∀i,i<l.length->zk w (vs.getD i undef) (l.getD i default).rng/\Rg (l.getD i default).rng
theorem qO.below{B:Nat}{w w':World}{l:List Ln}{vs:List Value}(h:qO w l vs)(hb:Below B w w')(hB:w.heap.size<=B):qO w' l vs:=⟨h.1,fun i hi=>⟨(h.2 i hi).1.below hb hB,(h.2 i hi).2⟩⟩
theorem zpB(w:World):qO w [] []:=⟨rfl,fun i h=>by simp at h⟩
theorem qO.snoc{w:World}{l:List Ln}{vs:List Value}(h:qO w l vs){x:Ln}{v:Value}(hv:zk w v x.rng)(hr:Rg x.rng):qO w (l++[x]) (vs++[v]):=by
 refine⟨by simp[h.1],fun i hi=>?_⟩
 by_cases hl:i<l.length
 ·have e1:(l++[x]).getD i default=l.getD i default:=by simp[List.getD_eq_getElem?_getD,List.getElem?_append_left hl]
  have e2:(vs++[v]).getD i undef=vs.getD i undef:=by simp[List.getD_eq_getElem?_getD,List.getElem?_append_left (show i<vs.length by rw[h.1];exact hl)]
  rw[e1,e2];exact h.2 i hl
 ·obtain rfl:i=l.length:=by simp at hi;omega
  have e1:(l++[x]).getD l.length default=x:=by simp[List.getD_eq_getElem?_getD]
  have e2:(vs++[v]).getD l.length undef=v:=by simp[List.getD_eq_getElem?_getD,<-h.1]
  rw[e1,e2];exact⟨hv,hr⟩
def ZX(w:World)(v:Value)(l:List Ln):Prop:=∃vs,qO w l vs/\yf w v l.length (qw l vs)
theorem ZX.below{B:Nat}{w w':World}{v:Value}{l:List Ln}(h:ZX w v l)(hb:Below B w w')(hB:w.heap.size<=B):ZX w' v l:=by
 obtain⟨vs,h1,h2⟩:=h;exact⟨vs,h1.below hb hB,h2.below hb hB⟩
theorem ZX.at{w:World}{v:Value}{l:List Ln}(h:ZX w v l)(i:Nat)(hi:i<l.length):∃g o rv,v=.slice (some ⟨g,0,none⟩) l.length o/\g<w.heap.size/\zk w rv (l.getD i default).rng/\Rg (l.getD i default).rng/\w.cell? ⟨g,i*7,none⟩=some (.int .i64 (l.getD i default).kind)/\w.cell? ⟨g,i*7+1,none⟩=some (.string (l.getD i default).name)/\w.cell? ⟨g,i*7+2,none⟩=some (.int .i64 (l.getD i default).a)/\w.cell? ⟨g,i*7+3,none⟩=some (.int .i64 (l.getD i default).b)/\w.cell? ⟨g,i*7+4,none⟩=some (.int .i64 (l.getD i default).c)/\w.cell? ⟨g,i*7+5,none⟩=some (.string (l.getD i default).other)/\w.cell? ⟨g,i*7+6,none⟩=some rv:=by
 obtain⟨vs,h1,h2⟩:=h;obtain⟨g,o,e,hg,hc⟩:=h2.cells (by omega);have H:=fun j u hu=>hc _ _ (J2 l vs h1.1 i hi j u hu);exact⟨g,o,vs.getD i undef,e,hg,(h1.2 i hi).1,(h1.2 i hi).2,H 0 _ rfl,H 1 _ rfl,H 2 _ rfl,H 3 _ rfl,H 4 _ rfl,H 5 _ rfl,H 6 _ rfl⟩
end
section
open Go.RowKit Sv
theorem yw(x:Ln)(v:Value)(w:World) :
  zC 76 #[.agg #[x.kind,x.name,x.a,x.b,x.c,x.other,v]] w fun e w'=>e=.returned (.bool (decide x.pair))/\w'=w.alloc (.cells #[x.kind,x.name,x.a,x.b,x.c,x.other,v] 97):=by
 have hd:decide x.pair=(decide (x.kind=2)||decide (x.kind=3)):=by
  by_cases h2:x.kind=2<;>by_cases h3:x.kind=3<;>simp[Ln.pair,h2,h3]
 rw[hd];clear hd;generalize x.kind=k
 by_cases h2:k=2
 ·subst h2;go_enter Tryz.func76,Tryz.ntmps76;go_wp2;go_ret;exact⟨rfl,rfl⟩
 ·by_cases h3:k=3
  ·subst h3;go_enter Tryz.func76,Tryz.ntmps76;go_wp2;go_ret;exact⟨rfl,rfl⟩
  ·have e2:(k==2)=false:=by simpa using h2
   have e3:(k==3)=false:=by simpa using h3
   have HD:Hid ((decide (k=2)||decide (k=3))=false):=by show _=_;simp[h2,h3]
   go_enter Tryz.func76,Tryz.ntmps76;go_wp2;go_ret;exact⟨by rw[HD.out];rfl,rfl⟩
def wl:Nat->List UInt8
 |1=>[112,97,99,107,97,103,101]
 |2=>[110,101,101,100,115]
 |3=>[99,108,97,115,104,101,115]
 |4=>[114,111,111,116]
 |_=>[]
structure Z9(w:World):Prop where
 c0:w.cell? ⟨2,0,none⟩=some (.string ⟨#[]⟩)
 c1:w.cell? ⟨2,1,none⟩=some (.string ⟨#[112,97,99,107,97,103,101]⟩)
 c2:w.cell? ⟨2,2,none⟩=some (.string ⟨#[110,101,101,100,115]⟩)
 c3:w.cell? ⟨2,3,none⟩=some (.string ⟨#[99,108,97,115,104,101,115]⟩)
 c4:w.cell? ⟨2,4,none⟩=some (.string ⟨#[114,111,111,116]⟩)
theorem Z9.below{B:Nat}{w w':World}(h:Z9 w)(hb:Below B w w')(hB:2<B):Z9 w' :=
 ⟨(hb.cell (p:=⟨2,0,none⟩) hB).trans h.c0,(hb.cell (p:=⟨2,1,none⟩) hB).trans h.c1,(hb.cell (p:=⟨2,2,none⟩) hB).trans h.c2,(hb.cell (p:=⟨2,3,none⟩) hB).trans h.c3,(hb.cell (p:=⟨2,4,none⟩) hB).trans h.c4⟩
abbrev Kc:Value:=.agg #[.string ⟨#[]⟩,.string ⟨#[112,97,99,107,97,103,101]⟩,.string ⟨#[110,101,101,100,115]⟩,.string ⟨#[99,108,97,115,104,101,115]⟩,.string ⟨#[114,111,111,116]⟩]
theorem wix(W:World):(Instr.index 204 Kc (.int .i64 0)).run Tryz.prog W=.ok (.string ⟨#[]⟩) W/\(Instr.index 204 Kc (.int .i64 1)).run Tryz.prog W=.ok (.string ⟨#[112,97,99,107,97,103,101]⟩) W/\(Instr.index 204 Kc (.int .i64 2)).run Tryz.prog W=.ok (.string ⟨#[110,101,101,100,115]⟩) W/\(Instr.index 204 Kc (.int .i64 3)).run Tryz.prog W=.ok (.string ⟨#[99,108,97,115,104,101,115]⟩) W/\(Instr.index 204 Kc (.int .i64 4)).run Tryz.prog W=.ok (.string ⟨#[114,111,111,116]⟩) W:=by
 refine⟨?_,?_,?_,?_,?_⟩<;>kernel_rfl
theorem ze5{s:ByteArray}{k:Nat}(hk:1<=k)(hk4:k<=4)(h:s.toList=wl k):zO s=k:=by
 match k,hk,hk4,h with
 |1,_,_,h=>unfold zO;rw[h];rfl
 |2,_,_,h=>unfold zO;rw[h];rfl
 |3,_,_,h=>unfold zO;rw[h];rfl
 |4,_,_,h=>unfold zO;rw[h];rfl
theorem zfH{s:ByteArray}(h:s.toList=[]\/∀j,j<5->s.toList≠wl j):zO s=0:=by
 rcases h with h|h
 ·unfold zO;rw[h];rfl
 ·unfold zO;have h1:s.toList≠[112,97,99,107,97,103,101]:=h 1 (by omega);have h2:s.toList≠[110,101,101,100,115]:=h 2 (by omega);have h3:s.toList≠[99,108,97,115,104,101,115]:=h 3 (by omega);have h4:s.toList≠[114,111,111,116]:=h 4 (by omega);rw[zA1 h1,zA1 h2,zA1 h3,zA1 h4]
theorem Jy(s:ByteArray)(w:World)(hw:Z9 w) :
  zC 74 #[s] w fun e w'=>e=.returned (.int .i64 (zO s:Nat))/\w'=w:=by
 obtain⟨c0,c1,c2,c3,c4⟩:=hw;go_enter Tryz.func74,Tryz.ntmps74;go_wp2_with fail;clear c0 c1 c2 c3 c4;go_loop [6] (fun i=>∃k:Nat,k<=5/\i=.int .i64 k/\∀j,j<k->s.toList≠wl j) (fun i=>5-(intOf i).toNat)
 case atStart=>exact⟨0,by omega,rfl,fun j h=>by omega⟩
 case round =>
  obtain⟨k,hk,rfl,q⟩:=hrel;obtain⟨x0,x1,x2,x3,x4⟩:=wix w;have p:=zH q;clear q
  by_cases h5:k=5
  ·subst h5;have HK:Hid (zO s=0):=zfH (Or.inr p.out);go_wp2;go_ret;exact⟨by rw[HK.out];rfl,rfl⟩
  ·have h4:k<5:=by omega
   clear h5 hk
   by_cases hs:s.toList=wl k
   ·have HK:Hid (zO s=k):=by
     show _=_
     by_cases h0:k=0
     ·subst h0;exact zfH (Or.inl hs)
     ·exact ze5 (by omega) (by omega) hs
    match k,h4 with
    |0,_ =>
     have hb:(([]:List UInt8)==s.toList)=true:=by rw[hs];rfl
     have u:s.toList.isEmpty=true:=by rw[hs];rfl
     clear hs;go_wp2;go_ret;exact⟨by rw[HK.out];rfl,rfl⟩
    |1,_ =>
     have hb:([112,97,99,107,97,103,101]==s.toList)=true:=by rw[hs];rfl
     clear hs;go_wp2;go_ret;exact⟨by rw[HK.out];rfl,rfl⟩
    |2,_ =>
     have hb:([110,101,101,100,115]==s.toList)=true:=by rw[hs];rfl
     clear hs;go_wp2;go_ret;exact⟨by rw[HK.out];rfl,rfl⟩
    |3,_ =>
     have hb:([99,108,97,115,104,101,115]==s.toList)=true:=by rw[hs];rfl
     clear hs;go_wp2;go_ret;exact⟨by rw[HK.out];rfl,rfl⟩
    |4,_ =>
     have hb:([114,111,111,116]==s.toList)=true:=by rw[hs];rfl
     clear hs;go_wp2;go_ret;exact⟨by rw[HK.out];rfl,rfl⟩
   ·have o:Hid (∀j,j<k+1->s.toList≠wl j):=fun j hj=>by
     rcases Nat.lt_succ_iff_lt_or_eq.1 hj with h|h
     ·exact p.out j h
     ·rw[h];exact hs
    have hs':(wl k==s.toList)=false:=by rw[beq_eq_false_iff_ne];exact fun e=>hs e.symm
    clear hs
    match k,h4 with
    |0,_ =>
     have hb:(([]:List UInt8)==s.toList)=false:=hs';have u:s.toList.isEmpty=false:=by
      cases h:s.toList with
      |nil=>rw[h] at hb;cases hb
      |cons a t=>rfl
     clear hs';go_wp2;go_round
     case rel=>exact⟨1,by omega,rfl,o.out⟩
     case measure=>simp[intOf]
    |1,_ =>
     have hb:([112,97,99,107,97,103,101]==s.toList)=false:=hs';clear hs';go_wp2;go_round
     case rel=>exact⟨2,by omega,rfl,o.out⟩
     case measure=>simp[intOf]
    |2,_ =>
     have hb:([110,101,101,100,115]==s.toList)=false:=hs';clear hs';go_wp2;go_round
     case rel=>exact⟨3,by omega,rfl,o.out⟩
     case measure=>simp[intOf]
    |3,_ =>
     have hb:([99,108,97,115,104,101,115]==s.toList)=false:=hs';clear hs';go_wp2;go_round
     case rel=>exact⟨4,by omega,rfl,o.out⟩
     case measure=>simp[intOf]
    |4,_ =>
     have hb:([114,111,111,116]==s.toList)=false:=hs';clear hs';go_wp2;go_round
     case rel=>exact⟨5,by omega,rfl,o.out⟩
     case measure=>simp[intOf]
end
section
open Go.RowKit Go.Extern.Stop Go.Stop Go.Extern
namespace Errs
theorem zo0(v:Value)(w:World):(ReflectliteType.typeOf #[.iface 100 v]).run Tryz.prog w=.ok (.iface 262 (.agg #[.pointer (some ⟨12,100,none⟩)])) w:=by kernel_rfl
theorem zoO(w:World):(ReflectliteType.relation "AssignableTo" ReflectliteType.assignableTo #[.agg #[.pointer (some ⟨12,100,none⟩)],.iface 262 (.agg #[.pointer (some ⟨12,42,none⟩)])]).run Tryz.prog w=.ok (.bool false) w:=by kernel_rfl
theorem zpC(h:Value)(w:World):(Go.method 494 100 h "Unwrap").run Tryz.prog w=.ok (269,h) w:=by kernel_rfl
theorem zgX(v:Value)(w:World):(Instr.typeAssert (.iface 100 v) 33 267 true).run Tryz.prog w=.ok (.tuple #[.nilIface,false]) w:=run_typeAssert_lacksB Tryz.underlying267 (by kernel_rfl) (by kernel_rfl) _ 33 w
theorem zlE(v:Value)(w:World):(Instr.typeAssert (.iface 100 v) 33 187 true).run Tryz.prog w=.ok (.tuple #[.iface 100 v,true]) w:=run_typeAssert_hasB Tryz.underlying187 (by kernel_rfl) _ 33 w
theorem as_at(n:Int)(ba:Nat)(t:Addr)(old:Value)(w:World)(hg:w.cell? ⟨3,0,none⟩=some (.iface 262 (.agg #[.pointer (some ⟨12,33,none⟩)])))(ht0:w.cell? t=some old)(hf0:w.frozen? t=false)(hba:w.cell? ba=some (.int .i64 n)) :
  zC 78 #[.iface 100 (.pointer (some ba)),.iface 162 (.pointer (some t))] w fun ev w'=>ev=.returned (.bool true)/\w'=((((w.alloc (.cells #[.pointer (some t)] 162)).alloc (.cells #[.pointer (some ⟨12,162,none⟩),.pointer (some w.heap.size),.int .u64 150] 212)).alloc (.cells #[.pointer (some ⟨12,162,none⟩),.pointer (some w.heap.size),.int .u64 150] 212)).alloc (.cells #[n] 42)).setCell t (.int .i64 n):=by
 have h6:=@run_callFunc_extern Tryz.prog 115 _ (fun j=>ReflectliteValue.unpack (j.getD 0 (.tuple #[]))) Tryz.func115 (by kernel_rfl) (by kernel_rfl) (by kernel_rfl) (by kernel_rfl);have h7:=@run_callFunc_extern Tryz.prog 116 _ (ReflectliteValue.methodAny (ReflectliteValue.valueError "reflectlite.Value.Type" 0) (fun t _ _ _=>ReflectliteType.toType t)) Tryz.func116 (by kernel_rfl) (by kernel_rfl) (by kernel_rfl) (by kernel_rfl);have h8:=@run_callFunc_extern Tryz.prog 117 _ (ReflectliteValue.method (ReflectliteValue.valueError "reflectlite.Value.IsNil" 0) ReflectliteValue.isNil) Tryz.func117 (by kernel_rfl) (by kernel_rfl) (by kernel_rfl) (by kernel_rfl);have M:=@run_callFunc_extern Tryz.prog 261 _ (ReflectliteType.abiMethod fun t=>do pure (.int .u8 (<-Rtype.kind t))) Tryz.func261 (by kernel_rfl) (by kernel_rfl) (by kernel_rfl) (by kernel_rfl);have U:=@run_callFunc_extern Tryz.prog 277 _ (ReflectliteType.method ReflectliteType.elem) Tryz.func277 (by kernel_rfl) (by kernel_rfl) (by kernel_rfl) (by kernel_rfl);have V:=@run_callFunc_extern Tryz.prog 278 _ (ReflectliteType.relation "Implements" ReflectliteType.implements_) Tryz.func278 (by kernel_rfl) (by kernel_rfl) (by kernel_rfl) (by kernel_rfl);have C:=@run_callFunc_extern Tryz.prog 160 _ ReflectliteType.typeOf Tryz.func160 (by kernel_rfl) (by kernel_rfl) (by kernel_rfl) (by kernel_rfl);have R:=@run_callFunc_extern Tryz.prog 275 _ (ReflectliteType.relation "AssignableTo" ReflectliteType.assignableTo) Tryz.func275 (by kernel_rfl) (by kernel_rfl) (by kernel_rfl) (by kernel_rfl);have J:=@run_callFunc_extern Tryz.prog 161 _ (ReflectliteValue.method (ReflectliteValue.valueError "reflectlite.Value.Elem" 0) ReflectliteValue.elem) Tryz.func161 (by kernel_rfl) (by kernel_rfl) (by kernel_rfl) (by kernel_rfl);have K:=@run_callFunc_extern Tryz.prog 162 _ ReflectliteValue.set Tryz.func162 (by kernel_rfl) (by kernel_rfl) (by kernel_rfl) (by kernel_rfl);have tO:=zfP;have mA:=zcu;have u:=zeI;have a2:=zb2;have f6:=zeP;have f7:=zcN;have mK:=zdf;have mE:=zea;have mI:=zcj;have a1:=zc7;have a0:=zdD;have y:=zev;have Z:=zfv;have n8:=zeL w.heap.size t ((w.alloc (.cells #[.pointer (some t)] 162)).alloc (.cells #[.pointer (some ⟨12,162,none⟩),.pointer (some w.heap.size),.int .u64 150] 212)) (by simp);have q:3<w.heap.size:=by
  rcases Nat.lt_or_ge 3 w.heap.size with h|h
  ·exact h
  ·simp[World.cell?,Array.getElem?_eq_none h] at hg
 have Y:((w.alloc (.cells #[.pointer (some t)] 162)).alloc (.cells #[.pointer (some ⟨12,162,none⟩),.pointer (some w.heap.size),.int .u64 150] 212)).cell? ⟨3,0,none⟩=some (.iface 262 (.agg #[.pointer (some ⟨12,33,none⟩)])):=by
  rw[World.cell?_alloc_lt _ _ ⟨3,0,none⟩ (by simp only[zA0];omega),World.cell?_alloc_lt _ _ ⟨3,0,none⟩ q];exact hg
 have o:t.block<w.heap.size:=by
  rcases Nat.lt_or_ge t.block w.heap.size with h|h
  ·exact h
  ·simp[World.cell?,Array.getElem?_eq_none h] at ht0
 have el:=zcc w.heap.size t (((w.alloc (.cells #[.pointer (some t)] 162)).alloc (.cells #[.pointer (some ⟨12,162,none⟩),.pointer (some w.heap.size),.int .u64 150] 212)).alloc (.cells #[.pointer (some ⟨12,162,none⟩),.pointer (some w.heap.size),.int .u64 150] 212)) (by rw[World.cell?_alloc_lt _ _ w.heap.size (by simp;omega)];simp);have st:=zcl t ⟨w.heap.size+1+1+1,0,none⟩ n old ((((w.alloc (.cells #[.pointer (some t)] 162)).alloc (.cells #[.pointer (some ⟨12,162,none⟩),.pointer (some w.heap.size),.int .u64 150] 212)).alloc (.cells #[.pointer (some ⟨12,162,none⟩),.pointer (some w.heap.size),.int .u64 150] 212)).alloc (.cells #[n] 42))
  (by rw[World.cell?_alloc_at _ _ _ _ (by simp)];rfl)
  (by rw[World.cell?_alloc_lt _ _ t (by simp;omega),World.cell?_alloc_lt _ _ t (by simp;omega),World.cell?_alloc_lt _ _ t (by simp;omega),World.cell?_alloc_lt _ _ t o];exact ht0)
  (by rw[World.frozen?_alloc_old _ _ t (by simp;omega),World.frozen?_alloc_old _ _ t (by simp;omega),World.frozen?_alloc_old _ _ t (by simp;omega),World.frozen?_alloc_old _ _ t (Nat.ne_of_lt o)];exact hf0)
 have p:ba<w.heap.size:=by
  rcases Nat.lt_or_ge ba w.heap.size with h|h
  ·exact h
  ·simp[World.cell?,Array.getElem?_eq_none h] at hba
 have X:(((w.alloc (.cells #[.pointer (some t)] 162)).alloc (.cells #[.pointer (some ⟨12,162,none⟩),.pointer (some w.heap.size),.int .u64 150] 212)).alloc (.cells #[.pointer (some ⟨12,162,none⟩),.pointer (some w.heap.size),.int .u64 150] 212)).cell? ba=some (.int .i64 n):=by
  rw[World.cell?_alloc_lt _ _ ba (by simp only[zA0];omega),World.cell?_alloc_lt _ _ ba (by simp only[zA0];omega),World.cell?_alloc_lt _ _ ba p];exact hba
 have tA:=zo0;have aA:=zoO;have mU:=zpC;have n1:=zgX;have y1:=zlE;go_enter Tryz.func78,Tryz.ntmps78;go_wp2;refine wp_loop_rounds 2 ?_;rw[rounds_succ];go_wp2;rw[rounds_succ];go_wp2;go_ret;exact⟨rfl,rfl⟩
end Errs
theorem zcv(n:Int)(ba:Nat)(w:World)(hg:yU w)(hba:w.cell? ba=some (.int .i64 n)) :
  zR 40 #[.iface 100 (.pointer (some ba))] w (.int .i64 n):=by
 have j:ba<w.heap.size:=by
  rcases Nat.lt_or_ge ba w.heap.size with h|h
  ·exact h
  ·simp[World.cell?,Array.getElem?_eq_none h] at hba
 have H:=Errs.as_at n ba w.heap.size (.int .i64 0) (w.alloc (.cells #[(0:Int)] 42)) (hg.below (zF.alloc zN _)) (X7 _ _ _) (za6 _ _ _) ((World.cell?_alloc_lt _ _ ba j).trans hba);clear hba;go_enter Tryz.func40,Tryz.ntmps40;go_wp2_with fail;refine H.mono ?_;rintro e w' ⟨rfl,hw⟩;have hc:w'.cell? w.heap.size=some (.int .i64 n):=by
  rw[hw];refine World.cell?_setCell_same' _ _ _ ?_;rw[World.cell?_alloc_lt _ _ w.heap.size (by simp;omega),World.cell?_alloc_lt _ _ w.heap.size (by simp;omega),World.cell?_alloc_lt _ _ w.heap.size (by simp;omega),World.cell?_alloc_lt _ _ w.heap.size (by simp),X7];rfl
 have hb:zB w w':=by
  rw[hw];exact(((((zF.alloc zN _).alloc (by simp) _).alloc (by simp;omega) _).alloc (by simp;omega) _).alloc (by simp;omega) _).setCell zN _
 clear H hw;go_wp2;go_ret;exact⟨rfl,hb⟩
theorem zle(w:World):zC 63 #[.nilIface] w fun e w'=>e=.returned (.tuple #[(0:Int),.int .i64 (-1)])/\w=w':=by
 go_enter Tryz.func63,Tryz.ntmps63;go_wp2_with fail;refine(zn7 _).mono ?_;rintro e w' ⟨rfl,rfl⟩;go_wp2_with fail;refine wp_loop_rounds 1 ?_;rw[rounds_succ];go_wp2;go_ret2;exact⟨rfl,rfl⟩
theorem zfx(n:Int)(w:World):(Instr.typeAssert (.iface 42 (.int .i64 n)) 33 100 true).run Tryz.prog w=.ok (.tuple #[.pointer none,false]) w:=by kernel_rfl
theorem zcL(b:Nat)(w:World):(Instr.typeAssert (.iface 100 (.pointer (some b))) 33 100 true).run Tryz.prog w=.ok (.tuple #[.pointer (some b),true]) w:=by kernel_rfl
theorem ziy(n:Int)(w:World):(Instr.typeAssert (.iface 42 (.int .i64 n)) 33 187 true).run Tryz.prog w=.ok (.tuple #[.nilIface,false]) w:=run_typeAssert_lacksB Tryz.underlying187 (by kernel_rfl) (by kernel_rfl) _ 33 w
theorem ziF(n:Int)(w:World)(hg:yU w):zR 63 #[.iface 42 (.int .i64 n)] w (.tuple #[n,.int .i64 (-1)]):=by
 have H:=JT n w hg;have h1:=zfx n;have h2:=ziy n;go_enter Tryz.func63,Tryz.ntmps63;go_wp2_with fail;refine H.mono ?_;rintro e w' ⟨rfl,hb⟩;clear H;go_wp2_with fail;refine wp_loop_rounds 1 ?_;rw[rounds_succ];go_wp2;go_ret2;exact⟨rfl,hb⟩
theorem zmz(n pl:Int)(b:Nat)(w:World)(hg:yU w)(h0:w.cell? b=some (.int .i64 n))(h1:w.cell? ⟨b,1,none⟩=some (.int .i64 pl)) :
  zR 63 #[.iface 100 (.pointer (some b))] w (.tuple #[n,pl]):=by
 have q:b<w.heap.size:=by
  rcases Nat.lt_or_ge b w.heap.size with h|h
  ·exact h
  ·simp[World.cell?,Array.getElem?_eq_none h] at h0
 have H:=zcv n b w hg h0;have h2:=zcL b;have H1:=zH h1;clear h1 h0;go_enter Tryz.func63,Tryz.ntmps63;go_wp2_with fail;refine H.mono ?_;rintro e w' ⟨rfl,hb⟩;have c1:w'.cell? ⟨b,1,none⟩=some (.int .i64 pl):=(hb.cell (p:=⟨b,1,none⟩) q).trans H1.out;clear H;go_wp2_with fail;refine wp_loop_rounds 1 ?_;rw[rounds_succ];go_wp2_with fail;go_quiet (fail);have j:zB w (w'.drewN nq):=hb.trans ⟨rfl,rfl,rfl,Nat.le_refl _,fun _ _=>rfl⟩;have o:=zH j;clear j;go_wp2;go_ret2;exact⟨rfl,o.out⟩
theorem zp1(e:Value)(m pl:Int)(w:World)(hg:yU w)(h:Qo w e m pl):zR 63 #[e] w (.tuple #[m,pl]):=by
 rcases h with ⟨rfl,rfl,rfl⟩|⟨_,rfl,rfl⟩|⟨_,b,_,rfl,h0,h1⟩
 ·exact(zle w).mono fun e w' ⟨he,hw⟩=>⟨he,hw▸Below.refl _ _⟩
 ·exact ziF m w hg
 ·exact zmz m pl b w hg h0 h1
theorem Q7(k:Int)(w:World):zR 26 #[k] w (.agg #[k,.int .i64 (-1)]):=by
 go_enter Tryz.func26,Tryz.ntmps26;go_wp2;exact bodyPost_ret (v:=.agg #[k,.int .i64 (-1)]) (by simp[results,Tryz.results26,go_sem]) rfl ⟨rfl,zF.alloc zN _⟩
theorem zhJ(m k pl pk:Int)(v:Value)(w:World)(hg:yU w)(hv:Qo w v m pl) :
  zR 25 #[v,.agg #[k,pk]] w (.bool (m==k&&pl==pk)):=by
 have HH:Hid (∀W:World,zB w W->zR 63 #[v] W (.tuple #[m,pl])):=fun W hW=>zp1 v m pl W (hg.below hW) (hv.below hW);clear hv hg;have o:zB w (w.alloc (.cells #[k,pk] 50)):=zF.alloc zN _;have u:∀q r:Bool,(m==k)=q->(pl==pk)=r->zR 25 #[v,.agg #[k,pk]] w (.bool (q&&r)):=by
  intro q r hq hr;cases q<;>cases r
  all_goals
   go_enter Tryz.func25,Tryz.ntmps25;go_wp2_with fail;refine(HH.out _ o).mono ?_;rintro e w2 ⟨rfl,j⟩;have c0:w2.cell? w.heap.size=some (.int .i64 k):=(j.cell (p:=w.heap.size) (by simp)).trans (by simp);have c1:w2.cell? ⟨w.heap.size,1,none⟩=some (.int .i64 pk):=(j.cell (p:=⟨w.heap.size,1,none⟩) (by simp)).trans (by simp);have y:zB w w2:=o.trans (j.mono (by simp));clear j;go_wp2;go_ret;exact⟨rfl,y⟩
 exact u _ _ rfl rfl
end
end Go.Proofs.YthifnefkdjkicaaGreatDoor
