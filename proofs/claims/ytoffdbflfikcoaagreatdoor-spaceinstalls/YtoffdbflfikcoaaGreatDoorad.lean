import Derived.Test.YtoffdbflfikcoaaGreatDoorac
open Go.Proofs.Tryz Go.RowKit
set_option maxHeartbeats 4000000
set_option maxRecDepth 100000
namespace Go.Proofs.YtoffdbflfikcoaaGreatDoor
section
open Sv
instance lawfulBA:LawfulBEq ByteArray where
 eq_of_beq {a b} h:=zuY (eq_of_beq (show (a.data==b.data)=true from h))
 rfl {a}:=beq_self_eq_true a.data
structure Ln where
 kind:Int
 name:ByteArray
 a:Int
 b:Int
 c:Int
 other:ByteArray
 rng:List zf
structure It where
 name:ByteArray
 a:Int
 b:Int
 c:Int
deriving DecidableEq,Inhabited
instance:Inhabited Ln:=⟨⟨0,⟨#[]⟩,0,0,0,⟨#[]⟩,[]⟩⟩
def Ln.it(x:Ln):It:=⟨x.name,x.a,x.b,x.c⟩
def Ln.pair(x:Ln):Prop:=x.kind=2\/x.kind=3
instance (x:Ln):Decidable x.pair:=inferInstanceAs (Decidable (_\/_))
def zb(s:ByteArray)(c:UInt8):ByteArray × ByteArray:=(⟨(Lib.cut s.data.toList [c]).1.toArray⟩,⟨(Lib.cut s.data.toList [c]).2.1.toArray⟩)
theorem qC(s:ByteArray)(c:UInt8):(zb s c).1.size<=s.size/\(zb s c).2.size<=s.size:=by
 unfold zb Lib.cut;have hl:s.data.toList.length=s.size:=by simp
 split
 ·simp only[ByteArray.size,zrT,zrj,zrK,zsZ];omega
 ·simp only[ByteArray.size,zrT,zsZ,zrY];omega
def zI(w:ByteArray):Nat :=
 if w.toList=[112,97,99,107,97,103,101] then 1 else if w.toList=[110,101,101,100,115] then 2 else if w.toList=[99,108,97,115,104,101,115] then 3 else if w.toList=[114,111,111,116] then 4 else 0
theorem zdW(w:ByteArray):zI w<=4:=by
 unfold zI
 repeat' split
 all_goals omega
def xz(s:ByteArray):Except (Int × Option Nat) (List zf) :=
 if 1000<s.size then .error (4,none) else match Zr s with
  |.error (k,p)=>.error (k,some p)
  |.ok l=>.ok l
def xu(k:Nat)(name:ByteArray)(ns:List Nat)(other rest:ByteArray):Except (Int × Option Nat) Ln :=
 match xz rest with
 |.error e=>.error e
 |.ok l=>.ok ⟨(k:Int),name,((ns.getD 0 0:Nat):Int),((ns.getD 1 0:Nat):Int),((ns.getD 2 0:Nat):Int),other,l⟩
def Z5(s:ByteArray):Except (Int × Option Nat) Ln :=
 if zI (zb s 32).1=0 then .error (3,none)
 else if zI (zb s 32).1=4 then xu 4 (zb (zb s 32).2 32).1 [] ⟨#[]⟩ (zb (zb s 32).2 32).2
 else match zO (zb (zb (zb s 32).2 32).2 32).1 with
  |.error e=>.error (e,none)
  |.ok ns =>
   if zI (zb s 32).1=1 then
    if (zb (zb (zb s 32).2 32).2 32).2.size=0 then .ok ⟨1,(zb (zb s 32).2 32).1,((ns.getD 0 0:Nat):Int),((ns.getD 1 0:Nat):Int),((ns.getD 2 0:Nat):Int),⟨#[]⟩,[]⟩ else .error (3,none)
   else xu (zI (zb s 32).1) (zb (zb s 32).2 32).1 ns (zb (zb (zb (zb s 32).2 32).2 32).2 32).1 (zb (zb (zb (zb s 32).2 32).2 32).2 32).2
def yb(s:ByteArray):Nat->Nat->List (Nat × ByteArray)
 |0,_=>[]
 |f+1,k=>if s.size<=k then [] else
  (if (zb (s.extract k s.size) 10).1.size=0 then [] else [(k,(zb (s.extract k s.size) 10).1)])++yb s f (k+(zb (s.extract k s.size) 10).1.size+1)
def plF:List (Nat × ByteArray)->List (Nat × Ln)->Except (Int × Nat) (List (Nat × Ln))
 |[],acc=>.ok acc
 |x :: r,acc=>match Z5 x.2 with
  |.error e=>.error (e.1,x.1)
  |.ok l=>plF r (acc++[(x.1,l)])
theorem KI(l r:List (Nat × ByteArray)):∀(acc:List (Nat × Ln)),plF (l++r) acc=match plF l acc with
  |.error e=>.error e
  |.ok acc'=>plF r acc':=by
 induction l with
 |nil=>intro acc;rfl
 |cons x l ih =>
  intro acc;rw[zrL,plF,plF];split
  ·rfl
  ·exact ih _
theorem zp4:∀(l:List (Nat × ByteArray)) (acc:List (Nat × Ln)) (out:List (Nat × Ln)),plF l acc=.ok out->out.length=acc.length+l.length:=by
 intro l
 induction l with
 |nil=>intro acc out h;cases h;rfl
 |cons x l ih =>
  intro acc out h;unfold plF at h;split at h
  ·cases h
  ·have:=ih _ _ h;simp at this ⊢;omega
def InV(a b c:Int):Prop:=(0<=a/\a<=999)/\(0<=b/\b<=999)/\0<=c/\c<=999
instance (a b c:Int):Decidable (InV a b c):=inferInstanceAs (Decidable (_/\_))
open Classical in
noncomputable def qQ(x:Ln):Int :=
 if x.kind<1\/4<x.kind then 1
 else if ¬zr x.name\/(x.pair/\¬zr x.other) then 5
 else if ¬x.pair/\x.other.size≠0 then 1
 else if x.kind=1/\x.rng≠[] then 1
 else if x.kind=4/\(x.a≠0\/x.b≠0\/x.c≠0) then 1
 else if ¬InV x.a x.b x.c then 2 else 0
def yi(l:List It):Nat:=((l.map It.name).eraseDups).length
noncomputable def qh:List Ln->Nat->List It->Except (Int × Nat) (List It)
 |[],_,its=>.ok its
 |x :: r,i,its =>
  if qQ x≠0 then .error (qQ x,i)
  else if x.kind=1 then
   if x.it∈its then .error (9,i)
   else if 8<yi (its++[x.it])\/its.length=24 then .error (4,i)
   else qh r (i+1) (its++[x.it])
  else qh r (i+1) its
def zY(x y:It):Int:=if x.name.toList=y.name.toList then yd (tI y.a y.b y.c) (tI x.a x.b x.c) 3 else Lib.compareBytes x.name.data.toList y.name.data.toList
def ya(l:List It):List It:=l.mergeSort fun x y=>!decide (zY y x<0)
def qD:List Ln->Nat->List It->Option Nat
 |[],_,_=>none
 |x :: r,i,its=>if x.pair/\x.it∉its then some i else qD r (i+1) its
noncomputable def qA(ls:List Ln):Except (Int × Option Nat) (List It) :=
 if 100<ls.length then .error (4,none)
 else match qh ls 0 [] with
  |.error e=>.error (e.1,some e.2)
  |.ok its=>match qD ls 0 (ya its) with
   |some i=>.error (7,some i)
   |none=>.ok (ya its)
noncomputable def yR(s:ByteArray):Except (Int × Option Nat) (List Ln × List It) :=
 if 20000<s.size then .error (4,none)
 else match plF (yb s s.size 0) [] with
  |.error e=>.error (e.1,some e.2)
  |.ok ps=>match qA (ps.map Prod.snd) with
   |.error (e,none)=>.error (e,none)
   |.error (e,some i)=>.error (e,some ((ps.map Prod.fst).getD i 0))
   |.ok its=>.ok (ps.map Prod.snd,its)
def yk(its:List It)(name:ByteArray):Option (Nat × Nat) :=
 its.zipIdx.foldl (fun r x=>if x.1.name=name then some ((r.map Prod.fst).getD x.2,x.2+1) else r) none
theorem zaz(l:List It)(x:It)(name:ByteArray):yk (l++[x]) name=if x.name=name then some (((yk l name).map Prod.fst).getD l.length,l.length+1) else yk l name:=by
 unfold yk;rw[List.zipIdx_append,ztJ];simp
def yf(its:List It)(name:ByteArray):Nat × Nat:=(yk its name).getD (0,0)
def xh(rng:List zf)(x:It):Prop:=InV x.a x.b x.c/\mem rng (Z4 x.a.toNat x.b.toNat x.c.toNat)
open Classical in
noncomputable def qo(its:List It)(name:ByteArray)(rng:List zf):List Nat :=
 (List.range' (yf its name).1 ((yf its name).2-(yf its name).1)).filter fun i=>decide (xh rng (its.getD i default))
def qK(its:List It)(x:It):Int:=match its.findIdx? (fun y=>decide (x=y)) with|some i=>(i:Int)|none=>-1
def zD(k:Int):Int:=-(k+1)
noncomputable def yy(its:List It)(n:Nat)(x:Ln):List (Int × List Int) :=
 if x.kind=4 then [((n:Int),(qo its x.name x.rng).map fun (k:Nat)=>((k:Int)+1))]
 else if x.kind=2 then [((n:Int),zD (qK its x.it) :: (qo its x.other x.rng).map fun (k:Nat)=>((k:Int)+1))]
 else if x.kind=3 then (qo its x.other x.rng).map fun (k:Nat)=>((n:Int),[zD (qK its x.it),zD (k:Int)])
 else []
end
section
open Go.Deep
structure Kp(B:Nat)(w w':World):Prop where
 size:w.heap.size<=w'.heap.size
 block:∀k,k<w.heap.size->(k<B\/∃cur fr,w.heap[k]?=some (.cells cur 3 fr))->w'.heap[k]?=w.heap[k]?
section
variable {B:Nat} {w w' w'':World}
theorem Kp.refl(B:Nat)(w:World):Kp B w w:=⟨zri _,fun _ _ _=>rfl⟩
theorem Kp.trans(h:Kp B w w')(h2:Kp B w' w''):Kp B w w'':=⟨zf1 h.size h2.size,fun k hk hc=>by
 have e:=h.block k hk hc;rw[<-e];refine h2.block k (zc6 hk h.size) ?_;rw [e];exact hc⟩
theorem Kp.zero(h:Kp B w w'):Kp 0 w w':=⟨h.size,fun k hk hc=>h.block k hk (hc.imp (fun h=>by omega) id)⟩
theorem Kp.new(hb:zB w w'):Kp B w w':=⟨hb.size,fun k hk _=>hb.block k hk⟩
theorem Kp.set{b i:Nat}{t:TypeId}{cs:Array Value}{v:Value}(hB:B<=b)(h:Blk w b t cs)(ht:t≠3):Kp B w (w.setCell ⟨b,i,none⟩ v):=by
 refine⟨by simp[World.setCell],fun k hk hc=>zrF _ _ _ k (fun e=>?_)⟩;have e':k=b:=e;subst e';rcases hc with hc|⟨j,fr,hc⟩
 ·omega
 ·rw[show w.heap[k]?=_ from h] at hc;simp only[zsd,zu1] at hc;exact ht hc.2.1
theorem Kp.grown{e:TypeId}{size n:Nat}{v:Value}{xs:List Value}(h:w.ownsRow B e size v n xs)(hg:w.grownBy w' v.ownBlock)(he:e≠3):Kp B w w':=by
 refine⟨hg.size,fun k hk hc=>hg.block k hk (fun e'=>?_)⟩;obtain⟨h1,h2⟩:=h.lt k e'.symm;rcases hc with hc|⟨q,fr,hc⟩
 ·omega
 ·rcases h.2 with ⟨hv,_⟩|⟨g,p,j,hv,_,o,_⟩
  ·rw[hv] at e';cases e'
  ·rw[hv] at e';simp only[Value.ownBlock,zsd] at e';subst e';rw[o] at hc;simp only[zsd,zu1] at hc;exact he hc.2.1
def q7(B:Nat)(w:World)(a:Option Addr)(xs:List Int):Prop :=
 ∀i,i<xs.length->∃ad:Addr,a=some ad/\ad.block<w.heap.size/\(ad.block<B\/∃j fr,w.heap[ad.block]?=some (.cells j 3 fr))/\w.cell? (ad.add i)=some (.int .i64 (xs.getD i 0))
theorem q7.ints{a:Option Addr}{xs:List Int}(h:q7 B w a xs):qO w a xs:=fun i hi=>by
 obtain⟨ad,h1,h2,_,h4⟩:=h i hi;exact⟨ad,h1,h2,h4⟩
theorem q7.kp{a:Option Addr}{xs:List Int}(h:q7 B w a xs)(hk:Kp B w w'):q7 B w' a xs:=fun i hi=>by
 obtain⟨ad,h1,h2,h3,h4⟩:=h i hi;have e:=hk.block _ h2 h3;refine⟨ad,h1,zc6 h2 hk.size,by rw[e];exact h3,?_⟩;rw[zuS (w:=w) (by rw[Z0];exact e)];exact h4
theorem q7.more{a:Option Addr}{xs:List Int}(h:q7 0 w a xs):q7 B w a xs:=fun i hi=>by
 obtain⟨ad,h1,h2,h3,h4⟩:=h i hi;exact⟨ad,h1,h2,h3.imp (fun h=>by omega) id,h4⟩
theorem q7.of{a:Option Addr}{xs:List Int}(h:qO w a xs)(hb:zB w w'):q7 w.heap.size w' a xs:=fun i hi=>by
 obtain⟨ad,h1,h2,h3⟩:=h.below hb i hi;obtain⟨j,h4,h5,_⟩:=h i hi;obtain rfl:=zru (h1.symm.trans h4);exact⟨ad,h1,h2,Or.inl h5,h3⟩
def yh(B:Nat)(w:World)(cs:List Value)(l:List (List Int)):Prop :=
 cs.length=l.length/\∀i,i<l.length->∃(a:Option Addr) (cap:Nat),cs[i]?=some (.slice a (l.getD i []).length cap)/\(l.getD i []).length<=cap/\cap<=9223372036854775807/\q7 B w a (l.getD i [])
theorem yh.kp{cs:List Value}{l:List (List Int)}(h:yh B w cs l)(hk:Kp B w w'):yh B w' cs l:=⟨h.1,fun i hi=>by
 obtain⟨a,j,h1,h2,h3,h4⟩:=h.2 i hi;exact ⟨a,j,h1,h2,h3,h4.kp hk⟩⟩
theorem yh.nil:yh B w [] []:=⟨rfl,fun i hi=>by simp at hi⟩
theorem yh.snoc{cs:List Value}{l:List (List Int)}(h:yh B w cs l){a:Option Addr}{cap:Nat}{c:List Int}(h1:c.length<=cap)(h2:cap<=9223372036854775807)(h3:q7 B w a c):yh B w (cs++[.slice a c.length cap]) (l++[c]):=by
 refine⟨by simp[h.1],fun i hi=>?_⟩
 by_cases hl:i<l.length
 ·have e:(l++[c]).getD i []=l.getD i []:=by simp[List.getD_eq_getElem?_getD,List.getElem?_append_left hl]
  rw[e,zrk (by rw[h.1];exact hl)];exact h.2 i hl
 ·have hi':i=l.length:=by simp at hi;omega
  subst hi';have e:(l++[c]).getD l.length []=c:=by simp[List.getD_eq_getElem?_getD]
  rw[e,zrG (by rw[h.1];exact zri _),h.1];exact⟨a,cap,by simp,h1,h2,h3⟩
theorem yh.cls{cs:List Value}{l:List (List Int)}{a:Option Addr}{cap:Nat}(h:yh B w cs l)(hr:w.ownsRow B 117 1 (.slice a l.length cap) l.length cs):xX w a l:=by
 intro i hi;obtain⟨a',j,h1,h2,h3,h4⟩:=h.2 i hi;rcases hr.2 with ⟨e,e0⟩|⟨g,o,p,e,hB,hg,-⟩
 ·omega
 ·injection e with e1 e2 e3;subst e1 e3;refine⟨_,a',j,rfl,(zrg.1 hg).1,?_,h2,h3,h4.ints⟩;have:=hr.cellAt i (by omega);rw[add_plain,zrI,this,h1]
theorem yh.one{cs:List Value}{l:List (List Int)}(h:yh B w cs l):∀u∈cs,u.oneCell'=true:=fun u hu=>by
 obtain⟨i,hi,rfl⟩:=zrQ hu;obtain⟨a,j,h1,_⟩:=h.2 i (by rw[<-h.1];exact hi);rw[zc5 hi] at h1;rw[zru h1];rfl
end
theorem Xx{w:World}{B:Nat}{e T:TypeId}{size:Nat}{v:Value}{n:Nat}{xs:List Value}{b:Nat}{cs:Array Value}(hown:w.ownsRow B e size v n xs)(hb:Blk w b T cs)(hTe:T≠e):v.ownBlock≠some b:=by
 rcases hown.2 with ⟨rfl,_⟩|⟨g,j,o,rfl,_,hg,_⟩
 ·simp[Value.ownBlock]
 ·intro h;simp only[Value.ownBlock,zsd] at h;subst h;rw[show w.heap[g]?=_ from hb] at hg;simp only[zsd,zu1] at hg;exact hTe hg.2.1
theorem ZW{w:World}{B:Nat}{e e2:TypeId}{size size2:Nat}{v v2:Value}{n n2:Nat}{xs xs2:List Value}(h1:w.ownsRow B e size v n xs)(h2:w.ownsRow B e2 size2 v2 n2 xs2)(hne:e≠e2):v.ownBlock=none\/v.ownBlock≠v2.ownBlock:=by
 rcases h1.2 with ⟨rfl,_⟩|⟨g,o,j,rfl,_,hg,_⟩
 ·exact Or.inl rfl
 ·refine Or.inr fun e'=>?_;exact Xx h2 (b:=g) (cs:=j) (T:=e) hg hne e'.symm
theorem zA{B:Nat}{w w':World}{t:TypeId}{size:Nat}{v:Value}{n:Nat}{cs:List Value}(h:w.ownsRow B t size v n cs)(hb:zB w w'):w'.ownsRow B t size v n cs:=by
 obtain⟨h1,h2⟩:=h;refine⟨h1,?_⟩;rcases h2 with h2|⟨g,j,o,hv,hg,hh,r⟩
 ·exact Or.inl h2
 ·exact Or.inr ⟨g,j,o,hv,hg,by rw[hb.block g (zrg.1 hh).1];exact hh,r⟩
end
section
open Go.Deep Sv
structure yj(w:World)(v:Value)(n:Nat)(cs:List Value):Prop where
 form:∃a cap,v=.slice a n cap/\(a=none->cap=0)/\n<=cap/\cap<=9223372036854775807/\(a=none\/∃g,a=some ⟨g,0,none⟩)
 cells:0<n->∃g cap,v=.slice (some ⟨g,0,none⟩) n cap/\g<w.heap.size/\∀(j:Nat) u,cs[j]?=some u->w.cell? ⟨g,j,none⟩=some u
theorem yj.below{B:Nat}{w w':World}{v:Value}{n:Nat}{cs:List Value}(h:yj w v n cs)(hb:Below B w w')(hB:w.heap.size<=B):yj w' v n cs :=
 ⟨h.form,fun hn=>by
  obtain⟨g,o,e,hg,hc⟩:=h.cells hn;exact ⟨g,o,e,zc6 hg hb.size,fun j u hu=>(hb.cell (p:=⟨g,j,none⟩) (by show g<B;omega)).trans (hc j u hu)⟩⟩
theorem zx{B:Nat}{w:World}{v:Value}{t:TypeId}{k n:Nat}{cs:List Value}(h:w.ownsRow B t k v n cs):yj w v n cs:=by
 have hl:=h.1;rcases h.2 with ⟨e,e0⟩|⟨g,p,q,e,hB,hg,hn,hm,y,o⟩
 ·exact⟨⟨none,0,by rw[e,e0],fun _=>rfl,by omega,by omega,Or.inl rfl⟩,fun hi=>by omega⟩
 ·unfold maxLen at hm;refine⟨⟨_,_,e,(fun h=>by cases h),hn,hm,Or.inr ⟨g,rfl⟩⟩,fun _=>⟨g,p,e,(h.lt g (by rw[e];rfl)).2,fun j u hu=>?_⟩⟩;have hj:=(zrJ.1 hu).1;rw[<-o,zrP,zc3 (by omega)] at hu;rw[<-hu];simp[World.cell?,hg]
def zQ(x:It):List Value:=[.string x.name,.int .i64 x.a,.int .i64 x.b,.int .i64 x.c]
def zl(l:List It):List Value:=l.flatMap zQ
theorem xQ(l:List It):(zl l).length=l.length*4:=by
 induction l with
 |nil=>rfl
 |cons x l ih=>unfold zl at *;rw[List.flatMap_cons,zf4,ih];simp[zQ];omega
theorem JM(a b:List It):zl (a++b)=zl a++zl b:=by simp[zl]
theorem Yu:∀(l:List It) (i:Nat),i<l.length->∀(j:Nat) (u:Value),(zQ (l.getD i default))[j]?=some u->(zl l)[i*4+j]?=some u
 |[],i,h,_,_,_=>by simp at h
 |x :: l,0,_,j,u,hu=>by
  have hj:j<4:=by have:=(zrJ.1 hu).1;simpa[zQ] using this
  rw[show zl (x :: l)=zQ x++zl l from rfl,Nat.zero_mul,zrI,zrk (by simpa[zQ] using hj)];simpa using hu
 |x :: l,i+1,h,j,u,hu=>by
  have ih:=Yu l i (by simpa using h) j u (by simpa using hu);rw[show zl (x :: l)=zQ x++zl l from rfl,zrG (by simp[zQ];omega)];rw[show (i+1)*4+j-(zQ x).length=i*4+j by simp[zQ];omega];exact ih
def yc(w:World)(v:Value)(l:List It):Prop:=yj w v l.length (zl l)
theorem yc.at{w:World}{v:Value}{l:List It}(h:yc w v l)(i:Nat)(hi:i<l.length):∃g j,v=.slice (some ⟨g,0,none⟩) l.length j/\g<w.heap.size/\w.cell? ⟨g,i*4,none⟩=some (.string (l.getD i default).name)/\w.cell? ⟨g,i*4+1,none⟩=some (.int .i64 (l.getD i default).a)/\w.cell? ⟨g,i*4+2,none⟩=some (.int .i64 (l.getD i default).b)/\w.cell? ⟨g,i*4+3,none⟩=some (.int .i64 (l.getD i default).c):=by
 obtain⟨g,j,e,hg,hc⟩:=h.cells (by omega);exact⟨g,j,e,hg,hc _ _ (Yu l i hi 0 _ rfl),hc _ _ (Yu l i hi 1 _ rfl),hc _ _ (Yu l i hi 2 _ rfl),hc _ _ (Yu l i hi 3 _ rfl)⟩
def ZC(x:Ln)(v:Value):List Value:=[.int .i64 x.kind,.string x.name,.int .i64 x.a,.int .i64 x.b,.int .i64 x.c,.string x.other,v]
def qu:List Ln->List Value->List Value
 |x :: l,v :: vs=>ZC x v++qu l vs
 |_,_=>[]
theorem Jl:∀(l:List Ln) (vs:List Value),vs.length=l.length->(qu l vs).length=l.length*7
 |[],[],_=>rfl
 |x :: l,v :: vs,h=>by
  have:=Jl l vs (by simpa using h);rw[qu,zf4,this];simp[ZC];omega
 |[],v :: vs,h=>by simp at h
 |x :: l,[],h=>by simp at h
theorem zbM:∀(l:List Ln) (vs:List Value) (x:Ln) (v:Value),vs.length=l.length->qu (l++[x]) (vs++[v])=qu l vs++ZC x v
 |[],[],x,v,_=>by simp[qu]
 |y :: l,u :: vs,x,v,h=>by
  have:=zbM l vs x v (by simpa using h);simp[qu,this]
 |[],v :: vs,_,_,h=>by simp at h
 |x :: l,[],_,_,h=>by simp at h
theorem zcq:∀(l:List Ln) (vs:List Value),vs.length=l.length->∀(i:Nat),i<l.length->∀(j:Nat) (u:Value),(ZC (l.getD i default) (vs.getD i undef))[j]?=some u->(qu l vs)[i*7+j]?=some u
 |[],[],_,i,h,_,_,_=>by simp at h
 |x :: l,v :: vs,_,0,_,j,u,hu=>by
  have hj:j<7:=by have:=(zrJ.1 hu).1;simpa[ZC] using this
  rw[qu,Nat.zero_mul,zrI,zrk (by simpa[ZC] using hj)];simpa using hu
 |x :: l,v :: vs,hl,i+1,h,j,u,hu=>by
  have ih:=zcq l vs (by simpa using hl) i (by simpa using h) j u (by simpa using hu);rw[qu,zrG (by simp[ZC];omega)];rw[show (i+1)*7+j-(ZC x v).length=i*7+j by simp[ZC];omega];exact ih
 |[],v :: vs,h,_,_,_,_,_=>by simp at h
 |x :: l,[],h,_,_,_,_,_=>by simp at h
def qT(w:World)(l:List Ln)(vs:List Value):Prop:=vs.length=l.length/\∀i,i<l.length->zk w (vs.getD i undef) (l.getD i default).rng/\Rg (l.getD i default).rng
theorem qT.below{B:Nat}{w w':World}{l:List Ln}{vs:List Value}(h:qT w l vs)(hb:Below B w w')(hB:w.heap.size<=B):qT w' l vs:=⟨h.1,fun i hi=>⟨(h.2 i hi).1.below hb hB,(h.2 i hi).2⟩⟩
theorem zhV(w:World):qT w [] []:=⟨rfl,fun i h=>by simp at h⟩
theorem qT.snoc{w:World}{l:List Ln}{vs:List Value}(h:qT w l vs){x:Ln}{v:Value}(hv:zk w v x.rng)(hr:Rg x.rng):qT w (l++[x]) (vs++[v]):=by
 refine⟨by simp[h.1],fun i hi=>?_⟩
 by_cases hl:i<l.length
 ·have e1:(l++[x]).getD i default=l.getD i default:=by simp[List.getD_eq_getElem?_getD,List.getElem?_append_left hl]
  have e2:(vs++[v]).getD i undef=vs.getD i undef:=by simp[List.getD_eq_getElem?_getD,List.getElem?_append_left (show i<vs.length by rw[h.1];exact hl)]
  rw[e1,e2];exact h.2 i hl
 ·obtain rfl:i=l.length:=by simp at hi;omega
  have e1:(l++[x]).getD l.length default=x:=by simp[List.getD_eq_getElem?_getD]
  have e2:(vs++[v]).getD l.length undef=v:=by simp[List.getD_eq_getElem?_getD,<-h.1]
  rw[e1,e2];exact⟨hv,hr⟩
def Z3(w:World)(v:Value)(l:List Ln):Prop:=∃vs,qT w l vs/\yj w v l.length (qu l vs)
theorem Z3.below{B:Nat}{w w':World}{v:Value}{l:List Ln}(h:Z3 w v l)(hb:Below B w w')(hB:w.heap.size<=B):Z3 w' v l:=by
 obtain⟨vs,h1,h2⟩:=h;exact⟨vs,h1.below hb hB,h2.below hb hB⟩
theorem Z3.at{w:World}{v:Value}{l:List Ln}(h:Z3 w v l)(i:Nat)(hi:i<l.length):∃g o rv,v=.slice (some ⟨g,0,none⟩) l.length o/\g<w.heap.size/\zk w rv (l.getD i default).rng/\Rg (l.getD i default).rng/\w.cell? ⟨g,i*7,none⟩=some (.int .i64 (l.getD i default).kind)/\w.cell? ⟨g,i*7+1,none⟩=some (.string (l.getD i default).name)/\w.cell? ⟨g,i*7+2,none⟩=some (.int .i64 (l.getD i default).a)/\w.cell? ⟨g,i*7+3,none⟩=some (.int .i64 (l.getD i default).b)/\w.cell? ⟨g,i*7+4,none⟩=some (.int .i64 (l.getD i default).c)/\w.cell? ⟨g,i*7+5,none⟩=some (.string (l.getD i default).other)/\w.cell? ⟨g,i*7+6,none⟩=some rv:=by
 obtain⟨vs,h1,h2⟩:=h;obtain⟨g,o,e,hg,hc⟩:=h2.cells (by omega);have H:=fun j u hu=>hc _ _ (zcq l vs h1.1 i hi j u hu);exact⟨g,o,vs.getD i undef,e,hg,(h1.2 i hi).1,(h1.2 i hi).2,H 0 _ rfl,H 1 _ rfl,H 2 _ rfl,H 3 _ rfl,H 4 _ rfl,H 5 _ rfl,H 6 _ rfl⟩
end
section
open Sv
theorem yE(x:Ln)(v:Value)(w:World) :
  zC 82 #[.agg #[x.kind,x.name,x.a,x.b,x.c,x.other,v]] w fun e w'=>e=.returned (decide x.pair)/\w'=w.alloc (.cells #[x.kind,x.name,x.a,x.b,x.c,x.other,v] 107):=by
 have hd:decide x.pair=(decide (x.kind=2)||decide (x.kind=3)):=by
  by_cases h2:x.kind=2<;>by_cases h3:x.kind=3<;>simp[Ln.pair,h2,h3]
 rw[hd];clear hd;generalize x.kind=k
 by_cases h2:k=2
 ·subst h2;go_enter func82,ntmps82;go_wp2;go_ret;exact⟨rfl,rfl⟩
 ·by_cases h3:k=3
  ·subst h3;go_enter func82,ntmps82;go_wp2;go_ret;exact⟨rfl,rfl⟩
  ·have e2:(k==2)=false:=by simpa using h2
   have e3:(k==3)=false:=by simpa using h3
   have HD:Hid ((decide (k=2)||decide (k=3))=false):=by show _=_;simp[h2,h3]
   go_enter func82,ntmps82;go_wp2;go_ret;exact⟨by rw[HD.out];rfl,rfl⟩
def wl:Nat->List UInt8
 |1=>[112,97,99,107,97,103,101]
 |2=>[110,101,101,100,115]
 |3=>[99,108,97,115,104,101,115]
 |4=>[114,111,111,116]
 |_=>[]
structure Qk(w:World):Prop where
 c0:w.cell? ⟨2,0,none⟩=some (.string ⟨#[]⟩)
 c1:w.cell? ⟨2,1,none⟩=some (.string ⟨#[112,97,99,107,97,103,101]⟩)
 c2:w.cell? ⟨2,2,none⟩=some (.string ⟨#[110,101,101,100,115]⟩)
 c3:w.cell? ⟨2,3,none⟩=some (.string ⟨#[99,108,97,115,104,101,115]⟩)
 c4:w.cell? ⟨2,4,none⟩=some (.string ⟨#[114,111,111,116]⟩)
theorem Qk.below{B:Nat}{w w':World}(h:Qk w)(hb:Below B w w')(hB:2<B):Qk w' :=
 ⟨(hb.cell (p:=⟨2,0,none⟩) hB).trans h.c0,(hb.cell (p:=⟨2,1,none⟩) hB).trans h.c1,(hb.cell (p:=⟨2,2,none⟩) hB).trans h.c2,(hb.cell (p:=⟨2,3,none⟩) hB).trans h.c3,(hb.cell (p:=⟨2,4,none⟩) hB).trans h.c4⟩
abbrev Kj:Value:=.agg #[.string ⟨#[]⟩,.string ⟨#[112,97,99,107,97,103,101]⟩,.string ⟨#[110,101,101,100,115]⟩,.string ⟨#[99,108,97,115,104,101,115]⟩,.string ⟨#[114,111,111,116]⟩]
theorem wix(W:World):(Instr.index 227 Kj (.int .i64 0)).run prog W=.ok (.string ⟨#[]⟩) W/\(Instr.index 227 Kj (.int .i64 1)).run prog W=.ok (.string ⟨#[112,97,99,107,97,103,101]⟩) W/\(Instr.index 227 Kj (.int .i64 2)).run prog W=.ok (.string ⟨#[110,101,101,100,115]⟩) W/\(Instr.index 227 Kj (.int .i64 3)).run prog W=.ok (.string ⟨#[99,108,97,115,104,101,115]⟩) W/\(Instr.index 227 Kj (.int .i64 4)).run prog W=.ok (.string ⟨#[114,111,111,116]⟩) W:=by
 refine⟨?_,?_,?_,?_,?_⟩<;>kernel_rfl
theorem zgx{s:ByteArray}{k:Nat}(hk:1<=k)(hk4:k<=4)(h:s.toList=wl k):zI s=k:=by
 match k,hk,hk4,h with
 |1,_,_,h=>unfold zI;rw[h];rfl
 |2,_,_,h=>unfold zI;rw[h];rfl
 |3,_,_,h=>unfold zI;rw[h];rfl
 |4,_,_,h=>unfold zI;rw[h];rfl
theorem zgm{s:ByteArray}(h:s.toList=[]\/∀j,j<5->s.toList≠wl j):zI s=0:=by
 rcases h with h|h
 ·unfold zI;rw[h];rfl
 ·unfold zI;have h1:s.toList≠[112,97,99,107,97,103,101]:=h 1 (by omega);have h2:s.toList≠[110,101,101,100,115]:=h 2 (by omega);have h3:s.toList≠[99,108,97,115,104,101,115]:=h 3 (by omega);have h4:s.toList≠[114,111,111,116]:=h 4 (by omega);rw[zc2 h1,zc2 h2,zc2 h3,zc2 h4]
theorem JC(s:ByteArray)(w:World)(hw:Qk w) :
  zC 80 #[s] w fun e w'=>e=.returned (.int .i64 (zI s:Nat))/\w'=w:=by
 obtain⟨c0,c1,c2,c3,c4⟩:=hw;go_enter func80,ntmps80;go_wp2_with fail;clear c0 c1 c2 c3 c4;go_loop [6] (fun i=>∃k:Nat,k<=5/\i=.int .i64 k/\∀j,j<k->s.toList≠wl j) (fun i=>5-(intOf i).toNat)
 case atStart=>exact⟨0,by omega,rfl,fun j h=>by omega⟩
 case round =>
  obtain⟨k,hk,rfl,q⟩:=hrel;obtain⟨x0,x1,x2,x3,x4⟩:=wix w;have p:=zH q;clear q
  by_cases h5:k=5
  ·subst h5;have HK:Hid (zI s=0):=zgm (Or.inr p.out);go_wp2;go_ret;exact⟨by rw[HK.out];rfl,rfl⟩
  ·have h4:k<5:=by omega
   clear h5 hk
   by_cases hs:s.toList=wl k
   ·have HK:Hid (zI s=k):=by
     show _=_
     by_cases h0:k=0
     ·subst h0;exact zgm (Or.inl hs)
     ·exact zgx (by omega) (by omega) hs
    match k,h4 with
    |0,_ =>
     have hb:(([]:List UInt8)==s.toList)=true:=by rw[hs];rfl
     have u:s.toList.isEmpty=true:=by rw[hs];rfl
     clear hs;go_wp2;go_ret;exact⟨by rw[HK.out];rfl,rfl⟩
    |1,_ =>
     have hb:([112,97,99,107,97,103,101]==s.toList)=true:=by rw[hs];rfl
     clear hs;go_wp2;go_ret;exact⟨by rw[HK.out];rfl,rfl⟩
    |2,_ =>
     have hb:([110,101,101,100,115]==s.toList)=true:=by rw[hs];rfl
     clear hs;go_wp2;go_ret;exact⟨by rw[HK.out];rfl,rfl⟩
    |3,_ =>
     have hb:([99,108,97,115,104,101,115]==s.toList)=true:=by rw[hs];rfl
     clear hs;go_wp2;go_ret;exact⟨by rw[HK.out];rfl,rfl⟩
    |4,_ =>
     have hb:([114,111,111,116]==s.toList)=true:=by rw[hs];rfl
     clear hs;go_wp2;go_ret;exact⟨by rw[HK.out];rfl,rfl⟩
   ·have o:Hid (∀j,j<k+1->s.toList≠wl j):=fun j hj=>by
     rcases zse.1 hj with h|h
     ·exact p.out j h
     ·rw[h];exact hs
    have hs':(wl k==s.toList)=false:=by rw[zf2];exact fun e=>hs e.symm
    clear hs
    match k,h4 with
    |0,_ =>
     have hb:(([]:List UInt8)==s.toList)=false:=hs';have u:s.toList.isEmpty=false:=by
      cases h:s.toList with
      |nil=>rw[h] at hb;cases hb
      |cons a t=>rfl
     clear hs';go_wp2;go_round
     case rel=>exact⟨1,by omega,rfl,o.out⟩
     case measure=>simp[intOf]
    |1,_ =>
     have hb:([112,97,99,107,97,103,101]==s.toList)=false:=hs';clear hs';go_wp2;go_round
     case rel=>exact⟨2,by omega,rfl,o.out⟩
     case measure=>simp[intOf]
    |2,_ =>
     have hb:([110,101,101,100,115]==s.toList)=false:=hs';clear hs';go_wp2;go_round
     case rel=>exact⟨3,by omega,rfl,o.out⟩
     case measure=>simp[intOf]
    |3,_ =>
     have hb:([99,108,97,115,104,101,115]==s.toList)=false:=hs';clear hs';go_wp2;go_round
     case rel=>exact⟨4,by omega,rfl,o.out⟩
     case measure=>simp[intOf]
    |4,_ =>
     have hb:([114,111,111,116]==s.toList)=false:=hs';clear hs';go_wp2;go_round
     case rel=>exact⟨5,by omega,rfl,o.out⟩
     case measure=>simp[intOf]
end
section
open Go.Extern.Stop Go.Stop Go.Extern
namespace Errs
theorem zqn(v:Value)(w:World):(ReflectliteType.typeOf #[.iface 110 v]).run prog w=.ok (.iface 288 (.agg #[.pointer (some ⟨12,110,none⟩)])) w:=by kernel_rfl
theorem zmj(w:World):(ReflectliteType.relation "AssignableTo" ReflectliteType.assignableTo #[.agg #[.pointer (some ⟨12,110,none⟩)],.iface 288 (.agg #[.pointer (some ⟨12,53,none⟩)])]).run prog w=.ok (.bool false) w:=by kernel_rfl
theorem zpi(h:Value)(w:World):(Go.method 504 110 h "Unwrap").run prog w=.ok (281,h) w:=by kernel_rfl
theorem zhm(v:Value)(w:World):(Instr.typeAssert (.iface 110 v) 31 293 true).run prog w=.ok (.tuple #[.nilIface,false]) w:=run_typeAssert_lacksB underlying293 (by kernel_rfl) (by kernel_rfl) _ 31 w
theorem zqt(v:Value)(w:World):(Instr.typeAssert (.iface 110 v) 31 296 true).run prog w=.ok (.tuple #[.iface 110 v,true]) w:=run_typeAssert_hasB underlying296 (by kernel_rfl) _ 31 w
theorem as_at(n:Int)(ba:Nat)(t:Addr)(old:Value)(w:World)(hg:w.cell? ⟨3,0,none⟩=some (.iface 288 (.agg #[.pointer (some ⟨12,31,none⟩)])))(ht0:w.cell? t=some old)(hf0:w.frozen? t=false)(hba:w.cell? ba=some (.int .i64 n)) :
  zC 84 #[.iface 110 (.pointer (some ba)),.iface 175 (.pointer (some t))] w fun ev w'=>ev=.returned true/\w'=((((w.alloc (.cells #[.pointer (some t)] 175)).alloc (.cells #[.pointer (some ⟨12,175,none⟩),.pointer (some w),.int .u64 150] 234)).alloc (.cells #[.pointer (some ⟨12,175,none⟩),.pointer (some w),.int .u64 150] 234)).alloc (.cells #[n] 53)).setCell t (.int .i64 n):=by
 have h6:=@run_callFunc_extern prog 132 _ (fun j=>ReflectliteValue.unpack (j.getD 0 (.tuple #[]))) func132 (by kernel_rfl) (by kernel_rfl) (by kernel_rfl) (by kernel_rfl);have h7:=@run_callFunc_extern prog 133 _ (ReflectliteValue.methodAny (ReflectliteValue.valueError "reflectlite.Value.Type" 0) (fun t _ _ _=>ReflectliteType.toType t)) func133 (by kernel_rfl) (by kernel_rfl) (by kernel_rfl) (by kernel_rfl);have h8:=@run_callFunc_extern prog 134 _ (ReflectliteValue.method (ReflectliteValue.valueError "reflectlite.Value.IsNil" 0) ReflectliteValue.isNil) func134 (by kernel_rfl) (by kernel_rfl) (by kernel_rfl) (by kernel_rfl);have M:=@run_callFunc_extern prog 273 _ (ReflectliteType.abiMethod fun t=>do pure (.int .u8 (<-Rtype.kind t))) func273 (by kernel_rfl) (by kernel_rfl) (by kernel_rfl) (by kernel_rfl);have U:=@run_callFunc_extern prog 290 _ (ReflectliteType.method ReflectliteType.elem) func290 (by kernel_rfl) (by kernel_rfl) (by kernel_rfl) (by kernel_rfl);have V:=@run_callFunc_extern prog 291 _ (ReflectliteType.relation "Implements" ReflectliteType.implements_) func291 (by kernel_rfl) (by kernel_rfl) (by kernel_rfl) (by kernel_rfl);have C:=@run_callFunc_extern prog 186 _ ReflectliteType.typeOf func186 (by kernel_rfl) (by kernel_rfl) (by kernel_rfl) (by kernel_rfl);have R:=@run_callFunc_extern prog 288 _ (ReflectliteType.relation "AssignableTo" ReflectliteType.assignableTo) func288 (by kernel_rfl) (by kernel_rfl) (by kernel_rfl) (by kernel_rfl);have J:=@run_callFunc_extern prog 187 _ (ReflectliteValue.method (ReflectliteValue.valueError "reflectlite.Value.Elem" 0) ReflectliteValue.elem) func187 (by kernel_rfl) (by kernel_rfl) (by kernel_rfl) (by kernel_rfl);have K:=@run_callFunc_extern prog 188 _ ReflectliteValue.set func188 (by kernel_rfl) (by kernel_rfl) (by kernel_rfl) (by kernel_rfl);have tO:=zdx;have mA:=zdf;have u:=zcH;have a2:=zcX;have f6:=zd7;have f7:=zcN;have mK:=zf9;have mE:=zfZ;have mI:=zfb;have a1:=zdh;have a0:=zfJ;have y:=zfA;have Z:=zdB;have n8:=zgI w.heap.size t ((w.alloc (.cells #[.pointer (some t)] 175)).alloc (.cells #[.pointer (some ⟨12,175,none⟩),.pointer (some w),.int .u64 150] 234)) (by simp);have q:3<w.heap.size:=by
  rcases zsh 3 w.heap.size with h|h
  ·exact h
  ·simp[World.cell?,Array.getElem?_eq_none h] at hg
 have Y:((w.alloc (.cells #[.pointer (some t)] 175)).alloc (.cells #[.pointer (some ⟨12,175,none⟩),.pointer (some w),.int .u64 150] 234)).cell? ⟨3,0,none⟩=some (.iface 288 (.agg #[.pointer (some ⟨12,31,none⟩)])):=by
  rw[zrm _ _ ⟨3,0,none⟩ (by simp only[zc1];omega),zrm _ _ ⟨3,0,none⟩ q];exact hg
 have o:t.block<w.heap.size:=by
  rcases zsh t.block w.heap.size with h|h
  ·exact h
  ·simp[World.cell?,Array.getElem?_eq_none h] at ht0
 have el:=zdv w.heap.size t (((w.alloc (.cells #[.pointer (some t)] 175)).alloc (.cells #[.pointer (some ⟨12,175,none⟩),.pointer (some w),.int .u64 150] 234)).alloc (.cells #[.pointer (some ⟨12,175,none⟩),.pointer (some w),.int .u64 150] 234)) (by rw[zrm _ _ w.heap.size (by simp;omega)];simp);have st:=zdm t ⟨w.heap.size+1+1+1,0,none⟩ n old ((((w.alloc (.cells #[.pointer (some t)] 175)).alloc (.cells #[.pointer (some ⟨12,175,none⟩),.pointer (some w),.int .u64 150] 234)).alloc (.cells #[.pointer (some ⟨12,175,none⟩),.pointer (some w),.int .u64 150] 234)).alloc (.cells #[n] 53))
  (by rw[World.cell?_alloc_at _ _ _ _ (by simp)];rfl)
  (by rw[zrm _ _ t (by simp;omega),zrm _ _ t (by simp;omega),zrm _ _ t (by simp;omega),zrm _ _ t o];exact ht0)
  (by rw[zsn _ _ t (by simp;omega),zsn _ _ t (by simp;omega),zsn _ _ t (by simp;omega),zsn _ _ t (Nat.ne_of_lt o)];exact hf0)
 have p:ba<w.heap.size:=by
  rcases zsh ba w.heap.size with h|h
  ·exact h
  ·simp[World.cell?,Array.getElem?_eq_none h] at hba
 have X:(((w.alloc (.cells #[.pointer (some t)] 175)).alloc (.cells #[.pointer (some ⟨12,175,none⟩),.pointer (some w),.int .u64 150] 234)).alloc (.cells #[.pointer (some ⟨12,175,none⟩),.pointer (some w),.int .u64 150] 234)).cell? ba=some (.int .i64 n):=by
  rw[zrm _ _ ba (by simp only[zc1];omega),zrm _ _ ba (by simp only[zc1];omega),zrm _ _ ba p];exact hba
 have tA:=zqn;have aA:=zmj;have mU:=zpi;have n1:=zhm;have y1:=zqt;go_enter func84,ntmps84;go_wp2;refine wp_loop_rounds 2 ?_;rw[rounds_succ];go_wp2;rw[rounds_succ];go_wp2;go_ret;exact⟨rfl,rfl⟩
end Errs
theorem ziY(n:Int)(ba:Nat)(w:World)(hg:ZK w)(hba:w.cell? ba=some (.int .i64 n)) :
  zR 37 #[.iface 110 (.pointer (some ba))] w (.int .i64 n):=by
 have j:ba<w.heap.size:=by
  rcases zsh ba w.heap.size with h|h
  ·exact h
  ·simp[World.cell?,Array.getElem?_eq_none h] at hba
 have H:=Errs.as_at n ba w.heap.size (.int .i64 0) (w.alloc (.cells #[(0:Int)] 53)) (hg.below (zF.alloc zN _)) (QS _ _ _) (Xu _ _ _) ((zrm _ _ ba j).trans hba);clear hba;go_enter func37,ntmps37;go_wp2_with fail;refine H.mono ?_;rintro e w' ⟨rfl,hw⟩;have hc:w'.cell? w.heap.size=some (.int .i64 n):=by
  rw[hw];refine zrx _ _ _ ?_;rw[zrm _ _ w.heap.size (by simp;omega),zrm _ _ w.heap.size (by simp;omega),zrm _ _ w.heap.size (by simp;omega),zrm _ _ w.heap.size (by simp),QS];rfl
 have hb:zB w w':=by
  rw[hw];exact(((((zF.alloc zN _).alloc (by simp) _).alloc (by simp;omega) _).alloc (by simp;omega) _).alloc (by simp;omega) _).setCell zN _
 clear H hw;go_wp2;go_ret;exact⟨rfl,hb⟩
theorem zqC(n:Int)(w:World):(Instr.typeAssert (.iface 53 (.int .i64 n)) 31 110 true).run prog w=.ok (.tuple #[.pointer none,false]) w:=by kernel_rfl
theorem zpW(b:Nat)(w:World):(Instr.typeAssert (.iface 110 (.pointer (some b))) 31 110 true).run prog w=.ok (.tuple #[.pointer (some b),true]) w:=by kernel_rfl
theorem Xm(k:Int)(w:World):zR 31 #[k] w (.agg #[k,.int .i64 (-1)]):=by
 go_enter func31,ntmps31;go_wp2;exact zc4 (v:=.agg #[k,.int .i64 (-1)]) (by simp[results,results31,go_sem]) rfl ⟨rfl,zF.alloc zN _⟩
end
section
open Go.Shelf Sv
structure Lw(w:World):Prop where
 lb:Lb w
 wd:Qk w
theorem Lw.below{w w':World}(h:Lw w)(hb:zB w w'):Lw w':=⟨h.lb.below hb,h.wd.below hb (by have:=h.lb.big;omega)⟩
theorem Qf(s:ByteArray)(c:UInt8)(W:World)(hs:s.size<=100000)(hw:Lb W) :
  zC 79 #[s,.string ⟨#[c]⟩] W fun e w'=>∃b,e=.returned (.tuple #[.string (zb s c).1,.string (zb s c).2,.bool b])/\zB W w':=by
 obtain⟨m,hm⟩:=hw.ml;refine(Tryz.strings_Cut s ⟨#[c]⟩ m W (by omega) hm).mono fun e w' ⟨he,n,hn⟩=>⟨_,he,?_⟩;subst hn;exact⟨rfl,rfl,rfl,zri _,fun _ _=>rfl⟩
theorem zhD(s:ByteArray)(w:World)(hs:1000<s.size) :
  zR 83 #[s] w (.tuple #[.agg #[.slice none 0 0],.iface 53 (.int .i64 4)]):=by
 have hl:(1000:Int)<(s.size:Int):=by omega
 generalize hn:(s.size:Int)=n at *;clear hs;go_enter func83,ntmps83;go_wp2;have k0:=((Blk.new w 105 #[.slice none 0 0]).alloc (.cells #[.iface 53 (.int .i64 4)] 31));have k1:=(Blk.new (w.alloc (.cells #[.slice none 0 0] 105)) 31 #[.iface 53 (.int .i64 4)]);rw[zc1] at k1;have hB:zB w ((w.alloc (.cells #[.slice none 0 0] 105)).alloc (.cells #[.iface 53 (.int .i64 4)] 31)):=((zf0 _ w).alloc zN _).alloc (by simp only[zc1];omega) _;generalize (w.alloc (.cells #[.slice none 0 0] 105)).alloc (.cells #[.iface 53 (.int .i64 4)] 31)=WF at *;have r0:=k0.cell 0;have r3:=k1.cell 0;refine zc4 (v:=.tuple #[.agg #[.slice none 0 0],.iface 53 (.int .i64 4)]) (by simp[results,Tryz.f83,go_sem,r0,r3]) rfl ?_;exact⟨rfl,hB⟩
def ye(w:World)(er:Value)(k:Int):Option Nat->Prop
 |none=>er=.iface 53 (.int .i64 k)
 |some q=>∃N,er=.iface 110 (.pointer (some ⟨N,0,none⟩))/\Blk w N 112 #[k,q]
theorem ye.below{w w':World}{er:Value}{k:Int}{p:Option Nat}(h:ye w er k p)(hb:zB w w'):ye w' er k p:=by
 cases p with
 |none=>exact h
 |some q =>obtain⟨N,h1,h2⟩:=h;exact⟨N,h1,h2.below hb h2.lt⟩
theorem ye.form{w:World}{er:Value}{k:Int}{p:Option Nat}(h:ye w er k p):∃t v,er=.iface t v:=by
 cases p with
 |none=>exact⟨_,_,h⟩
 |some q=>obtain⟨N,h1,_⟩:=h;exact⟨_,_,h1⟩
def zjC(r:Except (Int × Option Nat) (List zf))(w':World)(v er:Value):Prop :=
 match r with
 |.ok l=>er=.nilIface/\zk w' v l/\Rg l
 |.error (k,p)=>v=.slice none 0 0/\ye w' er k p
theorem zcJ(s:ByteArray)(w:World)(hs:s.size<=100000)(hw:Lb w) :
  zC 83 #[s] w fun e w'=>∃a n c er,e=.returned (.tuple #[.agg #[.slice a n c],er])/\zjC (xz s) w' (.slice a n c) er/\(∀g,(Value.slice a n c).ownBlock=some g->w.heap.size<=g)/\zB w w':=by
 unfold xz
 by_cases h:1000<s.size
 ·rw[zc3 h];exact(zhD s w h).mono fun e w' ⟨he,hb⟩=>⟨none,0,0,_,he,⟨rfl,rfl⟩,(fun g hg=>by simp[Value.ownBlock] at hg),hb⟩
 ·rw[zc2 h];refine(zpp s w (by omega) hw).mono fun e w' h=>?_;unfold X0 at h;cases hx:Zr s with
  |ok l =>rw[hx] at h;obtain⟨v',he,h1,h2,h3⟩:=h;obtain⟨a',c',rfl⟩:=h1.form;exact⟨a',_,c',_,he,⟨rfl,h1,zeJ hx⟩,h2,h3⟩
  |error e2 =>obtain⟨k,q⟩:=e2;rw[hx] at h;obtain⟨N,he,h1,h2,h3⟩:=h;exact⟨none,0,0,_,he,⟨rfl,N,rfl,h1⟩,(fun g hg=>by simp[Value.ownBlock] at hg),h3⟩
abbrev z7:Array Value:=#[.int .i64 0,.string ⟨#[]⟩,.int .i64 0,.int .i64 0,.int .i64 0,.string ⟨#[]⟩,.slice none 0 0]
def Kk(w:World)(r:Except (Int × Option Nat) Ln)(e:Ending)(w':World):Prop :=
 match r with
 |.ok x=>∃v,e=.returned (.tuple #[.agg #[x.kind,x.name,x.a,x.b,x.c,x.other,v],.nilIface])/\zk w' v x.rng/\Rg x.rng/\(∀g,v.ownBlock=some g->w.heap.size<=g)/\zB w w'
 |.error (k,p)=>∃er,e=.returned (.tuple #[.agg z7,er])/\ye w' er k p/\zB w w'
structure LS(w W:World)(b:Nat)(cs:Array Value):Prop where
 z:Blk W w.heap.size 107 z7
 x:Blk W b 107 cs
 ne:w.heap.size<b
 B:zB w W
theorem LS.step{w W W':World}{b:Nat}{cs:Array Value}(h:LS w W b cs)(hb:zB W W'):LS w W' b cs:=⟨h.z.below hb h.z.lt,h.x.below hb h.x.lt,h.ne,zT h.B hb⟩
theorem LS.set{w W:World}{b:Nat}{cs:Array Value}(h:LS w W b cs)(i:Nat)(v:Value):LS w (W.setCell ⟨b,i,none⟩ v) b (cs.setIfInBounds i v) :=
 ⟨h.z.other (by have:=h.ne;omega),h.x.set,h.ne,h.B.setCell (p:=⟨b,i,none⟩) (Nat.le_of_lt h.ne) _⟩
theorem Blk.ne_type{W:World}{b b':Nat}{t t':TypeId}{cs cs':Array Value}(h:Blk W b t cs)(h':Blk W b' t' cs')(hne:t≠t'):b≠b':=by
 rintro rfl;have:=(show W.heap[b]?=_ from h).symm.trans h';simp only[zsd,zu1] at this;exact hne this.2.1
theorem ye.setx{w W:World}{b:Nat}{cs:Array Value}{er:Value}{k:Int}{p:Option Nat}{i:Nat}{v:Value}(h:ye W er k p)(hL:LS w W b cs):ye (W.setCell ⟨b,i,none⟩ v) er k p:=by
 cases p with
 |none=>exact h
 |some q =>obtain⟨N,h1,h2⟩:=h;exact⟨N,h1,h2.other (h2.ne_type hL.x (by decide))⟩
theorem ye.one{W:World}{b:Nat}{cs:Array Value}{er:Value}{k:Int}{p:Option Nat}{i:Nat}{v:Value}(h:ye W er k p)(hL:Blk W b 107 cs):ye (W.setCell ⟨b,i,none⟩ v) er k p:=by
 cases p with
 |none=>exact h
 |some q =>obtain⟨N,h1,h2⟩:=h;exact⟨N,h1,h2.other (h2.ne_type hL (by decide))⟩
theorem ye.setz{w W:World}{b:Nat}{cs:Array Value}{er:Value}{k:Int}{p:Option Nat}{v0 v1 v2 v3 v4 v5 v6:Value}(h:ye W er k p)(hL:LS w W b cs):ye (((((((W.setCell w v0).setCell ⟨w.heap.size,1,none⟩ v1).setCell ⟨w.heap.size,2,none⟩ v2).setCell ⟨w.heap.size,3,none⟩ v3).setCell ⟨w.heap.size,4,none⟩ v4).setCell ⟨w.heap.size,5,none⟩ v5).setCell ⟨w.heap.size,6,none⟩ v6) er k p:=by
 have z:=hL.z;exact((((((h.one z).one z.set).one z.set.set).one z.set.set.set).one z.set.set.set.set).one z.set.set.set.set.set).one z.set.set.set.set.set.set
theorem zk.one{W:World}{b:Nat}{v x:Value}{l:List zf}{i:Nat}(h:zk W v l)(hn:v.ownBlock≠some b):zk (W.setCell ⟨b,i,none⟩ x) v l :=
 ⟨h.form,fun j hj=>by
  obtain⟨g,p,e,hg,c0,c1⟩:=h.cells j hj;have o:g≠b:=fun e'=>hn (by rw[e,e'];rfl);exact ⟨g,p,e,by simp [World.setCell];exact hg,(qq o).trans c0,(qq o).trans c1⟩⟩
theorem zk.all7{W:World}{b:Nat}{v v0 v1 v2 v3 v4 v5 v6:Value}{l:List zf}(h:zk W v l)(hn:v.ownBlock≠some b):zk (((((((W.setCell b v0).setCell ⟨b,1,none⟩ v1).setCell ⟨b,2,none⟩ v2).setCell ⟨b,3,none⟩ v3).setCell ⟨b,4,none⟩ v4).setCell ⟨b,5,none⟩ v5).setCell ⟨b,6,none⟩ v6) v l :=
 ((((((h.one hn).one hn).one hn).one hn).one hn).one hn).one hn
end
