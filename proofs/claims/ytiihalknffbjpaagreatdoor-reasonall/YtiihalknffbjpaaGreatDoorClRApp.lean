/- The reference's Solve: appends, what holds between its rounds, its answer. -/
import Derived.Test.YtiihalknffbjpaaGreatDoorClSpread
namespace Go.Proofs.YtiihalknffbjpaaGreatDoor
section
open Go.RowKit Go.Deep
section
variable {B:Nat} {w w':World} {S S':List (Option Nat)} {R:Option Addr->Nat->Nat->Prop}
def zbZ(S:List (Option Nat))(w:World)(a:Option Addr)(xs:List Int):Prop :=
 ∀i,i<xs.length->∃ad:Addr,a=some ad/\ad.block<w.heap.size/\some ad.block∉S/\w.cell? (ad.add i)=some (.int .i64 (xs.getD i 0))
def Nw(w:World)(S S':List (Option Nat)):Prop:=∀k,some k∈S'->some k∈S\/w.heap.size<=k
theorem zbZ.ints{a:Option Addr}{xs:List Int}(h:zbZ S w a xs):zaN w a xs:=fun i hi=>by
 obtain⟨ad,h1,h2,_,h4⟩:=h i hi;exact⟨ad,h1,h2,h4⟩
theorem zbZ.grown{a:Option Addr}{xs:List Int}{o:Option Nat}(h:zbZ S w a xs)(hg:w.grownBy w' o)(ho:o∈S)(hn:Nw w S S'):zbZ S' w' a xs:=fun i hi=>by
 obtain⟨ad,h1,h2,h3,h4⟩:=h i hi;have e:=hg.block _ h2 (fun e=>h3 (e▸ho));refine⟨ad,h1,Nat.lt_of_lt_of_le h2 hg.size,fun hm=>?_,?_⟩
 ·rcases hn _ hm with h|h
  ·exact h3 h
  ·omega
 ·rw[World.cell?_of_block (w:=w) (by rw[zat];exact e)];exact h4
theorem zbZ.new{a:Option Addr}{xs:List Int}(h:zbZ S w a xs)(hb:zB w w'):zbZ S w' a xs:=fun i hi=>by
 obtain⟨ad,h1,h2,h3,h4⟩:=h i hi;have e:=hb.block _ h2;exact⟨ad,h1,Nat.lt_of_lt_of_le h2 hb.size,h3,by rw[World.cell?_of_block (w:=w) (by rw[zat];exact e)];exact h4⟩
theorem zbZ.of{a:Option Addr}{xs:List Int}(h:zaN w a xs)(hS:∀k,some k∈S->w.heap.size<=k):zbZ S w a xs:=fun i hi=>by
 obtain⟨ad,h1,h2,h3⟩:=h i hi;exact⟨ad,h1,h2,fun hm=>(by have:=hS _ hm;omega),h3⟩
theorem zbZ.loc{a a0:Option Addr}{xs t:List Int}(h0:zbZ S w a0 xs)(ht:zaN w' a t)(hl:zrU w.heap.size a0 xs a t)(hS:∀k,some k∈S->k<w.heap.size):zbZ S w' a t:=fun i hi=>by
 obtain⟨ad,h1,h2,h3⟩:=ht i hi;refine⟨ad,h1,h2,fun hm=>?_,h3⟩;rcases hl with ⟨e,rfl⟩|⟨p,e,hp⟩
 ·obtain⟨ad',h5,h6,h7,_⟩:=h0 i hi;rw[h1,h5] at e;obtain rfl:=Option.some.inj e;exact h7 hm
 ·rw[h1] at e;obtain rfl:=Option.some.inj e;have:=hS _ hm;omega
def ClC:Option Addr->Nat->Nat->Prop:=fun _ n cap=>n<=cap/\cap<=9223372036854775807
def TlC:Option Addr->Nat->Nat->Prop:=fun a _ cap=>a=none->cap=0
def zdC(R:Option Addr->Nat->Nat->Prop)(S:List (Option Nat))(w:World)(cs:List Value)(l:List (List Int)):Prop :=
 cs.length=l.length/\∀i,i<l.length->∃(a:Option Addr) (cap:Nat),cs[i]?=some (.slice a (l.getD i []).length cap)/\R a (l.getD i []).length cap/\zbZ S w a (l.getD i [])
theorem zdC.grown{cs:List Value}{l:List (List Int)}{o:Option Nat}(h:zdC R S w cs l)(hg:w.grownBy w' o)(ho:o ∈ S)(hn:Nw w S S'):zdC R S' w' cs l:=⟨h.1,fun i hi=>by
 obtain⟨a,cap,h1,h2,h4⟩:=h.2 i hi;exact ⟨a,cap,h1,h2,h4.grown hg ho hn⟩⟩
theorem zdC.new{cs:List Value}{l:List (List Int)}(h:zdC R S w cs l)(hb:zB w w'):zdC R S w' cs l:=⟨h.1,fun i hi=>by
 obtain⟨a,cap,h1,h2,h4⟩:=h.2 i hi;exact ⟨a,cap,h1,h2,h4.new hb⟩⟩
theorem zdC.nil:zdC R S w [] []:=⟨rfl,fun i hi=>by simp at hi⟩
theorem zdC.snoc{cs:List Value}{l:List (List Int)}(h:zdC R S w cs l){a:Option Addr}{cap:Nat}{c:List Int}(h1:R a c.length cap)(h3:zbZ S w a c):zdC R S w (cs++[.slice a c.length cap]) (l++[c]):=by
 refine⟨by simp[h.1],fun i hi=>?_⟩
 by_cases hl:i<l.length
 ·have e:(l++[c]).getD i []=l.getD i []:=by simp[List.getD_eq_getElem?_getD,List.getElem?_append_left hl]
  rw[e,List.getElem?_append_left (by rw[h.1];exact hl)];exact h.2 i hl
 ·have hi':i=l.length:=by simp at hi;omega
  subst hi';have e:(l++[c]).getD l.length []=c:=by simp[List.getD_eq_getElem?_getD]
  rw[e,List.getElem?_append_right (by rw[h.1];exact Nat.le_refl _),h.1];exact⟨a,cap,by simp,h1,h3⟩
theorem zdC.cls{e:TypeId}{cs:List Value}{l:List (List Int)}{a:Option Addr}{cap:Nat}(h:zdC ClC S w cs l)(hr:w.ownsRow B e 1 (.slice a l.length cap) l.length cs):zbu w a l:=by
 intro i hi;obtain⟨a',cap',h1,⟨h2,h3⟩,h4⟩:=h.2 i hi;rcases hr.2 with ⟨e,e0⟩|⟨g,cap2,cur,e,hB,hg,-⟩
 ·omega
 ·injection e with e1 e2 e3;subst e1 e3;refine⟨_,a',cap',rfl,(Array.getElem?_eq_some_iff.1 hg).1,?_,h2,h3,h4.ints⟩;have:=hr.cellAt i (by omega);rw[zau,Nat.zero_add,this,h1]
theorem zdC.one{cs:List Value}{l:List (List Int)}(h:zdC R S w cs l):∀u∈cs,u.oneCell'=true:=fun u hu=>by
 obtain⟨i,hi,rfl⟩:=List.getElem_of_mem hu;obtain⟨a,cap,h1,_⟩:=h.2 i (by rw[<-h.1];exact hi);rw[List.getElem?_eq_getElem hi] at h1;rw[Option.some.inj h1];rfl
theorem zdC.last{cs:List Value}{l:List (List Int)}{c:List Int}(h:zdC R S w cs (l++[c])):∃cs' a cap,cs=cs'++[.slice a c.length cap]/\zdC R S w cs' l/\R a c.length cap/\zbZ S w a c:=by
 obtain⟨h0,h⟩:=h;obtain⟨a,cap,h1,h2,h4⟩:=h l.length (by simp);have e:(l++[c]).getD l.length []=c:=by simp[List.getD_eq_getElem?_getD]
 rw[e] at h1 h2 h4;have hne:cs≠[]:=fun e=>by rw[e] at h0;simp at h0
 obtain⟨cs',u,rfl⟩:∃d x,cs=d++[x]:=⟨_,_,(List.dropLast_concat_getLast hne).symm⟩;have hl:cs'.length=l.length:=by simpa using h0
 rw[<-hl,List.getElem?_append_right zN] at h1;simp at h1;subst h1;refine⟨cs',a,cap,rfl,⟨hl,fun i hi=>?_⟩,h2,h4⟩;obtain⟨a',cap',g1,g2⟩:=h i (by simp;omega);have e:(l++[c]).getD i []=l.getD i []:=by simp[List.getD_eq_getElem?_getD,List.getElem?_append_left hi]
 rw[e] at g1 g2;rw[List.getElem?_append_left (by rw[hl];exact hi)] at g1;exact⟨a',cap',g1,g2⟩
end
def zbQ(aV pV dV mV:Value):List (Option Nat):=[aV.ownBlock,pV.ownBlock,dV.ownBlock,mV.ownBlock]
def zcI(u v:Value):Prop:=u.ownBlock=none\/u.ownBlock≠v.ownBlock
theorem zcI.symm{u v:Value}(h:zcI u v):zcI v u:=by
 unfold zcI at *;cases hv:v.ownBlock with
 |none=>exact Or.inl rfl
 |some k =>
  refine Or.inr fun e=>?_;rcases h with h|h
  ·rw[h] at e;cases e
  ·exact h (e.symm.trans hv.symm)
theorem zcI.grown{w:World}{B n size:Nat}{e:TypeId}{xs:List Value}{u v v':Value}(h:zcI u v)(hu:w.ownsRow B e size u n xs)(hl:v'.ownBlock=v.ownBlock\/v'.ownBlock=some w.heap.size):zcI u v':=by
 unfold zcI at *;cases hk:u.ownBlock with
 |none=>exact Or.inl rfl
 |some k =>
  refine Or.inr fun e'=>?_;have hlt:=(hu.lt k hk).2;rcases hl with hl|hl
  ·rw[hl] at e';rcases h with h|h
   ·rw[h] at hk;cases hk
   ·exact h (hk.trans e')
  ·rw[hl] at e';injection e' with e';omega
structure RAt(B:Nat)(w:World)(cl pl:List (List Int))(ms:List Int)(ts:List (List Int))(aV pV dV mV:Value):Prop where
 arow:∃cs,w.ownsRow B 81 1 aV cl.length cs/\zdC ClC (zbQ aV pV dV mV) w cs cl
 prow:∃cs,w.ownsRow B 81 1 pV pl.length cs/\zdC ClC (zbQ aV pV dV mV) w cs pl
 drow:∃cs,w.ownsRow B 47 1 dV ts.length cs/\zdC TlC (zbQ aV pV dV mV) w cs ts
 mrow:w.ownsRow B 3 1 mV ms.length (zaf ms)
 ap:zcI aV pV
 ad:zcI aV dV
 am:zcI aV mV
 pd:zcI pV dV
 pm:zcI pV mV
 dm:zcI dV mV
section
variable {B:Nat} {w w':World} {cl pl ts:List (List Int)} {ms:List Int} {aV pV dV mV:Value}
theorem RAt.new(h:RAt B w cl pl ms ts aV pV dV mV)(hb:zB w w'):RAt B w' cl pl ms ts aV pV dV mV:=by
 obtain⟨cs,h1,h2⟩:=h.arow;obtain⟨ps,h3,h4⟩:=h.prow;obtain⟨ds,h5,h6⟩:=h.drow;exact⟨⟨cs,zad h1 hb,h2.new hb⟩,⟨ps,zad h3 hb,h4.new hb⟩,⟨ds,zad h5 hb,h6.new hb⟩,zad h.mrow hb,h.ap,h.ad,h.am,h.pd,h.pm,h.dm⟩
theorem RAt.lt(h:RAt B w cl pl ms ts aV pV dV mV):∀k,some k∈zbQ aV pV dV mV->B<=k/\k<w.heap.size:=by
 intro k hk;obtain⟨cs,h1,h2⟩:=h.arow;obtain⟨ps,h3,h4⟩:=h.prow;obtain⟨ds,h5,h6⟩:=h.drow;simp only[zbQ,List.mem_cons,List.not_mem_nil,or_false] at hk;rcases hk with e|e|e|e
 ·exact h1.lt k e.symm
 ·exact h3.lt k e.symm
 ·exact h5.lt k e.symm
 ·exact h.mrow.lt k e.symm
theorem zfR{w:World}{v v':Value}{S:List (Option Nat)}(hl:v'.ownBlock=v.ownBlock\/v'.ownBlock=some w.heap.size)(hm:v.ownBlock∈S){k:Nat}(e:some k=v'.ownBlock):some k∈S\/w.heap.size<=k:=by
 rcases hl with hl|hl
 ·rw[e,hl];exact Or.inl hm
 ·rw[hl] at e;injection e with e;exact Or.inr (by omega)
theorem zsz{aV':Value}(hl:aV'.ownBlock=aV.ownBlock\/aV'.ownBlock=some w.heap.size):Nw w (zbQ aV pV dV mV) (zbQ aV' pV dV mV):=by
 intro k hk;simp only[zbQ,List.mem_cons,List.not_mem_nil,or_false] at hk;rcases hk with e|e|e|e
 ·exact zfR hl (by simp[zbQ]) e
 all_goals exact Or.inl (by simp[zbQ,e])
theorem zsK{pV':Value}(hl:pV'.ownBlock=pV.ownBlock\/pV'.ownBlock=some w.heap.size):Nw w (zbQ aV pV dV mV) (zbQ aV pV' dV mV):=by
 intro k hk;simp only[zbQ,List.mem_cons,List.not_mem_nil,or_false] at hk;rcases hk with e|e|e|e
 ·exact Or.inl (by simp[zbQ,e])
 ·exact zfR hl (by simp[zbQ]) e
 all_goals exact Or.inl (by simp[zbQ,e])
theorem zsp{dV':Value}(hl:dV'.ownBlock=dV.ownBlock\/dV'.ownBlock=some w.heap.size):Nw w (zbQ aV pV dV mV) (zbQ aV pV dV' mV):=by
 intro k hk;simp only[zbQ,List.mem_cons,List.not_mem_nil,or_false] at hk;rcases hk with e|e|e|e
 ·exact Or.inl (by simp[zbQ,e])
 ·exact Or.inl (by simp[zbQ,e])
 ·exact zfR hl (by simp[zbQ]) e
 ·exact Or.inl (by simp[zbQ,e])
theorem zss{mV':Value}(hl:mV'.ownBlock=mV.ownBlock\/mV'.ownBlock=some w.heap.size):Nw w (zbQ aV pV dV mV) (zbQ aV pV dV mV'):=by
 intro k hk;simp only[zbQ,List.mem_cons,List.not_mem_nil,or_false] at hk;rcases hk with e|e|e|e
 ·exact Or.inl (by simp[zbQ,e])
 ·exact Or.inl (by simp[zbQ,e])
 ·exact Or.inl (by simp[zbQ,e])
 ·exact zfR hl (by simp[zbQ]) e
theorem RAt.grow_a{cs:List Value}{aV':Value}{a:Option Addr}{cap:Nat}{c:List Int}(h:RAt B w cl pl ms ts aV pV dV mV)(hck:zdC ClC (zbQ aV pV dV mV) w cs cl)(hown:w'.ownsRow B 81 1 aV' (cl.length+1) (cs++[.slice a c.length cap]))(hg:w.grownBy w' aV.ownBlock)(hl:aV'.ownBlock=aV.ownBlock\/aV'.ownBlock=some w.heap.size)(hc:ClC a c.length cap)(hi:zbZ (zbQ aV pV dV mV) w a c) :
  RAt B w' (cl++[c]) pl ms ts aV' pV dV mV:=by
 have hm:aV.ownBlock∈zbQ aV pV dV mV:=by simp[zbQ]
 have hn:=zsz (w:=w) (pV:=pV) (dV:=dV) (mV:=mV) hl;obtain⟨ps,h3,h4⟩:=h.prow;obtain⟨ds,h5,h6⟩:=h.drow;exact⟨⟨_,by simpa using hown,(hck.grown hg hm hn).snoc hc (hi.grown hg hm hn)⟩,⟨ps,h3.kept hg h.ap.symm,h4.grown hg hm hn⟩,⟨ds,h5.kept hg h.ad.symm,h6.grown hg hm hn⟩,h.mrow.kept hg h.am.symm,(h.ap.symm.grown h3 hl).symm,(h.ad.symm.grown h5 hl).symm,(h.am.symm.grown h.mrow hl).symm,h.pd,h.pm,h.dm⟩
theorem RAt.grow_p{cs:List Value}{pV':Value}{a:Option Addr}{cap:Nat}{c:List Int}(h:RAt B w cl pl ms ts aV pV dV mV)(hck:zdC ClC (zbQ aV pV dV mV) w cs pl)(hown:w'.ownsRow B 81 1 pV' (pl.length+1) (cs++[.slice a c.length cap]))(hg:w.grownBy w' pV.ownBlock)(hl:pV'.ownBlock=pV.ownBlock\/pV'.ownBlock=some w.heap.size)(hc:ClC a c.length cap)(hi:zbZ (zbQ aV pV dV mV) w a c) :
  RAt B w' cl (pl++[c]) ms ts aV pV' dV mV:=by
 have hm:pV.ownBlock∈zbQ aV pV dV mV:=by simp[zbQ]
 have hn:=zsK (w:=w) (aV:=aV) (dV:=dV) (mV:=mV) hl;obtain⟨ps,h3,h4⟩:=h.arow;obtain⟨ds,h5,h6⟩:=h.drow;exact⟨⟨ps,h3.kept hg h.ap,h4.grown hg hm hn⟩,⟨_,by simpa using hown,(hck.grown hg hm hn).snoc hc (hi.grown hg hm hn)⟩,⟨ds,h5.kept hg h.pd.symm,h6.grown hg hm hn⟩,h.mrow.kept hg h.pm.symm,h.ap.grown h3 hl,h.ad,h.am,(h.pd.symm.grown h5 hl).symm,(h.pm.symm.grown h.mrow hl).symm,h.dm⟩
theorem RAt.grow_d{cs:List Value}{dV':Value}{a:Option Addr}{cap:Nat}{c:List Int}(h:RAt B w cl pl ms ts aV pV dV mV)(hck:zdC TlC (zbQ aV pV dV mV) w cs ts)(hown:w'.ownsRow B 47 1 dV' (ts.length+1) (cs++[.slice a c.length cap]))(hg:w.grownBy w' dV.ownBlock)(hl:dV'.ownBlock=dV.ownBlock\/dV'.ownBlock=some w.heap.size)(hc:TlC a c.length cap)(hi:zbZ (zbQ aV pV dV mV) w a c) :
  RAt B w' cl pl ms (ts++[c]) aV pV dV' mV:=by
 have hm:dV.ownBlock∈zbQ aV pV dV mV:=by simp[zbQ]
 have hn:=zsp (w:=w) (aV:=aV) (pV:=pV) (mV:=mV) hl;obtain⟨ps,h3,h4⟩:=h.arow;obtain⟨ds,h5,h6⟩:=h.prow;exact⟨⟨ps,h3.kept hg h.ad,h4.grown hg hm hn⟩,⟨ds,h5.kept hg h.pd,h6.grown hg hm hn⟩,⟨_,by simpa using hown,(hck.grown hg hm hn).snoc hc (hi.grown hg hm hn)⟩,h.mrow.kept hg h.dm.symm,h.ap,h.ad.grown h3 hl,h.am,h.pd.grown h5 hl,h.pm,(h.dm.symm.grown h.mrow hl).symm⟩
theorem RAt.grow_m{mV':Value}{x:Int}(h:RAt B w cl pl ms ts aV pV dV mV)(hown:w'.ownsRow B 3 1 mV' (ms++[x]).length (zaf (ms++[x])))(hg:w.grownBy w' mV.ownBlock)(hl:mV'.ownBlock=mV.ownBlock\/mV'.ownBlock=some w.heap.size) :
  RAt B w' cl pl (ms++[x]) ts aV pV dV mV':=by
 have hm:mV.ownBlock∈zbQ aV pV dV mV:=by simp[zbQ]
 have hn:=zss (w:=w) (aV:=aV) (pV:=pV) (dV:=dV) hl;obtain⟨cs,h1,h2⟩:=h.arow;obtain⟨ps,h3,h4⟩:=h.prow;obtain⟨ds,h5,h6⟩:=h.drow;exact⟨⟨cs,h1.kept hg h.am,h2.grown hg hm hn⟩,⟨ps,h3.kept hg h.pm,h4.grown hg hm hn⟩,⟨ds,h5.kept hg h.dm,h6.grown hg hm hn⟩,hown,h.ap,h.ad,h.am.grown h1 hl,h.pd,h.pm.grown h3 hl,h.dm.grown h5 hl⟩
theorem RAt.pop{t:List Int}{x:Int}{da ma:Option Addr}{dc mc:Nat}(h:RAt B w cl pl (ms++[x]) (ts++[t]) aV pV (.slice da (ts.length+1) dc) (.slice ma (ms.length+1) mc)) :
  ∃g gm ta tc,da=some ⟨g,0,none⟩/\ma=some ⟨gm,0,none⟩/\g<w.heap.size/\gm<w.heap.size/\ts.length+1<=dc/\ms.length+1<=mc/\w.cell? ⟨g,ts.length,none⟩=some (.slice ta t.length tc)/\TlC ta t.length tc/\zbZ (zbQ aV pV (.slice da ts.length dc) (.slice ma ms.length mc)) w ta t/\RAt B w cl pl ms ts aV pV (.slice da ts.length dc) (.slice ma ms.length mc):=by
 obtain⟨cs,h1,h2⟩:=h.arow;obtain⟨ps,h3,h4⟩:=h.prow;obtain⟨ds,h5,h6⟩:=h.drow;have h7:=h.mrow;obtain⟨ds',ta,tc,rfl,h8,h9,h10⟩:=h6.last;rw[zao] at h7;rw[List.length_append,List.length_singleton] at h5 h7;rcases h5.2 with ⟨e,e0⟩|⟨g,cap,cur,e,hB,hg,hcap,-⟩
 ·omega
 rcases h7.2 with ⟨e',e0⟩|⟨gm,cap',cur',e',hB',hg',hcap',-⟩
 ·omega
 cases e;cases e';have h5c:=h5.cellAt ts.length (by omega);have hob:zbQ aV pV (.slice (some ⟨g,0,none⟩) ts.length dc) (.slice (some ⟨gm,0,none⟩) ms.length mc)=zbQ aV pV (.slice (some ⟨g,0,none⟩) (ts.length+1) dc) (.slice (some ⟨gm,0,none⟩) (ms.length+1) mc):=rfl;refine⟨g,gm,ta,tc,rfl,rfl,(Array.getElem?_eq_some_iff.1 hg).1,(Array.getElem?_eq_some_iff.1 hg').1,by omega,by omega,?_,h9,hob▸h10,⟨⟨cs,h1,h2⟩,⟨ps,h3,h4⟩,⟨ds',ownsRow_pop (by rw[h8.1,Nat.mul_one]) h5,h8⟩,ownsRow_pop (by rw[zap,Nat.mul_one]) h7,h.ap,h.ad,h.am,h.pd,h.pm,h.dm⟩⟩;rw[h5c,List.getElem?_append_right (by rw[h8.1];exact Nat.le_refl _),h8.1];simp
end
end
section
open Go.RowKit Go.Deep
theorem zle{P:Program}{w:World}{ops:Array Oper}{rest:List Oper}{o:Oper}{a:Act}{Q:Exit->Act->World->Prop}(hgd:o.guard=none)(s x:Operand)(t:TypeId)
  (ho:o.op=.call { callee:=.builtin .append,args:=#[s,x],argTypes:=#[t,t] }) (v u:Value) (hs:a.eval s=v) (hx:a.eval x=u) {R:Value->World->Prop} (hrun:∃v' w',(Builtin.append_ #[t,t] o.type #[v,u]).run P w=.ok v' w'/\R v' w')
  (h:∀v' w',R v' w'->wpList P ops Q rest (a.put o.dst v') w'):wpList P ops Q (o :: rest) a w:=by
 refine wpList_plain hgd fun K hK=>?_;obtain⟨v',w',hr,hR⟩:=hrun;unfold Oper.wp execOp;simp only[ho,resolve,invoke,builtin,Sem.run_bind,Sem.run_pure,Result.andThen_ok,List.map_toArray,List.map_cons,List.map_nil,hs,hx,hr];exact hK _ _ (h v' w' hR)
end
section
open Go.RowKit Go.Deep
theorem zi0{w:World}{ad:Addr}{l:List (List Int)}(h:zbu w (some ad) l){S:List (Option Nat)}(hS:∀k,some k∈S->w.heap.size<=k):∃cs:List Value,zdC ClC S w cs l/\∀j u,cs[j]?=some u->ad.block<w.heap.size/\w.cell? (ad.add j)=some u:=by
 have each:∀i,i<l.length->∃u:Value,(∃(a:Option Addr) (cap:Nat),u=.slice a (l.getD i []).length cap/\ClC a (l.getD i []).length cap/\zbZ S w a (l.getD i []))/\ad.block<w.heap.size/\w.cell? (ad.add i)=some u:=by
  intro i hi;obtain⟨ad',a',cap,e,h1,h2,h3,h4,h5⟩:=h i hi;obtain rfl:=Option.some.inj e;exact⟨_,⟨a',cap,rfl,⟨h3,h4⟩,zbZ.of h5 hS⟩,h1,h2⟩
 obtain⟨q,hq⟩:=choose_lt (fun i hi=>each i hi);have hlen:((List.range l.length).map q).length=l.length:=by simp
 have hat:∀i,i<l.length->((List.range l.length).map q)[i]?=some (q i):=fun i hi=>by simp[hi]
 refine⟨(List.range l.length).map q,⟨hlen,fun i hi=>?_⟩,fun j u hj=>?_⟩
 ·obtain⟨a,cap,e,h1,h2⟩:=(hq i hi).1;exact⟨a,cap,by rw[hat i hi,e],h1,h2⟩
 ·have hj':j<l.length:=by have:=(List.getElem?_eq_some_iff.1 hj).1;rw[hlen] at this;exact this
  rw[hat j hj'] at hj;obtain rfl:=Option.some.inj hj;exact(hq j hj').2
theorem zqT{w:World}{l:List (List Int)}{a:Option Addr}{cap:Nat}(ty:TypeId)(hI:zbu w a l)(hn:a=none->cap=0)(hl:l.length<=200) :
  ∃v' W',(Builtin.append_ #[26,26] ty #[.slice (some ⟨w.heap.size,0,none⟩) 0 0,.slice a l.length cap]).run Tryz.prog (w.alloc (.cells #[] 81))=.ok v' W'/\(RAt w.heap.size W' l [] [] [] v' (.slice none 0 0) (.slice none 0 0) (.slice none 0 0)/\zB w W'):=by
 obtain⟨ic,hic,hc0,hc1,hc2⟩:=info_parts zdq;have hrow:=World.ownsRow_lit (base:=w.heap.size) (e:=81) (size:=1) w #[] 0 zN (by decide) rfl;have hbn:=zac w (.cells #[] 81);have fin:∀(v':Value) (W':World) (cs:List Value),W'.ownsRow w.heap.size 81 1 v' l.length cs->zdC ClC (zbQ v' (.slice none 0 0) (.slice none 0 0) (.slice none 0 0)) W' cs l->RAt w.heap.size W' l [] [] [] v' (.slice none 0 0) (.slice none 0 0) (.slice none 0 0):=fun v' W' cs h1 h2 =>
  ⟨⟨cs,h1,h2⟩,⟨[],World.ownsRow_nil _ _ _ _,zdC.nil⟩,⟨[],World.ownsRow_nil _ _ _ _,zdC.nil⟩,World.ownsRow_nil _ _ _ _,zcI.symm (Or.inl rfl),zcI.symm (Or.inl rfl),zcI.symm (Or.inl rfl),Or.inl rfl,Or.inl rfl,Or.inl rfl⟩
 cases a with
 |none =>
  obtain rfl:l=[]:=by
   cases l with
   |nil=>rfl
   |cons c l=>obtain⟨ad,_,_,e,_⟩:=hI 0 (by simp);cases e
  obtain rfl:=hn rfl;exact⟨_,_,run_append_owned_none _ w.heap.size 26 ty 81 ic 1 Tryz.underlying26 hic _ 0 [] hrow,fin _ _ [] hrow zdC.nil,hbn⟩
 |some ad =>
  obtain⟨cs,hck,hcell⟩:=zi0 hI (S:=[some w.heap.size,none,none,none]) (fun k hk=>by simp at hk;omega);obtain ⟨v',W',h1,h2,h3,h4,h5⟩:=run_append_own_at (P:=Tryz.prog) (w.alloc (.cells #[] 81)) w.heap.size 26 ty 81 ic (.slice none 0 0) 1 24 Tryz.underlying26 hic hc0 hc1 hc2 rfl (by decide) _ 0 [] hrow ad l.length cap cs (by rw [hck.1,Nat.mul_one]) (fun j u hu=>by
   obtain⟨q1,q2⟩:=hcell j u hu;rw [World.cell?_alloc_lt _ _ _ (by rw [zat];exact q1)];exact q2) hck.one (by unfold maxLen;omega) (by omega) (by simp)
  have hb7:zB w W':=hbn.grown h3 (by simp) (fun k hk=>by simp[Value.ownBlock] at hk;omega);refine⟨v',W',h1,fin v' W' cs (by simpa using h2) ?_,hb7⟩;refine(hck.new hbn).grown (S:=[some w.heap.size,none,none,none]) h3 (by simp[Value.ownBlock]) (fun k hk=>?_);simp only[zbQ,Value.ownBlock,List.mem_cons,List.not_mem_nil,or_false] at hk;have hk':some k=v'.ownBlock:=by
   rcases hk with e|e|e|e
   ·exact e
   all_goals cases e
  rcases h5 with h5|h5
  ·rw[hk',h5];exact Or.inl (by simp[Value.ownBlock])
  ·rw[h5] at hk';injection hk' with hk';exact Or.inr (by omega)
structure TL(s:St):Prop where
 t:s.told.length+zdW s.told<=24
 d:∀d∈s.decs,d.2.length+zdW d.2<=24
 p:∀c∈s.prf,c.length<=24
theorem zjy{l:List (List Int)}{v:Int}(hv:v<=24)(hl:zbT v l){told t:List Int}{b:Int}(h:zb5 l told t b)(hc:zdH told)(hs:zeZ v told)(hf:told.length+zdW told<=24):t.length+zdW t<=24:=by
 induction h with
 |stop _=>exact hf
 |step e hx _ ih =>obtain⟨h1,h2,h3,h4,h5⟩:=zcH hl hc hs e hx;have:=zb8 (zdA hv h1) h2 h3;exact ih h4 h5 (by simp;omega)
structure zrW(w wr:World)(n:Nat)(l:List (List Int))(s:St)(r:Res)(aV dV mV pV:Value)(ta:Option Addr)(tc:Nat):Prop where
 at':RAt w.heap.size wr (l++s.prf) s.prf (s.decs.map Prod.fst) (s.decs.map Prod.snd) aV pV dV mV
 told:zbZ (zbQ aV pV dV mV) wr ta s.told
 nil:ta=none->tc=0
 good:zg9 n s
 tl:TL s
 run:Run n l s r
 below:zB w wr
def zmk(r:Res)(e:Ending)(w':World):Prop :=
 (∃t,r=.sat t/\e=.returned (.tuple #[.bool true,.int .u64 (zfd t 24:Int),.slice none 0 0,.bool true])) \/
 (∃prf pa pc,r=.unsat prf/\e=.returned (.tuple #[.bool false,.int .u64 0,.slice pa prf.length pc,.bool true])/\zbu w' pa prf/\prf.length<=2000) \/
 (r=.limit/\e=.returned (.tuple #[.bool false,.int .u64 0,.slice none 0 0,.bool false]))
end
end Go.Proofs.YtiihalknffbjpaaGreatDoor
