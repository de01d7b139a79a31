/- The reference's Solve: its walk. -/
import Derived.Test.YtiihalknffbjpaaGreatDoorClSpread
set_option maxHeartbeats 1000000
set_option maxRecDepth 100000
namespace Go.Proofs.YtiihalknffbjpaaGreatDoor
section
open Go.RowKit Go.Deep
section
variable {B:Nat} {w w':World} {S S':List (Option Nat)} {R:Option Addr->Nat->Nat->Prop}
def qZ(S:List (Option Nat))(w:World)(a:Option Addr)(xs:List Int):Prop :=
 ∀i,i<xs.length->∃ad:Addr,a=some ad/\ad.block<w.heap.size/\some ad.block∉S/\w.cell? (ad.add i)=some (.int .i64 (xs.getD i 0))
def Nw(w:World)(S S':List (Option Nat)):Prop:=∀k,some k∈S'->some k∈S\/w.heap.size<=k
theorem qZ.ints{a:Option Addr}{xs:List Int}(h:qZ S w a xs):qh w a xs:=fun i hi=>by
 obtain⟨ad,h1,h2,_,h4⟩:=h i hi;exact⟨ad,h1,h2,h4⟩
theorem qZ.grown{a:Option Addr}{xs:List Int}{o:Option Nat}(h:qZ S w a xs)(hg:w.grownBy w' o)(ho:o∈S)(hn:Nw w S S'):qZ S' w' a xs:=fun i hi=>by
 obtain⟨ad,h1,h2,h3,h4⟩:=h i hi;have e:=hg.block _ h2 (fun e=>h3 (e▸ho));refine⟨ad,h1,Nat.lt_of_lt_of_le h2 hg.size,fun hm=>?_,?_⟩
 ·rcases hn _ hm with h|h
  ·exact h3 h
  ·omega
 ·rw[World.cell?_of_block (w:=w) (by rw[yH];exact e)];exact h4
theorem qZ.new{a:Option Addr}{xs:List Int}(h:qZ S w a xs)(hb:zB w w'):qZ S w' a xs:=fun i hi=>by
 obtain⟨ad,h1,h2,h3,h4⟩:=h i hi;have e:=hb.block _ h2;exact⟨ad,h1,Nat.lt_of_lt_of_le h2 hb.size,h3,by rw[World.cell?_of_block (w:=w) (by rw[yH];exact e)];exact h4⟩
theorem qZ.of{a:Option Addr}{xs:List Int}(h:qh w a xs)(hS:∀k,some k∈S->w.heap.size<=k):qZ S w a xs:=fun i hi=>by
 obtain⟨ad,h1,h2,h3⟩:=h i hi;exact⟨ad,h1,h2,fun hm=>(by have:=hS _ hm;omega),h3⟩
theorem qZ.loc{a a0:Option Addr}{xs t:List Int}(h0:qZ S w a0 xs)(ht:qh w' a t)(hl:Y8 w.heap.size a0 xs a t)(hS:∀k,some k∈S->k<w.heap.size):qZ S w' a t:=fun i hi=>by
 obtain⟨ad,h1,h2,h3⟩:=ht i hi;refine⟨ad,h1,h2,fun hm=>?_,h3⟩;rcases hl with ⟨e,rfl⟩|⟨p,e,hp⟩
 ·obtain⟨ad',h5,h6,h7,_⟩:=h0 i hi;rw[h1,h5] at e;obtain rfl:=Option.some.inj e;exact h7 hm
 ·rw[h1] at e;obtain rfl:=Option.some.inj e;have:=hS _ hm;omega
def ClC:Option Addr->Nat->Nat->Prop:=fun _ n cap=>n<=cap/\cap<=9223372036854775807
def TlC:Option Addr->Nat->Nat->Prop:=fun a _ cap=>a=none->cap=0
def qq(R:Option Addr->Nat->Nat->Prop)(S:List (Option Nat))(w:World)(cs:List Value)(l:List (List Int)):Prop :=
 cs.length=l.length/\∀i,i<l.length->∃(a:Option Addr) (cap:Nat),cs[i]?=some (.slice a (l.getD i []).length cap)/\R a (l.getD i []).length cap/\qZ S w a (l.getD i [])
theorem qq.grown{cs:List Value}{l:List (List Int)}{o:Option Nat}(h:qq R S w cs l)(hg:w.grownBy w' o)(ho:o ∈ S)(hn:Nw w S S'):qq R S' w' cs l:=⟨h.1,fun i hi=>by
 obtain⟨a,cap,h1,h2,h4⟩:=h.2 i hi;exact ⟨a,cap,h1,h2,h4.grown hg ho hn⟩⟩
theorem qq.new{cs:List Value}{l:List (List Int)}(h:qq R S w cs l)(hb:zB w w'):qq R S w' cs l:=⟨h.1,fun i hi=>by
 obtain⟨a,cap,h1,h2,h4⟩:=h.2 i hi;exact ⟨a,cap,h1,h2,h4.new hb⟩⟩
theorem qq.nil:qq R S w [] []:=⟨rfl,fun i hi=>by simp at hi⟩
theorem qq.snoc{cs:List Value}{l:List (List Int)}(h:qq R S w cs l){a:Option Addr}{cap:Nat}{c:List Int}(h1:R a c.length cap)(h3:qZ S w a c):qq R S w (cs++[.slice a c.length cap]) (l++[c]):=by
 refine⟨by simp[h.1],fun i hi=>?_⟩
 by_cases hl:i<l.length
 ·have e:(l++[c]).getD i []=l.getD i []:=by simp[List.getD_eq_getElem?_getD,List.getElem?_append_left hl]
  rw[e,List.getElem?_append_left (by rw[h.1];exact hl)];exact h.2 i hl
 ·have hi':i=l.length:=by simp at hi;omega
  subst hi';have e:(l++[c]).getD l.length []=c:=by simp[List.getD_eq_getElem?_getD]
  rw[e,List.getElem?_append_right (by rw[h.1];exact Nat.le_refl _),h.1];exact⟨a,cap,by simp,h1,h3⟩
theorem qq.cls{e:TypeId}{cs:List Value}{l:List (List Int)}{a:Option Addr}{cap:Nat}(h:qq ClC S w cs l)(hr:w.ownsRow B e 1 (.slice a l.length cap) l.length cs):qn w a l:=by
 intro i hi;obtain⟨a',cap',h1,⟨h2,h3⟩,h4⟩:=h.2 i hi;rcases hr.2 with ⟨e,e0⟩|⟨g,cap2,cur,e,hB,hg,-⟩
 ·omega
 ·injection e with e1 e2 e3;subst e1 e3;refine⟨_,a',cap',rfl,(Array.getElem?_eq_some_iff.1 hg).1,?_,h2,h3,h4.ints⟩;have:=hr.cellAt i (by omega);rw[yd,Nat.zero_add,this,h1]
theorem qq.one{cs:List Value}{l:List (List Int)}(h:qq R S w cs l):∀u∈cs,u.oneCell'=true:=fun u hu=>by
 obtain⟨i,hi,rfl⟩:=List.getElem_of_mem hu;obtain⟨a,cap,h1,_⟩:=h.2 i (by rw[<-h.1];exact hi);rw[List.getElem?_eq_getElem hi] at h1;rw[Option.some.inj h1];rfl
theorem qq.last{cs:List Value}{l:List (List Int)}{c:List Int}(h:qq R S w cs (l++[c])):∃cs' a cap,cs=cs'++[.slice a c.length cap]/\qq R S w cs' l/\R a c.length cap/\qZ S w a c:=by
 obtain⟨h0,h⟩:=h;obtain⟨a,cap,h1,h2,h4⟩:=h l.length (by simp);have e:(l++[c]).getD l.length []=c:=by simp[List.getD_eq_getElem?_getD]
 rw[e] at h1 h2 h4;have hne:cs≠[]:=fun e=>by rw[e] at h0;simp at h0
 obtain⟨cs',u,rfl⟩:∃d x,cs=d++[x]:=⟨_,_,(List.dropLast_concat_getLast hne).symm⟩;have hl:cs'.length=l.length:=by simpa using h0
 rw[<-hl,List.getElem?_append_right zN] at h1;simp at h1;subst h1;refine⟨cs',a,cap,rfl,⟨hl,fun i hi=>?_⟩,h2,h4⟩;obtain⟨a',cap',g1,g2⟩:=h i (by simp;omega);have e:(l++[c]).getD i []=l.getD i []:=by simp[List.getD_eq_getElem?_getD,List.getElem?_append_left hi]
 rw[e] at g1 g2;rw[List.getElem?_append_left (by rw[hl];exact hi)] at g1;exact⟨a',cap',g1,g2⟩
end
def zu(aV pV dV mV:Value):List (Option Nat):=[aV.ownBlock,pV.ownBlock,dV.ownBlock,mV.ownBlock]
def yU(u v:Value):Prop:=u.ownBlock=none\/u.ownBlock≠v.ownBlock
theorem yU.symm{u v:Value}(h:yU u v):yU v u:=by
 unfold yU at *;cases hv:v.ownBlock with
 |none=>exact Or.inl rfl
 |some k =>
  refine Or.inr fun e=>?_;rcases h with h|h
  ·rw[h] at e;cases e
  ·exact h (e.symm.trans hv.symm)
theorem yU.grown{w:World}{B n size:Nat}{e:TypeId}{xs:List Value}{u v v':Value}(h:yU u v)(hu:w.ownsRow B e size u n xs)(hl:v'.ownBlock=v.ownBlock\/v'.ownBlock=some w.heap.size):yU u v':=by
 unfold yU at *;cases hk:u.ownBlock with
 |none=>exact Or.inl rfl
 |some k =>
  refine Or.inr fun e'=>?_;have hlt:=(hu.lt k hk).2;rcases hl with hl|hl
  ·rw[hl] at e';rcases h with h|h
   ·rw[h] at hk;cases hk
   ·exact h (hk.trans e')
  ·rw[hl] at e';injection e' with e';omega
structure RAt(B:Nat)(w:World)(cl pl:List (List Int))(ms:List Int)(ts:List (List Int))(aV pV dV mV:Value):Prop where
 arow:∃cs,w.ownsRow B 81 1 aV cl.length cs/\qq ClC (zu aV pV dV mV) w cs cl
 prow:∃cs,w.ownsRow B 81 1 pV pl.length cs/\qq ClC (zu aV pV dV mV) w cs pl
 drow:∃cs,w.ownsRow B 47 1 dV ts.length cs/\qq TlC (zu aV pV dV mV) w cs ts
 mrow:w.ownsRow B 3 1 mV ms.length (zd ms)
 ap:yU aV pV
 ad:yU aV dV
 am:yU aV mV
 pd:yU pV dV
 pm:yU pV mV
 dm:yU dV mV
section
variable {B:Nat} {w w':World} {cl pl ts:List (List Int)} {ms:List Int} {aV pV dV mV:Value}
theorem RAt.new(h:RAt B w cl pl ms ts aV pV dV mV)(hb:zB w w'):RAt B w' cl pl ms ts aV pV dV mV:=by
 obtain⟨cs,h1,h2⟩:=h.arow;obtain⟨ps,h3,h4⟩:=h.prow;obtain⟨ds,h5,h6⟩:=h.drow;exact⟨⟨cs,zm h1 hb,h2.new hb⟩,⟨ps,zm h3 hb,h4.new hb⟩,⟨ds,zm h5 hb,h6.new hb⟩,zm h.mrow hb,h.ap,h.ad,h.am,h.pd,h.pm,h.dm⟩
theorem RAt.lt(h:RAt B w cl pl ms ts aV pV dV mV):∀k,some k∈zu aV pV dV mV->B<=k/\k<w.heap.size:=by
 intro k hk;obtain⟨cs,h1,h2⟩:=h.arow;obtain⟨ps,h3,h4⟩:=h.prow;obtain⟨ds,h5,h6⟩:=h.drow;simp only[zu,List.mem_cons,List.not_mem_nil,or_false] at hk;rcases hk with e|e|e|e
 ·exact h1.lt k e.symm
 ·exact h3.lt k e.symm
 ·exact h5.lt k e.symm
 ·exact h.mrow.lt k e.symm
theorem YP{w:World}{v v':Value}{S:List (Option Nat)}(hl:v'.ownBlock=v.ownBlock\/v'.ownBlock=some w.heap.size)(hm:v.ownBlock∈S){k:Nat}(e:some k=v'.ownBlock):some k∈S\/w.heap.size<=k:=by
 rcases hl with hl|hl
 ·rw[e,hl];exact Or.inl hm
 ·rw[hl] at e;injection e with e;exact Or.inr (by omega)
theorem zcr{aV':Value}(hl:aV'.ownBlock=aV.ownBlock\/aV'.ownBlock=some w.heap.size):Nw w (zu aV pV dV mV) (zu aV' pV dV mV):=by
 intro k hk;simp only[zu,List.mem_cons,List.not_mem_nil,or_false] at hk;rcases hk with e|e|e|e
 ·exact YP hl (by simp[zu]) e
 all_goals exact Or.inl (by simp[zu,e])
theorem zla{pV':Value}(hl:pV'.ownBlock=pV.ownBlock\/pV'.ownBlock=some w.heap.size):Nw w (zu aV pV dV mV) (zu aV pV' dV mV):=by
 intro k hk;simp only[zu,List.mem_cons,List.not_mem_nil,or_false] at hk;rcases hk with e|e|e|e
 ·exact Or.inl (by simp[zu,e])
 ·exact YP hl (by simp[zu]) e
 all_goals exact Or.inl (by simp[zu,e])
theorem zby{dV':Value}(hl:dV'.ownBlock=dV.ownBlock\/dV'.ownBlock=some w.heap.size):Nw w (zu aV pV dV mV) (zu aV pV dV' mV):=by
 intro k hk;simp only[zu,List.mem_cons,List.not_mem_nil,or_false] at hk;rcases hk with e|e|e|e
 ·exact Or.inl (by simp[zu,e])
 ·exact Or.inl (by simp[zu,e])
 ·exact YP hl (by simp[zu]) e
 ·exact Or.inl (by simp[zu,e])
theorem zaj{mV':Value}(hl:mV'.ownBlock=mV.ownBlock\/mV'.ownBlock=some w.heap.size):Nw w (zu aV pV dV mV) (zu aV pV dV mV'):=by
 intro k hk;simp only[zu,List.mem_cons,List.not_mem_nil,or_false] at hk;rcases hk with e|e|e|e
 ·exact Or.inl (by simp[zu,e])
 ·exact Or.inl (by simp[zu,e])
 ·exact Or.inl (by simp[zu,e])
 ·exact YP hl (by simp[zu]) e
theorem RAt.grow_a{cs:List Value}{aV':Value}{a:Option Addr}{cap:Nat}{c:List Int}(h:RAt B w cl pl ms ts aV pV dV mV)(hck:qq ClC (zu aV pV dV mV) w cs cl)(hown:w'.ownsRow B 81 1 aV' (cl.length+1) (cs++[.slice a c.length cap]))(hg:w.grownBy w' aV.ownBlock)(hl:aV'.ownBlock=aV.ownBlock\/aV'.ownBlock=some w.heap.size)(hc:ClC a c.length cap)(hi:qZ (zu aV pV dV mV) w a c) :
  RAt B w' (cl++[c]) pl ms ts aV' pV dV mV:=by
 have hm:aV.ownBlock∈zu aV pV dV mV:=by simp[zu]
 have hn:=zcr (w:=w) (pV:=pV) (dV:=dV) (mV:=mV) hl;obtain⟨ps,h3,h4⟩:=h.prow;obtain⟨ds,h5,h6⟩:=h.drow;exact⟨⟨_,by simpa using hown,(hck.grown hg hm hn).snoc hc (hi.grown hg hm hn)⟩,⟨ps,h3.kept hg h.ap.symm,h4.grown hg hm hn⟩,⟨ds,h5.kept hg h.ad.symm,h6.grown hg hm hn⟩,h.mrow.kept hg h.am.symm,(h.ap.symm.grown h3 hl).symm,(h.ad.symm.grown h5 hl).symm,(h.am.symm.grown h.mrow hl).symm,h.pd,h.pm,h.dm⟩
theorem RAt.grow_p{cs:List Value}{pV':Value}{a:Option Addr}{cap:Nat}{c:List Int}(h:RAt B w cl pl ms ts aV pV dV mV)(hck:qq ClC (zu aV pV dV mV) w cs pl)(hown:w'.ownsRow B 81 1 pV' (pl.length+1) (cs++[.slice a c.length cap]))(hg:w.grownBy w' pV.ownBlock)(hl:pV'.ownBlock=pV.ownBlock\/pV'.ownBlock=some w.heap.size)(hc:ClC a c.length cap)(hi:qZ (zu aV pV dV mV) w a c) :
  RAt B w' cl (pl++[c]) ms ts aV pV' dV mV:=by
 have hm:pV.ownBlock∈zu aV pV dV mV:=by simp[zu]
 have hn:=zla (w:=w) (aV:=aV) (dV:=dV) (mV:=mV) hl;obtain⟨ps,h3,h4⟩:=h.arow;obtain⟨ds,h5,h6⟩:=h.drow;exact⟨⟨ps,h3.kept hg h.ap,h4.grown hg hm hn⟩,⟨_,by simpa using hown,(hck.grown hg hm hn).snoc hc (hi.grown hg hm hn)⟩,⟨ds,h5.kept hg h.pd.symm,h6.grown hg hm hn⟩,h.mrow.kept hg h.pm.symm,h.ap.grown h3 hl,h.ad,h.am,(h.pd.symm.grown h5 hl).symm,(h.pm.symm.grown h.mrow hl).symm,h.dm⟩
theorem RAt.grow_d{cs:List Value}{dV':Value}{a:Option Addr}{cap:Nat}{c:List Int}(h:RAt B w cl pl ms ts aV pV dV mV)(hck:qq TlC (zu aV pV dV mV) w cs ts)(hown:w'.ownsRow B 47 1 dV' (ts.length+1) (cs++[.slice a c.length cap]))(hg:w.grownBy w' dV.ownBlock)(hl:dV'.ownBlock=dV.ownBlock\/dV'.ownBlock=some w.heap.size)(hc:TlC a c.length cap)(hi:qZ (zu aV pV dV mV) w a c) :
  RAt B w' cl pl ms (ts++[c]) aV pV dV' mV:=by
 have hm:dV.ownBlock∈zu aV pV dV mV:=by simp[zu]
 have hn:=zby (w:=w) (aV:=aV) (pV:=pV) (mV:=mV) hl;obtain⟨ps,h3,h4⟩:=h.arow;obtain⟨ds,h5,h6⟩:=h.prow;exact⟨⟨ps,h3.kept hg h.ad,h4.grown hg hm hn⟩,⟨ds,h5.kept hg h.pd,h6.grown hg hm hn⟩,⟨_,by simpa using hown,(hck.grown hg hm hn).snoc hc (hi.grown hg hm hn)⟩,h.mrow.kept hg h.dm.symm,h.ap,h.ad.grown h3 hl,h.am,h.pd.grown h5 hl,h.pm,(h.dm.symm.grown h.mrow hl).symm⟩
theorem RAt.grow_m{mV':Value}{x:Int}(h:RAt B w cl pl ms ts aV pV dV mV)(hown:w'.ownsRow B 3 1 mV' (ms++[x]).length (zd (ms++[x])))(hg:w.grownBy w' mV.ownBlock)(hl:mV'.ownBlock=mV.ownBlock\/mV'.ownBlock=some w.heap.size) :
  RAt B w' cl pl (ms++[x]) ts aV pV dV mV':=by
 have hm:mV.ownBlock∈zu aV pV dV mV:=by simp[zu]
 have hn:=zaj (w:=w) (aV:=aV) (pV:=pV) (dV:=dV) hl;obtain⟨cs,h1,h2⟩:=h.arow;obtain⟨ps,h3,h4⟩:=h.prow;obtain⟨ds,h5,h6⟩:=h.drow;exact⟨⟨cs,h1.kept hg h.am,h2.grown hg hm hn⟩,⟨ps,h3.kept hg h.pm,h4.grown hg hm hn⟩,⟨ds,h5.kept hg h.dm,h6.grown hg hm hn⟩,hown,h.ap,h.ad,h.am.grown h1 hl,h.pd,h.pm.grown h3 hl,h.dm.grown h5 hl⟩
theorem RAt.pop{t:List Int}{x:Int}{da ma:Option Addr}{dc mc:Nat}(h:RAt B w cl pl (ms++[x]) (ts++[t]) aV pV (.slice da (ts.length+1) dc) (.slice ma (ms.length+1) mc)) :
  ∃g gm ta tc,da=some ⟨g,0,none⟩/\ma=some ⟨gm,0,none⟩/\g<w.heap.size/\gm<w.heap.size/\ts.length+1<=dc/\ms.length+1<=mc/\w.cell? ⟨g,ts.length,none⟩=some (.slice ta t.length tc)/\TlC ta t.length tc/\qZ (zu aV pV (.slice da ts.length dc) (.slice ma ms.length mc)) w ta t/\RAt B w cl pl ms ts aV pV (.slice da ts.length dc) (.slice ma ms.length mc):=by
 obtain⟨cs,h1,h2⟩:=h.arow;obtain⟨ps,h3,h4⟩:=h.prow;obtain⟨ds,h5,h6⟩:=h.drow;have h7:=h.mrow;obtain⟨ds',ta,tc,rfl,h8,h9,h10⟩:=h6.last;rw[yO] at h7;rw[List.length_append,List.length_singleton] at h5 h7;rcases h5.2 with ⟨e,e0⟩|⟨g,cap,cur,e,hB,hg,hcap,-⟩
 ·omega
 rcases h7.2 with ⟨e',e0⟩|⟨gm,cap',cur',e',hB',hg',hcap',-⟩
 ·omega
 cases e;cases e';have h5c:=h5.cellAt ts.length (by omega);have hob:zu aV pV (.slice (some ⟨g,0,none⟩) ts.length dc) (.slice (some ⟨gm,0,none⟩) ms.length mc)=zu aV pV (.slice (some ⟨g,0,none⟩) (ts.length+1) dc) (.slice (some ⟨gm,0,none⟩) (ms.length+1) mc):=rfl;refine⟨g,gm,ta,tc,rfl,rfl,(Array.getElem?_eq_some_iff.1 hg).1,(Array.getElem?_eq_some_iff.1 hg').1,by omega,by omega,?_,h9,hob▸h10,⟨⟨cs,h1,h2⟩,⟨ps,h3,h4⟩,⟨ds',ownsRow_pop (by rw[h8.1,Nat.mul_one]) h5,h8⟩,ownsRow_pop (by rw[xC,Nat.mul_one]) h7,h.ap,h.ad,h.am,h.pd,h.pm,h.dm⟩⟩;rw[h5c,List.getElem?_append_right (by rw[h8.1];exact Nat.le_refl _),h8.1];simp
end
end
section
open Go.RowKit Go.Deep
theorem za1{P:Program}{w:World}{ops:Array Oper}{rest:List Oper}{o:Oper}{a:Act}{Q:Exit->Act->World->Prop}(hgd:o.guard=none)(s x:Operand)(t:TypeId)
  (ho:o.op=.call { callee:=.builtin .append,args:=#[s,x],argTypes:=#[t,t] }) (v u:Value) (hs:a.eval s=v) (hx:a.eval x=u) {R:Value->World->Prop} (hrun:∃v' w',(Builtin.append_ #[t,t] o.type #[v,u]).run P w=.ok v' w'/\R v' w')
  (h:∀v' w',R v' w'->wpList P ops Q rest (a.put o.dst v') w'):wpList P ops Q (o :: rest) a w:=by
 refine wpList_plain hgd fun K hK=>?_;obtain⟨v',w',hr,hR⟩:=hrun;unfold Oper.wp execOp;simp only[ho,resolve,invoke,builtin,Sem.run_bind,Sem.run_pure,Result.andThen_ok,List.map_toArray,List.map_cons,List.map_nil,hs,hx,hr];exact hK _ _ (h v' w' hR)
end
section
open Go.RowKit Go.Deep
theorem zkW{w:World}{ad:Addr}{l:List (List Int)}(h:qn w (some ad) l){S:List (Option Nat)}(hS:∀k,some k∈S->w.heap.size<=k):∃cs:List Value,qq ClC S w cs l/\∀j u,cs[j]?=some u->ad.block<w.heap.size/\w.cell? (ad.add j)=some u:=by
 have each:∀i,i<l.length->∃u:Value,(∃(a:Option Addr) (cap:Nat),u=.slice a (l.getD i []).length cap/\ClC a (l.getD i []).length cap/\qZ S w a (l.getD i []))/\ad.block<w.heap.size/\w.cell? (ad.add i)=some u:=by
  intro i hi;obtain⟨ad',a',cap,e,h1,h2,h3,h4,h5⟩:=h i hi;obtain rfl:=Option.some.inj e;exact⟨_,⟨a',cap,rfl,⟨h3,h4⟩,qZ.of h5 hS⟩,h1,h2⟩
 obtain⟨q,hq⟩:=choose_lt (fun i hi=>each i hi);have hlen:((List.range l.length).map q).length=l.length:=by simp
 have hat:∀i,i<l.length->((List.range l.length).map q)[i]?=some (q i):=fun i hi=>by simp[hi]
 refine⟨(List.range l.length).map q,⟨hlen,fun i hi=>?_⟩,fun j u hj=>?_⟩
 ·obtain⟨a,cap,e,h1,h2⟩:=(hq i hi).1;exact⟨a,cap,by rw[hat i hi,e],h1,h2⟩
 ·have hj':j<l.length:=by have:=(List.getElem?_eq_some_iff.1 hj).1;rw[hlen] at this;exact this
  rw[hat j hj'] at hj;obtain rfl:=Option.some.inj hj;exact(hq j hj').2
theorem zjJ{w:World}{l:List (List Int)}{a:Option Addr}{cap:Nat}(ty:TypeId)(hI:qn w a l)(hn:a=none->cap=0)(hl:l.length<=200) :
  ∃v' W',(Builtin.append_ #[26,26] ty #[.slice (some ⟨w.heap.size,0,none⟩) 0 0,.slice a l.length cap]).run Tryz.prog (w.alloc (.cells #[] 81))=.ok v' W'/\(RAt w.heap.size W' l [] [] [] v' (.slice none 0 0) (.slice none 0 0) (.slice none 0 0)/\zB w W'):=by
 obtain⟨ic,hic,hc0,hc1,hc2⟩:=info_parts Qp;have hrow:=World.ownsRow_lit (base:=w.heap.size) (e:=81) (size:=1) w #[] 0 zN (by decide) rfl;have hbn:=zo w (.cells #[] 81);have fin:∀(v':Value) (W':World) (cs:List Value),W'.ownsRow w.heap.size 81 1 v' l.length cs->qq ClC (zu v' (.slice none 0 0) (.slice none 0 0) (.slice none 0 0)) W' cs l->RAt w.heap.size W' l [] [] [] v' (.slice none 0 0) (.slice none 0 0) (.slice none 0 0):=fun v' W' cs h1 h2 =>
  ⟨⟨cs,h1,h2⟩,⟨[],World.ownsRow_nil _ _ _ _,qq.nil⟩,⟨[],World.ownsRow_nil _ _ _ _,qq.nil⟩,World.ownsRow_nil _ _ _ _,yU.symm (Or.inl rfl),yU.symm (Or.inl rfl),yU.symm (Or.inl rfl),Or.inl rfl,Or.inl rfl,Or.inl rfl⟩
 cases a with
 |none =>
  obtain rfl:l=[]:=by
   cases l with
   |nil=>rfl
   |cons c l=>obtain⟨ad,_,_,e,_⟩:=hI 0 (by simp);cases e
  obtain rfl:=hn rfl;exact⟨_,_,run_append_owned_none _ w.heap.size 26 ty 81 ic 1 Tryz.underlying26 hic _ 0 [] hrow,fin _ _ [] hrow qq.nil,hbn⟩
 |some ad =>
  obtain⟨cs,hck,hcell⟩:=zkW hI (S:=[some w.heap.size,none,none,none]) (fun k hk=>by simp at hk;omega);obtain ⟨v',W',h1,h2,h3,h4,h5⟩:=run_append_own_at (P:=Tryz.prog) (w.alloc (.cells #[] 81)) w.heap.size 26 ty 81 ic (.slice none 0 0) 1 24 Tryz.underlying26 hic hc0 hc1 hc2 rfl (by decide) _ 0 [] hrow ad l.length cap cs (by rw [hck.1,Nat.mul_one]) (fun j u hu=>by
   obtain⟨q1,q2⟩:=hcell j u hu;rw [World.cell?_alloc_lt _ _ _ (by rw [yH];exact q1)];exact q2) hck.one (by unfold maxLen;omega) (by omega) (by simp)
  have hb7:zB w W':=hbn.grown h3 (by simp) (fun k hk=>by simp[Value.ownBlock] at hk;omega);refine⟨v',W',h1,fin v' W' cs (by simpa using h2) ?_,hb7⟩;refine(hck.new hbn).grown (S:=[some w.heap.size,none,none,none]) h3 (by simp[Value.ownBlock]) (fun k hk=>?_);simp only[zu,Value.ownBlock,List.mem_cons,List.not_mem_nil,or_false] at hk;have hk':some k=v'.ownBlock:=by
   rcases hk with e|e|e|e
   ·exact e
   all_goals cases e
  rcases h5 with h5|h5
  ·rw[hk',h5];exact Or.inl (by simp[Value.ownBlock])
  ·rw[h5] at hk';injection hk' with hk';exact Or.inr (by omega)
structure TL(s:St):Prop where
 t:s.told.length+qH s.told<=24
 d:∀d∈s.decs,d.2.length+qH d.2<=24
 p:∀c∈s.prf,c.length<=24
theorem zk2{l:List (List Int)}{v:Int}(hv:v<=24)(hl:qL v l){told t:List Int}{b:Int}(h:xv l told t b)(hc:qD told)(hs:ya v told)(hf:told.length+qH told<=24):t.length+qH t<=24:=by
 induction h with
 |stop _=>exact hf
 |step e hx _ ih =>obtain⟨h1,h2,h3,h4,h5⟩:=Yv hl hc hs e hx;have:=Qb (ZE hv h1) h2 h3;exact ih h4 h5 (by simp;omega)
structure Xt(w wr:World)(n:Nat)(l:List (List Int))(s:St)(r:Res)(aV dV mV pV:Value)(ta:Option Addr)(tc:Nat):Prop where
 at':RAt w.heap.size wr (l++s.prf) s.prf (s.decs.map Prod.fst) (s.decs.map Prod.snd) aV pV dV mV
 told:qZ (zu aV pV dV mV) wr ta s.told
 nil:ta=none->tc=0
 good:yW n s
 tl:TL s
 run:Run n l s r
 below:zB w wr
def zfq(r:Res)(e:Ending)(w':World):Prop :=
 (∃t,r=.sat t/\e=.returned (.tuple #[.bool true,.int .u64 (yb t 24:Int),.slice none 0 0,.bool true])) \/
 (∃prf pa pc,r=.unsat prf/\e=.returned (.tuple #[.bool false,.int .u64 0,.slice pa prf.length pc,.bool true])/\qn w' pa prf/\prf.length<=2000) \/
 (r=.limit/\e=.returned (.tuple #[.bool false,.int .u64 0,.slice none 0 0,.bool false]))
end
section
open Go.RowKit Go.Deep
theorem ziE(o k:Nat)(ho:o<16777216)(hk:k<24):bits BinOp.or IntKind.u64 (o:Int) ((2:Int)^k)=((o|||2^k:Nat):Int):=by
 have h24:2^k<=2^24:=Nat.pow_le_pow_right (by omega) (by omega);have h63:(2:Nat)^24<18446744073709551616:=by decide
 have e:((2:Int)^k)=((2^k:Nat):Int):=by simp
 rw[e,bits_or_u64_nat o (2^k) (by omega) (by omega)]
theorem zjO:(Tryz.prog.info? 47).map (fun i=>(i.zero,i.size,i.bytes))=some (some (.slice none 0 0),1,24):=by kernel_rfl
theorem zaQ{H c:Nat}{w:World}{a:Option Addr}{l:List Int}{S:List (Option Nat)}(h:w.ownsRow H 3 1 (.slice a l.length c) l.length (zd l))(hS:∀k,some k∈S->k<H):qZ S w a l:=fun i hi=>by
 obtain⟨ad,e,h1,h2⟩:=Qn h i hi;refine⟨ad,e,h1,fun hm=>?_,h2⟩;have:=hS _ hm;rcases h.2 with ⟨e',e0⟩|⟨g,cap,cur,e',hB,_⟩
 ·omega
 ·subst e;injection e' with e1 e2;injection e1 with e1;subst e1;simp at this;omega
theorem zdW(n:Nat)(hn24:n<=24)(l:List (List Int))(hls:qL n l)(h48:∀c∈l,c.length<=48)(hl200:l.length<=200)(a:Option Addr)(cap:Nat)(hnil:a=none->cap=0)(w:World)(hI:qn w a l)(r:Res)(hrun:Run n l st0 r) :
  zC 184 #[.int .i64 n,.slice a l.length cap] w fun e w'=>zfq r e w'/\zB w w':=by
 have HAPP:=zH (fun ty=>zjJ (w:=w) ty hI hnil hl200);have HLS:=zH hls;have H48:=zH h48;have HRUN:=zH hrun;clear hI hls h48 hrun hnil;go_enter Tryz.func184,Tryz.ntmps184;go_wp2_with (at_builtin;refine za1 rfl _ _ 26 rfl _ _ rfl rfl (HAPP.out _) ?_);intro aV w1 hat hbw;have HS0:Hid (Xt w w1 n l st0 r aV (.slice none 0 0) (.slice none 0 0) (.slice none 0 0) none 0):=⟨by simpa[st0] using hat,fun i hi=>by simp[st0] at hi,fun _=>rfl,QU n,⟨by have:=za5 st0.told;simpa[st0] using this,fun d hd=>by simp[st0] at hd,fun c hc=>by simp[st0] at hc⟩,HRUN.out,hbw⟩;clear hat hbw HAPP;go_wp2_with fail;go_loopg [8,9,10,11,12] (mu st0) (fun k aV tV dV mV pV wr=>∃(s:St) (ta:Option Addr) (tc:Nat),tV=.slice ta s.told.length tc/\Xt w wr n l s r aV dV mV pV ta tc/\mu s<=k)
 case atStart=>exact⟨st0,none,0,rfl,HS0.out,Nat.le_refl _⟩
 case round =>
  obtain⟨s,ta,tc,rfl,hss,hmu⟩:=hrel;clear HS0;obtain⟨cs,hcs,hck⟩:=hss.at'.arow;obtain⟨aa,ac,rfl,-,-⟩:=zJ hcs;have hlp:qL n (l++s.prf):=QN HLS.out hss.good.litsP;have hpl:=hss.good.pl;have hll:(l++s.prf).length<=2200:=by rw[List.length_append];omega
  have hp48:∀c∈l++s.prf,c.length<=48:=fun c hc=>by
   rcases List.mem_append.1 hc with h|h
   ·exact H48.out c h
   ·have:=hss.tl.p c h;omega
  obtain⟨t,b,hsp⟩:=zfK (l:=l++s.prf) (v:=(n:Int)) (by omega) hlp (qH s.told) s.told zN hss.good.cons hss.good.lits;have HSPR0:=zk5 n hn24 (l++s.prf) hlp hp48 aa ac s.told ta tc wr (hck.cls hcs) (by omega) hss.told.ints hss.nil hss.good.cons hss.good.lits hss.tl.t t b hsp;obtain⟨hrun2,hnx⟩:=zfu hsp hss.run;obtain⟨hgood2,hmu2⟩:=zhu hn24 HLS.out hsp hss.good;have hfew2:=zk2 (v:=(n:Int)) (by omega) hlp hsp hss.good.cons hss.good.lits hss.tl.t;have htlen:t.length<=24:=by omega
  have HSS:=zH hss;have HRUN2:=zH hrun2;have HNX:=zH hnx;have HGOOD2:=zH hgood2;have hmu3:=Nat.le_trans hmu2 hmu;have hsg:Hid (∀s',qy n l ⟨t,s.decs,s.prf⟩=.inl s'->yW n s'/\mu s'<mu ⟨t,s.decs,s.prf⟩):=fun s' h=>Qy (by omega) HLS.out hgood2 h;have hdl:s.decs.length<=24:=by have:=hss.good.few;omega
  obtain⟨ps,hps,-⟩:=hss.at'.prow;obtain⟨pa,pc,rfl,-,-⟩:=zJ hps;obtain⟨dcs,hds,-⟩:=hss.at'.drow;obtain⟨da,dc,hdv,-,-⟩:=zJ hds;rw[List.length_map] at hdv;subst hdv;obtain⟨ma,mc,hmv,-,-⟩:=zJ hss.at'.mrow;rw[List.length_map] at hmv;subst hmv;clear hcs hck hlp hp48 hsp hrun2 hnx hgood2 hss hps hds hmu2 hmu;generalize hL0:(l++s.prf).length=L0 at *;have HL0:=zH hL0;have HSPR:=zH HSPR0;clear hL0 HSPR0
  by_cases hb:0<=b
  ·-- a clause can't hold
   go_wp2_with fail;refine HSPR.out.mono ?_;rintro e w2 ⟨⟨ta2,tc2,rfl,-,-,-⟩,hb2⟩;have HA2:=zH (HSS.out.at'.new hb2);have HBW2:Hid (zB w w2):=zT HSS.out.below hb2;clear hb2 HSPR;go_wp2_with fail;go_loopw [15,35] (fun cV kV wr3=>∃k:Nat,k<=s.decs.length/\kV=.int .i64 k/\wr3.ownsRow w2.heap.size 3 1 cV ((zn s.decs).take k).length (zd ((zn s.decs).take k))/\zB w2 wr3) (fun _ kV _=>s.decs.length-(intOf kV).toNat)
   case atStart=>exact⟨0,Nat.zero_le _,rfl,World.ownsRow_nil _ _ _ _,Below.refl _ _⟩
   case round =>
    obtain⟨w3,rfl⟩:∃w3,w3=wr:=⟨_,rfl⟩;obtain⟨k,hk,rfl,hrow,hb3⟩:=hrel;have hHA3:=HA2.out.new hb3;have HROW:=zH hrow;have HB3:=zH hb3;have hs3:=hb3.size;clear hrow hb3
    by_cases hlt:k<s.decs.length
    ·have hI3:qh w3 ma (s.decs.map Prod.fst):=Qn (c:=mc) (by have:=hHA3.mrow;rw[List.length_map] at this ⊢;exact this);obtain⟨ad,rfl,hl',hc⟩:=hI3 k (by simpa using hlt);obtain⟨d,hd⟩:∃d,s.decs[k]?=some d:=⟨_,List.getElem?_eq_getElem hlt⟩;have hx:(s.decs.map Prod.fst).getD k 0=d.1:=by simp[List.getD_eq_getElem?_getD,hd]
     have hxl:=qw.1 (HSS.out.good.ds k d hd).2.2.2;have HTK:Hid ((zn s.decs).take (k+1)=(zn s.decs).take k++[-d.1]):=by
      have hk2:k<(zn s.decs).length:=by rw[yp];exact hlt
      show _=_;rw[XQ hk2];simp[zn,List.getD_eq_getElem?_getD,hd]
     have htl:((zn s.decs).take k).length=k:=by rw[List.length_take,yp];omega
     rw[hx] at hc;generalize d.1=x at *;obtain⟨hx1,hx2,hx3⟩:=hxl;have hx4:x<=24:=by omega
     have hx5:-24<=x:=by omega
     rw[htl] at HROW;clear hI3 hd hx hHA3;obtain⟨i0,hin,hz0,hz1,hz2⟩:=info_parts yY;go_wp2_with (first|(at_builtin;refine wpList_append_own_at _ rfl _ _ 81 rfl w2.heap.size 3 i0 (.int .i64 0) 1 8 Tryz.underlying81 hin hz0 hz1 hz2 rfl (by decide) _ _ _ rfl (HROW.out.alloc _) ⟨w3.heap.size,0,none⟩ 1 1 [.int .i64 (-x)] rfl rfl ?c1 ?c2 ?c3 ?c4 ?c5 ?_))
     case c1=>exact yJ _ _ _
     case c2=>exact yI _
     case c3=>unfold maxLen;omega
     case c4=>omega
     case c5=>simp;omega
     intro v7 w7 hown7 hgrow7 _ _;have HO7:Hid (w7.ownsRow w2.heap.size 3 1 v7 ((zn s.decs).take (k+1)).length (zd ((zn s.decs).take (k+1)))):=by
      show World.ownsRow _ _ _ _ _ _ _;rw[HTK.out,yO,List.length_append,htl];simpa using hown7
     have HB7:Hid (zB w2 w7):=(HB3.out.alloc hs3 _).grown hgrow7 (by simp;omega) (fun k hk=>(HROW.out.lt k hk).1);clear hown7 hgrow7;go_wp2;go_roundw
     case rel=>exact⟨k+1,hlt,by go_num,HO7.out,HB7.out⟩
     case measure=>simp[intOf];omega
    ·obtain rfl:k=s.decs.length:=by omega
     have hrow2:=HROW.out;rw[show (zn s.decs).take s.decs.length=zn s.decs by rw[<-yp s.decs,List.take_length],yp] at hrow2;obtain⟨ca,cc,rfl,hcc1,hcc2⟩:=zJ hrow2;have HIK:=zH (zaQ (l:=zn s.decs) (by rw[yp];exact hrow2) (fun k hk=>(HA2.out.lt k hk).2));obtain⟨ic,hic,hc0,hc1,hc2⟩:=info_parts Qp;obtain⟨cs,hcs,hck⟩:=hHA3.arow;rw[HL0.out] at hcs;have HCS:=zH hcs;have HCK:=zH hck;have HA3:=zH hHA3;have hsw:=HBW2.out.size;clear hcs hck hHA3 hrow2 HROW;go_wp2_with (first|(at_builtin;refine wpList_append_own_at _ rfl _ _ 26 rfl w.heap.size 81 ic (.slice none 0 0) 1 24 Tryz.underlying26 hic hc0 hc1 hc2 rfl (by decide) _ _ _ rfl (HCS.out.alloc _) ⟨w3.heap.size,0,none⟩ 1 1 [.slice ca s.decs.length cc] rfl rfl ?c1 ?c2 ?c3 ?c4 ?c5 ?_))
     case c1=>exact World.news_of_block (heap_alloc_new w3 _)
     case c2=>intro u hu;rw[List.mem_singleton] at hu;subst hu;rfl
     case c3=>unfold maxLen;omega
     case c4=>omega
     case c5=>rw[World.size_alloc];omega
     intro aV' w7 hown7 hgrow7 _ hloc7;have hbn:=zo w3 (.cells #[.slice ca s.decs.length cc] 81);rw[<-World.size_alloc w3 (.cells #[.slice ca s.decs.length cc] 81)] at hloc7;have ha7:=(HA3.out.new hbn).grow_a (c:=zn s.decs) (a:=ca) (cap:=cc) (cs:=cs) (HCK.out.new hbn) (by rw[HL0.out,yp];exact hown7) hgrow7 hloc7 ⟨by rw[yp];exact hcc1,hcc2⟩ (HIK.out.new hbn);have hi7:=(HIK.out.new hbn).grown hgrow7 (by simp[zu]) (zcr hloc7);have hb7:zB w w7:=((HBW2.out.trans (HB3.out.mono hsw)).trans (hbn.mono (by omega))).grown hgrow7 (by rw[World.size_alloc];omega) (fun k hk=>(HCS.out.lt k hk).1);obtain⟨aa',ac',rfl,-,-⟩:=zJ hown7;obtain⟨ps,hps,hpk⟩:=ha7.prow;have HPS:=zH hps;have HPK:=zH hpk;have HA7:=zH ha7;have HI7:=zH hi7;have HB7:=zH hb7;have hs7:=hb7.size;clear hown7 hgrow7 hloc7 hbn ha7 hi7 hb7 hps hpk HCS HCK HA3 HIK HA2 HB3;go_wp2_with (first|(at_builtin;refine wpList_append_own_at _ rfl _ _ 26 rfl w.heap.size 81 ic (.slice none 0 0) 1 24 Tryz.underlying26 hic hc0 hc1 hc2 rfl (by decide) _ _ _ rfl (HPS.out.alloc _) ⟨w7.heap.size,0,none⟩ 1 1 [.slice ca s.decs.length cc] rfl rfl ?c1 ?c2 ?c3 ?c4 ?c5 ?_))
     case c1=>exact World.news_of_block (heap_alloc_new w7 _)
     case c2=>intro u hu;rw[List.mem_singleton] at hu;subst hu;rfl
     case c3=>unfold maxLen;omega
     case c4=>omega
     case c5=>rw[World.size_alloc];omega
     intro pV' w9 hown9 hgrow9 _ hloc9;have hbn:=zo w7 (.cells #[.slice ca s.decs.length cc] 81);rw[<-World.size_alloc w7 (.cells #[.slice ca s.decs.length cc] 81)] at hloc9;have ha9:=(HA7.out.new hbn).grow_p (c:=zn s.decs) (a:=ca) (cap:=cc) (cs:=ps) (HPK.out.new hbn) (by rw[yp];exact hown9) hgrow9 hloc9 ⟨by rw[yp];exact hcc1,hcc2⟩ (HI7.out.new hbn);have hb9:zB w w9:=(HB7.out.trans (hbn.mono hs7)).grown hgrow9 (by rw[World.size_alloc];omega) (fun k hk=>(HPS.out.lt k hk).1);obtain⟨pa',pc',rfl,-,-⟩:=zJ hown9;rw[List.append_assoc] at ha9;have HA9:=zH ha9;have HB9:=zH hb9;clear hown9 hgrow9 hloc9 hbn ha9 hb9 HPS HPK HA7 HI7 HB7
     by_cases hd0:s.decs=[]
     ·have HRES:=zH (HRUN2.out.at_done (zbC (s:=⟨t,s.decs,s.prf⟩) HNX.out hb hd0));have hdz:s.decs.length=0:=by rw[hd0];rfl
      obtain⟨qs,hqs,hqk⟩:=HA9.out.prow;have HPC:=zH (hqk.cls (a:=pa') (cap:=pc') (by have:=hqs;rw[List.length_append,List.length_singleton] at this ⊢;exact this));clear hqs hqk;rw[hdz] at *;go_wp2;refine bodyPost_ret (v:=.tuple #[.bool false,.int .u64 0,.slice pa' (s.prf.length+1) pc',.bool true]) (by simp[results,Tryz.results184,go_sem]) rfl ?_;exact⟨Or.inr (Or.inl ⟨_,pa',pc',HRES.out,by rw[List.length_append];rfl,HPC.out,by rw[List.length_append,List.length_singleton];omega⟩),HB9.out⟩
     ·obtain⟨ds,⟨y,t1⟩,hds⟩:∃ds d,s.decs=ds++[d]:=⟨_,_,(List.dropLast_concat_getLast hd0).symm⟩;have hdlen:s.decs.length=ds.length+1:=by rw[hds];simp
      by_cases hlim:s.prf.length+1=2000
      ·have HRES:=zH (HRUN2.out.at_done (zaL (s:=⟨t,s.decs,s.prf⟩) HNX.out hb hds hlim));have hdn:((s.decs.length:Int)==0)=false:=by simp;omega
       clear hds hd0;generalize s.decs.length=D at *;go_wp2;refine bodyPost_ret (v:=.tuple #[.bool false,.int .u64 0,.slice none 0 0,.bool false]) (by simp[results,Tryz.results184,go_sem]) rfl ?_;exact⟨Or.inr (Or.inr ⟨HRES.out,rfl⟩),HB9.out⟩
      ·have hst:=zaU (v:=n) (s:=⟨t,s.decs,s.prf⟩) HNX.out hb hds hlim;have HGO:=zH (HRUN2.out.at_go hst);have HGD:=zH (hsg.out _ hst).1;have hmu4:=(hsg.out _ hst).2;have hA:RAt w.heap.size w9 (l++(s.prf++[zn s.decs])) (s.prf++[zn s.decs]) (ds.map Prod.fst++[y]) (ds.map Prod.snd++[t1]) (.slice aa' (L0+1) ac') (.slice pa' (s.prf.length+1) pc') (.slice da ((ds.map Prod.snd).length+1) dc) (.slice ma ((ds.map Prod.fst).length+1) mc):=by
        have:=HA9.out;rw[show s.decs.map Prod.fst=ds.map Prod.fst++[y] by rw[hds];simp,show s.decs.map Prod.snd=ds.map Prod.snd++[t1] by rw[hds];simp,hdlen] at this;rw[List.length_map,List.length_map];exact this
       obtain⟨g,gm,ta3,tc3,rfl,rfl,hgl,hgml,hdc,hmc,hcell,htc,hti3,hpop⟩:=hA.pop;rw[List.length_map] at hdc hmc hcell hti3 hpop;rw[List.length_map] at hti3 hpop;have hlt2:s.prf.length+1<2000:=by omega
       have HS5:Hid (∀q,Xt w (w9.drewN q) n l ⟨t1,ds,s.prf++[zn s.decs]⟩ r (.slice aa' (L0+1) ac') (.slice (some ⟨g,0,none⟩) ds.length dc) (.slice (some ⟨gm,0,none⟩) ds.length mc) (.slice pa' (s.prf.length+1) pc') ta3 tc3):=fun q=>by
        have hbq:zB w9 (w9.drewN q):=⟨rfl,rfl,rfl,Nat.le_refl _,fun _ _=>rfl⟩;exact ⟨hpop.new hbq,hti3.new hbq,htc,HGD.out,⟨HSS.out.tl.d (y,t1) (by rw [hds];simp),fun d hd=>HSS.out.tl.d d (by rw [hds];simp [hd]),fun c hc=>(by
         rcases List.mem_append.1 hc with h|h
         ·exact HSS.out.tl.p c h
         ·rw [List.mem_singleton] at h;rw [h,yp];exact hdl)⟩,HGO.out,zT HB9.out hbq⟩
       clear hA hst hti3 hpop htc hds hd0;have hdn:(((ds.length+1:Nat):Int)==0)=false:=by simp;omega
       have hsub:((ds.length+1:Nat):Int)-1=(ds.length:Int):=by omega
       generalize hS2:s.decs.length=D at *;subst hdlen;clear hS2;go_wp2_with fail;go_quiet (fail);go_wp2;go_roundg (mu ⟨t1,ds,s.prf++[zn s.decs]⟩)
       case rel=>exact⟨⟨t1,ds,s.prf++[zn s.decs]⟩,ta3,tc3,rfl,HS5.out _,Nat.le_refl _⟩
       case measure=>exact Nat.lt_of_lt_of_le hmu4 hmu3
  ·go_wp2_with fail;refine HSPR.out.mono ?_;rintro e w2 ⟨⟨ta2,tc2,rfl,hti,hnil2,hloc⟩,hb2⟩;have HA2:=zH (HSS.out.at'.new hb2);have HBW2:Hid (zB w w2):=zT HSS.out.below hb2;have HT2:=zH (HSS.out.told.loc hti hloc (fun k hk=>(HSS.out.at'.lt k hk).2));have HHAS:Hid (∀x,zC 246 #[.slice ta2 t.length tc2,.int .i64 x] w2 fun e w'=>e=.returned (.bool (decide (x∈t)))/\w2=w'):=fun x=>Xx t x ta2 tc2 w2 hti (by omega);have HNIL:=zH hnil2;clear hb2 HSPR hti hnil2 hloc;go_wp2_with fail;go_loop [18] (fun kV=>∃k:Nat,k<=n/\kV=.int .i64 ((k:Int)+1)/\∀j,j<k->tv t j≠0) (fun kV=>n+1-(intOf kV).toNat)
   case atStart=>exact⟨0,Nat.zero_le _,rfl,fun j h=>by omega⟩
   case round =>
    obtain⟨k,hk,rfl,h1⟩:=hrel;have H1:=zH h1;clear h1
    by_cases hlt:k<n
    ·have HH1:=HHAS.out ((k:Int)+1);have HH2:=HHAS.out (-((k:Int)+1));have hle:decide ((k:Int)+1<=(n:Int))=true:=by simp;omega
     by_cases q1:((k:Int)+1)∈t
     ·rw[decide_eq_true q1] at HH1;have HA:=zH HH1;have HTV:Hid (tv t k≠0):=by show tv t k≠0;unfold tv;rw[if_pos q1];omega
      clear HH1 HH2 q1;go_wp2_with fail;refine HA.out.mono ?_;rintro e w3 ⟨rfl,rfl⟩;go_wp2;go_round
      case rel=>exact ⟨k + 1,hlt,by go_num,fun j hj=>(by
       rcases Nat.lt_succ_iff_lt_or_eq.1 hj with e|e
       ·exact H1.out j e
       ·rw [e];exact HTV.out)⟩
      case measure=>simp[intOf];omega
     ·rw[decide_eq_false q1] at HH1;have HA:=zH HH1
      by_cases q2:(-((k:Int)+1))∈t
      ·rw[decide_eq_true q2] at HH2;have HA2':=zH HH2;have HTV:Hid (tv t k≠0):=by show tv t k≠0;unfold tv;rw[if_neg q1,if_pos (by simpa using q2)];omega
       clear HH1 HH2 q1 q2;go_wp2_with fail;refine HA.out.mono ?_;rintro e w3 ⟨rfl,rfl⟩;go_wp2_with fail;refine HA2'.out.mono ?_;rintro e w3 ⟨rfl,rfl⟩;go_wp2;go_round
       case rel=>exact ⟨k + 1,hlt,by go_num,fun j hj=>(by
        rcases Nat.lt_succ_iff_lt_or_eq.1 hj with e|e
        ·exact H1.out j e
        ·rw [e];exact HTV.out)⟩
       case measure=>simp[intOf];omega
      ·rw[decide_eq_false q2] at HH2;have HA2':=zH HH2;have HTV:Hid (tv t k=0):=by show tv t k=0;unfold tv;rw[if_neg q1,if_neg (by simpa using q2)]
       clear HH1 HH2;have hst:=zbc (v:=n) (s:=⟨t,s.decs,s.prf⟩) HNX.out (by omega) (by rw[zaO H1.out hlt HTV.out];omega);rw[zaO H1.out hlt HTV.out] at hst;have HGO:=zH (HRUN2.out.at_go hst);have HGD:=zH (hsg.out _ hst).1;have hmu4:=(hsg.out _ hst).2;have hft:qH (t++[(k:Int)+1])<qH t:=Qb (qw.2 ⟨by omega,by omega,by omega⟩) q1 q2;have HTL:Hid (TL ⟨t++[(k:Int) + 1],s.decs++[((k:Int) + 1,t)],s.prf⟩):=⟨by simp;omega,fun d hd=>(by
        rcases List.mem_append.1 hd with h|h
        ·exact HSS.out.tl.d d h
        ·rw [List.mem_singleton] at h;rw [h];exact hfew2),HSS.out.tl.p⟩
       obtain⟨i0,hin,hz0,hz1,hz2⟩:=info_parts yY;obtain⟨ii,hii,hy0,hy1,hy2⟩:=info_parts zjO;obtain⟨dcs,hds,hdk⟩:=HA2.out.drow;rw[List.length_map] at hds;have HDS:=zH hds;have HDK:=zH hdk;have hsw:=HBW2.out.size;clear hst q1 q2 hft hds hdk H1 HTV;go_wp2_with fail;refine HA.out.mono ?_;rintro e w3 ⟨rfl,rfl⟩;go_wp2_with fail;refine HA2'.out.mono ?_;rintro e w3 ⟨rfl,rfl⟩;go_wp2_with (first|(at_builtin;refine wpList_append_own_at _ rfl _ _ 373 rfl w.heap.size 47 ii (.slice none 0 0) 1 24 Tryz.underlying373 hii hy0 hy1 hy2 rfl (by decide) _ _ _ rfl (HDS.out.alloc _) ⟨w2.heap.size,0,none⟩ 1 1 [.slice ta2 t.length tc2] rfl rfl ?c1 ?c2 ?c3 ?c4 ?c5 ?_))
       case c1=>exact World.news_of_block (heap_alloc_new w2 _)
       case c2=>intro u hu;rw[List.mem_singleton] at hu;subst hu;rfl
       case c3=>unfold maxLen;omega
       case c4=>omega
       case c5=>rw[World.size_alloc];omega
       intro dV' w5 hown5 hgrow5 _ hloc5;have hbn:=zo w2 (.cells #[.slice ta2 t.length tc2] 47);rw[<-World.size_alloc w2 (.cells #[.slice ta2 t.length tc2] 47)] at hloc5;have ha5:=(HA2.out.new hbn).grow_d (c:=t) (a:=ta2) (cap:=tc2) (cs:=dcs) (HDK.out.new hbn) (by rw[List.length_map];exact hown5) hgrow5 hloc5 HNIL.out (HT2.out.new hbn);have ht5:=(HT2.out.new hbn).grown hgrow5 (by simp[zu]) (zby hloc5);have hb5:zB w w5:=(HBW2.out.trans (hbn.mono hsw)).grown hgrow5 (by rw[World.size_alloc];omega) (fun k hk=>(HDS.out.lt k hk).1);obtain⟨da',dc',rfl,-,-⟩:=zJ hown5;have hm5:=ha5.mrow;rw[List.length_map] at hm5;have HM5:=zH hm5;have HA5:=zH ha5;have HT5:=zH ht5;have HB5:=zH hb5;have hs5:=hb5.size;clear hown5 hgrow5 hloc5 hbn ha5 ht5 hb5 hm5 HDS HDK HA2 HT2 HHAS HA HA2';go_wp2_with (first|(at_builtin;refine wpList_append_own_at _ rfl _ _ 47 rfl w.heap.size 3 i0 (.int .i64 0) 1 8 Tryz.underlying47 hin hz0 hz1 hz2 rfl (by decide) _ _ _ rfl (HM5.out.alloc _) ⟨w5.heap.size,0,none⟩ 1 1 [.int .i64 ((k:Int)+1)] rfl rfl ?c1 ?c2 ?c3 ?c4 ?c5 ?_))
       case c1=>exact yJ _ _ _
       case c2=>exact yI _
       case c3=>unfold maxLen;omega
       case c4=>omega
       case c5=>rw[World.size_alloc];omega
       intro mV' w6 hown6 hgrow6 _ hloc6;have hbn:=zo w5 (.cells #[.int .i64 ((k:Int)+1)] 3);rw[<-World.size_alloc w5 (.cells #[.int .i64 ((k:Int)+1)] 3)] at hloc6;have ha6:=(HA5.out.new hbn).grow_m (x:=(k:Int)+1) (by rw[yO,List.length_append,List.length_map];exact hown6) hgrow6 hloc6;have ht6:=(HT5.out.new hbn).grown hgrow6 (by simp[zu]) (zaj hloc6);have hb6:zB w w6:=(HB5.out.trans (hbn.mono hs5)).grown hgrow6 (by rw[World.size_alloc];omega) (fun k hk=>(HM5.out.lt k hk).1);obtain⟨ma',mc',rfl,-,-⟩:=zJ hown6;have eA:=World.ownsRow_lit (base:=w6.heap.size) (e:=3) (size:=1) w6 #[] 0 zN (by decide) rfl;have bA:=zo w6 (.cells #[] 3);have HAT:=zH (fun ty=>YQ (H:=w6.heap.size) (k:=w6.heap.size) (told:=t) (ta:=ta2) (tc:=tc2) ty eA (ht6.ints.below bA) HNIL.out htlen bA.size);have HA6:=zH ha6;have HB6:=zH hb6;have HBA:=zH bA;have hs6:=hb6.size;clear hown6 hgrow6 hloc6 hbn ha6 ht6 hb6 eA bA HM5 HA5 HT5 HB5;go_wp2_with (first|(at_builtin;refine za1 rfl _ _ 47 rfl _ _ rfl rfl (HAT.out _) ?_));intro v8 w8 hr8 hg8;have hb8:zB w6 w8:=HBA.out.grown hg8 HBA.out.size (fun k hk=>by simp at hk;omega);obtain⟨ra,rc,rfl,-,-⟩:=zJ hr8;have HR8:=zH hr8;have HB8:=zH hb8;have hs8:=hb8.size;clear hr8 hg8 hb8 HAT HBA;go_wp2_with (first|(at_builtin;refine wpList_append_own_at _ rfl _ _ 47 rfl w6.heap.size 3 i0 (.int .i64 0) 1 8 Tryz.underlying47 hin hz0 hz1 hz2 rfl (by decide) _ _ _ rfl (HR8.out.alloc _) ⟨w8.heap.size,0,none⟩ 1 1 [.int .i64 ((k:Int)+1)] rfl rfl ?c1 ?c2 ?c3 ?c4 ?c5 ?_))
       case c1=>exact yJ _ _ _
       case c2=>exact yI _
       case c3=>unfold maxLen;omega
       case c4=>omega
       case c5=>rw[World.size_alloc];omega
       intro v9 w9 hown9 hgrow9 _ _;have hr9:w9.ownsRow w6.heap.size 3 1 v9 (t++[(k:Int)+1]).length (zd (t++[(k:Int)+1])):=by rw[yO];simpa using hown9
       have hb9:zB w6 w9:=(HB8.out.alloc hs8 _).grown hgrow9 (by rw[World.size_alloc];omega) (fun k hk=>(HR8.out.lt k hk).1);obtain⟨ta9,tc9,rfl,-,-⟩:=zJ hr9;have HS9:Hid (Xt w w9 n l ⟨t++[(k:Int)+1],s.decs++[((k:Int)+1,t)],s.prf⟩ r _ _ _ _ ta9 tc9):=⟨by have:=HA6.out.new hb9;simpa using this,zaQ hr9 (fun k hk=>(HA6.out.lt k hk).2),zfm hr9,HGD.out,HTL.out,HGO.out,HB6.out.trans (hb9.mono hs6)⟩;clear hown9 hgrow9 hr9 hb9 HR8 HB8 HA6 HB6;go_wp2;go_roundg (mu ⟨t++[(k:Int)+1],s.decs++[((k:Int)+1,t)],s.prf⟩)
       case rel=>exact⟨⟨t++[(k:Int)+1],s.decs++[((k:Int)+1,t)],s.prf⟩,ta9,tc9,rfl,HS9.out,Nat.le_refl _⟩
       case measure=>exact Nat.lt_of_lt_of_le hmu4 hmu3
    ·obtain rfl:k=n:=by omega
     have HRES:=zH (HRUN2.out.at_done (zcS (s:=⟨t,s.decs,s.prf⟩) HNX.out (by omega) (by rw[zfF H1.out];omega)));have HTI:=zH HT2.out.ints;have HLT:=zH HGOOD2.out.lits;clear H1 HHAS;go_wp2_with fail;go_loop [19,98] (fun vV jV=>∃j:Nat,j<=t.length/\jV=.int .i64 j/\vV=.int .u64 ((orF (t.take j):Nat):Int)) (fun _ jV=>t.length-(intOf jV).toNat)
     case atStart=>exact⟨0,Nat.zero_le _,rfl,rfl⟩
     case round =>
      obtain⟨j,hj,rfl,rfl⟩:=hrel
      by_cases hjl:j<t.length
      ·obtain⟨ad,rfl,hl',hc⟩:=HTI.out j hjl;have hlx:=qw.1 (HLT.out _ (yv (d:=0) hjl));have HSN:Hid (orF (t.take (j+1))=orS (orF (t.take j)) (t.getD j 0)):=by show _=_;rw[XQ hjl,zat]
       have hN:orF (t.take j)<16777216:=ziJ hn24 (fun x hx=>HLT.out x (List.mem_of_mem_take hx));generalize t.getD j 0=x at *;generalize orF (t.take j)=o at *;obtain⟨hx1,hx2,hx3⟩:=hlx
       by_cases hp:0<x
       ·obtain⟨m,hm⟩:∃m:Nat,x=(m:Int)+1:=⟨x.toNat-1,by omega⟩;subst hm;have hm24:m<24:=by omega
        have hi0:(0:Int)<=(m:Int):=by omega
        have hi1:(m:Int)<24:=by omega
        have hor:=ziE o m hN hm24;have hsh:=zao hm24;have hw2:IntKind.u64.wrap ((2:Int)^m)=(2:Int)^m:=by rw[show min m 64=m by omega] at hsh;exact hsh
        have HOR:=zH hor;have HSH:=zH hsh;have HW2:=zH hw2;have HN2:Hid (orF (t.take (j+1))=o|||2^m):=by
         show _=_;rw[HSN.out];unfold orS;rw[if_pos hp];congr 2
        clear hor hsh hw2;go_wp2;go_round
        case rel=>exact⟨j+1,hjl,by go_num,congrArg (Value.int .u64) (by rw[HN2.out];first|exact HOR.out|(rw[HW2.out];exact HOR.out)|(rw[HSH.out];exact HOR.out))⟩
        case measure=>simp[intOf];omega
       ·have HN2:Hid (orF (t.take (j+1))=o):=by show _=_;rw[HSN.out];unfold orS;rw[if_neg hp]
        go_wp2;go_round
        case rel=>exact⟨j+1,hjl,by go_num,by rw[HN2.out]⟩
        case measure=>simp[intOf];omega
      ·obtain rfl:j=t.length:=by omega
       rw[List.take_length,zbA hn24 HLT.out];go_wp2;refine bodyPost_ret (v:=.tuple #[.bool true,.int .u64 ((yb t 24:Nat):Int),.slice none 0 0,.bool true]) (by simp[results,Tryz.results184,go_sem]) rfl ?_;exact⟨Or.inl ⟨t,HRES.out,rfl⟩,HBW2.out⟩
end
end Go.Proofs.YtiihalknffbjpaaGreatDoor
