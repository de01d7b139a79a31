/- The search finds what there is, and the first: plain. -/
import Derived.Test.YtlmmkbnjhilbdaaGreatDoorClPlain
set_option maxHeartbeats 2000000
set_option maxRecDepth 100000
namespace Go.Proofs.YtlmmkbnjhilbdaaGreatDoor
section
open Go.RowKit Go.Deep
structure St where
 told:List Int
 decs:List (Int × List Int)
 prf:List (List Int)
inductive Res where
 |sat (told:List Int)
 |unsat (prf:List (List Int))
 |limit
def zA(decs:List (Int × List Int)):List Int:=decs.map fun d=>-d.1
def yX(v:Nat)(told:List Int):Int:=yT (fun i=>tv told i==0) (List.range v)
def qU(v:Nat)(l:List (List Int))(s:St):St ⊕ Res :=
 if (zG s.told (l++s.prf)).2≠0 then .inl { s with told:=s.told++[(zG s.told (l++s.prf)).2] }
 else if 0<=(zG s.told (l++s.prf)).1 then
  match s.decs.getLast? with
  |none=>.inr (.unsat (s.prf++[zA s.decs]))
  |some d=>if s.prf.length+1=2000 then .inr .limit else .inl ⟨d.2,s.decs.dropLast,s.prf++[zA s.decs]⟩
 else if yX v s.told<0 then .inr (.sat s.told)
 else .inl ⟨s.told++[yX v s.told+1],s.decs++[(yX v s.told+1,s.told)],s.prf⟩
inductive Run (v:Nat) (l:List (List Int)):St->Res->Prop
 |done {s:St} {r:Res} (h:qU v l s=.inr r):Run v l s r
 |go {s s':St} {r:Res} (h:qU v l s=.inl s') (hr:Run v l s' r):Run v l s r
theorem Run.at_done{v:Nat}{l:List (List Int)}{s:St}{r r':Res}(h:Run v l s r)(hd:qU v l s=.inr r'):r=r':=by
 cases h with
 |done h=>rw[hd] at h;cases h;rfl
 |go h _=>rw[hd] at h;cases h
theorem Run.at_go{v:Nat}{l:List (List Int)}{s s':St}{r:Res}(h:Run v l s r)(hd:qU v l s=.inl s'):Run v l s' r:=by
 cases h with
 |done h=>rw[hd] at h;cases h
 |go h hr=>rw[hd] at h;cases h;exact hr
def zmS(v:Nat)(k:Nat)(d:Int × List Int):Prop:=yd d.2/\zY v d.2/\k+free d.2<=24/\zO v d.1=true
structure zu(v:Nat)(s:St):Prop where
 cons:yd s.told
 lits:zY v s.told
 few:s.decs.length+free s.told<=24
 pl:s.prf.length<2000
 litsP:qs v s.prf
 ds:∀k d,s.decs[k]?=some d->zmS v k d
theorem zih(told:List Int):free told<=24:=by
 unfold free;refine Nat.le_trans List.countP_le_length ?_;simp
theorem Yd{v:Nat}{told:List Int}:(yX v told=-1/\∀i,i<v->tv told i≠0)\/∃k:Nat,yX v told=(k:Int)/\k<v/\tv told k=0/\∀i,i<k->tv told i≠0:=by
 unfold yX;rcases zbL (fun i=>tv told i==0) (List.range v) 0 with ⟨h,h1⟩|⟨k,h,hk,h1,h2⟩
 ·exact Or.inl ⟨h,fun i hi=>by simpa using h1 i (List.mem_range.2 hi)⟩
 ·rw[List.length_range] at hk;have e:(List.range v).getD k 0=k:=by simp[List.getD_eq_getElem?_getD,hk]
  rw[e] at h1;refine Or.inr ⟨k,h,hk,by simpa using h1,fun i hi=>?_⟩;have:=h2 i (by rw[List.take_range,List.mem_range];omega);simpa using this
theorem YZ{v:Int}{l m:List (List Int)}(h1:qs v l)(h2:qs v m):qs v (l++m):=fun c hc=>by
 rcases List.mem_append.1 hc with h|h
 ·exact h1 c h
 ·exact h2 c h
theorem zda{v:Nat}{s:St}(h:zu v s):zY v (zA s.decs):=by
 intro x hx;unfold zA at hx;obtain⟨d,hd,rfl⟩:=List.mem_map.1 hx;obtain⟨k,hk⟩:=List.getElem?_of_mem hd;have:=(h.ds k d hk).2.2.2;rw[qG] at *;omega
def mu(s:St):Nat:=(2000-s.prf.length)*25+free s.told
theorem XP{v:Nat}{l:List (List Int)}(hv:v<=24)(hl:qs v l){s s':St}(h:zu v s)(e:qU v l s=.inl s'):zu v s'/\mu s'<mu s:=by
 unfold qU at e;have hlp:=YZ hl h.litsP
 by_cases h1:(zG s.told (l++s.prf)).2≠0
 ·rw[if_pos h1] at e;injection e with e;subst e;obtain⟨q1,q2,q3,q4,q5⟩:=Ku hlp h.cons h.lits (i:=(zG s.told (l++s.prf)).1) (x:=(zG s.told (l++s.prf)).2) rfl h1;have hf:=zcO (Zz (by omega) q1) q2 q3;have:=h.few;exact⟨⟨q4,q5,by show s.decs.length+free (s.told++_)<=24;omega,h.pl,h.litsP,h.ds⟩,by unfold mu;show (2000-s.prf.length)*25+free (s.told++_)<_;omega⟩
 ·rw[if_neg h1] at e
  by_cases h2:0<=(zG s.told (l++s.prf)).1
  ·rw[if_pos h2] at e;cases hd:s.decs.getLast? with
   |none=>rw[hd] at e;cases e
   |some d =>
    rw[hd] at e
    by_cases h3:s.prf.length+1=2000
    ·simp only[if_pos h3] at e;cases e
    ·simp only[if_neg h3] at e;injection e with e;subst e;have hne:s.decs≠[]:=fun e=>by rw[e] at hd;cases hd
     have hpos:=List.length_pos_iff.2 hne;have hlast:s.decs[s.decs.length-1]?=some d:=by rw[<-List.getLast?_eq_getElem?];exact hd
     obtain⟨g1,g2,g3,g4⟩:=h.ds _ _ hlast;have hpl:=h.pl;refine⟨⟨g1,g2,by show s.decs.dropLast.length+free d.2<=24;rw[List.length_dropLast];exact g3,by show (s.prf++[_]).length<2000;simp;omega,YZ h.litsP (fun c hc=>by rw[List.mem_singleton] at hc;subst hc;exact zda h),fun k d' hk=>?_⟩,?_⟩
     ·have hk':s.decs.dropLast[k]?=some d':=hk;rw[List.getElem?_dropLast] at hk';split at hk'
      ·exact h.ds k d' hk'
      ·cases hk'
     ·have:=zih d.2;unfold mu;show (2000-(s.prf++[zA s.decs]).length)*25+free d.2<(2000-s.prf.length)*25+free s.told;simp only[List.length_append,List.length_singleton];have:2000-s.prf.length=(2000-(s.prf.length+1))+1:=by omega
      rw[this,Nat.add_mul];omega
  ·rw[if_neg h2] at e
   by_cases h3:yX v s.told<0
   ·rw[if_pos h3] at e;cases e
   ·rw[if_neg h3] at e;injection e with e;subst e;rcases Yd (v:=v) (told:=s.told) with ⟨h4,_⟩|⟨k,h4,hk,h5,_⟩
    ·omega
    ·have hlt:zO v ((k:Int)+1)=true:=by rw[qG];omega
     obtain⟨n1,n2⟩:=QO.1 h5;have hf:=zcO (Zz (by omega) hlt) n1 n2;have:=h.few;rw[h4];refine⟨⟨zfN h.cons (by omega) n2,zef h.lits hlt,?_,h.pl,h.litsP,fun j d hj=>?_⟩,?_⟩
     ·show (s.decs++[_]).length+free (s.told++_)<=24;simp only[List.length_append,List.length_singleton];omega
     ·have hj':(s.decs++[((k:Int)+1,s.told)])[j]?=some d:=hj;rw[List.getElem?_append] at hj';split at hj'
      ·exact h.ds j d hj'
      ·rename_i hge;have hjl:j-s.decs.length=0:=by
        rcases Nat.eq_zero_or_pos (j-s.decs.length) with h|h
        ·exact h
        ·rw[List.getElem?_eq_none (by simp;omega)] at hj';cases hj'
       rw[hjl] at hj';simp at hj';subst hj';exact⟨h.cons,h.lits,by show j+free s.told<=24;omega,hlt⟩
     ·unfold mu;show (2000-s.prf.length)*25+free (s.told++_)<_;omega
theorem zot{v:Nat}{l:List (List Int)}(hv:v<=24)(hl:qs v l):∀(n:Nat) (s:St),mu s<=n->zu v s->∃r,Run v l s r:=by
 intro n
 induction n with
 |zero =>
  intro s hm hg;cases e:qU v l s with
  |inr r=>exact⟨r,.done e⟩
  |inl s'=>have:=(XP hv hl hg e).2;omega
 |succ n ih =>
  intro s hm hg;cases e:qU v l s with
  |inr r=>exact⟨r,.done e⟩
  |inl s' =>obtain⟨g,hlt⟩:=XP hv hl hg e;obtain⟨r,hr⟩:=ih s' (by omega) g;exact⟨r,.go e hr⟩
def st0:St:=⟨[],[],[]⟩
theorem Kt(v:Nat):zu v st0:=⟨zlK,zkf v,by decide,by decide,(fun c hc=>by cases hc),(fun k d h=>by simp[st0] at h)⟩
end
section
open Go.RowKit
theorem zkq(F:Nat)(cb:Array Value)(p:List Int->Bool)(xs:List (List Int))(a:Option Addr)(cap:Nat)(w:World)(hm:xs.length<=9223372036854775807)
  (hent:∀args w,(callFunc F args).run Tryz.prog w=.ok (.enter F args) w) (hI:yr w a xs)
  (hf:∀W i (a':Option Addr) (cap':Nat),zB w W->i<xs.length->cap'<=9223372036854775807->(xs.getD i []).length<=cap'->zW W a' (xs.getD i [])->zR F (#[.slice a' (xs.getD i []).length cap']++cb) W (.bool (p (xs.getD i [])))) :
  zR 94 #[.slice a xs.length cap,.func (.func F) #[] cb] w (.int .i64 (yT p xs)):=by
 have HF:=zH hf;have HI:=zH hI;clear hf hI;go_enter Tryz.func94,Tryz.ntmps94;go_wp2_with fail;go_loopw [8] (fun kV wr=>∃k:Nat,k<=xs.length/\kV=.int .i64 k/\(∀j,j<k->p (xs.getD j [])=false)/\zB w wr) (fun kV _=>xs.length-(intOf kV).toNat)
 case atStart=>exact⟨0,Nat.zero_le _,rfl,fun j h=>by omega,Below.refl _ _⟩
 case round =>
  obtain⟨k,hk,rfl,h1,hbr⟩:=hrel;have H1:=zH h1;have HBR:=zH hbr;clear h1 hbr
  by_cases hlt:k<xs.length
  ·obtain⟨ad,a',cap',rfl,hl,hc,g1,g2,g3⟩:=HI.out.below HBR.out k hlt;have HC:=zH (HF.out wr k a' cap' HBR.out hlt g2 g1 g3);clear g3 g1 g2;cases hp:p (xs.getD k []) with
   |true =>rw[hp] at HC;have HP:=zH hp;clear hp;generalize hx:xs.getD k []=x at *;have HX:=zH hx;clear hx;go_wp2_with fail;refine HC.out.mono ?_;rintro e w1 ⟨rfl,hb1⟩;have HB1:Hid (zB w w1):=zT HBR.out hb1;clear hb1 HC;go_wp2;go_ret;exact⟨by rw[zeA H1.out hlt (by rw[HX.out];exact HP.out)];rfl,HB1.out⟩
   |false =>
    rw[hp] at HC;have HP:=zH hp;clear hp;generalize hx:xs.getD k []=x at *;have HX:=zH hx;clear hx;go_wp2_with fail;refine HC.out.mono ?_;rintro e w1 ⟨rfl,hb1⟩;have HB1:Hid (zB w w1):=zT HBR.out hb1;clear hb1 HC;go_wp2;go_roundw
    case rel=>exact ⟨k + 1,hlt,by go_num,fun j hj=>(by
     rcases Nat.lt_succ_iff_lt_or_eq.1 hj with e|e
     ·exact H1.out j e
     ·rw [e,HX.out];exact HP.out),HB1.out⟩
    case measure=>simp[intOf];omega
  ·obtain rfl:k=xs.length:=by omega
   go_wp2;go_ret;exact⟨by rw[zdD H1.out];rfl,HBR.out⟩
theorem zkY(F:Nat)(cb:Array Value)(p:List Int->Bool)(xs:List (List Int))(a:Option Addr)(cap:Nat)(w:World)(hm:xs.length<=9223372036854775807)
  (hent:∀args w,(callFunc F args).run Tryz.prog w=.ok (.enter F args) w) (hI:yr w a xs)
  (hf:∀W i (a':Option Addr) (cap':Nat),zB w W->i<xs.length->cap'<=9223372036854775807->(xs.getD i []).length<=cap'->zW W a' (xs.getD i [])->zR F (#[.slice a' (xs.getD i []).length cap']++cb) W (.bool (p (xs.getD i [])))) :
  zR 53 #[.slice a xs.length cap,.func (.func F) #[] cb] w (.bool (xs.any p)):=by
 have H:=zH (zkq F cb p xs a cap w hm hent hI hf);clear hf hI hent;rw[<-zfJ];generalize yT p xs=i at *;go_enter Tryz.func53,Tryz.ntmps53;go_wp2_with fail;refine H.out.mono ?_;rintro e w1 ⟨rfl,hb1⟩;have HB1:=zH hb1;clear hb1 H;go_wp2;go_ret;exact⟨by first|rfl|simp,HB1.out⟩
end
section
open Go.RowKit
def YF(vals:Nat)(l:List (List Int)):Bool:=l.all (Xq vals)
end
section
open Go.RowKit Go.Deep
theorem KP{vals:Nat}{x:Int}(hx:x≠0):xL vals (-x)=!xL vals x:=by
 unfold xL
 by_cases hp:0<x
 ·rw[if_neg (by omega),if_pos hp,Int.neg_neg]
 ·rw[if_pos (by omega),if_neg hp,Bool.not_not]
def Sat(vals:Nat)(xs:List Int):Prop:=∀x∈xs,xL vals x=true
def xh(vals:Nat)(l:List (List Int)):Prop:=∀c∈l,∃x∈c,xL vals x=true
theorem zds{vals:Nat}{l:List (List Int)}(h:YF vals l=true):xh vals l:=fun c hc=>by
 unfold YF at h;rw[List.all_eq_true] at h;have:=h c hc;unfold Xq at this;obtain⟨x,hx,h2⟩:=List.any_eq_true.1 this;unfold XW at h2;rw[Bool.and_eq_true] at h2;exact⟨x,hx,h2.2⟩
theorem zan{v:Int}{l:List (List Int)}(hl:qs v l){told:List Int}(hc:yd told){vals:Nat}(hs:xh vals l)(ht:Sat vals told):(0<=(zG told l).1->(zG told l).2≠0)/\((zG told l).2≠0->xL vals (zG told l).2=true):=by
 have hn:=XK (l:=l) hc;generalize zG told l=r at hn;cases hn with
 |none=>exact⟨fun h=>by simp at h,fun h=>absurd rfl h⟩
 |bad hk h =>exfalso;obtain⟨x,hx,hh⟩:=hs _ (y7 hk);have h0:=(qG.1 (hl _ (y7 hk) x hx)).1;have:=ht _ (h x hx).2;rw[KP h0,hh] at this;cases this
 |one hk hx h0 h1 h =>
  rename_i k x;refine⟨fun _=>(qG.1 (hl _ (y7 hk) _ hx)).1,fun _=>?_⟩;obtain⟨y,hy,hh⟩:=hs _ (y7 hk)
  by_cases e:y=x
  ·rw[<-e];exact hh
  ·exfalso;have hy0:=(qG.1 (hl _ (y7 hk) y hy)).1;have:=ht _ (h y hy e).2;rw[KP hy0,hh] at this;cases this
theorem zeM{vals:Nat}{told:List Int}{x:Int}(h:Sat vals told)(hx:xL vals x=true):Sat vals (told++[x]):=fun y hy=>by
 simp only[List.mem_append,List.mem_singleton] at hy;rcases hy with hy|hy
 ·exact h y hy
 ·rw[hy];exact hx
end
section
open Go.RowKit Go.Deep
structure xA(w:World)(p:Addr)(told:List Int):Prop where
 lt:p.block<w.heap.size
 cell:∀i,i<24->w.cell? (p.add i)=some (.int .i8 (tv told i))
 fz:∀i,i<24->w.frozen? (p.add i)=false
theorem xA.below{w w':World}{p:Addr}{told:List Int}(h:xA w p told)(hb:zB w w'):xA w' p told :=
 ⟨Nat.lt_of_lt_of_le h.lt hb.size,fun i hi=>(hb.cell (by rw[xD];exact h.lt)).trans (h.cell i hi),fun i hi=>(hb.frozen (by rw[xD];exact h.lt)).trans (h.fz i hi)⟩
theorem zkH{p:Addr}{i j:Nat}(h:p.add i=p.add j):i=j:=by
 unfold Addr.add at h
 by_cases hi:i=0<;>by_cases hj:j=0
 ·omega
 ·subst hi;rw[if_pos rfl,if_neg hj] at h;have:=congrArg Addr.off h;simp at this;omega
 ·subst hj;rw[if_pos rfl,if_neg hi] at h;have:=congrArg Addr.off h;simp at this;omega
 ·rw[if_neg hi,if_neg hj] at h;have:=congrArg Addr.off h;simp at this;omega
def yh(x:Int):Nat:=(if 0<x then x else -x).toNat-1
def xz(x:Int):Int:=if 0<x then 1 else -1
theorem xA.tell{w:World}{p:Addr}{told:List Int}(h:xA w p told){x:Int}(hx:zO 24 x=true)(hn:-x∉told):xA (w.setCell (p.add (yh x)) (.int .i8 (xz x))) p (told++[x]):=by
 rw[qG] at hx;have ht:yh x<24:=by unfold yh;split<;>omega
 refine⟨by simpa[World.setCell] using h.lt,fun i hi=>?_,fun i hi=>by rw[World.frozen?_setCell];exact h.fz i hi⟩;rw[JO hn]
 by_cases e:i=yh x
 ·rw[e,World.cell?_setCell_same' _ _ _ (by rw[h.cell _ ht];rfl)];unfold yh xz
  by_cases hp:0<x
  ·rw[if_pos hp,if_pos hp,if_pos (by omega)]
  ·rw[if_neg hp,if_neg hp,if_neg (by omega),if_pos (by omega)]
 ·rw[World.cell?_setCell_other _ _ _ _ (fun h=>e (zkH h).symm),h.cell i hi];unfold yh at e
  by_cases hp:0<x
  ·rw[if_pos hp] at e;rw[if_neg (by omega),if_neg (by omega)]
  ·rw[if_neg hp] at e;rw[if_neg (by omega),if_neg (by omega)]
theorem zdQ(p:Addr)(told:List Int)(hc:yd told)(x:Int)(hx:zO 24 x=true)(w:World)(hv:xA w p told) :
  zC 201 #[.pointer (some p),.int .i64 x] w fun e w'=>e=.returned (.int .i8 (qQ told x))/\w=w':=by
 rw[qG] at hx
 by_cases hp:0<x
 ·obtain⟨t,rfl⟩:∃t:Nat,x=(t:Int)+1:=⟨x.toNat-1,by omega⟩;have ht:t<24:=by omega
  have hc:=hv.cell t ht;rw[zoN];clear hx hv;generalize tv told t=s at *;go_enter Tryz.func201,Tryz.ntmps201;go_wp2;go_ret;exact⟨rfl,rfl⟩
 ·obtain⟨t,rfl⟩:∃t:Nat,x=-((t:Int)+1):=⟨(-x).toNat-1,by omega⟩;have ht:t<24:=by omega
  have hcl:=hv.cell t ht;have hb:=zlY told t;rw[zpw hc];clear hx hv hc;generalize tv told t=s at *;have hw:IntKind.i8.wrap (-s)=-s:=by
   have:s=-1\/s=0\/s=1:=by omega
   rcases this with rfl|rfl|rfl<;>decide
  go_enter Tryz.func201,Tryz.ntmps201;go_wp2;go_ret;exact⟨by first|rfl|simp[hw],rfl⟩
theorem zam(p:Addr)(told:List Int)(x:Int)(hx:zO 24 x=true)(w:World)(hv:xA w p told) :
  zC 121 #[.pointer (some p),.int .i64 x] w fun e w'=>e=.returned (.tuple #[])/\w'=w.setCell (p.add (yh x)) (.int .i8 (xz x)):=by
 rw[qG] at hx
 by_cases hp:0<x
 ·obtain⟨t,rfl⟩:∃t:Nat,x=(t:Int)+1:=⟨x.toNat-1,by omega⟩;have ht:t<24:=by omega
  have hc:=hv.cell t ht;have hf:=hv.fz t ht;have e1:yh ((t:Int)+1)=t:=by unfold yh;rw[if_pos hp];omega
  have e2:xz ((t:Int)+1)=1:=by unfold xz;rw[if_pos hp]
  rw[e1,e2];clear hx hv e1 e2;go_enter Tryz.func121,Tryz.ntmps121;go_wp2;refine bodyPost_end (v:=.tuple #[]) (by simp[results,Tryz.results121,go_sem]) rfl ?_;exact⟨rfl,rfl⟩
 ·obtain⟨t,rfl⟩:∃t:Nat,x=-((t:Int)+1):=⟨(-x).toNat-1,by omega⟩;have ht:t<24:=by omega
  have hc:=hv.cell t ht;have hf:=hv.fz t ht;have e1:yh (-((t:Int)+1))=t:=by unfold yh;rw[if_neg hp];omega
  have e2:xz (-((t:Int)+1))=-1:=by unfold xz;rw[if_neg hp]
  rw[e1,e2];clear hx hv e1 e2;go_enter Tryz.func121,Tryz.ntmps121;go_wp2;refine bodyPost_end (v:=.tuple #[]) (by simp[results,Tryz.results121,go_sem]) rfl ?_;exact⟨rfl,rfl⟩
theorem zgP(p:Addr)(told:List Int)(hc:yd told)(x:Int)(hx:zO 24 x=true)(b:Nat)(w:World)(hv:xA w p told)(hb:w.cell? ⟨b,0,none⟩=some (.pointer (some p))) :
  zC 200 #[.int .i64 x,.pointer (some ⟨b,0,none⟩)] w fun e w'=>e=.returned (.bool (decide (0<=qQ told x)))/\w=w':=by
 have HS:=zH (zdQ p told hc x hx w hv);clear hv hx hc;generalize qQ told x=s at *;go_enter Tryz.func200,Tryz.ntmps200;go_wp2_with fail;refine HS.out.mono ?_;rintro e w1 ⟨rfl,rfl⟩;go_wp2;go_ret;exact⟨by first|rfl|simp,rfl⟩
theorem zkU(p:Addr)(told:List Int)(hc:yd told)(x one:Int)(hx:zO 24 x=true)(b b2:Nat)(w:World)(hv:xA w p told)(hb:w.cell? ⟨b,0,none⟩=some (.pointer (some p)))(hb2:w.cell? ⟨b2,0,none⟩=some (.int .i64 one)) :
  zC 202 #[.int .i64 x,.pointer (some ⟨b,0,none⟩),.pointer (some ⟨b2,0,none⟩)] w fun e w'=>e=.returned (.bool (Zi told one x))/\w=w':=by
 have HS:=zH (zdQ p told hc x hx w hv);have hsb:=ziX told x;unfold Zi;clear hv hx hc;generalize qQ told x=s at *;rcases hsb with rfl|rfl|rfl
 ·go_enter Tryz.func202,Tryz.ntmps202;go_wp2_with (go_at_call 201;refine HS.out.mono ?_;rintro e w1 ⟨rfl,rfl⟩);go_ret;exact⟨by first|rfl|simp,rfl⟩
 ·go_enter Tryz.func202,Tryz.ntmps202;go_wp2_with (go_at_call 201;refine HS.out.mono ?_;rintro e w1 ⟨rfl,rfl⟩);go_ret;exact⟨by first|rfl|simp,rfl⟩
 ·go_enter Tryz.func202,Tryz.ntmps202;go_wp2_with (go_at_call 201;refine HS.out.mono ?_;rintro e w1 ⟨rfl,rfl⟩);go_ret;exact⟨by first|rfl|simp,rfl⟩
theorem zW.drop{w:World}{ad:Addr}{xs:List Int}(h:zW w (some ad) xs)(k:Nat):zW w (some (ad.add k)) (xs.drop k):=by
 intro i hi;rw[List.length_drop] at hi;obtain⟨ad',e,hl,hc⟩:=h (k+i) (by omega);obtain rfl:=Option.some.inj e;refine⟨_,rfl,by rw[xD];exact hl,?_⟩;rw[add_add,hc];simp[List.getD_eq_getElem?_getD]
theorem zo0:∀args w,(callFunc 200 args).run Tryz.prog w=.ok (.enter 200 args) w:=by intro args w;kernel_rfl
theorem zny:∀args w,(callFunc 202 args).run Tryz.prog w=.ok (.enter 202 args) w:=by intro args w;kernel_rfl
theorem znh(p:Addr)(told:List Int)(hc:yd told)(c:List Int)(hx:zY 24 c)(a:Option Addr)(cap:Nat)(w:World)(hv:xA w p told)(hI:zW w a c)(hm:cap<=9223372036854775807)(hm2:c.length<=cap) :
  zR 161 #[.pointer (some p),.slice a c.length cap] w (.tuple #[.int .i64 (q8 told c).1,.bool (q8 told c).2]):=by
 have hb0:=below_new w (.cells #[.pointer (some p)] 263);have hc0:∀W,Below (w.heap.size+1) (w.alloc (.cells #[.pointer (some p)] 263)) W->W.cell? ⟨w.heap.size,0,none⟩=some (.pointer (some p)):=fun W hW=>(hW.cell (p:=⟨w.heap.size,0,none⟩) (by simp)).trans (by simp);have HIX:=zH (zcu 200 #[.pointer (some ⟨w.heap.size,0,none⟩)] (fun x=>decide (0<=qQ told x)) c a cap (w.alloc (.cells #[.pointer (some p)] 263)) (by omega) zo0 (hI.below hb0) (fun W i hW hi=>(zgP p told hc (c.getD i 0) (hx _ (y7 hi)) w.heap.size W ((hv.below hb0).below hW) (hc0 W (hW.mono (by simp)))).mono fun e w' ⟨he,hw⟩=>⟨he,hw▸Below.refl _ _⟩));have HB0:=zH hb0;have HC0:=zH hc0;have HV:=zH hv;have HI:=zH hI;have HX:=zH hx;have HCO:=zH hc;clear hb0 hc0 hv hI hx hc;rcases zbL (fun x=>decide (0<=qQ told x)) c 0 with ⟨hi,-⟩|⟨k,hi,hk,-,-⟩
 ·have hres:q8 told c=(0,true):=by unfold q8;rw[hi,if_pos (by omega)]
  rw[hres];rw[hi] at HIX;clear hi hres;go_enter Tryz.func161,Tryz.ntmps161;go_wp2_with fail;refine HIX.out.mono ?_;rintro e w1 ⟨rfl,hb1⟩;have HB1:Hid (zB w w1):=HB0.out.trans (hb1.mono (by simp));clear hb1 HIX;go_wp2;go_ret2;exact⟨rfl,HB1.out⟩
 ·have hres:q8 told c=if (c.drop k).any (Zi told (c.getD k 0)) then (0,false) else (c.getD k 0,true):=by
   unfold q8;rw[hi,if_neg (by omega),Int.toNat_natCast]
  rw[hi] at HIX;have HRES:=zH hres;clear hi hres;obtain⟨ad,rfl,-,-⟩:=HI.out k hk;go_enter Tryz.func161,Tryz.ntmps161;go_wp2_with fail;refine HIX.out.mono ?_;rintro e w1 ⟨rfl,hb1⟩;replace hb1:=Below.mono (B':=w.heap.size+1) hb1 (by simp);have hb1':zB w w1:=HB0.out.trans (hb1.mono (by omega));have hI1:=HI.out.below hb1';have hv1:=HV.out.below hb1';obtain⟨ad',ea,hl,hcell⟩:=hI1 k hk;obtain rfl:=Option.some.inj ea;clear ea;generalize hone:c.getD k 0=one at *;have hb2:zB w1 (w1.alloc (.cells #[.int .i64 one] 3)):=below_new w1 _;have hlen:(c.drop k).length=c.length-k:=by simp
  have HCF:=JE 202 #[.pointer (some ⟨w.heap.size,0,none⟩),.pointer (some ⟨w1.heap.size,0,none⟩)] (Zi told one) (c.drop k) (some (ad.add k)) (cap-k) (w1.alloc (.cells #[.int .i64 one] 3)) (by rw[hlen];omega) zny ((hI1.below hb2).drop k) (fun W i hW hi=>(zkU p told HCO.out ((c.drop k).getD i 0) one (HX.out _ (List.mem_of_mem_drop (y7 hi))) w.heap.size w1.heap.size W ((hv1.below hb2).below hW) (HC0.out W (hb1.trans ((hb2.trans (hW.mono (by simp))).mono (by have:=hb1.size;rw[World.size_alloc] at this;exact this)))) ((hW.cell (p:=⟨w1.heap.size,0,none⟩) (by simp)).trans (by simp))).mono fun e w' ⟨he,hw⟩=>⟨he,hw▸Below.refl _ _⟩);rw[hlen] at HCF;have HCFF:=zH HCF;have HBX:Hid (∀W,Below (w1.alloc (.cells #[.int .i64 one] 3)).heap.size (w1.alloc (.cells #[.int .i64 one] 3)) W->zB w W/\W.cell? ⟨w1.heap.size,0,none⟩=some (.int .i64 one)):=fun W hW=>⟨hb1'.trans ((hb2.trans (hW.mono (by simp))).mono hb1'.size),(hW.cell (p:=⟨w1.heap.size,0,none⟩) (by simp)).trans (by simp)⟩;clear HCF hlen hb1 hb1' hI1 hv1 HIX hb2 hone;generalize hmore:(c.drop k).any (Zi told one)=more at *;clear hmore;cases more with
  |true =>have HR2:Hid (q8 told c=(0,false)):=HRES.out;clear HRES;go_wp2_with fail;refine HCFF.out.mono ?_;rintro e w2 ⟨rfl,hb2⟩;have HB2:=zH (HBX.out _ hb2);clear hb2 HCFF HBX;go_wp2;go_ret2;exact⟨by rw[HR2.out];rfl,HB2.out.1⟩
  |false =>have HR2:Hid (q8 told c=(one,true)):=HRES.out;clear HRES;go_wp2_with fail;refine HCFF.out.mono ?_;rintro e w2 ⟨rfl,hb2⟩;have HB2:=zH (HBX.out _ hb2);have hone:=HB2.out.2;clear hb2 HCFF HBX;go_wp2;go_ret2;exact⟨by rw[HR2.out];rfl,HB2.out.1⟩
theorem zjO(p:Addr)(told:List Int)(hc:yd told)(l:List (List Int))(hx:qs 24 l)(a:Option Addr)(cap:Nat)(w:World)(hv:xA w p told)(hI:yr w a l)(hm:l.length<=9223372036854775807) :
  zR 120 #[.pointer (some p),.slice a l.length cap] w (.tuple #[.int .i64 (zG told l).1,.int .i64 (zG told l).2]):=by
 have HV:=zH hv;have HI:=zH hI;have HX:=zH hx;have HCO:=zH hc;clear hv hI hx hc;go_enter Tryz.func120,Tryz.ntmps120;go_wp2_with fail;go_loopw [12] (fun kV wr=>∃k:Nat,k<=l.length/\kV=.int .i64 k/\(∀j,j<k->(q8 told (l.getD j [])).2=false)/\zB w wr) (fun kV _=>l.length-(intOf kV).toNat)
 case atStart=>exact⟨0,Nat.zero_le _,rfl,fun j h=>by omega,Below.refl _ _⟩
 case round =>
  obtain⟨k,hk,rfl,h1,hbr⟩:=hrel;have H1:=zH h1;have HBR:=zH hbr;clear h1 hbr
  by_cases hlt:k<l.length
  ·obtain⟨ad,a',cap',rfl,hl',hcl,g1,g2,g3⟩:=HI.out.below HBR.out k hlt;have HON:=zH (znh p told HCO.out (l.getD k []) (HX.out _ (y7 hlt)) a' cap' wr (HV.out.below HBR.out) g3 g2 g1);have HN:Hid ((q8 told (l.getD k [])).2=true->zG told l=((k:Int),(q8 told (l.getD k [])).1)):=fun h=>zju H1.out hlt h;generalize hcc:l.getD k []=c at *;have HCC:=zH hcc;clear hcc;generalize hr:q8 told c=r at *;have HRR:=zH hr;obtain⟨x,ok⟩:=r;simp only at HON HN;clear g3 hr;cases ok with
   |true =>have HR:Hid (zG told l=((k:Int),x)):=HN.out rfl;clear HN;go_wp2_with fail;refine HON.out.mono ?_;rintro e w1 ⟨rfl,hb1⟩;have HB1:Hid (zB w w1):=zT HBR.out hb1;clear hb1 HON;go_wp2;go_ret2;exact⟨by rw[HR.out];rfl,HB1.out⟩
   |false =>
    clear HN;go_wp2_with fail;refine HON.out.mono ?_;rintro e w1 ⟨rfl,hb1⟩;have HB1:Hid (zB w w1):=zT HBR.out hb1;clear hb1 HON;go_wp2;go_roundw
    case rel=>exact ⟨k + 1,hlt,by go_num,fun j hj=>(by
     rcases Nat.lt_succ_iff_lt_or_eq.1 hj with e|e
     ·exact H1.out j e
     ·rw [e,HCC.out,HRR.out]),HB1.out⟩
    case measure=>simp[intOf];omega
  ·obtain rfl:k=l.length:=by omega
   have HR:Hid (zG told l=(-1,0)):=znj H1.out;go_wp2;go_ret2;exact⟨by rw[HR.out];rfl,HBR.out⟩
end
section
open Go.RowKit Go.Deep
def tvl(told:List Int):List Value:=(List.range 24).map fun i=>Value.int .i8 (tv told i)
theorem Jo(told:List Int)(i:Nat)(h:i<24):(tvl told)[i]?=some (.int .i8 (tv told i)):=by simp[tvl,h]
theorem qI(told:List Int):(tvl told).length=24:=by simp[tvl]
theorem zmE{W:World}{b:Nat}{t:TypeId}{pre post:List Value}{told:List Int}(h:Blk W b t (pre++tvl told++post).toArray):xA W ⟨b,pre.length,none⟩ told:=by
 refine⟨h.lt,fun i hi=>?_,fun i hi=>?_⟩
 ·rw[add_plain,h.cell,List.getElem?_toArray,List.append_assoc,List.getElem?_append_right (by omega),Nat.add_sub_cancel_left,List.getElem?_append_left (by rw[qI];exact hi),Jo _ _ hi]
 ·rw[add_plain];exact h.frozen _
theorem zl2{told:List Int}{x:Int}(hx:zO 24 x=true)(hn:-x∉told):(tvl told).set (yh x) (.int .i8 (xz x))=tvl (told++[x]):=by
 rw[qG] at hx;apply List.ext_getElem?;intro i;rw[List.getElem?_set,qI]
 by_cases hi:i<24
 ·rw[Jo _ _ hi,Jo _ _ hi,JO hn];unfold yh xz
  by_cases hp:0<x
  ·rw[if_pos hp,if_pos hp]
   by_cases e:x.toNat-1=i
   ·rw[if_pos e,if_pos (by omega),if_pos (by omega)]
   ·rw[if_neg e,if_neg (by omega),if_neg (by omega)]
  ·rw[if_neg hp,if_neg hp]
   by_cases e:(-x).toNat-1=i
   ·rw[if_pos e,if_pos (by omega),if_neg (by omega),if_pos (by omega)]
   ·rw[if_neg e,if_neg (by omega),if_neg (by omega)]
 ·rw[List.getElem?_eq_none (by rw[qI];omega),List.getElem?_eq_none (by rw[qI];omega)];have:yh x<24:=by unfold yh;split<;>omega
  rw[if_neg (by omega)]
theorem zos{W:World}{b:Nat}{t:TypeId}{pre post:List Value}{told:List Int}{x:Int}(hx:zO 24 x=true)(hn:-x∉told)(h:Blk W b t (pre++tvl told++post).toArray) :
  Blk (W.setCell ((⟨b,pre.length,none⟩:Addr).add (yh x)) (.int .i8 (xz x))) b t (pre++tvl (told++[x])++post).toArray:=by
 have:=h.set (i:=pre.length+yh x) (v:=.int .i8 (xz x));have ht:yh x<24:=by rw[qG] at hx;unfold yh;split<;>omega
 rw[add_plain];rw[List.setIfInBounds_toArray,List.append_assoc,List.set_append_right _ _ (by omega),Nat.add_sub_cancel_left,List.set_append_left _ _ (by rw[qI];exact ht),zl2 hx hn,<-List.append_assoc] at this;exact this
end
section
open Go.RowKit Go.Deep
def yO(told:List Int):Nat->Nat
 |0=>0
 |k+1=>if 0<tv told k then yO told k|||2^k else yO told k
theorem zes(told:List Int):∀k,yO told k<2^k
 |0=>by simp[yO]
 |k+1=>by
  have h:=zes told k;have h2:2^k<2^(k+1):=Nat.pow_lt_pow_right (by omega) (by omega);unfold yO;split
  ·exact Nat.or_lt_two_pow (by omega) h2
  ·omega
theorem JK(told:List Int):∀k i,(yO told k).testBit i=(decide (i<k)&&decide (0<tv told i))
 |0,i=>by simp[yO]
 |k+1,i=>by
  have h:=JK told k i;unfold yO;split
  ·rename_i hp;rw[Nat.testBit_or,h,Nat.testBit_two_pow]
   by_cases e:k=i
   ·subst e;simp[hp]
   ·by_cases h1:i<k
    ·simp[h1,e,show i<k+1 by omega]
    ·simp[h1,e,show ¬i<k+1 by omega]
  ·rename_i hp;rw[h]
   by_cases e:k=i
   ·subst e;simp[hp]
   ·by_cases h1:i<k
    ·simp[h1,show i<k+1 by omega]
    ·simp[h1,show ¬i<k+1 by omega]
theorem zg7(o k:Nat)(ho:o<2^k)(hk:k<24):bits BinOp.or IntKind.u64 (o:Int) ((2:Int)^k)=((o|||2^k:Nat):Int):=by
 have h24:2^k<=2^24:=Nat.pow_le_pow_right (by omega) (by omega);have h63:(2:Nat)^24<18446744073709551616:=by decide
 have e:((2:Int)^k)=((2^k:Nat):Int):=by simp
 rw[e,bits_or_u64_nat o (2^k) (by omega) (by omega)]
theorem zmi{k:Nat}(hk:k<24):IntKind.u64.wrap (2^min k 64)=(2:Int)^k:=by
 have h24:2^k<=2^24:=Nat.pow_le_pow_right (by omega) (by omega);have h63:(2:Nat)^24<2^63:=by decide
 have e:((2:Int)^k)=((2^k:Nat):Int):=by simp
 rw[show min k 64=k by omega,e,IntKind.wrap_u64];exact Int.emod_eq_of_lt (Int.natCast_nonneg _) (by omega)
theorem zkr(p:Addr)(told:List Int)(w:World)(hv:xA w p told) :
  zR 125 #[.pointer (some p)] w (.int .u64 ((yO told 24:Nat):Int)):=by
 have HV:=zH hv;clear hv;go_enter Tryz.func125,Tryz.ntmps125;go_wp2_with fail;go_loopw [3,7] (fun nV kV wr=>∃k:Nat,k<=24/\kV=.int .i64 k/\nV=.int .u64 ((yO told k:Nat):Int)/\zB w wr) (fun _ kV _=>24-(intOf kV).toNat)
 case atStart=>exact⟨0,by omega,rfl,rfl,Below.refl _ _⟩
 case round =>
  obtain⟨k,hk,rfl,rfl,hbr⟩:=hrel;have HBR:=zH hbr;clear hbr
  by_cases hlt:k<24
  ·have hc:=(HV.out.below HBR.out).cell k hlt;have hi0:(0:Int)<=(k:Int):=by omega
   have hi1:(k:Int)<24:=by omega
   have hor:=zg7 (yO told k) k (zes told k) hlt;have hsh:=zmi hlt;have hw2:IntKind.u64.wrap ((2:Int)^k)=(2:Int)^k:=by rw[show min k 64=k by omega] at hsh;exact hsh
   have HOR:=zH hor;have HSH:=zH hsh;have HW2:=zH hw2;have HN:Hid (yO told (k+1)=if 0<tv told k then yO told k|||2^k else yO told k):=rfl;clear hor hsh hw2;generalize tv told k=s at *;generalize yO told k=o at *;go_wp2_with fail;go_quiet (fail);have hbn:zB w (wr.drewN nq):=HBR.out.trans ⟨rfl,rfl,rfl,Nat.le_refl _,fun _ _=>rfl⟩;have HBN:=zH hbn;clear hbn
   by_cases hp:0<s
   ·have HN2:=zH (HN.out.trans (if_pos hp));go_wp2;go_roundw
    case rel=>exact⟨k+1,hlt,by go_num,congrArg (Value.int .u64) (by rw[HN2.out];first|exact HOR.out|(rw[HW2.out];exact HOR.out)|(rw[HSH.out];exact HOR.out)),HBN.out⟩
    case measure=>simp[intOf];omega
   ·have HN2:=zH (HN.out.trans (if_neg hp));go_wp2;go_roundw
    case rel=>exact⟨k+1,hlt,by go_num,by rw[HN2.out],HBN.out⟩
    case measure=>simp[intOf];omega
  ·obtain rfl:k=24:=by omega
   go_wp2;go_ret;exact⟨rfl,HBR.out⟩
theorem zoG(p:Addr)(told:List Int)(v:Nat)(hv24:v<=24)(cap:Nat)(w:World)(hv:xA w p told) :
  zC 124 #[.slice (some p) v cap,.int .i8 0] w fun e w'=>e=.returned (.int .i64 (yX v told))/\w=w':=by
 have HV:=zH hv;clear hv;go_enter Tryz.func124,Tryz.ntmps124;go_wp2_with fail;go_loop [8] (fun kV=>∃k:Nat,k<=v/\kV=.int .i64 k/\∀i,i<k->tv told i≠0) (fun kV=>v-(intOf kV).toNat)
 case atStart=>exact⟨0,by omega,rfl,fun i h=>by omega⟩
 case round =>
  obtain⟨k,hk,rfl,h1⟩:=hrel;have H1:=zH h1;clear h1
  by_cases hlt:k<v
  ·have hc:=HV.out.cell k (by omega);have HL:=zH (Yd (v:=v) (told:=told));generalize hs:tv told k=s at *;have HS:=zH hs;clear hs
   by_cases h0:s=0
   ·have HR:Hid (yX v told=(k:Int)):=by
     rcases HL.out with ⟨_,h⟩|⟨j,e,hj,h2,h3⟩
     ·exact absurd (HS.out.trans h0) (h k hlt)
     ·have:j=k:=by
       rcases Nat.lt_trichotomy j k with h|h|h
       ·exact absurd h2 (H1.out j h)
       ·exact h
       ·exact absurd (HS.out.trans h0) (h3 k h)
      rw[<-this];exact e
    subst h0;go_wp2;go_ret;exact⟨by rw[HR.out];rfl,rfl⟩
   ·have h0':(0==s)=false:=by simp;omega
    go_wp2;go_round
    case rel=>exact ⟨k + 1,hlt,by go_num,fun i hi=>(by
     rcases Nat.lt_succ_iff_lt_or_eq.1 hi with e|e
     ·exact H1.out i e
     ·rw [e,HS.out];exact h0)⟩
    case measure=>simp[intOf];omega
  ·obtain rfl:k=v:=by omega
   have HR:Hid (yX k told=-1):=by
    rcases Yd (v:=k) (told:=told) with ⟨e,_⟩|⟨j,e,hj,h2,h3⟩
    ·exact e
    ·exact absurd h2 (H1.out j hj)
   go_wp2;go_ret;exact⟨by rw[HR.out];rfl,rfl⟩
end
section
open Go.RowKit Go.Deep
def zd5(vals:Nat)(ds:List (Int × List Int)):Prop:=∀d∈ds,xL vals d.1=true
structure Inv(l:List (List Int))(ds:List (Int × List Int))(told:List Int):Prop where
 imp:∀vals,xh vals l->zd5 vals ds->Sat vals told
 first:∀x∈told,x<0->∀vals,xh vals l->(∀d∈ds,d.1 < -x->xL vals d.1=true)->xL vals x=true
 low:∀d∈ds,∀u,0<u->u<=d.1->u∈told\/-u∈told
 mem:∀d∈ds,d.1∈told
 pos:∀d∈ds,0<d.1
structure ZL(l:List (List Int))(s:St):Prop where
 now:Inv l s.decs s.told
 past:∀k d,s.decs[k]?=some d->Inv l (s.decs.take k) d.2
 prf:∀vals,xh vals l->xh vals s.prf
theorem zd9(l:List (List Int)):ZL l st0:=by
 refine⟨⟨(fun _ _ _ x hx=>by cases hx),(fun x hx=>by cases hx),(fun d hd=>by cases hd),(fun d hd=>by cases hd),(fun d hd=>by cases hd)⟩,(fun k d h=>by simp[st0] at h),(fun _ _ c hc=>by cases hc)⟩
theorem JY{vals:Nat}{l m:List (List Int)}(h1:xh vals l)(h2:xh vals m):xh vals (l++m):=fun c hc=>by
 rcases List.mem_append.1 hc with h|h
 ·exact h1 c h
 ·exact h2 c h
theorem Inv.tell{l:List (List Int)}{ds:List (Int × List Int)}{told:List Int}(h:Inv l ds told){x:Int}(h0:x∉told)(h1:-x∉told)(hx:∀vals,xh vals l->Sat vals told->xL vals x=true):Inv l ds (told++[x]):=by
 refine⟨fun vals hs hd=>zeM (h.imp vals hs hd) (hx vals hs (h.imp vals hs hd)),fun y hy hneg vals hs hd=>?_,fun d hd u hu0 hu1=>?_,fun d hd=>List.mem_append.2 (Or.inl (h.mem d hd)),h.pos⟩
 ·simp only[List.mem_append,List.mem_singleton] at hy;rcases hy with hy|hy
  ·exact h.first y hy hneg vals hs hd
  ·subst hy;refine hx vals hs (h.imp vals hs fun d hdd=>hd d hdd ?_);rcases Int.lt_or_le d.1 (-y) with hlt|hle
   ·exact hlt
   ·rcases h.low d hdd (-y) (by omega) hle with h2|h2
    ·exact absurd h2 h1
    ·rw[Int.neg_neg] at h2;exact absurd h2 h0
 ·rcases h.low d hd u hu0 hu1 with h2|h2
  ·exact Or.inl (List.mem_append.2 (Or.inl h2))
  ·exact Or.inr (List.mem_append.2 (Or.inl h2))
theorem zcW{v:Nat}{l:List (List Int)}(hl:qs v l){s s':St}(hg:zu v s)(h:ZL l s)(e:qU v l s=.inl s'):ZL l s':=by
 have hlp:=YZ hl hg.litsP;have hsl:∀vals,xh vals l->xh vals (l++s.prf):=fun vals hs=>JY hs (h.prf vals hs);unfold qU at e
 by_cases h1:(zG s.told (l++s.prf)).2≠0
 ·rw[if_pos h1] at e;injection e with e;subst e;obtain⟨q1,q2,q3,q4,q5⟩:=Ku hlp hg.cons hg.lits (i:=(zG s.told (l++s.prf)).1) (x:=(zG s.told (l++s.prf)).2) rfl h1;exact⟨h.now.tell q2 q3 (fun vals hs ht=>(zan hlp hg.cons (hsl vals hs) ht).2 h1),h.past,h.prf⟩
 ·rw[if_neg h1] at e
  by_cases h2:0<=(zG s.told (l++s.prf)).1
  ·rw[if_pos h2] at e;cases hd:s.decs.getLast? with
   |none=>rw[hd] at e;cases e
   |some d =>
    rw[hd] at e
    by_cases h3:s.prf.length+1=2000
    ·simp only[if_pos h3] at e;cases e
    ·simp only[if_neg h3] at e;injection e with e;subst e;have hlast:s.decs[s.decs.length-1]?=some d:=by rw[<-List.getLast?_eq_getElem?];exact hd
     have hp:=h.past _ _ hlast;rw[<-List.dropLast_eq_take] at hp;refine⟨hp,fun k d' hk=>?_,fun vals hs=>JY (h.prf vals hs) (fun c hc=>?_)⟩
     ·have hk':s.decs.dropLast[k]?=some d':=hk;rw[List.getElem?_dropLast] at hk';split at hk'
      ·rename_i hlt;have:=h.past k d' hk';rw[show (s.decs.dropLast).take k=s.decs.take k by rw[List.dropLast_eq_take,List.take_take,Nat.min_eq_left (by omega)]];exact this
      ·cases hk'
     ·rw[List.mem_singleton] at hc;subst hc
      by_cases hall:zd5 vals s.decs
      ·exfalso;exact absurd ((zan hlp hg.cons (hsl vals hs) (h.now.imp vals hs hall)).1 h2) h1
      ·have:∃d∈s.decs,xL vals d.1≠true:=Classical.byContradiction fun hn=>hall fun d hd=>Classical.byContradiction fun hne=>hn ⟨d,hd,hne⟩;obtain⟨d',hd',hne⟩:=this;refine⟨-d'.1,List.mem_map.2 ⟨d',hd',rfl⟩,?_⟩;rw[KP (by have:=h.now.pos d' hd';omega)];simpa using hne
  ·rw[if_neg h2] at e
   by_cases h3:yX v s.told<0
   ·rw[if_pos h3] at e;cases e
   ·rw[if_neg h3] at e;injection e with e;subst e;rcases Yd (v:=v) (told:=s.told) with ⟨h4,_⟩|⟨k,h4,hk,h5,h6⟩
    ·omega
    ·rw[h4];have hn:=h.now;refine⟨⟨fun vals hs hd=>?_,fun x hx hneg vals hs hd=>?_,fun d hd u hu0 hu1=>?_,fun d hd=>?_,fun d hd=>?_⟩,fun j d hj=>?_,h.prf⟩
     ·exact zeM (hn.imp vals hs fun d h=>hd d (List.mem_append.2 (Or.inl h))) (hd ((k:Int)+1,s.told) (List.mem_append.2 (Or.inr List.mem_cons_self)))
     ·have hx':x∈s.told++[(k:Int)+1]:=hx;simp only[List.mem_append,List.mem_singleton] at hx';rcases hx' with hx'|hx'
      ·exact hn.first x hx' hneg vals hs fun d h hlt=>hd d (List.mem_append.2 (Or.inl h)) hlt
      ·omega
     ·have hd':d∈s.decs++[((k:Int)+1,s.told)]:=hd;show u∈s.told++[(k:Int)+1]\/-u∈s.told++[(k:Int)+1];simp only[List.mem_append,List.mem_singleton] at hd' ⊢;rcases hd' with hd'|hd'
      ·rcases hn.low d hd' u hu0 hu1 with h|h
       ·exact Or.inl (Or.inl h)
       ·exact Or.inr (Or.inl h)
      ·subst hd'
       by_cases e:u=(k:Int)+1
       ·exact Or.inl (Or.inr e)
       ·have hu1':u<=(k:Int)+1:=hu1;have:=h6 (u.toNat-1) (by omega);have h7:¬(((u.toNat-1:Nat):Int)+1∉s.told/\-(((u.toNat-1:Nat):Int)+1)∉s.told):=fun h=>this (QO.2 h);rw[show ((u.toNat-1:Nat):Int)+1=u by omega] at h7
        by_cases h8:u∈s.told
        ·exact Or.inl (Or.inl h8)
        ·exact Or.inr (Or.inl (Classical.byContradiction fun h9=>h7 ⟨h8,h9⟩))
     ·have hd':d∈s.decs++[((k:Int)+1,s.told)]:=hd;show d.1∈s.told++[(k:Int)+1];simp only[List.mem_append,List.mem_singleton] at hd' ⊢;rcases hd' with hd'|hd'
      ·exact Or.inl (hn.mem d hd')
      ·exact Or.inr (by rw[hd'])
     ·have hd':d∈s.decs++[((k:Int)+1,s.told)]:=hd;simp only[List.mem_append,List.mem_singleton] at hd';rcases hd' with hd'|hd'
      ·exact hn.pos d hd'
      ·rw[hd'];show (0:Int)<(k:Int)+1;omega
     ·have hj':(s.decs++[((k:Int)+1,s.told)])[j]?=some d:=hj;show Inv l ((s.decs++[((k:Int)+1,s.told)]).take j) d.2;rw[List.getElem?_append] at hj';split at hj'
      ·rename_i hlt;rw[List.take_append_of_le_length (by omega)];exact h.past j d hj'
      ·rename_i hge;have hjl:j-s.decs.length=0:=by
        rcases Nat.eq_zero_or_pos (j-s.decs.length) with h|h
        ·exact h
        ·rw[List.getElem?_eq_none (by simp;omega)] at hj';cases hj'
       rw[hjl] at hj';simp at hj';subst hj';have:j=s.decs.length:=by omega
       rw[this,List.take_append_of_le_length zN,List.take_length];exact hn
theorem zo7{v:Nat}{l:List (List Int)}(hv:v<=24)(hl:qs v l){s:St}{r:Res}(hr:Run v l s r):zu v s->ZL l s ->
  (∀p,r=.unsat p->∀vals,¬xh vals l)/\(∀t,r=.sat t->∃ds,Inv l ds t/\zY v t/\yd t/\(∀i,i<v->tv t i≠0)/\∀c∈l,∃x∈c,x∈t):=by
 induction hr with
 |go h _ ih=>intro hg hi;exact ih (XP hv hl hg h).1 (zcW hl hg hi h)
 |done h =>
  rename_i s r;intro hg hi;have hlp:=YZ hl hg.litsP;unfold qU at h
  by_cases h1:(zG s.told (l++s.prf)).2≠0
  ·rw[if_pos h1] at h;cases h
  ·rw[if_neg h1] at h
   by_cases h2:0<=(zG s.told (l++s.prf)).1
   ·rw[if_pos h2] at h;cases hd:s.decs.getLast? with
    |none =>rw[hd] at h;injection h with h;subst h;have hd0:s.decs=[]:=List.getLast?_eq_none_iff.1 hd;refine⟨fun p _ vals hs=>?_,(fun t h=>by cases h)⟩;exact absurd ((zan hlp hg.cons (JY hs (hi.prf vals hs)) (hi.now.imp vals hs (fun d hd=>by rw[hd0] at hd;cases hd))).1 h2) h1
    |some d =>
     rw[hd] at h
     by_cases h3:s.prf.length+1=2000
     ·simp only[if_pos h3] at h;injection h with h;subst h;exact⟨(fun p h=>by cases h),(fun t h=>by cases h)⟩
     ·simp only[if_neg h3] at h;cases h
   ·rw[if_neg h2] at h
    by_cases h3:yX v s.told<0
    ·rw[if_pos h3] at h;injection h with h;subst h;refine⟨(fun p h=>by cases h),fun t h=>?_⟩;cases h;rcases Yd (v:=v) (told:=s.told) with ⟨_,h4⟩|⟨k,h4,_⟩
     ·refine⟨s.decs,hi.now,hg.lits,hg.cons,h4,fun c hc=>?_⟩;have hn:=XK (l:=l++s.prf) hg.cons;generalize zG s.told (l++s.prf)=r at *;cases hn with
      |none h5 =>
       rcases h5 c (List.mem_append.2 (Or.inl hc)) with h6|⟨x,hx,_,_,_,n1,n2,_⟩
       ·exact h6
       ·exfalso;have hb:=qG.1 (hl c hc x hx)
        by_cases hp:0<x
        ·have:=h4 (x.toNat-1) (by omega);exact this (QO.2 (by rw[show ((x.toNat-1:Nat):Int)+1=x by omega];exact⟨n1,n2⟩))
        ·have:=h4 ((-x).toNat-1) (by omega);exact this (QO.2 (by rw[show (((-x).toNat-1:Nat):Int)+1=-x by omega,Int.neg_neg];exact⟨n2,n1⟩))
      |bad=>exact absurd (Int.natCast_nonneg _) h2
      |one=>exact absurd (Int.natCast_nonneg _) h2
     ·omega
    ·rw[if_neg h3] at h;cases h
theorem zhd{v:Nat}{t:List Int}(hl:zY v t)(hc:yd t)(hv:v<=24):Sat (yO t 24) t:=fun x hx=>by
 have hb:=qG.1 (hl x hx);unfold xL
 by_cases hp:0<x
 ·rw[if_pos hp,JK];have:tv t (x.toNat-1)=1:=by unfold tv;rw[if_pos (by rw[show ((x.toNat-1:Nat):Int)+1=x by omega];exact hx)]
  rw[this];simp;omega
 ·rw[if_neg hp,JK];have:tv t ((-x).toNat-1)=-1:=by
   unfold tv;rw[show (((-x).toNat-1:Nat):Int)+1=-x by omega,Int.neg_neg,if_neg (hc x hx),if_pos hx]
  rw[this];simp
end
end Go.Proofs.YtlmmkbnjhilbdaaGreatDoor
