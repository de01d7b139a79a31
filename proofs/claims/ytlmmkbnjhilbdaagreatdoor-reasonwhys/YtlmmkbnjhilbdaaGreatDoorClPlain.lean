/- What Check says, and what is assumed: plain. -/
import Derived.Test.YtlmmkbnjhilbdaaGreatDoorCtAsc
set_option maxHeartbeats 2000000
set_option maxRecDepth 100000
namespace Go.Proofs.YtlmmkbnjhilbdaaGreatDoor
section
open Go.RowKit Go.Shelf Sv
theorem zeQ{c:UInt8}:∀{l:List UInt8},c∉l->Lib.index l [c]<0:=by
 intro l h;rcases zcx l c with ⟨h1,_⟩|⟨j,_,h2⟩
 ·exact h1
 ·have:=List.count_eq_zero.2 h;omega
theorem zfQ{c:UInt8}{y:List UInt8}:∀{x:List UInt8},c∉x->Lib.index (x++c :: y) [c]=(x.length:Int):=by
 intro x
 induction x with
 |nil=>intro _;unfold Lib.index;simp[List.isPrefixOf]
 |cons b x ih =>
  intro h;have hb:¬c=b:=fun e=>h (by simp[e]);have hp:List.isPrefixOf [c] (b :: (x++c :: y))=false:=by simp[List.isPrefixOf,hb]
  rw[List.cons_append];unfold Lib.index;rw[hp,ih (fun e=>h (by simp[e]))];simp
theorem zm4{c d:UInt8}:∀{l:List UInt8},c∉l->Lib.index l [c,d]<0:=by
 intro l
 induction l with
 |nil=>intro _;simp[Lib.index]
 |cons b l ih =>
  intro h;have hb:¬c=b:=fun e=>h (by simp[e]);have hp:List.isPrefixOf [c,d] (b :: l)=false:=by simp[List.isPrefixOf,hb]
  have:Lib.index l [c,d]=-1:=by
   have h1:=Lib.index_ge l [c,d];have h2:=ih (fun e=>h (by simp[e]));omega
  unfold Lib.index;rw[hp,this];simp
def ptx(n:Nat):List UInt8:=Lib.itoa (n:Int)
def zb0(n:Nat):Bool:=(match xU (ptx n) with
 |.ok m=>m==n
 | _=>false) && (ptx n).all (fun x=>decide (48<=x) && decide (x<=57)) && !(ptx n).isEmpty && decide ((ptx n).length<=3)
theorem znJ:∀n:Fin 1000,zb0 n.val=true:=by decide +kernel
structure zbp(n:Nat):Prop where
 tells:xU (ptx n)=.ok n
 digit:∀x∈ptx n,48<=x/\x<=57
 some:ptx n≠[]
 short:(ptx n).length<=3
theorem QD{n:Nat}(h:n<=999):zbp n:=by
 have h1:=znJ ⟨n,by omega⟩;unfold zb0 at h1;simp only[Bool.and_eq_true,List.all_eq_true,decide_eq_true_eq,Bool.not_eq_true',List.isEmpty_eq_false_iff] at h1;obtain⟨⟨⟨h2,h3⟩,h4⟩,h5⟩:=h1;refine⟨?_,h3,h4,h5⟩;split at h2
 ·rename_i m hm;rw[hm];simp only[beq_iff_eq] at h2;rw[h2]
 ·cases h2
theorem zbp.not{n:Nat}(h:zbp n){c:UInt8}(hc:c<48\/57<c):c∉ptx n:=fun e=>by
 have:=h.digit c e;rcases hc with hc|hc
 ·exact absurd hc (UInt8.not_lt.2 this.1)
 ·exact absurd hc (UInt8.not_lt.2 this.2)
def vtx(a b c:Nat):List UInt8:=ptx a++46 :: (ptx b++46 :: ptx c)
theorem zdY{s:ByteArray}{l:List UInt8}(h:s.data.toList=l):s=⟨l.toArray⟩:=by
 obtain⟨d⟩:=s;subst h;simp
theorem JL(l:List UInt8)(i j:Nat):((⟨l.toArray⟩:ByteArray).extract i j).data.toList=(l.take j).drop i:=by
 rw[ByteArray.data_extract];simp[List.take_drop];rcases Nat.le_total i j with h|h
 ·rw[Nat.add_sub_cancel' h]
 ·rw[List.drop_of_length_le (by simp;omega),List.drop_of_length_le (by simp;omega)]
theorem zlq{a b c:Nat}(ha:a<=999)(hb:b<=999)(hc:c<=999):xH ⟨(vtx a b c).toArray⟩=.ok [a,b,c]:=by
 have pa:=QD ha;have pb:=QD hb;have pc:=QD hc;have na:=pa.not (c:=46) (.inl (by decide));have nb:=pb.not (c:=46) (.inl (by decide));have nc:=pc.not (c:=46) (.inl (by decide));have hcnt:(vtx a b c).count 46=2:=by
  unfold vtx;simp[List.count_append,List.count_eq_zero.2 na,List.count_eq_zero.2 nb,List.count_eq_zero.2 nc]
 have hsz:(⟨(vtx a b c).toArray⟩:ByteArray).size=(ptx a).length+((ptx b).length+((ptx c).length+1)+1):=by
  show (vtx a b c).toArray.size=_;simp[vtx]
  try omega
 have e0:((⟨(vtx a b c).toArray⟩:ByteArray).extract 0 (⟨(vtx a b c).toArray⟩:ByteArray).size).data.toList=ptx a++46 :: (ptx b++46 :: ptx c):=by rw[Lib.extract_to_end];simp[vtx]
 have e1:((⟨(vtx a b c).toArray⟩:ByteArray).extract (0+(ptx a).length+1) (⟨(vtx a b c).toArray⟩:ByteArray).size).data.toList=ptx b++46 :: ptx c:=by
  rw[Lib.extract_to_end];show (vtx a b c).drop _=_;unfold vtx;rw[show 0+(ptx a).length+1=(ptx a).length+1 by omega,List.drop_append];simp
 have e2:((⟨(vtx a b c).toArray⟩:ByteArray).extract (0+(ptx a).length+1+(ptx b).length+1) (⟨(vtx a b c).toArray⟩:ByteArray).size).data.toList=ptx c:=by
  rw[Lib.extract_to_end];show (vtx a b c).drop _=_;rw[show vtx a b c=(ptx a++46 :: (ptx b++[46]))++ptx c by simp[vtx],show 0+(ptx a).length+1+(ptx b).length+1=(ptx a++46 :: (ptx b++[46])).length by simp;omega,List.drop_left]
 have f0:((⟨(vtx a b c).toArray⟩:ByteArray).extract 0 (0+(ptx a).length)).data.toList=ptx a:=by
  rw[JL];unfold vtx;simp
 have f1:((⟨(vtx a b c).toArray⟩:ByteArray).extract (0+(ptx a).length+1) (0+(ptx a).length+1+(ptx b).length)).data.toList=ptx b:=by
  rw[JL,show vtx a b c=(ptx a++[46]++ptx b)++(46 :: ptx c) by simp[vtx],show 0+(ptx a).length+1+(ptx b).length=(ptx a++[46]++ptx b).length by simp;omega,List.take_left,show 0+(ptx a).length+1=(ptx a++[46]).length by simp,List.drop_left]
 unfold xH;rw[if_pos hcnt,hsz];show yu (qN _ _ ((ptx a).length+((ptx b).length+((ptx c).length+1)+1)) 0)=_;rw[show (ptx a).length+((ptx b).length+((ptx c).length+1)+1)=((ptx a).length+(ptx b).length+(ptx c).length)+1+1 by omega];rw[Kx (j:=(ptx a).length) (by rw[e0];exact zfQ na)];rw[Kx (j:=(ptx b).length) (by rw[show (⟨#[46]⟩:ByteArray).size=1 from rfl,e1];exact zfQ nb)];rw[show (⟨#[46]⟩:ByteArray).size=1 from rfl];rw[YQ (by rw[e2];exact zeQ nc)];simp only[yu,f0,f1,e2,pa.tells,pb.tells,pc.tells]
def zbq(g:List UInt8):Prop:=∀x∈g,Qa.data.toList.contains x=true
theorem zpe{g:List UInt8}(hg:zbq g){a b c:Nat}(ha:a<=999):xC ⟨(g++vtx a b c).toArray⟩=⟨(vtx a b c).toArray⟩:=by
 have pa:=QD ha;unfold xC Lib.trimLeftS;congr 2;show List.dropWhile _ (g++vtx a b c)=_;rw[List.dropWhile_append_of_pos hg];unfold vtx;cases hp:ptx a with
 |nil=>exact absurd hp pa.some
 |cons x r =>
  rw[List.cons_append,List.dropWhile_cons_of_neg];have hx:=pa.digit x (by rw[hp];simp);intro hm;have hm':x∈[61,33,60,62,94,126]:=by simpa[Qa] using hm
  simp only[List.mem_cons,List.not_mem_nil,or_false] at hm';rcases hm' with rfl|rfl|rfl|rfl|rfl|rfl<;>revert hx<;>decide
theorem zoz{g:List UInt8}(hg:zbq g){a b c:Nat}(ha:a<=999)(hb:b<=999)(hc:c<=999):ZC ⟨(g++vtx a b c).toArray⟩=x7 g a b c:=by
 have hd:(46:UInt8)∈g++vtx a b c:=by simp[vtx]
 have hl:(⟨(g++vtx a b c).toArray⟩:ByteArray).toList=g++vtx a b c:=by rw[ByteArray.toList_eq]
 unfold ZC;rw[if_neg (fun e=>by rw[hl] at e;rw[e] at hd;revert hd;decide),if_neg (fun e=>by rw[hl] at e;rw[e] at hd;revert hd;decide),zpe hg ha,zlq ha hb hc];show x7 _ a b c=_;congr 1;rw[ByteArray.toList_eq,JL];show ((g++vtx a b c).take ((g++vtx a b c).toArray.size-(vtx a b c).toArray.size)).drop 0=g;simp
theorem zh0{l:List zg}(h:Rg l):orr [] (nd zt l)=l :=
 zg8 (J3 YP (Qi Ya h)) h fun n=>by
  rw[zpc YP (Qi Ya h),zee Ya h,zgt];have:=h.lt (n:=n);constructor
  ·rintro (h|h)
   ·exact absurd h (x8 n)
   ·exact h.2
  ·exact fun h=>.inr ⟨this h,h⟩
theorem zjQ{g:List UInt8}(hg:zbq g){a b c:Nat}(ha:a<=999)(hb:b<=999)(hc:c<=999){l:List zg}(hs:x7 g a b c=.ok l):ZR ⟨(g++vtx a b c).toArray⟩=.ok l:=by
 have pa:=QD ha;have pb:=QD hb;have pc:=QD hc;have hno:∀x:UInt8,(x<46\/57<x)->Qa.data.toList.contains x=false->x∉g++vtx a b c:=by
  intro x hx hm h;rcases List.mem_append.1 h with h|h
  ·rw[hg x h] at hm;cases hm
  ·have hx':x<48\/57<x:=hx.imp (fun h=>UInt8.lt_trans h (by decide)) id;unfold vtx at h;simp only[List.mem_append,List.mem_cons] at h;have h46:¬x=46:=fun e=>by subst e;revert hx;decide
   rcases h with h|h|h|h|h
   ·exact pa.not hx' h
   ·exact h46 h
   ·exact pb.not hx' h
   ·exact h46 h
   ·exact pc.not hx' h
 have h124:=hno 124 (.inr (by decide)) (by decide);have h32:=hno 32 (.inl (by decide)) (by decide);generalize hL:g++vtx a b c=L at *;have hall:((⟨L.toArray⟩:ByteArray).extract 0 (⟨L.toArray⟩:ByteArray).size).data.toList=L:=by rw[Lib.extract_to_end];simp
 have hself:(⟨L.toArray⟩:ByteArray).extract 0 (⟨L.toArray⟩:ByteArray).size=⟨L.toArray⟩:=zdY hall;have hne:(⟨L.toArray⟩:ByteArray).toList≠[]:=by
  rw[ByteArray.toList_eq,<-hL];simp[vtx]
 have hw:ZC ⟨L.toArray⟩=.ok l:=by rw[<-hL,zoz hg ha hb hc];exact hs
 have hr:=JC hw;unfold ZR;rw[YQ (by rw[hall];exact zm4 h124),hself,xe];unfold xO;rw[YQ (by rw[hall];exact zeQ h32),hself,yA,if_neg hne,hw];show Except.ok (orr [] (nd zt l))=_;rw[zh0 hr]
end
section
open Go.RowKit Sv
theorem zap{x:Ln}(hx:qD x=0)(hk:x.kind≠1):∀(ls:List Ln) (i:Nat) (its its':List It),zZ ls i its=.ok its'->zZ (ls++[x]) i its=.ok its'
 |[],i,its,its',h=>by
  rw[List.nil_append,zZ,if_neg (by simpa using hx),if_neg hk];exact h
 |y :: ls,i,its,its',h=>by
  rw[List.cons_append,zZ];rw[zZ] at h;split
  ·rename_i h1;rw[if_pos h1] at h;cases h
  ·rename_i h1;rw[if_neg h1] at h;split
   ·rename_i h2;rw[if_pos h2] at h;split
    ·rename_i h3;rw[if_pos h3] at h;cases h
    ·rename_i h3;rw[if_neg h3] at h;split
     ·rename_i h4;rw[if_pos h4] at h;cases h
     ·rename_i h4;rw[if_neg h4] at h;exact zap hx hk ls _ _ _ h
   ·rename_i h2;rw[if_neg h2] at h;exact zap hx hk ls _ _ _ h
theorem zfb{x:Ln}(hp:¬x.pair):∀(ls:List Ln) (i:Nat) (its:List It),qZ ls i its=none->qZ (ls++[x]) i its=none
 |[],i,its,_=>by
  rw[List.nil_append,qZ,if_neg (fun e=>hp e.1)];rfl
 |y :: ls,i,its,h=>by
  rw[List.cons_append,qZ];rw[qZ] at h;split
  ·rename_i h1;rw[if_pos h1] at h;cases h
  ·rename_i h1;rw[if_neg h1] at h;exact zfb hp ls _ _ h
theorem ziT{ls:List Ln}{its:List It}{x:Ln}(h:qq ls=.ok its)(hl:ls.length<100)(hx:qD x=0)(hk:x.kind=4):qq (ls++[x])=.ok its:=by
 have hk1:x.kind≠1:=by omega
 have hp:¬x.pair:=by unfold Ln.pair;omega
 unfold qq at h ⊢;rw[if_neg (by simp;omega)];rw[if_neg (by omega)] at h;cases hg:zZ ls 0 [] with
 |error e=>rw[hg] at h;cases h
 |ok g =>
  rw[hg] at h;rw[zap hx hk1 ls 0 [] g hg];simp only at h ⊢;cases hm:qZ ls 0 (ya g) with
  |some i=>rw[hm] at h;cases h
  |none =>rw[hm] at h;rw[zfb hp ls 0 _ hm];exact h
def yi(name:ByteArray)(rng:List zg):Ln:={ kind:=4,name:=name,a:=0,b:=0,c:=0,other:=⟨#[]⟩,rng:=rng }
theorem zjH{name:ByteArray}{rng:List zg}(h:zI name):qD (yi name rng)=0:=by
 have hp:¬(yi name rng).pair:=by unfold Ln.pair yi;simp
 unfold qD;rw[if_neg (by simp[yi]),if_neg (fun e=>e.elim (fun e=>e h) (fun e=>hp e.1)),if_neg (fun e=>e.2 rfl),if_neg (by simp[yi]),if_neg (by simp[yi]),if_neg (by simp[yi,InV])]
theorem zbE:∀(ls:List Ln) (i:Nat) (its its':List It),zZ ls i its=.ok its'->(∀y∈its,zI y.name/\InV y.a y.b y.c)->∀y∈its',zI y.name/\InV y.a y.b y.c
 |[],i,its,its',h,hi=>by
  rw[zZ] at h;cases h;exact hi
 |x :: ls,i,its,its',h,hi=>by
  rw[zZ] at h;split at h
  ·cases h
  ·rename_i h1;split at h
   ·split at h
    ·cases h
    ·split at h
     ·cases h
     ·refine zbE ls _ _ _ h fun y hy=>?_;rcases List.mem_append.1 hy with hy|hy
      ·exact hi y hy
      ·rw[List.mem_singleton] at hy;subst hy;have h0:qD x=0:=by simpa using h1
       unfold qD at h0;split at h0
       ·cases h0
       ·split at h0
        ·cases h0
        ·rename_i h2;split at h0
         ·cases h0
         ·split at h0
          ·cases h0
          ·split at h0
           ·cases h0
           ·split at h0
            ·cases h0
            ·rename_i h3;exact⟨Classical.byContradiction fun e=>h2 (.inl e),Classical.byContradiction fun e=>h3 e⟩
   ·exact zbE ls _ _ _ h hi
theorem Kn{ls:List Ln}{its:List It}(h:qq ls=.ok its):∀y∈its,zI y.name/\InV y.a y.b y.c:=by
 unfold qq at h;split at h
 ·cases h
 ·split at h
  ·cases h
  ·rename_i g hg;split at h
   ·cases h
   ·cases h;intro y hy;exact zbE ls 0 [] g hg (fun y hy=>by cases hy) y ((List.mergeSort_perm _ _).mem_iff.1 hy)
theorem zdN{a b c:Nat}(ha:a<=999)(hb:b<=999)(hc:c<=999):ZR ⟨(vtx a b c).toArray⟩=.ok (zq (zk a b c) (zk a b c+1)):=by
 have:=zjQ (g:=[]) (fun x hx=>by cases hx) ha hb hc (l:=zq (zk a b c) (zk a b c+1)) (by unfold x7;rw[if_pos (.inl rfl)]);exact this
end
section
open Go.RowKit
def zO(v x:Int):Bool:=decide (x≠0/\-v<=x/\x<=v)
theorem zmN(x v:Int)(h0:0<=v)(h1:v<=24)(w:World) :
  zC 160 #[.int .i64 x,.int .i64 v] w fun e w'=>e=.returned (.bool (zO v x))/\w=w':=by
 by_cases hx:x=0
 ·have e:zO v x=false:=by simp[zO,hx]
  rw[e];go_enter Tryz.func160,Tryz.ntmps160;go_wp2;go_ret;exact⟨rfl,rfl⟩
 ·by_cases h2:-v<=x
  ·by_cases h3:x<=v
   ·have e:zO v x=true:=by simp[zO,hx,h2,h3]
    rw[e];have hx':(x != 0)=true:=by simpa using hx
    go_enter Tryz.func160,Tryz.ntmps160;go_wp2;go_ret;exact⟨rfl,rfl⟩
   ·have e:zO v x=false:=by simp[zO,h3]
    rw[e];go_enter Tryz.func160,Tryz.ntmps160;go_wp2;go_ret;exact⟨rfl,rfl⟩
  ·have e:zO v x=false:=by simp[zO,h2]
   rw[e];go_enter Tryz.func160,Tryz.ntmps160;go_wp2;go_ret;exact⟨rfl,rfl⟩
end
section
open Go.RowKit
def xL(vals:Nat)(x:Int):Bool:=if 0<x then vals.testBit (x.toNat-1) else !vals.testBit ((-x).toNat-1)
def XW(vals:Nat)(x:Int):Bool:=zO 24 x&&xL vals x
def Xq(vals:Nat)(c:List Int):Bool:=c.any (XW vals)
theorem zmL(vals t:Nat)(hv:vals<18446744073709551616):(bits BinOp.and IntKind.u64 ((vals:Int)/2^t) 1==1)=vals.testBit t:=by
 have e:(vals:Int)/2^t=((vals/2^t:Nat):Int):=by simp
 have hd:vals/2^t<=vals:=Nat.div_le_self _ _;rw[e,Nat.testBit_eq_decide_div_mod_eq];generalize vals/2^t=m at *;rw[and_one_u64 _ (by omega) (by omega),Bool.eq_iff_iff];simp;omega
end
section
open Go.RowKit
def tv(told:List Int)(i:Nat):Int:=if ((i:Int)+1)∈told then 1 else if -((i:Int)+1)∈told then -1 else 0
def qQ(told:List Int)(x:Int):Int:=if x∈told then 1 else if -x∈told then -1 else 0
def yd(told:List Int):Prop:=∀x∈told,-x∉told
def zY(v:Int)(xs:List Int):Prop:=∀x∈xs,zO v x=true
theorem qG{v x:Int}:zO v x=true↔x≠0/\-v<=x/\x<=v:=by simp[zO]
theorem zoN(told:List Int)(t:Nat):qQ told ((t:Int)+1)=tv told t:=rfl
theorem zpw{told:List Int}(hc:yd told)(t:Nat):qQ told (-((t:Int)+1))=- tv told t:=by
 unfold qQ tv;rw[Int.neg_neg]
 by_cases h1:((t:Int)+1)∈told
 ·have h2:=hc _ h1;rw[if_pos h1,if_neg h2,if_pos h1]
 ·by_cases h2:-((t:Int)+1)∈told
  ·rw[if_pos h2,if_neg h1,if_pos h2];rfl
  ·rw[if_neg h2,if_neg h1,if_neg h1,if_neg h2];rfl
theorem zlY(told:List Int)(t:Nat):-1<=tv told t/\tv told t<=1:=by
 unfold tv;split
 ·omega
 ·split<;>omega
theorem ziX(told:List Int)(x:Int):qQ told x=-1\/qQ told x=0\/qQ told x=1:=by
 unfold qQ;split
 ·omega
 ·split<;>omega
theorem zaR{told:List Int}{x:Int}:qQ told x=0↔x∉told/\-x∉told:=by
 unfold qQ
 by_cases h1:x∈told
 ·simp[h1]
 ·by_cases h2:-x∈told
  ·simp[h1,h2]
  ·simp[h1,h2]
theorem J0{told:List Int}{x:Int}:0<qQ told x↔x∈told:=by
 unfold qQ
 by_cases h1:x∈told
 ·simp[h1]
 ·by_cases h2:-x∈told<;>simp[h1,h2]
theorem zeB{told:List Int}(hc:yd told){x:Int}:0<=qQ told x↔-x∉told:=by
 unfold qQ
 by_cases h1:x∈told
 ·have:=hc x h1;simp[h1,this]
 ·by_cases h2:-x∈told<;>simp[h1,h2]
def Zi(told:List Int)(one x:Int):Bool:=decide (0<qQ told x)||(decide (qQ told x=0)&&x != one)
def q8(told:List Int)(c:List Int):Int × Bool :=
 if yT (fun x=>decide (0<=qQ told x)) c<0 then (0,true)
 else if (c.drop (yT (fun x=>decide (0<=qQ told x)) c).toNat).any (Zi told (c.getD (yT (fun x=>decide (0<=qQ told x)) c).toNat 0)) then (0,false)
 else (c.getD (yT (fun x=>decide (0<=qQ told x)) c).toNat 0,true)
theorem zbL{α:Type}(p:α->Bool)(xs:List α)(d:α):(yT p xs=-1/\∀x∈xs,p x=false)\/∃k:Nat,yT p xs=(k:Int)/\k<xs.length/\p (xs.getD k d)=true/\∀x∈xs.take k,p x=false:=by
 unfold yT;cases h:xs.findIdx? p with
 |none=>exact Or.inl ⟨rfl,fun x hx=>by simpa using List.findIdx?_eq_none_iff.1 h x hx⟩
 |some k =>rw[List.findIdx?_eq_some_iff_getElem] at h;obtain⟨hk,hp,hj⟩:=h;refine Or.inr ⟨k,rfl,hk,by rw[List.getD_eq_getElem?_getD,List.getElem?_eq_getElem hk];exact hp,fun x hx=>?_⟩;obtain⟨j,hjk,rfl⟩:=List.getElem_of_mem hx;rw[List.length_take] at hjk;rw[List.getElem_take];simpa using hj j (by omega)
inductive XL (told c:List Int):Int × Bool->Prop
 |none (h:∀x∈c,x∉told/\-x∈told):XL told c (0,true)
 |one {x:Int} (hx:x∈c) (h0:x∉told) (h1:-x∉told) (h:∀y∈c,y≠x->y∉told/\-y∈told):XL told c (x,true)
 |held {x:Int} (hx:x∈c) (h:x∈told):XL told c (0,false)
 |two {x y:Int} (hx:x∈c) (hy:y∈c) (hne:x≠y) (h0:x∉told) (h1:-x∉told) (h2:y∉told) (h3:-y∉told):XL told c (0,false)
theorem zc7{told c:List Int}(hc:yd told):XL told c (q8 told c):=by
 unfold q8;have hng:∀x,(decide (0<=qQ told x))=false↔-x∈told:=fun x=>by
  rw[decide_eq_false_iff_not,zeB hc,Classical.not_not]
 have hnt:∀x,-x∈told->x∉told:=fun x h h2=>hc x h2 h;rcases zbL (fun x=>decide (0<=qQ told x)) c 0 with ⟨hi,h⟩|⟨k,hi,hk,hp,hl⟩
 ·rw[hi,if_pos (by omega)];exact .none fun x hx=>⟨hnt x ((hng x).1 (h x hx)),(hng x).1 (h x hx)⟩
 ·rw[hi,if_neg (by omega),Int.toNat_natCast];have hm:c.getD k 0∈c:=y7 hk;have hpo:-(c.getD k 0)∉told:=(zeB hc).1 (of_decide_eq_true hp)
  by_cases hany:(c.drop k).any (Zi told (c.getD k 0))=true
  ·rw[if_pos hany];obtain⟨y,hy,hmo⟩:=List.any_eq_true.1 hany;have hyc:=List.mem_of_mem_drop hy;unfold Zi at hmo;rw[Bool.or_eq_true,Bool.and_eq_true] at hmo;rcases hmo with h1|⟨h1,h2⟩
   ·exact .held hyc (J0.1 (of_decide_eq_true h1))
   ·have h3:=zaR.1 (of_decide_eq_true h1)
    by_cases hot:c.getD k 0∈told
    ·exact .held hm hot
    ·exact .two hm hyc (fun e=>by rw[<-e,bne_self_eq_false] at h2;cases h2) hot hpo h3.1 h3.2
  ·rw[if_neg hany];have hany':∀y∈c.drop k,Zi told (c.getD k 0) y=false:=fun y hy=>by
    cases hh:Zi told (c.getD k 0) y with
    |false=>rfl
    |true=>exact absurd (List.any_eq_true.2 ⟨y,hy,hh⟩) hany
   have hot:c.getD k 0∉told:=fun h=>by
    have:=hany' (c.getD k 0) (by
     rw[List.getD_eq_getElem?_getD,List.getElem?_eq_getElem hk];exact List.mem_drop_iff_getElem.2 ⟨0,by omega,by simp⟩)
    unfold Zi at this;rw[Bool.or_eq_false_iff] at this;exact(of_decide_eq_false this.1) (J0.2 h)
   refine .one hm hot hpo fun y hy hne=>?_;rw[<-List.take_append_drop k c,List.mem_append] at hy;rcases hy with hy|hy
   ·have:=(hng y).1 (hl y hy);exact⟨hnt y this,this⟩
   ·have:=hany' y hy;unfold Zi at this;rw[Bool.or_eq_false_iff,Bool.and_eq_false_iff] at this;have h1:=of_decide_eq_false this.1;have h2:qQ told y≠0:=by
     rcases this.2 with h|h
     ·exact of_decide_eq_false h
     ·simp at h;exact absurd h hne
    have h3:-y∈told:=by
     by_cases hm:-y∈told
     ·exact hm
     ·exact absurd (zaR.2 ⟨fun h=>h1 (J0.2 h),hm⟩) h2
    exact⟨hnt y h3,h3⟩
def zG(told:List Int)(l:List (List Int)):Int × Int :=
 match l.findIdx? (fun c=>(q8 told c).2) with|some i=>((i:Int),(q8 told (l.getD i [])).1)|none=>(-1,0)
theorem zju{told:List Int}{l:List (List Int)}{k:Nat}(h0:∀j,j<k->(q8 told (l.getD j [])).2=false)(hk:k<l.length)(h1:(q8 told (l.getD k [])).2=true):zG told l=((k:Int),(q8 told (l.getD k [])).1):=by
 have:l.findIdx? (fun c=>(q8 told c).2)=some k:=by
  rw[List.findIdx?_eq_some_iff_getElem];refine⟨hk,?_,fun j hj=>?_⟩
  ·rw[List.getD_eq_getElem?_getD,List.getElem?_eq_getElem hk] at h1;exact h1
  ·have:=h0 j hj;rw[List.getD_eq_getElem?_getD,List.getElem?_eq_getElem (by omega)] at this;simpa using this
 unfold zG;rw[this]
theorem znj{told:List Int}{l:List (List Int)}(h0:∀j,j<l.length->(q8 told (l.getD j [])).2=false):zG told l=(-1,0):=by
 have:l.findIdx? (fun c=>(q8 told c).2)=none:=by
  rw[List.findIdx?_eq_none_iff];intro x hx;obtain⟨j,hj,rfl⟩:=List.getElem_of_mem hx;have:=h0 j hj;rw[List.getD_eq_getElem?_getD,List.getElem?_eq_getElem hj] at this;simpa using this
 unfold zG;rw[this]
inductive XG (told:List Int) (l:List (List Int)):Int × Int->Prop
 |none (h:∀c∈l,(∃x∈c,x∈told)\/∃x∈c,∃y∈c,x≠y/\x∉told/\-x∉told/\y∉told/\-y∉told):XG told l (-1,0)
 |bad {k:Nat} (hk:k<l.length) (h:∀x∈l.getD k [],x∉told/\-x∈told):XG told l ((k:Int),0)
 |one {k:Nat} {x:Int} (hk:k<l.length) (hx:x∈l.getD k []) (h0:x∉told) (h1:-x∉told) (h:∀y∈l.getD k [],y≠x->y∉told/\-y∈told):XG told l ((k:Int),x)
theorem XK{told:List Int}{l:List (List Int)}(hc:yd told):XG told l (zG told l):=by
 unfold zG;cases h:l.findIdx? (fun c=>(q8 told c).2) with
 |none =>
  rw[List.findIdx?_eq_none_iff] at h;refine .none fun c hcl=>?_;have h1:=h c hcl;have h2:=zc7 (c:=c) hc;generalize q8 told c=r at *;cases h2 with
  |none=>simp at h1
  |one=>simp at h1
  |held hx h=>exact Or.inl ⟨_,hx,h⟩
  |two hx hy hne q0 q1 q2 q3=>exact Or.inr ⟨_,hx,_,hy,hne,q0,q1,q2,q3⟩
 |some k =>
  rw[List.findIdx?_eq_some_iff_getElem] at h;obtain⟨hk,hp,-⟩:=h;have e:l.getD k []=l[k]:=by rw[List.getD_eq_getElem?_getD,List.getElem?_eq_getElem hk];rfl
  rw[<-e] at hp;have h2:=zc7 (c:=l.getD k []) hc;show XG told l ((k:Int),(q8 told (l.getD k [])).1);generalize q8 told (l.getD k [])=r at *;cases h2 with
  |none h=>exact .bad hk h
  |one hx h0 h1 h=>exact .one hk hx h0 h1 h
  |held=>simp at hp
  |two=>simp at hp
inductive Xg (l:List (List Int)):List Int->List Int->Int->Prop
 |stop {told:List Int} {i:Int} (h:zG told l=(i,0)):Xg l told told i
 |step {told t:List Int} {i x b:Int} (h:zG told l=(i,x)) (hx:x≠0) (hs:Xg l (told++[x]) t b):Xg l told t b
def free(told:List Int):Nat:=(List.range 24).countP (fun i=>tv told i==0)
theorem zjj{p q:Nat->Bool}{l:List Nat}(h:∀x∈l,q x=true->p x=true){j:Nat}(hj:j∈l)(hp:p j=true)(hq:q j=false):l.countP q<l.countP p:=by
 induction l with
 |nil=>cases hj
 |cons a l ih =>
  have hle:l.countP q<=l.countP p:=List.countP_mono_left fun x hx=>h x (List.mem_cons_of_mem _ hx);rw[List.countP_cons,List.countP_cons]
  by_cases e:a=j
  ·subst e;rw[hp,hq];simp;omega
  ·have:=ih (fun x hx=>h x (List.mem_cons_of_mem _ hx)) (by cases hj with|head=>exact absurd rfl e|tail _ h=>exact h);have ha:=h a (List.mem_cons_self);cases hqa:q a with
   |true=>rw[ha hqa];simp;omega
   |false=>cases p a<;>simp<;>omega
theorem JO{told:List Int}{x:Int}(hn:-x∉told)(i:Nat):tv (told++[x]) i=if (i:Int)+1=x then 1 else if (i:Int)+1=-x then -1 else tv told i:=by
 unfold tv;simp only[List.mem_append,List.mem_singleton]
 by_cases h1:(i:Int)+1=x
 ·rw[if_pos (Or.inr h1),if_pos h1]
 ·rw[if_neg h1]
  by_cases h2:(i:Int)+1=-x
  ·have h0:(i:Int)+1∉told:=by rw[h2];exact hn
   rw[if_pos h2,if_neg (by rintro (h|h);exact h0 h;exact h1 h),if_pos (Or.inr (by omega))]
  ·rw[if_neg h2];have h3:¬-((i:Int)+1)=x:=by omega
   have e1:((i:Int)+1∈told\/(i:Int)+1=x)↔(i:Int)+1∈told:=⟨fun h=>h.resolve_right h1,Or.inl⟩;have e2:(-((i:Int)+1)∈told\/-((i:Int)+1)=x)↔-((i:Int)+1)∈told:=⟨fun h=>h.resolve_right h3,Or.inl⟩;simp only[e1,e2]
theorem QO{told:List Int}{i:Nat}:tv told i=0↔(i:Int)+1∉told/\-((i:Int)+1)∉told:=by
 show qQ told ((i:Int)+1)=0↔_;exact zaR
theorem zcO{told:List Int}{x:Int}(hl:zO 24 x=true)(h0:x∉told)(h1:-x∉told):free (told++[x])<free told:=by
 rw[qG] at hl;have ht:=JO h1;unfold free;refine zjj (j:=(if 0<x then x else -x).toNat-1) (fun i _ hi=>?_) (List.mem_range.2 (by split<;>omega)) ?_ ?_
 ·have hi':tv (told++[x]) i=0:=by simpa using hi
  rw[ht] at hi'
  by_cases e1:(i:Int)+1=x
  ·rw[if_pos e1] at hi';cases hi'
  ·by_cases e2:(i:Int)+1=-x
   ·rw[if_neg e1,if_pos e2] at hi';cases hi'
   ·rw[if_neg e1,if_neg e2] at hi';simpa using hi'
 ·have:tv told ((if 0<x then x else -x).toNat-1)=0:=by
   rw[QO]
   by_cases hp:0<x
   ·rw[if_pos hp,show ((x.toNat-1:Nat):Int)+1=x by omega];exact⟨h0,h1⟩
   ·rw[if_neg hp,show (((-x).toNat-1:Nat):Int)+1=-x by omega,Int.neg_neg];exact⟨h1,h0⟩
  simpa using this
 ·have:tv (told++[x]) ((if 0<x then x else -x).toNat-1)≠0:=by
   rw[ht]
   by_cases hp:0<x
   ·rw[if_pos hp,if_pos (by omega)];omega
   ·rw[if_neg hp,if_neg (by omega),if_pos (by omega)];omega
  simpa using this
theorem zfN{told:List Int}{x:Int}(hc:yd told)(hx:x≠0)(h1:-x∉told):yd (told++[x]):=by
 intro y hy hn;simp only[List.mem_append,List.mem_singleton] at hy hn;rcases hy with hy|hy
 ·rcases hn with hn|hn
  ·exact hc y hy hn
  ·exact h1 (by rw[show -x=y by omega];exact hy)
 ·rcases hn with hn|hn
  ·rw[hy] at hn;exact h1 hn
  ·omega
theorem zef{v:Int}{told:List Int}{x:Int}(hc:zY v told)(hx:zO v x=true):zY v (told++[x]):=by
 intro y hy;simp only[List.mem_append,List.mem_singleton] at hy;rcases hy with hy|hy
 ·exact hc y hy
 ·rw[hy];exact hx
theorem zlK:yd []:=fun x hx=>by cases hx
theorem zkf(v:Int):zY v []:=fun x hx=>by cases hx
def qs(v:Int)(l:List (List Int)):Prop:=∀c∈l,zY v c
theorem Zz{v x:Int}(hv:v<=24)(h:zO v x=true):zO 24 x=true:=by
 rw[qG] at *;omega
theorem Ku{l:List (List Int)}{v:Int}(hl:qs v l){told:List Int}(hc:yd told)(hs:zY v told){i x:Int}(e:zG told l=(i,x))(hx:x≠0):zO v x=true/\x∉told/\-x∉told/\yd (told++[x])/\zY v (told++[x]):=by
 have hn:=XK (l:=l) hc;rw[e] at hn;cases hn with
 |none=>exact absurd rfl hx
 |bad=>exact absurd rfl hx
 |one hk hxc h0 h1 _ =>have hlx:=hl _ (y7 hk) _ hxc;exact⟨hlx,h0,h1,zfN hc hx h1,zef hs hlx⟩
theorem Xg.good{l:List (List Int)}{v:Int}(hl:qs v l){told t:List Int}{b:Int}(h:Xg l told t b)(hc:yd told)(hs:zY v told):yd t/\zY v t:=by
 induction h with
 |stop _=>exact⟨hc,hs⟩
 |step e hx _ ih =>obtain⟨_,_,_,h4,h5⟩:=Ku hl hc hs e hx;exact ih h4 h5
end
section
open Go.RowKit
theorem zgS(x v:Int)(h0:0<=v)(h1:v<=24)(b:Nat)(w:World)(hc:w.cell? ⟨b,0,none⟩=some (.int .i64 v)) :
  zC 159 #[.int .i64 x,.pointer (some ⟨b,0,none⟩)] w fun e w'=>e=.returned (.bool (!zO v x))/\w=w':=by
 have HL:=zH (zmN x v h0 h1 w);generalize zO v x=B at *;go_enter Tryz.func159,Tryz.ntmps159;go_wp2_with fail;refine HL.out.mono ?_;rintro e w1 ⟨rfl,rfl⟩;go_wp2;go_ret;exact⟨by first|rfl|simp,rfl⟩
theorem zgY:∀args w,(callFunc 159 args).run Tryz.prog w=.ok (.enter 159 args) w:=by intro args w;kernel_rfl
def xu(v:Int)(c:List Int):Bool:=decide (48<c.length)||c.any (fun x=>!zO v x)
def Xi(c:List Int):Int:=if 48<c.length then 4 else 2
def yb(v:Int)(l:List (List Int)):Int × Int :=
 if v<0\/24<v then (2,-1) else if 200<l.length then (4,-1) else match l.findIdx? (xu v) with|some i=>(Xi (l.getD i []),(i:Int))|none=>(0,-1)
theorem zbX{v:Int}{l:List (List Int)}(h0:0<=v)(h1:v<=24)(hl:l.length<=200){k:Nat}(hk:k<l.length)(h2:∀j,j<k->xu v (l.getD j [])=false)(h3:xu v (l.getD k [])=true):yb v l=(Xi (l.getD k []),(k:Int)):=by
 have:l.findIdx? (xu v)=some k:=by
  rw[List.findIdx?_eq_some_iff_getElem];refine⟨hk,?_,fun j hj=>?_⟩
  ·rw[List.getD_eq_getElem?_getD,List.getElem?_eq_getElem hk] at h3;exact h3
  ·have:=h2 j hj;rw[List.getD_eq_getElem?_getD,List.getElem?_eq_getElem (by omega)] at this;simpa using this
 unfold yb;rw[if_neg (by omega),if_neg (by omega),this]
theorem zfF{v:Int}{l:List (List Int)}(h0:0<=v)(h1:v<=24)(hl:l.length<=200)(h2:∀j,j<l.length->xu v (l.getD j [])=false):yb v l=(0,-1):=by
 have:l.findIdx? (xu v)=none:=by
  rw[List.findIdx?_eq_none_iff];intro x hx;obtain⟨j,hj,rfl⟩:=List.getElem_of_mem hx;have:=h2 j hj;rw[List.getD_eq_getElem?_getD,List.getElem?_eq_getElem hj] at this;simpa using this
 unfold yb;rw[if_neg (by omega),if_neg (by omega),this]
theorem zpm(v:Int)(l:List (List Int))(a:Option Addr)(cap:Nat)(w:World)(hI:yr w a l)(hm:l.length<=9223372036854775807) :
  zC 118 #[.int .i64 v,.slice a l.length cap] w fun e w'=>∃er,e=.returned er/\Z6 w' er (yb v l).1 (yb v l).2/\zB w w':=by
 have hb0:=below_new w (.cells #[.int .i64 v] 3)
 by_cases hv:v<0\/24<v
 ·have e:yb v l=(2,-1):=by unfold yb;rw[if_pos hv]
  rw[e];have fin:zR 118 #[.int .i64 v,.slice a l.length cap] w (.iface 55 (.int .i64 2)):=by
   have HB:=zH hb0;clear hb0 e hI
   by_cases h:v<0
   ·go_enter Tryz.func118,Tryz.ntmps118;go_wp2;go_ret;exact⟨rfl,HB.out⟩
   ·have h2:24<v:=by omega
    clear hv;go_enter Tryz.func118,Tryz.ntmps118;go_wp2;go_ret;exact⟨rfl,HB.out⟩
  exact fin.mono fun e w' ⟨he,hb⟩=>⟨_,he,Or.inr (Or.inl ⟨by omega,rfl,rfl⟩),hb⟩
 have hv0:0<=v:=by omega
 have hv1:v<=24:=by omega
 clear hv
 by_cases hl:200<l.length
 ·have e:yb v l=(4,-1):=by unfold yb;rw[if_neg (by omega),if_pos hl]
  rw[e];have fin:zR 118 #[.int .i64 v,.slice a l.length cap] w (.iface 55 (.int .i64 4)):=by
   have HB:=zH hb0;clear hb0 e hI;go_enter Tryz.func118,Tryz.ntmps118;go_wp2;go_ret;exact⟨rfl,HB.out⟩
  exact fin.mono fun e w' ⟨he,hb⟩=>⟨_,he,Or.inr (Or.inl ⟨by omega,rfl,rfl⟩),hb⟩
 have HI:=zH hI;have HB:=zH hb0;have HV:Hid (∀W,Below (w.heap.size+1) (w.alloc (.cells #[.int .i64 v] 3)) W->W.cell? ⟨w.heap.size,0,none⟩=some (.int .i64 v)):=fun W hW=>(hW.cell (p:=⟨w.heap.size,0,none⟩) (by simp)).trans (by simp);clear hI hb0;go_enter Tryz.func118,Tryz.ntmps118;go_wp2_with fail;go_loopw [20] (fun kV wr=>∃k:Nat,k<=l.length/\kV=.int .i64 k/\(∀j,j<k->xu v (l.getD j [])=false)/\Below (w.heap.size+1) (w.alloc (.cells #[.int .i64 v] 3)) wr) (fun kV _=>l.length-(intOf kV).toNat)
 case atStart=>exact⟨0,Nat.zero_le _,rfl,fun j h=>by omega,Below.refl _ _⟩
 case round =>
  obtain⟨k,hk,rfl,h1,hbr⟩:=hrel;have hbw:zB w wr:=HB.out.trans (hbr.mono (Nat.le_succ _));have hcv:=HV.out _ hbr;have H1:=zH h1;have HBR:=zH hbr;have HBW:=zH hbw;have hws:=hbw.size;have hws1:=hbr.size;rw[World.size_alloc] at hws1;clear h1 hbr hbw
  by_cases hlt:k<l.length
  ·obtain⟨ad,a',cap',rfl,hl',hc,g1,g2,g3⟩:=HI.out.below HBW.out k hlt;have HG:=zH g3;clear g3;generalize hx:l.getD k []=c at *;have HX:=zH hx;clear hx
   by_cases h48:48<c.length
   ·have hres:yb v l=(4,(k:Int)):=by
     rw[zbX hv0 hv1 (by omega) hlt H1.out (by rw[HX.out];simp[xu,h48]),HX.out];simp[Xi,h48]
    have HRES:=zH hres;have hbx:=HBW.out.trans ((below_new wr (.cells #[.int .i64 4,.int .i64 k] 97)).mono hws);have HBX:=zH hbx;clear hres hbx;go_wp2;go_ret;refine⟨_,rfl,?_,HBX.out⟩;rw[HRES.out];exact Or.inr (Or.inr ⟨by show (4:Int)≠0;omega,wr.heap.size,by simp,rfl,by simp,by simp⟩)
   ·have HC:=zH (JE 159 #[.pointer (some ⟨w.heap.size,0,none⟩)] (fun x=>!zO v x) c a' cap' wr (by omega) zgY HG.out (fun W i hW hi=>(zgS (c.getD i 0) v hv0 hv1 w.heap.size W ((hW.cell (p:=⟨w.heap.size,0,none⟩) (by show w.heap.size<_;omega)).trans hcv)).mono fun e w' ⟨he,hw⟩=>⟨he,hw▸Below.refl _ _⟩));cases hp:c.any (fun x=>!zO v x) with
    |true =>
     rw[hp] at HC;have hres:yb v l=(2,(k:Int)):=by
      rw[zbX hv0 hv1 (by omega) hlt H1.out (by rw[HX.out];unfold xu;rw[hp];simp),HX.out];simp[Xi,h48]
     have HRES:=zH hres;clear hres hp;go_wp2_with fail;refine HC.out.mono ?_;rintro e w1 ⟨rfl,hb1⟩;have hbw1:=HBW.out.trans (hb1.mono hws);have hbx:=hbw1.trans ((below_new w1 (.cells #[.int .i64 2,.int .i64 k] 97)).mono hbw1.size);have HBX:=zH hbx;clear hbx hbw1 hb1 HC;go_wp2;go_ret;refine⟨_,rfl,?_,HBX.out⟩;rw[HRES.out];exact Or.inr (Or.inr ⟨by show (2:Int)≠0;omega,w1.heap.size,by simp,rfl,by simp,by simp⟩)
    |false =>
     rw[hp] at HC;have HBC:Hid (xu v c=false):=by show xu v c=false;unfold xu;rw[hp];simp;omega
     clear hp;go_wp2_with fail;refine HC.out.mono ?_;rintro e w1 ⟨rfl,hb1⟩;have HB1:Hid (Below (w.heap.size+1) (w.alloc (.cells #[.int .i64 v] 3)) w1):=HBR.out.trans (hb1.mono hws1);clear hb1 HC;go_wp2;go_roundw
     case rel=>exact ⟨k + 1,hlt,by go_num,fun j hj=>(by
      rcases Nat.lt_succ_iff_lt_or_eq.1 hj with e|e
      ·exact H1.out j e
      ·rw [e,HX.out];exact HBC.out),HB1.out⟩
     case measure=>simp[intOf];omega
  ·obtain rfl:k=l.length:=by omega
   have hres:=zfF hv0 hv1 (by omega) H1.out;have HRES:=zH hres;clear hres;go_wp2;go_ret;exact⟨_,rfl,by rw[HRES.out];exact Or.inl ⟨rfl,rfl,rfl⟩,HBW.out⟩
end
section
open Go.RowKit Go.Deep
theorem zpy{v:Int}{l:List (List Int)}(h:(yb v l).1=0):0<=v/\v<=24/\l.length<=200/\qs v l/\yb v l=(0,-1)/\∀c∈l,c.length<=48:=by
 unfold yb at h ⊢
 by_cases h1:v<0\/24<v
 ·rw[if_pos h1] at h;cases h
 ·by_cases h2:200<l.length
  ·rw[if_neg h1,if_pos h2] at h;cases h
  ·rw[if_neg h1,if_neg h2] at h ⊢;cases h3:l.findIdx? (xu v) with
   |some i =>rw[h3] at h;simp only[Xi] at h;split at h<;>omega
   |none =>
    rw[List.findIdx?_eq_none_iff] at h3;refine⟨by omega,by omega,by omega,fun c hc x hx=>?_,rfl,fun c hc=>?_⟩
    ·have:=h3 c hc;unfold xu at this;rw[Bool.or_eq_false_iff,List.any_eq_false] at this;simpa using this.2 x hx
    ·have:=h3 c hc;unfold xu at this;rw[Bool.or_eq_false_iff] at this;have:=of_decide_eq_false this.1;omega
end
end Go.Proofs.YtlmmkbnjhilbdaaGreatDoor
