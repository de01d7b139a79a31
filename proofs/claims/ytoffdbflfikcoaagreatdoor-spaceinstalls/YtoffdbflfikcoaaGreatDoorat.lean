import Derived.Test.YtoffdbflfikcoaaGreatDooras
import Derived.Laws.CopyOwn
open Go.Proofs.Tryz Go.RowKit
namespace Go.Proofs.YtoffdbflfikcoaaGreatDoor
set_option maxHeartbeats 1000000
set_option maxRecDepth 100000
section
open Go.Shelf Sv
theorem zfW(s:ByteArray)(k:Nat):(s.extract k s.size).data.toList=s.data.toList.drop k:=by
 rw[Xe,ztx (by rw[zsZ];exact zri _)]
end
section
open Go.Shelf Sv
theorem zqD{s:ByteArray}{c:UInt8}(h:Lib.index s.data.toList [c]<0):zb s c=(s,⟨#[]⟩):=by
 unfold zb Lib.cut;rw[zc2 (by omega)]
theorem zqW{s:ByteArray}{c:UInt8}{j:Nat}(h:Lib.index s.data.toList [c]=(j:Int)):zb s c=(s.extract 0 j,s.extract (j+1) s.size):=by
 unfold zb Lib.cut;rw[zc3 (by omega),h];simp only[zrh,zr9];refine Prod.ext ?_ ?_
 ·exact(Y6 (by rw[Xe];simp)).symm
 ·exact(Y6 (by rw[zfW])).symm
theorem yu(s:ByteArray)(w:World)(hs:s.size<=100000):zR 74 #[s] w (.tuple #[.string (zb s 32).1,.string (zb s 32).2]):=by
 have HI:Hid (zC 119 #[s,.int .u8 32] w fun e w'=>e=.returned (.int .i64 (Lib.index s.data.toList [32]))/\w'=w):=by
  have:=Tryz.strings_IndexByte s 32 w;rw[show (32:Int).toNat.toUInt8=32 from rfl,<-Lib.index_one] at this;exact this
 by_cases h:Lib.index s.data.toList [32]<0
 ·rw[zqD h];generalize Lib.index s.data.toList [32]=K at *;go_enter func74,ntmps74;go_wp2_with fail;refine HI.out.mono ?_;rintro e w1 ⟨rfl,p⟩;rw[p];clear p HI;go_wp2;refine zc4 (v:=.tuple #[s,.string ⟨#[]⟩]) (by simp[results,results74,go_sem]) rfl ?_;exact⟨rfl,zf0 _ _⟩
 ·obtain⟨j,hj⟩:∃j:Nat,Lib.index s.data.toList [32]=(j:Int):=⟨(Lib.index s.data.toList [32]).toNat,by omega⟩;have o:=YX s.data.toList [32] (by omega);rw[hj] at o HI;have y:s.data.toList.length=s.size:=by simp
  rw[y] at o;simp only[zrh,zr9] at o;rw[zqW hj];obtain⟨J1,u⟩:∃J1,j+1=J1:=⟨_,rfl⟩;rw[u] at o ⊢;have M:IntKind.i64.wrap ((j:Int)+1)=(J1:Int):=by rw[zrl];omega
  have J:¬(j:Int)<0:=by omega
  have i2:(j:Int)<=(s.size:Int):=by omega
  have i3:(J1:Int)<=(s.size:Int):=by omega
  have C:=fun W'=>run_slice_string_h (P:=prog) W' 9 s zrf .i64 (j:Int) (by omega) i2;have q:=fun W'=>run_slice_string_l (P:=prog) W' 9 s zrf .i64 (J1:Int) (by omega) i3;simp only[zrh] at C q;clear h hj y u;go_enter func74,ntmps74;go_wp2_with fail;refine HI.out.mono ?_;rintro e w1 ⟨rfl,p⟩;rw[p];clear p HI;go_wp2_with fail;go_big_region;have HB:Hid (zB w w.drew):=zF.drew;go_wp2;refine zc4 (v:=.tuple #[.string (s.extract 0 j),.string (s.extract J1 s.size)]) (by simp[results,results74,go_sem]) rfl ?_;exact⟨rfl,HB.out⟩
end
namespace Sv
def inP:List Nat->Nat->Bool
 |[],_=>false
 |a :: r,n=>if a<=n then !inP r n else false
def Up:List Nat->Prop
 |[]=>True
 |a :: r=>(∀x∈r,a<x)/\Up r
def tp:List zf->List Nat
 |[]=>[]
 |s :: r=>s.1 :: s.2 :: tp r
theorem YC{l:List Nat}{n:Nat}(h:∀x∈l,n<x):inP l n=false:=by
 cases l with
 |nil=>rfl
 |cons a r=>rw[inP,zc2 (by have:=h a zsf;omega)]
theorem zbh{l m:List Nat}:Up l->Up m->(∀n,inP l n=inP m n)->l=m:=by
 induction l generalizing m with
 |nil =>
  intro _ hm h;cases m with
  |nil=>rfl
  |cons b q =>have:=h b;rw[inP,inP,zc3 zN,YC (fun x hx=>hm.1 x hx)] at this;cases this
 |cons a r ih =>
  intro hl hm h;cases m with
  |nil =>have:=h a;rw[inP,inP,zc3 zN,YC (fun x hx=>hl.1 x hx)] at this;cases this
  |cons b q =>
   have j:a=b:=by
    rcases Nat.lt_trichotomy a b with hlt|heq|hlt
    ·have:=h a;rw[inP,inP,zc3 zN,zc2 (by omega),YC (fun x hx=>hl.1 x hx)] at this;cases this
    ·exact heq
    ·have:=h b;rw[inP,inP,zc2 (by omega),zc3 zN,YC (fun x hx=>hm.1 x hx)] at this;cases this
   subst j;rw[ih hl.2 hm.2 fun n=>?_]
   by_cases hn:a<=n
   ·have:=h n;rw[inP,inP,zc3 hn,zc3 hn] at this;cases hx:inP r n<;>cases hy:inP q n<;>simp_all
   ·rw[YC (fun x hx=>by have:=hl.1 x hx;omega),YC (fun x hx=>by have:=hm.1 x hx;omega)]
theorem zfg:∀{l:List zf} {lo:Nat},qV lo l->∀x∈tp l,lo<=x:=by
 intro l
 induction l with
 |nil=>intro lo _ x hx;cases hx
 |cons s r ih =>
  intro lo h x hx;obtain⟨h1,h2,h3,h4⟩:=h;rw[tp] at hx;rcases zrw.1 hx with rfl|hx
  ·exact h1
  ·rcases zrw.1 hx with rfl|hx
   ·omega
   ·have:=ih h4 x hx;omega
theorem zav:∀{l:List zf} {lo:Nat},qV lo l->Up (tp l):=by
 intro l
 induction l with
 |nil=>intro lo _;trivial
 |cons s r ih =>
  intro lo h;obtain⟨h1,h2,h3,h4⟩:=h;refine⟨fun x hx=>?_,fun x hx=>?_,ih h4⟩
  ·rcases zrw.1 hx with rfl|hx
   ·exact h2
   ·have:=zfg h4 x hx;omega
  ·have:=zfg h4 x hx;omega
theorem Qe:∀{l:List zf} {lo n:Nat},qV lo l->(inP (tp l) n=true↔mem l n):=by
 intro l
 induction l with
 |nil=>intro lo n _;simp[tp,inP,Qt]
 |cons s r ih =>
  intro lo n h;obtain⟨h1,h2,h3,h4⟩:=h;have hr:=ih (n:=n) h4;have hg:mem r n->s.2+1<=n:=h4.ge;rw[tp,inP,inP,mem_cons]
  by_cases a:s.1<=n
  ·rw[zc3 a]
   by_cases b:s.2<=n
   ·rw[zc3 b];simp only[Bool.not_not,hr];constructor
    ·exact Or.inr
    ·rintro (⟨_,h⟩|h)
     ·omega
     ·exact h
   ·rw[zc2 b];simp only[Bool.not_false,true_iff];left;omega
  ·rw[zc2 a];simp only[zsu,false_iff];rintro (⟨h,_⟩|h)
   ·omega
   ·have:=hg h;omega
theorem Kl(l:List zf):(tp l).length=l.length*2:=by
 induction l with
 |nil=>rfl
 |cons s r ih=>rw[tp,zrb,zrb,ih,zrb];omega
theorem zn7{a b:Nat}:tp (zi a b)=if a<b then [a,b] else []:=by
 unfold zi;split<;>rfl
def Srt:List Nat->Prop
 |[]=>True
 |a :: r=>(∀x∈r,a<=x)/\Srt r
theorem zby{l r:List Nat}:Srt (l++r)↔Srt l/\Srt r/\∀x∈l,∀y∈r,x<=y:=by
 induction l with
 |nil=>simp[Srt]
 |cons a l ih =>
  rw[zrL,Srt,Srt,ih];constructor
  ·rintro⟨h1,h2,h3,h4⟩;refine⟨⟨fun x hx=>h1 x (ztN _ hx),h2⟩,h3,fun x hx y hy=>?_⟩;rcases zrw.1 hx with rfl|hx
   ·exact h1 y (zuJ _ hy)
   ·exact h4 x hx y hy
  ·rintro⟨⟨h1,h2⟩,h3,h4⟩;refine⟨fun x hx=>?_,h2,h3,fun x hx y hy=>h4 x (zst _ hx) y hy⟩;rcases zro.1 hx with hx|hx
   ·exact h1 x hx
   ·exact h4 a zsf x hx
def qY(l:List Nat)(n:Nat):Nat->Nat
 |0=>0
 |k+1=>if n<l.getD k 0 then qY l n k else k+1
theorem zbe(l:List Nat)(n k:Nat):qY l n k<=k:=by
 induction k with
 |zero=>exact zri _
 |succ k ih=>unfold qY;split<;>omega
def xF(l:List Nat)(n:Nat):List Nat:=l.take (qY l n l.length)++n :: l.drop (qY l n l.length)
theorem zod(l:List Nat)(n:Nat):∀k j,qY l n k<=j->j<k->n<l.getD j 0:=by
 intro k
 induction k with
 |zero=>intro j _ h;omega
 |succ k ih =>
  intro j h1 h2;unfold qY at h1;split at h1
  ·rename_i hlt
   by_cases hj:j<k
   ·exact ih j h1 hj
   ·obtain rfl:j=k:=by omega
    exact hlt
  ·omega
theorem znF(l:List Nat)(n:Nat):∀k,0<qY l n k->l.getD (qY l n k-1) 0<=n:=by
 intro k
 induction k with
 |zero=>intro h;exact absurd h (by simp[qY])
 |succ k ih =>
  unfold qY;split
  ·exact ih
  ·rename_i h;intro _;simpa using h
theorem zmf{l:List Nat}{n x:Nat}:x∈xF l n↔x=n\/x∈l:=by
 unfold xF;rw[zro,zrw];have:x∈l↔x∈l.take (qY l n l.length)\/x∈l.drop (qY l n l.length):=by
  rw[<-zro,zrN]
 rw[this];constructor
 ·rintro (h|h|h)<;>simp[h]
 ·rintro (h|h|h)<;>simp[h]
theorem zg3{l:List Nat}{n:Nat}(h:Srt l):Srt (xF l n):=by
 unfold xF;have j:=h;rw[<-zrN (qY l n l.length) l,zby] at j;obtain⟨h1,h2,h3⟩:=j;have hp:=zbe l n l.length;rw[zby];refine⟨h1,⟨fun x hx=>?_,h2⟩,fun x hx y hy=>?_⟩
 ·obtain⟨i,hi,rfl⟩:=zrQ hx;rw[zrK] at hi;have:=zod l n l.length (qY l n l.length+i) (by omega) (by omega);rw[zc0,zc5 (by omega)] at this;rw[List.getElem_drop];simp at this;omega
 ·rcases zrw.1 hy with rfl|hy
  ·by_cases hz:0<qY l y l.length
   ·have q:=znF l y l.length hz
    -- the last one of the first part is not greater,and all of them are not greater than it
    have p:l.getD (qY l y l.length-1) 0∈l.take (qY l y l.length):=by
     rw[zc0,zc5 (by omega)];simp only[Option.getD_some];exact zuV.2 ⟨qY l y l.length-1,by rw[zrj];omega,by rw[ztH]⟩
    obtain⟨i,hi,rfl⟩:=zrQ hx;rw[zrj] at hi;rw[ztH];have C:∀(a b:Nat) (hb:b<l.length),(o:a<=b)->l[a]'(by omega)<=l[b]:=by
     intro a b hb o;rcases Nat.lt_or_eq_of_le o with hlt|rfl
     ·have u:=h;rw[<-zrN (a+1) l,zby] at u;refine u.2.2 _ ?_ _ ?_
      ·exact zuV.2 ⟨a,by rw[zrj];omega,by rw[ztH]⟩
      ·exact zuV.2 ⟨b-(a+1),by rw[zrK];omega,by rw[List.getElem_drop];congr 1;omega⟩
     ·exact zri _
    have:=C i (qY l y l.length-1) (by omega) (by omega);rw[zc0,zc5 (by omega)] at q;simp only[Option.getD_some] at q;omega
   ·rw[show qY l y l.length=0 by omega] at hx;simp at hx
  ·exact h3 x hx y hy
def yg(acc:List Nat)(l:List Nat):List Nat:=l.foldl xF acc
theorem zai:∀{l acc:List Nat},Srt acc->Srt (yg acc l):=by
 intro l
 induction l with
 |nil=>intro acc h;exact h
 |cons a r ih=>intro acc h;exact ih (acc:=xF acc a) (zg3 h)
theorem zaa:∀{l acc:List Nat} {x:Nat},x∈yg acc l↔x∈acc\/x∈l:=by
 intro l
 induction l with
 |nil=>intro acc x;simp[yg]
 |cons a r ih =>
  intro acc x;show x∈yg (xF acc a) r↔_;rw[ih,zmf,zrw];constructor
  ·rintro ((h|h)|h)<;>simp[h]
  ·rintro (h|h|h)<;>simp[h]
def qX(f:Nat->Bool):Bool->List Nat->List Nat
 |_,[]=>[]
 |is,n :: r=>if f n=is then qX f is r else n :: qX f (f n) r
def Yz(f:Nat->Bool):Bool->List Nat->Nat->Bool
 |is,[],_=>is
 |is,n :: r,x=>if n<=x then Yz f (f n) r x else is
theorem zdc{f:Nat->Bool}:∀{l:List Nat} {is:Bool},∀x∈qX f is l,x∈l:=by
 intro l
 induction l with
 |nil=>intro is x hx;cases hx
 |cons n r ih =>
  intro is x hx;unfold qX at hx;split at hx
  ·exact zst _ (ih x hx)
  ·rcases zrw.1 hx with rfl|hx
   ·exact zsf
   ·exact zst _ (ih x hx)
theorem znw{f:Nat->Bool}{n:Nat}:∀{l:List Nat},Srt l->(∀x∈l,n<=x)->∀x∈qX f (f n) l,n<x:=by
 intro l
 induction l with
 |nil=>intro _ _ x hx;cases hx
 |cons m r ih =>
  intro hs hl x hx;have hm:=hl m zsf;unfold qX at hx;split at hx
  ·exact ih hs.2 (fun y hy=>hl y (zst _ hy)) x hx
  ·rename_i hne;have j:n<m:=by
    rcases Nat.lt_or_eq_of_le hm with h|rfl
    ·exact h
    ·exact absurd rfl hne
   rcases zrw.1 hx with rfl|hx
   ·exact j
   ·have:=hs.1 x (zdc x hx);omega
theorem zkR{f:Nat->Bool}:∀{l:List Nat} {is:Bool},Srt l->Up (qX f is l):=by
 intro l
 induction l with
 |nil=>intro is _;trivial
 |cons n r ih =>
  intro is hs;unfold qX;split
  ·exact ih hs.2
  ·exact⟨znw hs.2 hs.1,ih hs.2⟩
theorem zmB{f:Nat->Bool}{x:Nat}:∀{l:List Nat} {is:Bool},Srt l->(inP (qX f is l) x ^^ is)=Yz f is l x:=by
 intro l
 induction l with
 |nil=>intro is _;simp[qX,inP,Yz]
 |cons n r ih =>
  intro is hs;have h1:=ih (is:=f n) hs.2;unfold qX Yz
  by_cases hn:n<=x
  ·rw[zc3 hn];split
   ·rename_i e;rw[<-e];exact h1
   ·rename_i e;rw[inP,zc3 hn,<-h1];cases hf:f n<;>cases is<;>simp_all
  ·rw[zc2 hn];split
   ·rw[YC (fun y hy=>by have:=hs.1 y (zdc y hy);omega)];simp
   ·rw[inP,zc2 hn];simp
theorem zja{f:Nat->Bool}{x:Nat}:∀{l:List Nat} {is:Bool},Srt l->(∃e∈l,e<=x)->∃m∈l,(∀e∈l,e<=m↔e<=x)/\Yz f is l x=f m:=by
 intro l
 induction l with
 |nil=>rintro is _ ⟨e,he,_⟩;cases he
 |cons n r ih =>
  intro is hs o;have hn:n<=x:=by
   obtain⟨e,he,j⟩:=o;rcases zrw.1 he with rfl|he
   ·exact j
   ·have:=hs.1 e he;omega
  unfold Yz;rw[zc3 hn]
  by_cases h:∃e∈r,e<=x
  ·obtain⟨m,hm,h1,h2⟩:=ih (is:=f n) hs.2 h;refine⟨m,zst _ hm,fun e he=>?_,h2⟩;rcases zrw.1 he with rfl|he
   ·have:=hs.1 m hm;exact⟨fun _=>hn,fun _=>this⟩
   ·exact h1 e he
  ·refine⟨n,zsf,fun e he=>?_,?_⟩
   ·rcases zrw.1 he with rfl|he
    ·exact⟨fun _=>hn,fun _=>zri _⟩
    ·have p:¬e<=x:=fun j=>h ⟨e,he,j⟩;constructor
     ·intro j;omega
     ·intro j;exact absurd j p
   ·cases r with
    |nil=>rfl
    |cons m q =>unfold Yz;rw[zc2 (fun j=>h ⟨m,zsf,j⟩)]
theorem zcG{m x:Nat}:∀{l:List Nat},(∀e∈l,e<=m↔e<=x)->inP l m=inP l x:=by
 intro l
 induction l with
 |nil=>intro _;rfl
 |cons a r ih =>
  intro h;have:=h a zsf;unfold inP;rw[ih (fun e he=>h e (zst _ he))]
  by_cases ha:a<=x
  ·rw[zc3 ha,zc3 (this.2 ha)]
  ·rw[zc2 ha,zc2 (fun hm=>ha (this.1 hm))]
def ZV(a b:List Nat)(rule:Bool->Bool->Bool)(n:Nat):Bool:=decide (n<ALL)&&rule (inP a n) (inP b n)
def Qj(a b:List Nat):List Nat:=yg (yg (yg [] [0,ALL]) a) b
def Qv(a b:List Nat)(rule:Bool->Bool->Bool):List Nat:=qX (ZV a b rule) false (Qj a b)
theorem zbk(a b:List Nat):Srt (Qj a b):=zai (zai (zai trivial))
theorem Js{a b:List Nat}{x:Nat}:x∈Qj a b↔(x=0\/x=ALL)\/x∈a\/x∈b:=by
 unfold Qj;rw[zaa,zaa,zaa];simp[or_assoc]
theorem zbS(a b:List Nat)(rule:Bool->Bool->Bool)(x:Nat):inP (Qv a b rule) x=ZV a b rule x:=by
 have h:=zmB (f:=ZV a b rule) (x:=x) (is:=false) (zbk a b);obtain⟨m,hm,h1,h2⟩:=zja (f:=ZV a b rule) (x:=x) (is:=false) (zbk a b) ⟨0,Js.2 (Or.inl (Or.inl rfl)),zf6 _⟩;rw[h2] at h;simp only[Bool.xor_false] at h;unfold Qv;rw[h];unfold ZV;have hA:=h1 ALL (Js.2 (Or.inl (Or.inr rfl)));rw[zcG (l:=a) (fun e he=>h1 e (Js.2 (Or.inr (Or.inl he)))),zcG (l:=b) (fun e he=>h1 e (Js.2 (Or.inr (Or.inr he))))];congr 1;rw[decide_eq_decide];omega
theorem J6(a b:List Nat)(rule:Bool->Bool->Bool):Up (Qv a b rule):=zkR (zbk a b)
open Classical in
theorem zkw{l m:List zf}(hl:Rg l)(hm:Rg m):Qv (tp l) (tp m) (fun x y=>x&&y)=tp (nd l m) :=
 zbh (J6 _ _ _) (zav (Qz hl hm)) fun n=>by
  rw[zbS,zrB,Qe (Qz hl hm),zeN hl hm];unfold ZV;rw[zs1,zs1,Qe hl,Qe hm,zt1];exact⟨fun h=>h.2,fun h=>⟨hl.lt h.1,h⟩⟩
theorem zpk{l m:List zf}(hl:Rg l)(hm:Rg m):Qv (tp l) (tp m) (fun x y=>x||y)=tp (orr l m) :=
 zbh (J6 _ _ _) (zav (XJ hl hm)) fun n=>by
  rw[zbS,zrB,Qe (XJ hl hm),ziK hl hm];unfold ZV;rw[zs1,Bool.or_eq_true,Qe hl,Qe hm,zt1];exact⟨fun h=>h.2,fun h=>⟨h.elim hl.lt hm.lt,h⟩⟩
theorem zoL{l:List zf}(hl:Rg l):Qv (tp l) [] (fun x _=>!x)=tp (nt l) :=
 zbh (J6 _ _ _) (zav (xO hl)) fun n=>by
  rw[zbS,zrB,Qe (xO hl),Jr hl];unfold ZV;rw[zs1,zux,zt1,<-Bool.not_eq_true,Qe hl]
theorem zhY(a b:List Nat):(Qj a b).length=a.length+b.length+2:=by
 have hi:∀(l:List Nat) (n:Nat),(xF l n).length=l.length+1:=fun l n=>by
  unfold xF;rw[zf4,zrb,zrj,zrK];have:=zbe l n l.length;omega
 have ha:∀(l j:List Nat),(yg j l).length=j.length+l.length:=fun l=>by
  induction l with
  |nil=>intro j;rfl
  |cons x l ih=>intro j;show (yg (xF j x) l).length=_;rw[ih,hi,zrb];omega
 unfold Qj;rw[ha,ha,ha];simp;omega
end Sv
section
open Sv
def zw(l:List Nat):List Value:=l.map fun (n:Nat)=>.int .i64 n
def nv(l:List Nat)(i:Nat):Nat:=l.getD i 0
theorem Y1(l:List Nat)(i:Nat)(h:i<l.length):nv l i=l[i]:=by unfold nv;simp[List.getD_eq_getElem?_getD,List.getElem?_eq_getElem h]
theorem Z9(l:List Nat):(zw l).length=l.length:=by simp[zw]
theorem Kq(a b:List Nat):zw (a++b)=zw a++zw b:=by simp[zw]
theorem Yf(l:List Nat)(i:Nat)(h:i<l.length):(zw l)[i]?=some (.int .i64 (nv l i)):=by simp[zw,h,Y1]
structure zE(w:World)(v:Value)(l:List Nat):Prop where
 form:∃a cap,v=.slice a l.length cap
 cells:∀i,i<l.length->∃g cap,v=.slice (some ⟨g,0,none⟩) l.length cap/\g<w.heap.size/\w.cell? ⟨g,i,none⟩=some (.int .i64 (nv l i))
theorem xM(w:World):zE w (.slice none 0 0) []:=⟨⟨none,0,rfl⟩,fun i h=>by simp at h⟩
theorem zE.below{B:Nat}{w w':World}{v:Value}{l:List Nat}(h:zE w v l)(hb:Below B w w')(hB:w.heap.size<=B):zE w' v l :=
 ⟨h.form,fun i hi=>by
  obtain⟨g,j,e,hg,c0⟩:=h.cells i hi;exact ⟨g,j,e,zc6 hg hb.size,(hb.cell (p:=⟨g,i,none⟩) (by show g<B;omega)).trans c0⟩⟩
theorem zE.drew{w:World}{v:Value}{l:List Nat}(h:zE w v l):zE w.drew v l:=⟨h.form,h.cells⟩
theorem zbj{B:Nat}{w:World}{v:Value}{l:List Nat}(h:w.ownsRow B 3 1 v l.length (zw l)):zE w v l:=by
 rcases h.2 with ⟨e,e0⟩|⟨g,o,q,e,hB,hg,hn,hm,u,j⟩
 ·exact⟨⟨none,0,by rw[e,e0]⟩,fun i hi=>by omega⟩
 ·refine⟨⟨_,_,e⟩,fun i hi=>?_⟩;have p:g<w.heap.size:=(h.lt g (by rw[e];rfl)).2;have cell:w.cell? ⟨g,i,none⟩=(zw l)[i]?:=by
   rw[<-j,zrP,zc3 (by omega)];simp[World.cell?,hg]
  exact⟨g,o,e,p,cell.trans (Yf l i hi)⟩
theorem zaG{B n:Nat}{w:World}{v:Value}{t:TypeId}{cs:List Value}(h:w.ownsRow B t 1 v n cs):∃a c,v=.slice a n c:=by
 rcases h.2 with ⟨e,e0⟩|⟨g,j,o,e,-⟩
 ·exact⟨none,0,by rw[e,e0]⟩
 ·exact⟨_,_,e⟩
def yM(w:World)(l:List Nat)(e:Ending)(w':World):Prop:=∃a c,e=.returned (.slice a l.length c)/\zE w' (.slice a l.length c) l/\(∀g,(Value.slice a l.length c).ownBlock=some g->w.heap.size<=g)/\zB w w'
theorem zmL{l:List Nat}{n k:Nat}(hk:k<l.length)(h:nv l k<=n):inP (l.drop k) n=!inP (l.drop (k+1)) n:=by
 rw[zrR hk,inP,<-Y1 l k hk,zc3 h]
theorem zhb{l:List Nat}{n k:Nat}(hk:k<l.length)(h:¬nv l k<=n):inP (l.drop k) n=false:=by
 rw[zrR hk,inP,<-Y1 l k hk,zc2 h]
theorem zfY(k:Nat):((k:Int)%2==1)=(k%2==1):=by
 rw[show (k:Int)%2=((k%2:Nat):Int) by omega];rcases Nat.mod_two_eq_zero_or_one k with e|e<;>rw[e]<;>rfl
theorem ziX(k:Nat)(b:Bool):(b ^^ (k%2==1))=((!b) ^^ ((k+1)%2==1)):=by
 rcases Nat.mod_two_eq_zero_or_one k with e|e
 ·have:(k+1)%2=1:=by omega
  rw[e,this];cases b<;>rfl
 ·have:(k+1)%2=0:=by omega
  rw[e,this];cases b<;>rfl
theorem zae(l:List Nat)(n:Nat)(v:Value)(w:World)(hv:zE w v l)(hlen:l.length<=1000000000) :
  zC 142 #[v,n] w fun e w'=>e=.returned (inP l n)/\w'=w:=by
 obtain⟨a,u,rfl⟩:=hv.form;have HV:=zH hv;clear hv;go_enter func142,ntmps142;go_wp2_with fail;go_loopw [5] (fun kV wr=>∃k:Nat,k<=l.length/\kV=.int .i64 k/\(inP (l.drop k) n ^^ (k%2==1))=inP l n/\wr=w) (fun kV _=>l.length-(intOf kV).toNat)
 case atStart=>exact⟨0,zf6 _,rfl,by simp,rfl⟩
 case round =>
  obtain⟨k,hk,rfl,j,rfl⟩:=hrel;have HR:=zH j;clear j
  by_cases hlt:k<l.length
  ·obtain⟨g,q,e1,hg,c0⟩:=HV.out.cells k hlt;simp at e1;obtain⟨rfl,rfl⟩:=e1
   by_cases hle:nv l k<=n
   ·have j:=HR.out;rw[zmL hlt hle,ziX,Bool.not_not] at j;have p:=zH j;clear j HR;generalize nv l k=A at *;go_wp2;go_roundw
    case rel=>exact⟨k+1,by omega,by go_num,p.out,trivial⟩
    case measure=>simp[intOf];omega
   ·have j:=HR.out;rw[zhb hlt hle,Bool.false_xor] at j;have o:=zfY k;rw[j] at o;have p:=zH o;clear j HR o;generalize nv l k=A at *;go_wp2;go_ret;exact⟨zsj (fun b=>Ending.returned (.bool b)) p.out,rfl⟩
  ·obtain rfl:k=l.length:=by omega
   have j:=HR.out;rw[zsV,inP,Bool.false_xor] at j;have o:=zfY l.length;rw[j] at o;have p:=zH o;clear j HR o;go_wp2;go_ret;exact⟨zsj (fun b=>Ending.returned (.bool b)) p.out,rfl⟩
theorem Zc(x y:Nat)(w:World):zC 121 #[x,y] w (yM w (tp (zi x y))):=by
 rw[zn7]
 by_cases h:x<y
 ·rw[zc3 h];have h1:¬(y:Int)<=(x:Int):=by omega
  clear h;go_enter func121,ntmps121;go_wp2;go_ret;refine⟨_,_,rfl,⟨⟨_,_,rfl⟩,fun i hi=>⟨w.heap.size,2,rfl,by simp,?_⟩⟩,fun g hg=>by simp[Value.ownBlock] at hg;omega,(zf0 _ w).alloc zN _⟩
  match i,hi with
  |0,_=>simp[nv]
  |1,_=>simp[nv]
 ·rw[zc2 h];have h1:(y:Int)<=(x:Int):=by omega
  clear h;go_enter func121,ntmps121;go_wp2;go_ret;exact⟨none,0,rfl,xM _,fun g hg=>by simp[Value.ownBlock] at hg,zf0 _ _⟩
theorem yZ(a b c:Nat)(ha:a<=1000)(hb:b<=1000)(hc:c<=1000)(w:World) :
  zR 143 #[.agg #[a,b,c]] w (.int .i64 (((a*1000+b)*1000+c:Nat):Int)):=by
 have hB:Hid (zB w (w.alloc (.cells #[a,b,c] 91))):=(zf0 _ w).alloc zN _;have HN:Hid ((a:Int)*1000000+(b:Int)*1000+(c:Int)=(((a*1000+b)*1000+c:Nat):Int)):=by show _=_;omega
 go_enter func143,ntmps143;go_wp2;go_ret;exact⟨zsj (fun z=>Ending.returned (Value.int .i64 z)) HN.out,hB.out⟩
end
section
open Sv
theorem ziP:(prog.info? 3).map (fun i=>(i.zero,i.size,i.bytes))=some (some (.int .i64 0),1,8):=by kernel_rfl
theorem YS:(prog.info? 3).map (·.size)=some 1:=by kernel_rfl
theorem XR(w:World)(A:Value)(t:TypeId):∀(j:Nat) (u:Value),[A][j]?=some u->(w.alloc (.cells #[A] t)).cell? (Addr.add w.heap.size j)=some u:=by
 intro j u h
 match j,h with
 |0,h=>simp at h;subst h;simp[Addr.add]
 |j+1,h=>simp at h
def Zt(a b:List Nat):Nat->List Nat
 |0=>[0,ALL]
 |1=>a
 |_=>b
def yV(a b:List Nat):Nat->List Nat
 |0=>[]
 |j+1=>yg (yV a b j) (Zt a b j)
theorem zpT(acc l:List Nat)(k:Nat)(hk:k<l.length):yg acc (l.take (k+1))=xF (yg acc (l.take k)) (nv l k):=by
 unfold yg;rw[zry hk,ztJ,List.foldl_cons,List.foldl_nil,Y1 l k hk]
theorem XB(l acc:List Nat):(yg acc l).length=acc.length+l.length:=by
 have hi:∀(l:List Nat) (n:Nat),(xF l n).length=l.length+1:=fun l n=>by
  unfold xF;rw[zf4,zrb,zrj,zrK];have:=zbe l n l.length;omega
 induction l generalizing acc with
 |nil=>rfl
 |cons x l ih=>show (yg (xF acc x) l).length=_;rw[ih,hi,zrb];omega
theorem zhS(a b:List Nat)(j:Nat)(hj:j<=3):(yV a b j).length<=a.length+b.length+2:=by
 match j,hj with
 |0,_=>simp[yV]
 |1,_=>simp[yV,XB,Zt]
 |2,_=>simp[yV,XB,Zt];omega
 |3,_=>simp[yV,XB,Zt];omega
theorem zpV(a b:List Nat)(j k:Nat)(hj:j<3):(yg (yV a b j) ((Zt a b j).take k)).length<=a.length+b.length+2:=by
 have h:=zhS a b (j+1) hj;rw[yV,XB] at h;rw[XB,zrj];omega
theorem zqi{acc:List Nat}{n i:Nat}{cur:List Value}(hi:i<=acc.length)(hc:cur.take (acc.length+1)=zw acc++[.int .i64 0]) :
  ((splice cur (i+1) ((zw acc).drop i)).set i (.int .i64 n)).take (acc.length+1)=zw (acc.take i++n :: acc.drop i):=by
 have q:acc.length+1<=cur.length:=by
  have:=zsj List.length hc;rw[zrj,zf4,Z9,zr9] at this;omega
 apply zuw;intro j;have o:∀j,j<acc.length+1->cur[j]?=(zw acc++[.int .i64 0])[j]?:=fun j hj=>by
  rw[<-hc,zrP,zc3 hj]
 by_cases hj:j<acc.length+1
 ·rw[zrP,zc3 hj];unfold splice;rw[ztI];have p:((zw acc).drop i).length=acc.length-i:=by rw[zrK,Z9]
  by_cases hij:i=j
  ·subst hij;rw[zc3 rfl,zc3 (by simp;omega)];unfold zw;rw[zs9,zrG (by rw[zrj];omega)];rw[zrj,show i-min i acc.length=0 by omega];rfl
  ·rw[zc2 hij]
   by_cases hlt:j<i
   ·rw[zrk (by rw[zrj];omega),zrP,zc3 (by omega),o j hj,zrk (by rw[Z9];omega)];unfold zw;rw[zs9,zs9,zrk (by rw[zrj];omega),zrP,zc3 hlt]
   ·rw[zrG (by rw[zrj];omega),zrj,show min (i+1) cur.length=i+1 by omega,zrk (by rw[p];omega),zth];unfold zw;rw[zs9,zs9,zrG (by rw[zrj];omega),zrj,show j-min i acc.length=(j-i-1)+1 by omega,ztu,zth];congr 2
 ·rw[zrP,zc2 hj,zsM];rw[Z9,zf4,zrb,zrj,zrK];omega
theorem zn1{w4:World}{B g cap i n:Nat}{acc:List Nat}{cur:List Value}(hi:i<=acc.length)(hB:B<=g)(hnc:acc.length+1<=cap)(hmx:cap<=maxLen)(hsz:cur.length=cap)(htk:cur.take (acc.length+1)=zw acc++[.int .i64 0])
  (h4:w4.heap[g]?=some (.cells (splice cur (i+1) ((zw acc).drop i)).toArray 3 (0,0))) :
  (∃u,w4.cell? ⟨g,i,none⟩=some u)/\w4.frozen? ⟨g,i,none⟩=false/\(w4.setCell ⟨g,i,none⟩ (.int .i64 n)).ownsRow B 3 1 (.slice (some g) (acc.length+1) cap) (acc.length+1) (zw (acc.take i++n :: acc.drop i)):=by
 have k:Blk w4 g 3 (splice cur (i+1) ((zw acc).drop i)).toArray:=h4;have j:((zw acc).drop i).length=acc.length-i:=by rw[zrK,Z9]
 have o:(splice cur (i+1) ((zw acc).drop i)).length=cap:=by rw[length_splice _ _ _ (by rw[j];omega),hsz]
 refine⟨?_,k.frozen i,?_,.inr ⟨g,cap,_,rfl,hB,k.set (i:=i),hnc,hmx,?_,?_⟩⟩
 ·rw[k.cell i];exact⟨_,by rw[zti,zc5 (by omega)]⟩
 ·rw[Z9,zf4,zrb,zrj,zrK];omega
 ·rw[Array.size_setIfInBounds,zrT,o,Nat.mul_one]
 ·rw[Array.toList_setIfInBounds,Nat.mul_one];exact zqi hi htk
theorem zjt(f:Nat->Bool)(is:Bool)(l:List Nat):(qX f is l).length<=l.length:=by
 induction l generalizing is with
 |nil=>exact zri _
 |cons n r ih =>
  unfold qX;split
  ·have:=ih is;rw[zrb];omega
  ·have:=ih (f n);rw[zrb,zrb];omega
theorem zec{f:Nat->Bool}{is:Bool}{l:List Nat}{k:Nat}(hk:k<l.length)(h:f (nv l k)=is):qX f is (l.drop k)=qX f is (l.drop (k+1)):=by
 rw[zrR hk,qX,<-Y1 l k hk,zc3 h]
theorem zfU{f:Nat->Bool}{is:Bool}{l:List Nat}{k:Nat}(hk:k<l.length)(h:¬f (nv l k)=is):qX f is (l.drop k)=nv l k :: qX f (f (nv l k)) (l.drop (k+1)):=by
 rw[zrR hk,qX,<-Y1 l k hk,zc2 h]
theorem zom(a b:List Nat)(hla:a.length<=1000000000)(hlb:b.length<=1000000000):∀j,(Zt a b j).length<=1000000000
 |0=>Nat.le_of_ble_eq_true rfl
 |1=>hla
 |_+2=>hlb
theorem zqJ(a b:List Nat)(aa ab:Option Addr)(ca cb:Nat)(w W0:World)(hW0:(w.alloc (.cells #[(0:Int),(1000000000:Int)] 3)).alloc (.cells #[.slice (some w) 2 2,.slice aa a.length ca,.slice ab b.length cb] 92)=W0)
  (HVA:zE w (.slice aa a.length ca) a) (HVB:zE w (.slice ab b.length cb) b) :
  zB w W0/\(∀j,j<3->∃x c,∀W,zB W0 W->W.cell? ⟨w.heap.size+1,j,none⟩=some (.slice x (Zt a b j).length c)/\zE W (.slice x (Zt a b j).length c) (Zt a b j)):=by
 have o:zB w W0:=by rw[<-hW0];exact((zf0 _ w).alloc zN _).alloc (by simp) _
 refine⟨o,fun j hj=>?_⟩;have k0:Blk W0 w.heap.size 3 #[(0:Int),(1000000000:Int)]:=by rw[<-hW0];exact(Blk.new w 3 _).alloc _
 have k1:Blk W0 (w.heap.size+1) 92 #[.slice (some w) 2 2,.slice aa a.length ca,.slice ab b.length cb]:=by rw[<-hW0];have:=Blk.new (w.alloc (.cells #[(0:Int),(1000000000:Int)] 3)) 92 #[.slice (some w) 2 2,.slice aa a.length ca,.slice ab b.length cb];rw[zc1] at this;exact this
 match j,hj with
 | 0,_=>exact ⟨some w.heap.size,2,fun W hb=>⟨(k1.below hb k1.lt).cell 0,⟨_,_,rfl⟩,fun i hi=>⟨_,_,rfl,(k0.below hb k0.lt).lt,by
   match i,hi with
   |0,_=>exact(k0.below hb k0.lt).cell 0
   | 1,_=>exact (k0.below hb k0.lt).cell 1⟩⟩⟩
 |1,_=>exact⟨aa,ca,fun W hb=>⟨(k1.below hb k1.lt).cell 1,HVA.below (zT o hb) zN⟩⟩
 |2,_=>exact⟨ab,cb,fun W hb=>⟨(k1.below hb k1.lt).cell 2,HVB.below (zT o hb) zN⟩⟩
theorem zdr{w3:World}{B i n:Nat}{acc:List Nat}{v':Value}(hi:i<=acc.length)(hown:w3.ownsRow B 3 1 v' (acc.length+1) (zw acc++[.int .i64 0])) :
  ∃(g cap:Nat) (cur CS:List Value),v'=.slice (some g) (acc.length+1) cap/\B<=g/\acc.length+1<=cap/\w3.heap[g]?=some (.cells cur.toArray 3 (0,0)) /\
   (∀w4:World,w4.heap[g]?=some (.cells (splice cur (i+1) CS).toArray 3 (0,0))->(∃u,w4.cell? ⟨g,i,none⟩=some u)/\w4.frozen? ⟨g,i,none⟩=false/\(w4.setCell ⟨g,i,none⟩ (.int .i64 n)).ownsRow B 3 1 (.slice (some g) (acc.length+1) cap) (acc.length+1) (zw (acc.take i++n :: acc.drop i))) /\
   (∀j v,CS[j]?=some v->w3.cell? ⟨g,i+j,none⟩=some v)/\(∀v∈CS,v.oneCell'=true)/\CS.length=Nat.min (acc.length+1-i) (acc.length+1-(i+1))/\(i+1)+CS.length<=cur.length:=by
 rcases hown.2 with ⟨_,C⟩|⟨g,cap,cur,rfl,o,hg,q,J,K,y⟩
 ·exact absurd C (by simp)
 have p:((zw acc).drop i).length=acc.length-i:=by rw[zrK,Z9]
 have hsz':cur.toList.length=cap:=by simpa using K
 refine⟨g,cap,cur.toList,(zw acc).drop i,rfl,o,q,hg,fun w4 h4=>zn1 hi o q J hsz' (by simpa using y) h4,fun j v hv=>?_,fun v hv=>?_,?_,?_⟩
 ·have hj:i+j<acc.length:=by have:=(zrJ.1 hv).1;rw[zrK,Z9] at this;omega
  rw[(show Blk w3 g 3 cur from hg).cell,<-hv,zth,<-ztD,show cur.toList[i+j]?=(cur.toList.take ((acc.length+1)*1))[i+j]? by rw[zrP,zc3 (by omega)],y,zrk (by rw[Z9];omega)]
 ·obtain⟨x,_,rfl⟩:=zrA.1 (zuU hv);rfl
 ·rw[p];show _=min _ _;omega
 ·rw[p,hsz'];omega
end
