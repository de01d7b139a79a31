/- The reference: what a rule makes of two ranges, ahead of the walk. -/
import Derived.Test.YtlamemjfaogjmaaGreatDoorSvTextI
import Derived.Laws.CopyOwn
namespace Go.Proofs.YtlamemjfaogjmaaGreatDoor
set_option maxHeartbeats 1000000
set_option maxRecDepth 100000
section
open Go.RowKit Go.Shelf Sv
theorem ze3{s:ByteArray}{c:UInt8}(h:Lib.index s.data.toList [c]<0):cutF s c=(s,⟨#[]⟩):=by
 unfold cutF Lib.cut;rw[if_neg (by omega)]
theorem zcN{s:ByteArray}{c:UInt8}{j:Nat}(h:Lib.index s.data.toList [c]=(j:Int)):cutF s c=(s.extract 0 j,s.extract (j+1) s.size):=by
 unfold cutF Lib.cut;rw[if_pos (by omega),h];simp only[Int.toNat_natCast,List.length_singleton];refine Prod.ext ?_ ?_
 ·exact(Zv (by rw[Zy];simp)).symm
 ·exact(Zv (by rw[JH])).symm
theorem rnext_any(s:ByteArray)(w:World)(hs:s.size<=100000):zR 51 #[.string s] w (.tuple #[.string (cutF s 32).1,.string (cutF s 32).2]):=by
 have HI:Hid (zC 79 #[.string s,.int .u8 32] w fun e w'=>e=.returned (.int .i64 (Lib.index s.data.toList [32]))/\w'=w):=by
  have:=Tryz.strings_IndexByte s 32 w;rw[show (32:Int).toNat.toUInt8=32 from rfl,<-Lib.index_one] at this;exact this
 by_cases h:Lib.index s.data.toList [32]<0
 ·rw[ze3 h];generalize Lib.index s.data.toList [32]=K at *;go_enter Tryz.func51,Tryz.ntmps51;go_wp2_with fail;refine HI.out.mono ?_;rintro e w1 ⟨rfl,hw1⟩;rw[hw1];clear hw1 HI;go_wp2;refine bodyPost_ret (v:=.tuple #[.string s,.string ⟨#[]⟩]) (by simp[results,Tryz.results51,go_sem]) rfl ?_;exact⟨rfl,Below.refl _ _⟩
 ·obtain⟨j,hj⟩:∃j:Nat,Lib.index s.data.toList [32]=(j:Int):=⟨(Lib.index s.data.toList [32]).toNat,by omega⟩;have hroom:=Zp s.data.toList [32] (by omega);rw[hj] at hroom HI;have hln:s.data.toList.length=s.size:=by simp
  rw[hln] at hroom;simp only[Int.toNat_natCast,List.length_singleton] at hroom;rw[zcN hj];obtain⟨J1,hJ1⟩:∃J1,j+1=J1:=⟨_,rfl⟩;rw[hJ1] at hroom ⊢;have hwr:IntKind.i64.wrap ((j:Int)+1)=(J1:Int):=by rw[IntKind.wrap_i64];omega
  have hj0:¬(j:Int)<0:=by omega
  have i2:(j:Int)<=(s.size:Int):=by omega
  have i3:(J1:Int)<=(s.size:Int):=by omega
  have hsl:=fun W'=>run_slice_string_h (P:=Tryz.prog) W' 9 s Tryz.underlying9 .i64 (j:Int) (by omega) i2;have hsl2:=fun W'=>run_slice_string_l (P:=Tryz.prog) W' 9 s Tryz.underlying9 .i64 (J1:Int) (by omega) i3;simp only[Int.toNat_natCast] at hsl hsl2;clear h hj hln hJ1;go_enter Tryz.func51,Tryz.ntmps51;go_wp2_with fail;refine HI.out.mono ?_;rintro e w1 ⟨rfl,hw1⟩;rw[hw1];clear hw1 HI;go_wp2_with fail;go_big_region;have HB:Hid (zB w w.drew):=zF.drew;go_wp2;refine bodyPost_ret (v:=.tuple #[.string (s.extract 0 j),.string (s.extract J1 s.size)]) (by simp[results,Tryz.results51,go_sem]) rfl ?_;exact⟨rfl,HB.out⟩
end
namespace Sv
def inP:List Nat->Nat->Bool
 |[],_=>false
 |a :: r,n=>if a<=n then !inP r n else false
def Up:List Nat->Prop
 |[]=>True
 |a :: r=>(∀x∈r,a<x)/\Up r
def tp:List Span->List Nat
 |[]=>[]
 |s :: r=>s.1 :: s.2 :: tp r
theorem xQ{l:List Nat}{n:Nat}(h:∀x∈l,n<x):inP l n=false:=by
 cases l with
 |nil=>rfl
 |cons a r=>rw[inP,if_neg (by have:=h a List.mem_cons_self;omega)]
theorem Yo{l m:List Nat}:Up l->Up m->(∀n,inP l n=inP m n)->l=m:=by
 induction l generalizing m with
 |nil =>
  intro _ hm h;cases m with
  |nil=>rfl
  |cons b q =>have:=h b;rw[inP,inP,if_pos zN,xQ (fun x hx=>hm.1 x hx)] at this;cases this
 |cons a r ih =>
  intro hl hm h;cases m with
  |nil =>have:=h a;rw[inP,inP,if_pos zN,xQ (fun x hx=>hl.1 x hx)] at this;cases this
  |cons b q =>
   have hab:a=b:=by
    rcases Nat.lt_trichotomy a b with hlt|heq|hlt
    ·have:=h a;rw[inP,inP,if_pos zN,if_neg (by omega),xQ (fun x hx=>hl.1 x hx)] at this;cases this
    ·exact heq
    ·have:=h b;rw[inP,inP,if_neg (by omega),if_pos zN,xQ (fun x hx=>hm.1 x hx)] at this;cases this
   subst hab;rw[ih hl.2 hm.2 fun n=>?_]
   by_cases hn:a<=n
   ·have:=h n;rw[inP,inP,if_pos hn,if_pos hn] at this;cases hx:inP r n<;>cases hy:inP q n<;>simp_all
   ·rw[xQ (fun x hx=>by have:=hl.1 x hx;omega),xQ (fun x hx=>by have:=hm.1 x hx;omega)]
theorem Kb:∀{l:List Span} {lo:Nat},qe lo l->∀x∈tp l,lo<=x:=by
 intro l
 induction l with
 |nil=>intro lo _ x hx;cases hx
 |cons s r ih =>
  intro lo h x hx;obtain⟨h1,h2,h3,h4⟩:=h;rw[tp] at hx;rcases List.mem_cons.1 hx with rfl|hx
  ·exact h1
  ·rcases List.mem_cons.1 hx with rfl|hx
   ·omega
   ·have:=ih h4 x hx;omega
theorem Yk:∀{l:List Span} {lo:Nat},qe lo l->Up (tp l):=by
 intro l
 induction l with
 |nil=>intro lo _;trivial
 |cons s r ih =>
  intro lo h;obtain⟨h1,h2,h3,h4⟩:=h;refine⟨fun x hx=>?_,fun x hx=>?_,ih h4⟩
  ·rcases List.mem_cons.1 hx with rfl|hx
   ·exact h2
   ·have:=Kb h4 x hx;omega
  ·have:=Kb h4 x hx;omega
theorem xi:∀{l:List Span} {lo n:Nat},qe lo l->(inP (tp l) n=true↔mem l n):=by
 intro l
 induction l with
 |nil=>intro lo n _;simp[tp,inP,xn]
 |cons s r ih =>
  intro lo n h;obtain⟨h1,h2,h3,h4⟩:=h;have hr:=ih (n:=n) h4;have hg:mem r n->s.2+1<=n:=h4.ge;rw[tp,inP,inP,mem_cons]
  by_cases a:s.1<=n
  ·rw[if_pos a]
   by_cases b:s.2<=n
   ·rw[if_pos b];simp only[Bool.not_not,hr];constructor
    ·exact Or.inr
    ·rintro (⟨_,h⟩|h)
     ·omega
     ·exact h
   ·rw[if_neg b];simp only[Bool.not_false,true_iff];left;omega
  ·rw[if_neg a];simp only[Bool.false_eq_true,false_iff];rintro (⟨h,_⟩|h)
   ·omega
   ·have:=hg h;omega
theorem ZT(l:List Span):(tp l).length=l.length*2:=by
 induction l with
 |nil=>rfl
 |cons s r ih=>rw[tp,List.length_cons,List.length_cons,ih,List.length_cons];omega
theorem zdV{a b:Nat}:tp (zc a b)=if a<b then [a,b] else []:=by
 unfold zc;split<;>rfl
def Srt:List Nat->Prop
 |[]=>True
 |a :: r=>(∀x∈r,a<=x)/\Srt r
theorem YQ{l r:List Nat}:Srt (l++r)↔Srt l/\Srt r/\∀x∈l,∀y∈r,x<=y:=by
 induction l with
 |nil=>simp[Srt]
 |cons a l ih =>
  rw[List.cons_append,Srt,Srt,ih];constructor
  ·rintro⟨h1,h2,h3,h4⟩;refine⟨⟨fun x hx=>h1 x (List.mem_append_left _ hx),h2⟩,h3,fun x hx y hy=>?_⟩;rcases List.mem_cons.1 hx with rfl|hx
   ·exact h1 y (List.mem_append_right _ hy)
   ·exact h4 x hx y hy
  ·rintro⟨⟨h1,h2⟩,h3,h4⟩;refine⟨fun x hx=>?_,h2,h3,fun x hx y hy=>h4 x (List.mem_cons_of_mem _ hx) y hy⟩;rcases List.mem_append.1 hx with hx|hx
   ·exact h1 x hx
   ·exact h4 a List.mem_cons_self x hx
def qj(l:List Nat)(n:Nat):Nat->Nat
 |0=>0
 |k+1=>if n<l.getD k 0 then qj l n k else k+1
theorem XL(l:List Nat)(n k:Nat):qj l n k<=k:=by
 induction k with
 |zero=>exact Nat.le_refl _
 |succ k ih=>unfold qj;split<;>omega
def yg(l:List Nat)(n:Nat):List Nat:=l.take (qj l n l.length)++n :: l.drop (qj l n l.length)
theorem zdZ(l:List Nat)(n:Nat):∀k j,qj l n k<=j->j<k->n<l.getD j 0:=by
 intro k
 induction k with
 |zero=>intro j _ h;omega
 |succ k ih =>
  intro j h1 h2;unfold qj at h1;split at h1
  ·rename_i hlt
   by_cases hj:j<k
   ·exact ih j h1 hj
   ·obtain rfl:j=k:=by omega
    exact hlt
  ·omega
theorem zeB(l:List Nat)(n:Nat):∀k,0<qj l n k->l.getD (qj l n k-1) 0<=n:=by
 intro k
 induction k with
 |zero=>intro h;exact absurd h (by simp[qj])
 |succ k ih =>
  unfold qj;split
  ·exact ih
  ·rename_i h;intro _;simpa using h
theorem ze6{l:List Nat}{n x:Nat}:x∈yg l n↔x=n\/x∈l:=by
 unfold yg;rw[List.mem_append,List.mem_cons];have:x∈l↔x∈l.take (qj l n l.length)\/x∈l.drop (qj l n l.length):=by
  rw[<-List.mem_append,List.take_append_drop]
 rw[this];constructor
 ·rintro (h|h|h)<;>simp[h]
 ·rintro (h|h|h)<;>simp[h]
theorem zhK{l:List Nat}{n:Nat}(h:Srt l):Srt (yg l n):=by
 unfold yg;have hsplit:=h;rw[<-List.take_append_drop (qj l n l.length) l,YQ] at hsplit;obtain⟨h1,h2,h3⟩:=hsplit;have hp:=XL l n l.length;rw[YQ];refine⟨h1,⟨fun x hx=>?_,h2⟩,fun x hx y hy=>?_⟩
 ·obtain⟨i,hi,rfl⟩:=List.getElem_of_mem hx;rw[List.length_drop] at hi;have:=zdZ l n l.length (qj l n l.length+i) (by omega) (by omega);rw[List.getD_eq_getElem?_getD,List.getElem?_eq_getElem (by omega)] at this;rw[List.getElem_drop];simp at this;omega
 ·rcases List.mem_cons.1 hy with rfl|hy
  ·by_cases hz:0<qj l y l.length
   ·have hlo:=zeB l y l.length hz
    -- the last one of the first part is not greater,and all of them are not greater than it
    have hlast:l.getD (qj l y l.length-1) 0∈l.take (qj l y l.length):=by
     rw[List.getD_eq_getElem?_getD,List.getElem?_eq_getElem (by omega)];simp only[Option.getD_some];exact List.mem_iff_getElem.2 ⟨qj l y l.length-1,by rw[List.length_take];omega,by rw[List.getElem_take]⟩
    obtain⟨i,hi,rfl⟩:=List.getElem_of_mem hx;rw[List.length_take] at hi;rw[List.getElem_take];have hsr:∀(a b:Nat) (hb:b<l.length),(hab:a<=b)->l[a]'(by omega)<=l[b]:=by
     intro a b hb hab;rcases Nat.lt_or_eq_of_le hab with hlt|rfl
     ·have hs2:=h;rw[<-List.take_append_drop (a+1) l,YQ] at hs2;refine hs2.2.2 _ ?_ _ ?_
      ·exact List.mem_iff_getElem.2 ⟨a,by rw[List.length_take];omega,by rw[List.getElem_take]⟩
      ·exact List.mem_iff_getElem.2 ⟨b-(a+1),by rw[List.length_drop];omega,by rw[List.getElem_drop];congr 1;omega⟩
     ·exact Nat.le_refl _
    have:=hsr i (qj l y l.length-1) (by omega) (by omega);rw[List.getD_eq_getElem?_getD,List.getElem?_eq_getElem (by omega)] at hlo;simp only[Option.getD_some] at hlo;omega
   ·rw[show qj l y l.length=0 by omega] at hx;simp at hx
  ·exact h3 x hx y hy
def qn(acc:List Nat)(l:List Nat):List Nat:=l.foldl yg acc
theorem Xg:∀{l acc:List Nat},Srt acc->Srt (qn acc l):=by
 intro l
 induction l with
 |nil=>intro acc h;exact h
 |cons a r ih=>intro acc h;exact ih (acc:=yg acc a) (zhK h)
theorem Xc:∀{l acc:List Nat} {x:Nat},x∈qn acc l↔x∈acc\/x∈l:=by
 intro l
 induction l with
 |nil=>intro acc x;simp[qn]
 |cons a r ih =>
  intro acc x;show x∈qn (yg acc a) r↔_;rw[ih,ze6,List.mem_cons];constructor
  ·rintro ((h|h)|h)<;>simp[h]
  ·rintro (h|h|h)<;>simp[h]
def qk(f:Nat->Bool):Bool->List Nat->List Nat
 |_,[]=>[]
 |is,n :: r=>if f n=is then qk f is r else n :: qk f (f n) r
def Za(f:Nat->Bool):Bool->List Nat->Nat->Bool
 |is,[],_=>is
 |is,n :: r,x=>if n<=x then Za f (f n) r x else is
theorem XZ{f:Nat->Bool}:∀{l:List Nat} {is:Bool},∀x∈qk f is l,x∈l:=by
 intro l
 induction l with
 |nil=>intro is x hx;cases hx
 |cons n r ih =>
  intro is x hx;unfold qk at hx;split at hx
  ·exact List.mem_cons_of_mem _ (ih x hx)
  ·rcases List.mem_cons.1 hx with rfl|hx
   ·exact List.mem_cons_self
   ·exact List.mem_cons_of_mem _ (ih x hx)
theorem zc9{f:Nat->Bool}{n:Nat}:∀{l:List Nat},Srt l->(∀x∈l,n<=x)->∀x∈qk f (f n) l,n<x:=by
 intro l
 induction l with
 |nil=>intro _ _ x hx;cases hx
 |cons m r ih =>
  intro hs hl x hx;have hm:=hl m List.mem_cons_self;unfold qk at hx;split at hx
  ·exact ih hs.2 (fun y hy=>hl y (List.mem_cons_of_mem _ hy)) x hx
  ·rename_i hne;have hlt:n<m:=by
    rcases Nat.lt_or_eq_of_le hm with h|rfl
    ·exact h
    ·exact absurd rfl hne
   rcases List.mem_cons.1 hx with rfl|hx
   ·exact hlt
   ·have:=hs.1 x (XZ x hx);omega
theorem zh1{f:Nat->Bool}:∀{l:List Nat} {is:Bool},Srt l->Up (qk f is l):=by
 intro l
 induction l with
 |nil=>intro is _;trivial
 |cons n r ih =>
  intro is hs;unfold qk;split
  ·exact ih hs.2
  ·exact⟨zc9 hs.2 hs.1,ih hs.2⟩
theorem zds{f:Nat->Bool}{x:Nat}:∀{l:List Nat} {is:Bool},Srt l->(inP (qk f is l) x ^^ is)=Za f is l x:=by
 intro l
 induction l with
 |nil=>intro is _;simp[qk,inP,Za]
 |cons n r ih =>
  intro is hs;have h1:=ih (is:=f n) hs.2;unfold qk Za
  by_cases hn:n<=x
  ·rw[if_pos hn];split
   ·rename_i e;rw[<-e];exact h1
   ·rename_i e;rw[inP,if_pos hn,<-h1];cases hf:f n<;>cases is<;>simp_all
  ·rw[if_neg hn];split
   ·rw[xQ (fun y hy=>by have:=hs.1 y (XZ y hy);omega)];simp
   ·rw[inP,if_neg hn];simp
theorem zdi{f:Nat->Bool}{x:Nat}:∀{l:List Nat} {is:Bool},Srt l->(∃e∈l,e<=x)->∃m∈l,(∀e∈l,e<=m↔e<=x)/\Za f is l x=f m:=by
 intro l
 induction l with
 |nil=>rintro is _ ⟨e,he,_⟩;cases he
 |cons n r ih =>
  intro is hs hex;have hn:n<=x:=by
   obtain⟨e,he,hle⟩:=hex;rcases List.mem_cons.1 he with rfl|he
   ·exact hle
   ·have:=hs.1 e he;omega
  unfold Za;rw[if_pos hn]
  by_cases h:∃e∈r,e<=x
  ·obtain⟨m,hm,h1,h2⟩:=ih (is:=f n) hs.2 h;refine⟨m,List.mem_cons_of_mem _ hm,fun e he=>?_,h2⟩;rcases List.mem_cons.1 he with rfl|he
   ·have:=hs.1 m hm;exact⟨fun _=>hn,fun _=>this⟩
   ·exact h1 e he
  ·refine⟨n,List.mem_cons_self,fun e he=>?_,?_⟩
   ·rcases List.mem_cons.1 he with rfl|he
    ·exact⟨fun _=>hn,fun _=>Nat.le_refl _⟩
    ·have hgt:¬e<=x:=fun hle=>h ⟨e,he,hle⟩;constructor
     ·intro hle;omega
     ·intro hle;exact absurd hle hgt
   ·cases r with
    |nil=>rfl
    |cons m q =>unfold Za;rw[if_neg (fun hle=>h ⟨m,List.mem_cons_self,hle⟩)]
theorem Kn{m x:Nat}:∀{l:List Nat},(∀e∈l,e<=m↔e<=x)->inP l m=inP l x:=by
 intro l
 induction l with
 |nil=>intro _;rfl
 |cons a r ih =>
  intro h;have:=h a List.mem_cons_self;unfold inP;rw[ih (fun e he=>h e (List.mem_cons_of_mem _ he))]
  by_cases ha:a<=x
  ·rw[if_pos ha,if_pos (this.2 ha)]
  ·rw[if_neg ha,if_neg (fun hm=>ha (this.1 hm))]
def y7(a b:List Nat)(rule:Bool->Bool->Bool)(n:Nat):Bool:=decide (n<ALL)&&rule (inP a n) (inP b n)
def xh(a b:List Nat):List Nat:=qn (qn (qn [] [0,ALL]) a) b
def xt(a b:List Nat)(rule:Bool->Bool->Bool):List Nat:=qk (y7 a b rule) false (xh a b)
theorem Xh(a b:List Nat):Srt (xh a b):=Xg (Xg (Xg trivial))
theorem QX{a b:List Nat}{x:Nat}:x∈xh a b↔(x=0\/x=ALL)\/x∈a\/x∈b:=by
 unfold xh;rw[Xc,Xc,Xc];simp[or_assoc]
theorem YJ(a b:List Nat)(rule:Bool->Bool->Bool)(x:Nat):inP (xt a b rule) x=y7 a b rule x:=by
 have h:=zds (f:=y7 a b rule) (x:=x) (is:=false) (Xh a b);obtain⟨m,hm,h1,h2⟩:=zdi (f:=y7 a b rule) (x:=x) (is:=false) (Xh a b) ⟨0,QX.2 (Or.inl (Or.inl rfl)),Nat.zero_le _⟩;rw[h2] at h;simp only[Bool.xor_false] at h;unfold xt;rw[h];unfold y7;have hA:=h1 ALL (QX.2 (Or.inl (Or.inr rfl)));rw[Kn (l:=a) (fun e he=>h1 e (QX.2 (Or.inr (Or.inl he)))),Kn (l:=b) (fun e he=>h1 e (QX.2 (Or.inr (Or.inr he))))];congr 1;rw[decide_eq_decide];omega
theorem YU(a b:List Nat)(rule:Bool->Bool->Bool):Up (xt a b rule):=zh1 (Xh a b)
open Classical in
theorem zaR{l m:List Span}(hl:Rg l)(hm:Rg m):xt (tp l) (tp m) (fun x y=>x&&y)=tp (nd l m) :=
 Yo (YU _ _ _) (Yk (xC hl hm)) fun n=>by
  rw[YJ,Bool.eq_iff_iff,xi (xC hl hm),JG hl hm];unfold y7;rw[Bool.and_eq_true,Bool.and_eq_true,xi hl,xi hm,decide_eq_true_iff];exact⟨fun h=>h.2,fun h=>⟨hl.lt h.1,h⟩⟩
theorem zcx{l m:List Span}(hl:Rg l)(hm:Rg m):xt (tp l) (tp m) (fun x y=>x||y)=tp (orr l m) :=
 Yo (YU _ _ _) (Yk (ZH hl hm)) fun n=>by
  rw[YJ,Bool.eq_iff_iff,xi (ZH hl hm),za8 hl hm];unfold y7;rw[Bool.and_eq_true,Bool.or_eq_true,xi hl,xi hm,decide_eq_true_iff];exact⟨fun h=>h.2,fun h=>⟨h.elim hl.lt hm.lt,h⟩⟩
theorem za1{l:List Span}(hl:Rg l):xt (tp l) [] (fun x _=>!x)=tp (nt l) :=
 Yo (YU _ _ _) (Yk (yo hl)) fun n=>by
  rw[YJ,Bool.eq_iff_iff,xi (yo hl),Yi hl];unfold y7;rw[Bool.and_eq_true,Bool.not_eq_true',decide_eq_true_iff,<-Bool.not_eq_true,xi hl]
theorem zeG(a b:List Nat):(xh a b).length=a.length+b.length+2:=by
 have hi:∀(l:List Nat) (n:Nat),(yg l n).length=l.length+1:=fun l n=>by
  unfold yg;rw[List.length_append,List.length_cons,List.length_take,List.length_drop];have:=XL l n l.length;omega
 have ha:∀(l acc:List Nat),(qn acc l).length=acc.length+l.length:=fun l=>by
  induction l with
  |nil=>intro acc;rfl
  |cons x l ih=>intro acc;show (qn (yg acc x) l).length=_;rw[ih,hi,List.length_cons];omega
 unfold xh;rw[ha,ha,ha];simp;omega
end Sv
section
open Go.RowKit Sv
def zA(l:List Nat):List Value:=l.map fun (n:Nat)=>.int .i64 n
def nv(l:List Nat)(i:Nat):Nat:=l.getD i 0
theorem Zk(l:List Nat)(i:Nat)(h:i<l.length):nv l i=l[i]:=by unfold nv;simp[List.getD_eq_getElem?_getD,List.getElem?_eq_getElem h]
theorem xD(l:List Nat):(zA l).length=l.length:=by simp[zA]
theorem Y4(a b:List Nat):zA (a++b)=zA a++zA b:=by simp[zA]
theorem zga(l:List Nat)(i:Nat)(h:i<l.length):(zA l)[i]?=some (.int .i64 (nv l i)):=by simp[zA,h,Zk]
structure NsAt(w:World)(v:Value)(l:List Nat):Prop where
 form:∃a cap,v=.slice a l.length cap
 cells:∀i,i<l.length->∃g cap,v=.slice (some ⟨g,0,none⟩) l.length cap/\g<w.heap.size/\w.cell? ⟨g,i,none⟩=some (.int .i64 (nv l i))
theorem nsAt_nil(w:World):NsAt w (.slice none 0 0) []:=⟨⟨none,0,rfl⟩,fun i h=>by simp at h⟩
theorem NsAt.below{B:Nat}{w w':World}{v:Value}{l:List Nat}(h:NsAt w v l)(hb:Below B w w')(hB:w.heap.size<=B):NsAt w' v l :=
 ⟨h.form,fun i hi=>by
  obtain⟨g,cap,e,hg,c0⟩:=h.cells i hi;exact ⟨g,cap,e,Nat.lt_of_lt_of_le hg hb.size,(hb.cell (p:=⟨g,i,none⟩) (by show g<B;omega)).trans c0⟩⟩
theorem NsAt.drew{w:World}{v:Value}{l:List Nat}(h:NsAt w v l):NsAt w.drew v l:=⟨h.form,h.cells⟩
theorem YV{B:Nat}{w:World}{v:Value}{l:List Nat}(h:w.ownsRow B 3 1 v l.length (zA l)):NsAt w v l:=by
 rcases h.2 with ⟨e,e0⟩|⟨g,cap,cur,e,hB,hg,hn,hm,hsz,htake⟩
 ·exact⟨⟨none,0,by rw[e,e0]⟩,fun i hi=>by omega⟩
 ·refine⟨⟨_,_,e⟩,fun i hi=>?_⟩;have hlt:g<w.heap.size:=(h.lt g (by rw[e];rfl)).2;have cell:w.cell? ⟨g,i,none⟩=(zA l)[i]?:=by
   rw[<-htake,List.getElem?_take,if_pos (by omega)];simp[World.cell?,hg]
  exact⟨g,cap,e,hlt,cell.trans (zga l i hi)⟩
theorem XI{B n:Nat}{w:World}{v:Value}{t:TypeId}{cs:List Value}(h:w.ownsRow B t 1 v n cs):∃a c,v=.slice a n c:=by
 rcases h.2 with ⟨e,e0⟩|⟨g,cap,cur,e,-⟩
 ·exact⟨none,0,by rw[e,e0]⟩
 ·exact⟨_,_,e⟩
def qM(w:World)(l:List Nat)(e:Ending)(w':World):Prop:=∃a c,e=.returned (.slice a l.length c)/\NsAt w' (.slice a l.length c) l/\(∀g,(Value.slice a l.length c).ownBlock=some g->w.heap.size<=g)/\zB w w'
theorem zhJ{l:List Nat}{n k:Nat}(hk:k<l.length)(h:nv l k<=n):inP (l.drop k) n=!inP (l.drop (k+1)) n:=by
 rw[List.drop_eq_getElem_cons hk,inP,<-Zk l k hk,if_pos h]
theorem zg0{l:List Nat}{n k:Nat}(hk:k<l.length)(h:¬nv l k<=n):inP (l.drop k) n=false:=by
 rw[List.drop_eq_getElem_cons hk,inP,<-Zk l k hk,if_neg h]
theorem KS(k:Nat):((k:Int)%2==1)=(k%2==1):=by
 rw[show (k:Int)%2=((k%2:Nat):Int) by omega];rcases Nat.mod_two_eq_zero_or_one k with e|e<;>rw[e]<;>rfl
theorem zgG(k:Nat)(b:Bool):(b ^^ (k%2==1))=((!b) ^^ ((k+1)%2==1)):=by
 rcases Nat.mod_two_eq_zero_or_one k with e|e
 ·have:(k+1)%2=1:=by omega
  rw[e,this];cases b<;>rfl
 ·have:(k+1)%2=0:=by omega
  rw[e,this];cases b<;>rfl
theorem YE(l:List Nat)(n:Nat)(v:Value)(w:World)(hv:NsAt w v l)(hlen:l.length<=1000000000) :
  zC 67 #[v,.int .i64 n] w fun e w'=>e=.returned (.bool (inP l n))/\w'=w:=by
 obtain⟨a,cap,rfl⟩:=hv.form;have HV:=zH hv;clear hv;go_enter Tryz.func67,Tryz.ntmps67;go_wp2_with fail;go_loopw [5] (fun kV wr=>∃k:Nat,k<=l.length/\kV=.int .i64 k/\(inP (l.drop k) n ^^ (k%2==1))=inP l n/\wr=w) (fun kV _=>l.length-(intOf kV).toNat)
 case atStart=>exact⟨0,Nat.zero_le _,rfl,by simp,rfl⟩
 case round =>
  obtain⟨k,hk,rfl,hres,rfl⟩:=hrel;have HR:=zH hres;clear hres
  by_cases hlt:k<l.length
  ·obtain⟨g,cap',e1,hg,c0⟩:=HV.out.cells k hlt;simp at e1;obtain⟨rfl,rfl⟩:=e1
   by_cases hle:nv l k<=n
   ·have hres:=HR.out;rw[zhJ hlt hle,zgG,Bool.not_not] at hres;have HRS:=zH hres;clear hres HR;generalize nv l k=A at *;go_wp2;go_roundw
    case rel=>exact⟨k+1,by omega,by go_num,HRS.out,trivial⟩
    case measure=>simp[intOf];omega
   ·have hres:=HR.out;rw[zg0 hlt hle,Bool.false_xor] at hres;have hr2:=KS k;rw[hres] at hr2;have HRS:=zH hr2;clear hres HR hr2;generalize nv l k=A at *;go_wp2;go_ret;exact⟨congrArg (fun b=>Ending.returned (.bool b)) HRS.out,rfl⟩
  ·obtain rfl:k=l.length:=by omega
   have hres:=HR.out;rw[List.drop_length,inP,Bool.false_xor] at hres;have hr2:=KS l.length;rw[hres] at hr2;have HRS:=zH hr2;clear hres HR hr2;go_wp2;go_ret;exact⟨congrArg (fun b=>Ending.returned (.bool b)) HRS.out,rfl⟩
theorem yA(x y:Nat)(w:World):zC 81 #[.int .i64 x,.int .i64 y] w (qM w (tp (zc x y))):=by
 rw[zdV]
 by_cases h:x<y
 ·rw[if_pos h];have h1:¬(y:Int)<=(x:Int):=by omega
  clear h;go_enter Tryz.func81,Tryz.ntmps81;go_wp2;go_ret;refine⟨_,_,rfl,⟨⟨_,_,rfl⟩,fun i hi=>⟨w.heap.size,2,rfl,by simp,?_⟩⟩,fun g hg=>by simp[Value.ownBlock] at hg;omega,(Below.refl _ w).alloc zN _⟩
  match i,hi with
  |0,_=>simp[nv]
  |1,_=>simp[nv]
 ·rw[if_neg h];have h1:(y:Int)<=(x:Int):=by omega
  clear h;go_enter Tryz.func81,Tryz.ntmps81;go_wp2;go_ret;exact⟨none,0,rfl,nsAt_nil _,fun g hg=>by simp[Value.ownBlock] at hg,Below.refl _ _⟩
theorem qT(a b c:Nat)(ha:a<=1000)(hb:b<=1000)(hc:c<=1000)(w:World) :
  zR 68 #[.agg #[.int .i64 a,.int .i64 b,.int .i64 c]] w (.int .i64 (((a*1000+b)*1000+c:Nat):Int)):=by
 have hB:Hid (zB w (w.alloc (.cells #[.int .i64 a,.int .i64 b,.int .i64 c] 56))):=(Below.refl _ w).alloc zN _;have HN:Hid ((a:Int)*1000000+(b:Int)*1000+(c:Int)=(((a*1000+b)*1000+c:Nat):Int)):=by show _=_;omega
 go_enter Tryz.func68,Tryz.ntmps68;go_wp2;go_ret;exact⟨congrArg (fun z=>Ending.returned (Value.int .i64 z)) HN.out,hB.out⟩
end
section
open Go.RowKit Sv
theorem zg1:(Tryz.prog.info? 3).map (fun i=>(i.zero,i.size,i.bytes))=some (some (.int .i64 0),1,8):=by kernel_rfl
theorem Zj:(Tryz.prog.info? 3).map (·.size)=some 1:=by kernel_rfl
theorem Qg(w:World)(A:Value)(t:TypeId):∀(j:Nat) (u:Value),[A][j]?=some u->(w.alloc (.cells #[A] t)).cell? (Addr.add ⟨w.heap.size,0,none⟩ j)=some u:=by
 intro j u h
 match j,h with
 |0,h=>simp at h;subst h;simp[Addr.add]
 |j+1,h=>simp at h
def yK(a b:List Nat):Nat->List Nat
 |0=>[0,ALL]
 |1=>a
 |_=>b
def qS(a b:List Nat):Nat->List Nat
 |0=>[]
 |j+1=>qn (qS a b j) (yK a b j)
theorem zbu(acc l:List Nat)(k:Nat)(hk:k<l.length):qn acc (l.take (k+1))=yg (qn acc (l.take k)) (nv l k):=by
 unfold qn;rw[List.take_succ_eq_append_getElem hk,List.foldl_append,List.foldl_cons,List.foldl_nil,Zk l k hk]
theorem Z7(l acc:List Nat):(qn acc l).length=acc.length+l.length:=by
 have hi:∀(l:List Nat) (n:Nat),(yg l n).length=l.length+1:=fun l n=>by
  unfold yg;rw[List.length_append,List.length_cons,List.length_take,List.length_drop];have:=XL l n l.length;omega
 induction l generalizing acc with
 |nil=>rfl
 |cons x l ih=>show (qn (yg acc x) l).length=_;rw[ih,hi,List.length_cons];omega
theorem zdy(a b:List Nat)(j:Nat)(hj:j<=3):(qS a b j).length<=a.length+b.length+2:=by
 match j,hj with
 |0,_=>simp[qS]
 |1,_=>simp[qS,Z7,yK]
 |2,_=>simp[qS,Z7,yK];omega
 |3,_=>simp[qS,Z7,yK];omega
theorem zfF(a b:List Nat)(j k:Nat)(hj:j<3):(qn (qS a b j) ((yK a b j).take k)).length<=a.length+b.length+2:=by
 have h:=zdy a b (j+1) hj;rw[qS,Z7] at h;rw[Z7,List.length_take];omega
theorem zhf{acc:List Nat}{n i:Nat}{cur:List Value}(hi:i<=acc.length)(hc:cur.take (acc.length+1)=zA acc++[.int .i64 0]) :
  ((splice cur (i+1) ((zA acc).drop i)).set i (.int .i64 n)).take (acc.length+1)=zA (acc.take i++n :: acc.drop i):=by
 have hlen:acc.length+1<=cur.length:=by
  have:=congrArg List.length hc;rw[List.length_take,List.length_append,xD,List.length_singleton] at this;omega
 apply List.ext_getElem?;intro j;have hcj:∀j,j<acc.length+1->cur[j]?=(zA acc++[.int .i64 0])[j]?:=fun j hj=>by
  rw[<-hc,List.getElem?_take,if_pos hj]
 by_cases hj:j<acc.length+1
 ·rw[List.getElem?_take,if_pos hj];unfold splice;rw[List.getElem?_set];have hdl:((zA acc).drop i).length=acc.length-i:=by rw[List.length_drop,xD]
  by_cases hij:i=j
  ·subst hij;rw[if_pos rfl,if_pos (by simp;omega)];unfold zA;rw[List.getElem?_map,List.getElem?_append_right (by rw[List.length_take];omega)];rw[List.length_take,show i-min i acc.length=0 by omega];rfl
  ·rw[if_neg hij]
   by_cases hlt:j<i
   ·rw[List.getElem?_append_left (by rw[List.length_take];omega),List.getElem?_take,if_pos (by omega),hcj j hj,List.getElem?_append_left (by rw[xD];omega)];unfold zA;rw[List.getElem?_map,List.getElem?_map,List.getElem?_append_left (by rw[List.length_take];omega),List.getElem?_take,if_pos hlt]
   ·rw[List.getElem?_append_right (by rw[List.length_take];omega),List.length_take,show min (i+1) cur.length=i+1 by omega,List.getElem?_append_left (by rw[hdl];omega),List.getElem?_drop];unfold zA;rw[List.getElem?_map,List.getElem?_map,List.getElem?_append_right (by rw[List.length_take];omega),List.length_take,show j-min i acc.length=(j-i-1)+1 by omega,List.getElem?_cons_succ,List.getElem?_drop];congr 2
 ·rw[List.getElem?_take,if_neg hj,List.getElem?_eq_none];rw[xD,List.length_append,List.length_cons,List.length_take,List.length_drop];omega
theorem zcT{w4:World}{B g cap i n:Nat}{acc:List Nat}{cur:List Value}(hi:i<=acc.length)(hB:B<=g)(hnc:acc.length+1<=cap)(hmx:cap<=maxLen)(hsz:cur.length=cap)(htk:cur.take (acc.length+1)=zA acc++[.int .i64 0])
  (h4:w4.heap[g]?=some (.cells (splice cur (i+1) ((zA acc).drop i)).toArray 3 (0,0))) :
  (∃u,w4.cell? ⟨g,i,none⟩=some u)/\w4.frozen? ⟨g,i,none⟩=false/\(w4.setCell ⟨g,i,none⟩ (.int .i64 n)).ownsRow B 3 1 (.slice (some ⟨g,0,none⟩) (acc.length+1) cap) (acc.length+1) (zA (acc.take i++n :: acc.drop i)):=by
 have k:Blk w4 g 3 (splice cur (i+1) ((zA acc).drop i)).toArray:=h4;have hdl:((zA acc).drop i).length=acc.length-i:=by rw[List.length_drop,xD]
 have hsl:(splice cur (i+1) ((zA acc).drop i)).length=cap:=by rw[length_splice _ _ _ (by rw[hdl];omega),hsz]
 refine⟨?_,k.frozen i,?_,.inr ⟨g,cap,_,rfl,hB,k.set (i:=i),hnc,hmx,?_,?_⟩⟩
 ·rw[k.cell i];exact⟨_,by rw[List.getElem?_toArray,List.getElem?_eq_getElem (by omega)]⟩
 ·rw[xD,List.length_append,List.length_cons,List.length_take,List.length_drop];omega
 ·rw[Array.size_setIfInBounds,List.size_toArray,hsl,Nat.mul_one]
 ·rw[Array.toList_setIfInBounds,Nat.mul_one];exact zhf hi htk
theorem zcZ(f:Nat->Bool)(is:Bool)(l:List Nat):(qk f is l).length<=l.length:=by
 induction l generalizing is with
 |nil=>exact Nat.le_refl _
 |cons n r ih =>
  unfold qk;split
  ·have:=ih is;rw[List.length_cons];omega
  ·have:=ih (f n);rw[List.length_cons,List.length_cons];omega
theorem Kx{f:Nat->Bool}{is:Bool}{l:List Nat}{k:Nat}(hk:k<l.length)(h:f (nv l k)=is):qk f is (l.drop k)=qk f is (l.drop (k+1)):=by
 rw[List.drop_eq_getElem_cons hk,qk,<-Zk l k hk,if_pos h]
theorem X3{f:Nat->Bool}{is:Bool}{l:List Nat}{k:Nat}(hk:k<l.length)(h:¬f (nv l k)=is):qk f is (l.drop k)=nv l k :: qk f (f (nv l k)) (l.drop (k+1)):=by
 rw[List.drop_eq_getElem_cons hk,qk,<-Zk l k hk,if_neg h]
theorem zfS(a b:List Nat)(hla:a.length<=1000000000)(hlb:b.length<=1000000000):∀j,(yK a b j).length<=1000000000
 |0=>Nat.le_of_ble_eq_true rfl
 |1=>hla
 |_+2=>hlb
theorem zfa(a b:List Nat)(aa ab:Option Addr)(ca cb:Nat)(w W0:World)(hW0:(w.alloc (.cells #[.int .i64 0,.int .i64 1000000000] 3)).alloc (.cells #[.slice (some ⟨w.heap.size,0,none⟩) 2 2,.slice aa a.length ca,.slice ab b.length cb] 57)=W0)
  (HVA:NsAt w (.slice aa a.length ca) a) (HVB:NsAt w (.slice ab b.length cb) b) :
  zB w W0/\(∀j,j<3->∃x c,∀W,zB W0 W->W.cell? ⟨w.heap.size+1,j,none⟩=some (.slice x (yK a b j).length c)/\NsAt W (.slice x (yK a b j).length c) (yK a b j)):=by
 have HB0:zB w W0:=by rw[<-hW0];exact((Below.refl _ w).alloc zN _).alloc (by simp) _
 refine⟨HB0,fun j hj=>?_⟩;have k0:Blk W0 w.heap.size 3 #[.int .i64 0,.int .i64 1000000000]:=by rw[<-hW0];exact(Blk.new w 3 _).alloc _
 have k1:Blk W0 (w.heap.size+1) 57 #[.slice (some ⟨w.heap.size,0,none⟩) 2 2,.slice aa a.length ca,.slice ab b.length cb]:=by rw[<-hW0];have:=Blk.new (w.alloc (.cells #[.int .i64 0,.int .i64 1000000000] 3)) 57 #[.slice (some ⟨w.heap.size,0,none⟩) 2 2,.slice aa a.length ca,.slice ab b.length cb];rw[World.size_alloc] at this;exact this
 match j,hj with
 | 0,_=>exact ⟨some ⟨w.heap.size,0,none⟩,2,fun W hb=>⟨(k1.below hb k1.lt).cell 0,⟨_,_,rfl⟩,fun i hi=>⟨_,_,rfl,(k0.below hb k0.lt).lt,by
   match i,hi with
   |0,_=>exact(k0.below hb k0.lt).cell 0
   | 1,_=>exact (k0.below hb k0.lt).cell 1⟩⟩⟩
 |1,_=>exact⟨aa,ca,fun W hb=>⟨(k1.below hb k1.lt).cell 1,HVA.below (zT HB0 hb) zN⟩⟩
 |2,_=>exact⟨ab,cb,fun W hb=>⟨(k1.below hb k1.lt).cell 2,HVB.below (zT HB0 hb) zN⟩⟩
theorem JE{w3:World}{B i n:Nat}{acc:List Nat}{v':Value}(hi:i<=acc.length)(hown:w3.ownsRow B 3 1 v' (acc.length+1) (zA acc++[.int .i64 0])) :
  ∃(g cap:Nat) (cur CS:List Value),v'=.slice (some ⟨g,0,none⟩) (acc.length+1) cap/\B<=g/\acc.length+1<=cap/\w3.heap[g]?=some (.cells cur.toArray 3 (0,0)) /\
   (∀w4:World,w4.heap[g]?=some (.cells (splice cur (i+1) CS).toArray 3 (0,0))->(∃u,w4.cell? ⟨g,i,none⟩=some u)/\w4.frozen? ⟨g,i,none⟩=false/\(w4.setCell ⟨g,i,none⟩ (.int .i64 n)).ownsRow B 3 1 (.slice (some ⟨g,0,none⟩) (acc.length+1) cap) (acc.length+1) (zA (acc.take i++n :: acc.drop i))) /\
   (∀j v,CS[j]?=some v->w3.cell? ⟨g,i+j,none⟩=some v)/\(∀v∈CS,v.oneCell'=true)/\CS.length=Nat.min (acc.length+1-i) (acc.length+1-(i+1))/\(i+1)+CS.length<=cur.length:=by
 rcases hown.2 with ⟨_,h0'⟩|⟨g,cap,cur,rfl,hBg,hg,hnc,hmx,hsz,htk⟩
 ·exact absurd h0' (by simp)
 have hdl:((zA acc).drop i).length=acc.length-i:=by rw[List.length_drop,xD]
 have hsz':cur.toList.length=cap:=by simpa using hsz
 refine⟨g,cap,cur.toList,(zA acc).drop i,rfl,hBg,hnc,hg,fun w4 h4=>zcT hi hBg hnc hmx hsz' (by simpa using htk) h4,fun j v hv=>?_,fun v hv=>?_,?_,?_⟩
 ·have hj:i+j<acc.length:=by have:=(List.getElem?_eq_some_iff.1 hv).1;rw[List.length_drop,xD] at this;omega
  rw[(show Blk w3 g 3 cur from hg).cell,<-hv,List.getElem?_drop,<-Array.getElem?_toList,show cur.toList[i+j]?=(cur.toList.take ((acc.length+1)*1))[i+j]? by rw[List.getElem?_take,if_pos (by omega)],htk,List.getElem?_append_left (by rw[xD];omega)]
 ·obtain⟨x,_,rfl⟩:=List.mem_map.1 (List.mem_of_mem_drop hv);rfl
 ·rw[hdl];show _=min _ _;omega
 ·rw[hdl,hsz'];omega
end
end Go.Proofs.YtlamemjfaogjmaaGreatDoor
