/- The reference's Installs. -/
import Derived.Test.YtiihalknffbjpaaGreatDoorPfKnown
import Derived.Test.YtiihalknffbjpaaGreatDoorWyBelow
import Derived.Test.YtiihalknffbjpaaGreatDoorSvShelf
import Derived.Test.YtiihalknffbjpaaGreatDoorWyMem
import Derived.Test.YtiihalknffbjpaaGreatDoorBdRec
import Derived.Test.YtiihalknffbjpaaGreatDoorProg
import Derived.Shelf.LaysM
import Derived.Shelf.Strconv.AppendUint10
import Derived.Shelf.Strconv.AppendInt10
import Derived.Test.YtiihalknffbjpaaGreatDoorSvCuts
import Derived.Lib.ItoaNum
import Derived.Test.YtiihalknffbjpaaGreatDoorBdMakes
import Derived.WalkSmall
import Derived.Test.YtiihalknffbjpaaGreatDoorWyCheap
set_option maxHeartbeats 4000000
set_option maxRecDepth 100000
namespace Go.Proofs.YtiihalknffbjpaaGreatDoor.Bd
open Go.RowKit
def csum (C:Cost):Nat->Nat->(Nat->Bool)->Int
 | 0,_,_=>0
 | k + 1,v,f=>C v (f v) + csum C k (v + 1) f
def Agr (k v:Nat) (f f':Nat->Bool):Prop:=∀ i,(i<v\/v + k<=i)->f' i=f i
def LexLe (k v:Nat) (f' f'':Nat->Bool):Prop:=(∀ i,v<=i->i<v + k->f' i=f'' i)\/∃ j,v<=j/\j<v + k/\f' j=true/\f'' j=false/\∀ i,v<=i->i<j->f' i=f'' i
theorem Agr.down {k v:Nat} {f f':Nat->Bool} (h:Agr (k + 1) v f f') {b:Bool} (hb:f' v=b):Agr k (v + 1) (turn f v b) f':=fun i hi=>by
 by_cases e:i=v
 ·rw [e,turnV_at,hb]
 ·rw [turnV_ne _ _ e];exact h i (by omega)
theorem Agr.up {k v:Nat} {f f':Nat->Bool} {b:Bool} (h:Agr k (v + 1) (turn f v b) f'):Agr (k + 1) v f f':=fun i hi=>by
 rw [h i (by omega),turnV_ne _ _ (by omega)]
theorem Agr.at {k v:Nat} {f f':Nat->Bool} {b:Bool} (h:Agr k (v + 1) (turn f v b) f'):f' v=b:=by rw [h v (by omega),turnV_at]
theorem LexLe.up {k v:Nat} {f' f'':Nat->Bool} (h:LexLe k (v + 1) f' f'') (e:f' v=f'' v):LexLe (k + 1) v f' f'':=by
 rcases h with h | ⟨j,h1,h2,h3,h4,h5⟩
 ·left
  intro i h1 h2
  by_cases ei:i=v
  ·rw [ei,e]
  ·exact h i (by omega) (by omega)
 ·right
  refine ⟨j,by omega,by omega,h3,h4,fun i i1 i2=>?_⟩
  by_cases ei:i=v
  ·rw [ei,e]
  ·exact h5 i (by omega) i2
structure Best (C:Cost) (k v:Nat) (g:Fn') (f:Nat->Bool) (x:Wy):Prop where
 no:x.can=false->∀ f',Agr k v f f'->g f'=false
 yes:x.can=true->∃ f',Agr k v f f'/\g f'=true/\x.cost=csum C k v f'/\(∀ i,x.items.testBit i=(decide (v<=i/\i<v + k) && f' i))/\∀ f'',Agr k v f f''->g f''=true->x.cost<csum C k v f''\/x.cost=csum C k v f''/\LexLe k v f' f''
theorem bst_best (C:Cost):∀ (k v:Nat) (g:Fn') (f:Nat->Bool),Best C k v g f (bstV C k v g f)
 | 0,v,g,f=>by
  have key:∀ f',Agr 0 v f f'->f'=f:=fun f' h=>funext fun i=>h i (by omega)
  unfold bstV
  refine ⟨fun h f' hf=>by rw [key f' hf];exact h,fun h=>⟨f,fun _ _=>rfl,h,rfl,fun i=>?_,fun f'' hf _=>Or.inr ⟨rfl,Or.inl fun i h1 h2=>by omega⟩⟩⟩
  have:decide (v<=i/\i<v + 0)=false:=decide_eq_false (by omega)
  rw [this]
  simp
 | k + 1,v,g,f=>by
  have ho:=bst_best C k (v + 1) g (turn f v false)
  have hi:=bst_best C k (v + 1) g (turn f v true)
  unfold bstV
  generalize bstV C k (v + 1) g (turn f v false)=wo at ho
  generalize bstV C k (v + 1) g (turn f v true)=wi at hi
  by_cases hc:wi.can=true/\(wo.can=false\/(wiF C v wi).cost<=(woF C v wo).cost)
  ·have hB:betF C v wo wi=wiF C v wi:=by unfold betF;rw [if_pos hc]
   rw [hB]
   obtain ⟨f',a1,a2,a3,a4,a5⟩:=hi.yes hc.1
   have hv:=a1.at
   refine ⟨fun h=>absurd (h.symm.trans hc.1) (by simp),fun _=>⟨f',a1.up,a2,?_,fun i=>?_,fun f'' hf hg=>?_⟩⟩
   ·show wi.cost + C v true=C v (f' v) + _
    rw [hv,a3];omega
   ·show (wi.items ||| 2 ^ v).testBit i=_
    rw [Nat.testBit_or,Nat.testBit_two_pow,a4 i]
    by_cases e:v=i
    ·subst e
     rw [hv]
     have:decide (v<=v/\v<v + (k + 1))=true:=decide_eq_true (by omega)
     rw [this];simp
    ·have:decide (v + 1<=i/\i<v + 1 + k)=decide (v<=i/\i<v + (k + 1)):=by
      by_cases q:v + 1<=i/\i<v + 1 + k
      ·rw [decide_eq_true q,decide_eq_true (by omega)]
      ·rw [decide_eq_false q,decide_eq_false (by omega)]
     rw [this];simp [e]
   ·show wi.cost + C v true<C v (f'' v) + _\/wi.cost + C v true=C v (f'' v) + _/\_
    cases hq:f'' v with
    | true =>
     rcases a5 f'' (hf.down hq) hg with h | ⟨h,hl⟩
     ·left;omega
     ·right;exact ⟨by omega,hl.up (hv.trans hq.symm)⟩
    | false =>
     have hcan:wo.can=true:=by
      cases e:wo.can with
      | true=>rfl
      | false=>exact absurd (hg.symm.trans (ho.no e f'' (hf.down hq))) (by simp)
     have hle:wi.cost + C v true<=wo.cost + C v false:=by
      rcases hc.2 with h | h
      ·exact absurd (h.symm.trans hcan) (by simp)
      ·exact h
     obtain ⟨fo,b1,b2,b3,b4,b5⟩:=ho.yes hcan
     have hmin:wo.cost<=csum C k (v + 1) f'':=by rcases b5 f'' (hf.down hq) hg with h | ⟨h,_⟩ <;> omega
     by_cases e:wi.cost + C v true<C v false + csum C k (v + 1) f''
     ·left;exact e
     ·right;exact ⟨by omega,Or.inr ⟨v,Nat.le_refl _,by omega,hv,hq,fun i h1 h2=>by omega⟩⟩
  ·have hB:betF C v wo wi=woF C v wo:=by unfold betF;rw [if_neg hc]
   rw [hB]
   refine ⟨fun h f' hf=>?_,fun h=>?_⟩
   ·have hco:wo.can=false:=h
    have hci:wi.can=false:=by
     cases e:wi.can with
     | false=>rfl
     | true=>exact absurd ⟨e,Or.inl hco⟩ hc
    cases hq:f' v with
    | true=>exact hi.no hci f' (hf.down hq)
    | false=>exact ho.no hco f' (hf.down hq)
   ·have hco:wo.can=true:=h
    obtain ⟨f',a1,a2,a3,a4,a5⟩:=ho.yes hco
    have hv:=a1.at
    refine ⟨f',a1.up,a2,?_,fun i=>?_,fun f'' hf hg=>?_⟩
    ·show wo.cost + C v false=C v (f' v) + _
     rw [hv,a3];omega
    ·show wo.items.testBit i=_
     rw [a4 i]
     by_cases e:v=i
     ·subst e
      rw [hv];simp
     ·have:decide (v + 1<=i/\i<v + 1 + k)=decide (v<=i/\i<v + (k + 1)):=by
       by_cases q:v + 1<=i/\i<v + 1 + k
       ·rw [decide_eq_true q,decide_eq_true (by omega)]
       ·rw [decide_eq_false q,decide_eq_false (by omega)]
      rw [this]
    ·show wo.cost + C v false<C v (f'' v) + _\/wo.cost + C v false=C v (f'' v) + _/\_
     cases hq:f'' v with
     | false =>
      rcases a5 f'' (hf.down hq) hg with h | ⟨h,hl⟩
      ·left;omega
      ·right;exact ⟨by omega,hl.up (hv.trans hq.symm)⟩
     | true =>
      left
      have hci:wi.can=true:=by
       cases e:wi.can with
       | true=>rfl
       | false=>exact absurd (hg.symm.trans (hi.no e f'' (hf.down hq))) (by simp)
      obtain ⟨fi,b1,b2,b3,b4,b5⟩:=hi.yes hci
      have hmin:wi.cost<=csum C k (v + 1) f'':=by rcases b5 f'' (hf.down hq) hg with h | ⟨h,_⟩ <;> omega
      have hlt:¬ (wi.cost + C v true<=wo.cost + C v false):=fun e=>hc ⟨hci,Or.inr e⟩
      omega
end Go.Proofs.YtiihalknffbjpaaGreatDoor.Bd
namespace Go.Proofs.YtiihalknffbjpaaGreatDoor.Bd
open Go.RowKit Go.Deep Sv
section
variable {B p s b vars:Nat} {O:Nat->Prop} {room:Int} {K:List (List Int)} {w:World}
theorem clF_all (h12:vars<=12) (hl:LitsL vars K):ClR vars K (clF K):=by
 have:=clF_ok h12 K hl K.length (Nat.le_refl _)
 rwa [List.take_length] at this
theorem clF_len (h12:vars<=12) (hl:LitsL vars K):(clF K).1.length<=90000:=by
 have:=(clF_all h12 hl).len
 have:=small_pow h12
 omega
def manyN (vars:Nat) (K:List (List Int)):Nat:=cntV vars 0 (fun f=>K.all (clS f)) (fun _=>false)
end
end Go.Proofs.YtiihalknffbjpaaGreatDoor.Bd
namespace Go.Proofs.YtiihalknffbjpaaGreatDoor.Bd
open Go.RowKit
theorem cntV_pos (g:Fn'):∀ (k v:Nat) (f:Nat->Bool),cntV k v g f ≠ 0 ↔ ∃ f':Nat->Bool,(∀ i,i<v\/v + k<=i->f' i=f i)/\g f'=true
 | 0,v,f=>by
  unfold cntV
  constructor
  ·intro h
   refine ⟨f,fun _ _=>rfl,?_⟩
   cases hg:g f with
   | true=>rfl
   | false=>rw [hg] at h;exact absurd rfl h
  ·rintro ⟨f',h1,h2⟩
   have:f'=f:=funext fun i=>h1 i (by omega)
   rw [<- this,h2]
   simp
 | k + 1,v,f=>by
  unfold cntV
  have h0:=cntV_pos g k (v + 1) (turn f v false)
  have h1:=cntV_pos g k (v + 1) (turn f v true)
  constructor
  ·intro h
   by_cases e:cntV k (v + 1) g (turn f v false)=0
   ·obtain ⟨f',a,b⟩:=h1.1 (by omega)
    exact ⟨f',fun i hi=>by rw [a i (by omega),turnV_ne _ _ (by omega)],b⟩
   ·obtain ⟨f',a,b⟩:=h0.1 e
    exact ⟨f',fun i hi=>by rw [a i (by omega),turnV_ne _ _ (by omega)],b⟩
  ·rintro ⟨f',a,b⟩
   have key:∀ i,i<v + 1\/v + 1 + k<=i->f' i=turn f v (f' v) i:=fun i hi=>by
    by_cases e:i=v
    ·rw [e,turnV_at]
    ·rw [turnV_ne _ _ e];exact a i (by omega)
   cases hv:f' v with
   | false=>rw [hv] at key;have:=h0.2 ⟨f',key,b⟩;omega
   | true=>rw [hv] at key;have:=h1.2 ⟨f',key,b⟩;omega
theorem clS_agree {vars:Nat} {c:List Int} (hl:Lits vars c) {f g:Nat->Bool} (h:∀ i,i<vars->f i=g i):clS f c=clS g c:=by
 unfold clS
 rw [Bool.eq_iff_iff,List.any_eq_true,List.any_eq_true]
 have key:∀ x ∈ c,litS f x=litS g x:=fun x hx=>by unfold litS;rw [h _ (lit_var (hl x hx))]
 exact ⟨fun ⟨x,h1,h2⟩=>⟨x,h1,by rw [<- key x h1];exact h2⟩,fun ⟨x,h1,h2⟩=>⟨x,h1,by rw [key x h1];exact h2⟩⟩
theorem all_agree {vars:Nat} {K:List (List Int)} (hl:LitsL vars K) {f g:Nat->Bool} (h:∀ i,i<vars->f i=g i):K.all (clS f)=K.all (clS g):=by
 rw [Bool.eq_iff_iff,List.all_eq_true,List.all_eq_true]
 exact ⟨fun a c hc=>by rw [<- clS_agree (hl c hc) h];exact a c hc,fun a c hc=>by rw [clS_agree (hl c hc) h];exact a c hc⟩
theorem all_bits {vars:Nat} (h24:vars<=24) {K:List (List Int)} (hl:LitsL vars K) (vals:Nat):K.all (clS (bitsF vals))=allK vals K:=by
 unfold allK
 rw [Bool.eq_iff_iff,List.all_eq_true,List.all_eq_true]
 have h24:∀ c ∈ K,Lits 24 c:=fun c hc x hx=>lit_24 (by omega) (hl c hc x hx)
 exact ⟨fun h c hc=>by rw [<- clS_bits (h24 c hc)];exact h c hc,fun h c hc=>by rw [clS_bits (h24 c hc)];exact h c hc⟩
theorem satL_allK {vars:Nat} (h24:vars<=24) {K:List (List Int)} (hl:LitsL vars K) {vals:Nat} (h:SatL vals K):allK vals K=true:=by
 unfold allK
 rw [List.all_eq_true]
 intro c hc
 obtain ⟨x,hx,hh⟩:=h c hc
 unfold holdK
 rw [List.any_eq_true]
 exact ⟨x,hx,by unfold litK;rw [lit_24 (by omega) (hl c hc x hx),hh];rfl⟩
theorem many_sat {vars:Nat} (h24:vars<=24) {K:List (List Int)} (hl:LitsL vars K):manyN vars K ≠ 0 ↔ satB K=true:=by
 unfold manyN
 rw [cntV_pos,satB_true]
 constructor
 ·rintro ⟨f',-,h2⟩
  refine ⟨numOf' f' vars,satL_of ?_⟩
  rw [<- all_bits h24 hl,all_agree hl (g:=f') (fun i hi=>numOf_bit f' vars i hi)]
  exact h2
 ·rintro ⟨vals,h⟩
  refine ⟨fun i=>decide (i<vars) && bitsF vals i,fun i hi=>?_,?_⟩
  ·have:¬ i<vars:=by omega
   simp [this]
  ·rw [all_agree hl (g:=bitsF vals) (fun i hi=>by simp [hi]),all_bits h24 hl]
   exact satL_allK h24 hl h
end Go.Proofs.YtiihalknffbjpaaGreatDoor.Bd
namespace Go.Proofs.YtiihalknffbjpaaGreatDoor.Bd
open Go.RowKit
section
variable {vars:Nat} {K:List (List Int)}
theorem sat_fn (h24:vars<=24) (hl:LitsL vars K):satB K=true ↔ ∃ f:Nat->Bool,(∀ j,vars<=j->f j=false)/\K.all (clS f)=true:=by
 rw [<- many_sat h24 hl]
 unfold manyN
 rw [cntV_pos]
 exact ⟨fun ⟨f,h1,h2⟩=>⟨f,fun j hj=>h1 j (by omega),h2⟩,fun ⟨f,h1,h2⟩=>⟨f,fun j hj=>h1 j (by omega),h2⟩⟩
end
end Go.Proofs.YtiihalknffbjpaaGreatDoor.Bd
namespace Go.Proofs.YtiihalknffbjpaaGreatDoor.Bd
open Go.RowKit
theorem csum_congr (C:Cost):∀ (k v:Nat) (f g:Nat->Bool),(∀ i,v<=i->i<v + k->f i=g i)->csum C k v f=csum C k v g
 | 0,_,_,_,_=>rfl
 | k + 1,v,f,g,h=>by
  show C v (f v) + _=C v (g v) + _
  rw [h v (Nat.le_refl _) (by omega),csum_congr C k (v + 1) f g (fun i h1 h2=>h i (by omega) (by omega))]
theorem csum_snoc (C:Cost):∀ (k v:Nat) (f:Nat->Bool),csum C (k + 1) v f=csum C k v f + C (v + k) (f (v + k))
 | 0,v,f=>by show C v (f v) + 0=0 + C (v + 0) (f (v + 0));rw [Nat.add_zero];omega
 | k + 1,v,f=>by
  have:=csum_snoc C k (v + 1) f
  show C v (f v) + csum C (k + 1) (v + 1) f=(C v (f v) + csum C k (v + 1) f) + _
  rw [this,show v + 1 + k=v + (k + 1) by omega];omega
section
variable {vars:Nat} {K:List (List Int)}
structure BestK (C:Cost) (vars:Nat) (K:List (List Int)) (x:Wy):Prop where
 can:x.can=satB K
 cost:x.can=true->x.cost=csum C vars 0 (bitsF x.items)
 small:x.can=true->x.items<2 ^ vars
 holds:x.can=true->allK x.items K=true
 least:∀ vals,allK vals K=true->x.can=true/\x.cost<=csum C vars 0 (bitsF vals)
theorem bestK (C:Cost) (h12:vars<=12) (hl:LitsL vars K):BestK C vars K (fromW C vars (clF K).1 (clF K).2 0):=by
 have hb:=bst_best C (vars - 0) 0 (sem (clF K).1 (clF K).2) (fun _=>false)
 have hs:=(clF_all h12 hl).sem
 have hsat:=sat_fn (show vars<=24 by omega) hl
 unfold fromW
 rw [Nat.sub_zero] at hb ⊢
 generalize bstV C vars 0 (sem (clF K).1 (clF K).2) (fun _=>false)=x at hb
 have key:x.can=true->∃ f':Nat->Bool,(∀ i,i<vars->bitsF x.items i=f' i)/\x.cost=csum C vars 0 (bitsF x.items)/\x.items<2 ^ vars/\K.all (clS f')=true/\(∀ j,vars<=j->f' j=false)/\∀ f'',Agr vars 0 (fun _=>false) f''->K.all (clS f'')=true->x.cost<=csum C vars 0 f'':=fun hc=>by
  obtain ⟨f',a1,a2,a3,a4,a5⟩:=hb.yes hc
  have hbit:∀ i,i<vars->bitsF x.items i=f' i:=fun i hi=>by
   show x.items.testBit i=_
   rw [a4 i,decide_eq_true (by omega),Bool.true_and]
  refine ⟨f',hbit,?_,?_,(hs f').symm.trans a2,fun j hj=>a1 j (by omega),fun f'' hf hg=>?_⟩
  ·rw [a3];exact csum_congr C vars 0 _ _ (fun i _ h2=>(hbit i (by omega)).symm)
  ·apply Nat.lt_pow_two_of_testBit
   intro i hi
   rw [a4 i,decide_eq_false (by omega),Bool.false_and]
  ·rcases a5 f'' hf ((hs f'').trans hg) with h | ⟨h,_⟩ <;> omega
 refine ⟨?_,fun hc=>?_,fun hc=>?_,fun hc=>?_,fun vals hv=>?_⟩
 ·cases hc:x.can with
  | true =>
   obtain ⟨f',-,-,-,h4,h5,-⟩:=key hc
   exact (hsat.2 ⟨f',h5,h4⟩).symm
  | false =>
   cases hq:satB K with
   | false=>rfl
   | true =>
    obtain ⟨f,a,b⟩:=hsat.1 hq
    exact absurd ((hs f).trans b) (by rw [hb.no hc f (fun j hj=>a j (by omega))];simp)
 ·obtain ⟨f',-,h2,-⟩:=key hc;exact h2
 ·obtain ⟨f',-,-,h3,-⟩:=key hc;exact h3
 ·obtain ⟨f',h1,-,-,h4,-⟩:=key hc
  rw [<- all_bits (show vars<=24 by omega) hl,all_agree hl h1];exact h4
 ·have ha:K.all (clS (fun j=>if j<vars then bitsF vals j else false))=true:=by
   rw [all_agree hl (g:=bitsF vals) (fun i hi=>if_pos hi),all_bits (by omega) hl];exact hv
  have hc:x.can=true:=by
   cases hc:x.can with
   | true=>rfl
   | false=>exact absurd ((hs _).trans ha) (by rw [hb.no hc _ (fun j hj=>if_neg (by omega))];simp)
  obtain ⟨f',-,-,-,-,-,h6⟩:=key hc
  refine ⟨hc,?_⟩
  have:=h6 _ (fun j hj=>if_neg (by omega)) ha
  rw [csum_congr C vars 0 _ (bitsF vals) (fun i _ h2=>if_pos (by omega))] at this
  exact this
end
end Go.Proofs.YtiihalknffbjpaaGreatDoor.Bd
namespace Go.Proofs.YtiihalknffbjpaaGreatDoor.Bd
open Go.RowKit
def revG (k vars:Nat):Nat->Nat
 | 0=>0
 | m + 1=>if k.testBit (vars - 1 - m) then revG k vars m ||| 2 ^ m else revG k vars m
theorem lt_succ_ne {i m:Nat} (e:¬ m=i):decide (i<m + 1)=decide (i<m):=by
 by_cases q:i<m
 ·rw [decide_eq_true q,decide_eq_true (by omega)]
 ·rw [decide_eq_false q,decide_eq_false (by omega)]
theorem revG_bit (k vars:Nat):∀ m i,(revG k vars m).testBit i=(decide (i<m) && k.testBit (vars - 1 - i))
 | 0,i=>by simp [revG]
 | m + 1,i=>by
  have ih:=revG_bit k vars m i
  unfold revG
  split
  ·rename_i h
   rw [Nat.testBit_or,Nat.testBit_two_pow,ih]
   by_cases e:m=i
   ·subst e;simp [h]
   ·rw [lt_succ_ne e];simp [e]
  ·rename_i h
   rw [ih]
   by_cases e:m=i
   ·subst e;simp at h;simp [h]
   ·rw [lt_succ_ne e]
theorem revG_lt (k vars m:Nat):revG k vars m<2 ^ m:=Nat.lt_pow_two_of_testBit _ (fun i hi=>by rw [revG_bit,decide_eq_false (by omega)];rfl)
def revN (vars k:Nat):Nat:=revG k vars vars
theorem revN_lt (vars k:Nat):revN vars k<2 ^ vars:=revG_lt k vars vars
theorem revN_bit {vars i:Nat} (k:Nat) (hi:i<vars):(revN vars k).testBit i=k.testBit (vars - 1 - i):=by
 unfold revN
 rw [revG_bit,decide_eq_true hi,Bool.true_and]
theorem bit_out {vars i x:Nat} (hx:x<2 ^ vars) (hi:vars<=i):x.testBit i=false:=Nat.testBit_lt_two_pow (Nat.lt_of_lt_of_le hx (Nat.pow_le_pow_right (by omega) hi))
theorem revN_rev {vars k:Nat} (hk:k<2 ^ vars):revN vars (revN vars k)=k:=by
 apply Nat.eq_of_testBit_eq
 intro i
 by_cases hi:i<vars
 ·rw [revN_bit _ hi,revN_bit _ (by omega)]
  congr 1;omega
 ·rw [bit_out (revN_lt _ _) (by omega),bit_out hk (by omega)]
theorem lt_of_bits {x y i:Nat} (hx:x.testBit i=false) (hy:y.testBit i=true) (h:∀ j,i<j->x.testBit j=y.testBit j):x<y:=by
 have e:x / 2 ^ (i + 1)=y / 2 ^ (i + 1):=Nat.eq_of_testBit_eq (fun j=>by rw [Nat.testBit_div_two_pow,Nat.testBit_div_two_pow];exact h _ (by omega))
 rw [Nat.testBit_eq_decide_div_mod_eq] at hx hy
 have hx':=of_decide_eq_false hx
 have hy':=of_decide_eq_true hy
 have dx:x / 2 ^ (i + 1)=x / 2 ^ i / 2:=by rw [Nat.pow_succ,Nat.div_div_eq_div_mul]
 have dy:y / 2 ^ (i + 1)=y / 2 ^ i / 2:=by rw [Nat.pow_succ,Nat.div_div_eq_div_mul]
 exact Nat.lt_of_not_le (fun hle=>by have:=Nat.div_le_div_right (c:=2 ^ i) hle;omega)
theorem lex_rev {vars x y:Nat} (hx:x<2 ^ vars) (hy:y<2 ^ vars) (h:LexLe vars 0 (bitsF x) (bitsF y)):revN vars y<=revN vars x:=by
 rcases h with h | ⟨j,-,hj,h1,h2,h3⟩
 ·have:x=y:=by
   apply Nat.eq_of_testBit_eq
   intro i
   by_cases hi:i<vars
   ·exact h i (Nat.zero_le _) (by omega)
   ·rw [bit_out hx (by omega),bit_out hy (by omega)]
  rw [this]
  exact Nat.le_refl _
 ·apply Nat.le_of_lt
  refine lt_of_bits (i:=vars - 1 - j) ?_ ?_ ?_
  ·rw [revN_bit _ (by omega),show vars - 1 - (vars - 1 - j)=j by omega];exact h2
  ·rw [revN_bit _ (by omega),show vars - 1 - (vars - 1 - j)=j by omega];exact h1
  ·intro i hi
   by_cases hv:i<vars
   ·rw [revN_bit _ hv,revN_bit _ hv]
    exact (h3 (vars - 1 - i) (Nat.zero_le _) (by omega)).symm
   ·rw [bit_out (revN_lt _ _) (by omega),bit_out (revN_lt _ _) (by omega)]
section
variable {vars:Nat} {K:List (List Int)}
def insF (vars:Nat) (K:List (List Int)) (j:Nat):List Nat:=((List.range j).map fun i=>revN vars (2 ^ vars - 1 - i)).filter fun x=>allK x K
theorem insF_succ (j:Nat):insF vars K (j + 1)=if allK (revN vars (2 ^ vars - 1 - j)) K=true then insF vars K j++[revN vars (2 ^ vars - 1 - j)] else insF vars K j:=by
 unfold insF
 rw [List.range_succ,List.map_append,List.filter_append]
 split
 ·rename_i h;simp [h]
 ·rename_i h;simp [h]
theorem mem_insF {j y:Nat}:y ∈ insF vars K j ↔ (∃ i,i<j/\revN vars (2 ^ vars - 1 - i)=y)/\allK y K=true:=by
 unfold insF
 rw [List.mem_filter,List.mem_map]
 constructor
 ·rintro ⟨⟨i,hi,e⟩,h⟩;exact ⟨⟨i,List.mem_range.1 hi,e⟩,h⟩
 ·rintro ⟨⟨i,hi,e⟩,h⟩;exact ⟨⟨i,List.mem_range.2 hi,e⟩,h⟩
theorem mem_ins {y:Nat}:y ∈ insF vars K (2 ^ vars) ↔ y<2 ^ vars/\allK y K=true:=by
 rw [mem_insF]
 constructor
 ·rintro ⟨⟨i,-,rfl⟩,h⟩;exact ⟨revN_lt _ _,h⟩
 ·rintro ⟨h1,h2⟩
  have:=revN_lt vars y
  refine ⟨⟨2 ^ vars - 1 - revN vars y,by omega,?_⟩,h2⟩
  rw [show 2 ^ vars - 1 - (2 ^ vars - 1 - revN vars y)=revN vars y by omega,revN_rev h1]
theorem insF_len (j:Nat):(insF vars K j).length<=j:=by
 unfold insF
 have:=List.length_filter_le (fun x=>allK x K) ((List.range j).map fun i=>revN vars (2 ^ vars - 1 - i))
 simpa using this
def chS (C:Cost) (vars:Nat) (st:Int × Bool × Nat) (x:Nat):Int × Bool × Nat:=if st.2.1=false\/csum C vars 0 (bitsF x)<st.1 then (csum C vars 0 (bitsF x),true,x) else st
def chF (C:Cost) (vars:Nat) (l:List Nat):Int × Bool × Nat:=l.foldl (chS C vars) (0,false,0)
theorem chF_snoc (C:Cost) (l:List Nat) (x:Nat):chF C vars (l++[x])=chS C vars (chF C vars l) x:=by unfold chF;rw [List.foldl_append];rfl
structure ChOk (C:Cost) (vars:Nat) (l:List Nat) (st:Int × Bool × Nat):Prop where
 no:st.2.1=false->l=[]
 yes:st.2.1=true->st.2.2 ∈ l/\st.1=csum C vars 0 (bitsF st.2.2)/\∀ y ∈ l,st.1<csum C vars 0 (bitsF y)\/st.1=csum C vars 0 (bitsF y)/\revN vars y<=revN vars st.2.2
theorem ch_ok (C:Cost):∀ j,j<=2 ^ vars->ChOk C vars (insF vars K j) (chF C vars (insF vars K j))
 | 0,_=>⟨fun _=>rfl,fun h=>(by cases h)⟩
 | j + 1,hj=>by
  have ih:=ch_ok C j (by omega)
  rw [insF_succ]
  split
  ·have hlow:∀ y ∈ insF vars K j,2 ^ vars - 1 - j<revN vars y:=fun y hy=>by
    obtain ⟨⟨i,hi,rfl⟩,-⟩:=mem_insF.1 hy
    rw [revN_rev (by omega)];omega
   have hx:revN vars (revN vars (2 ^ vars - 1 - j))=2 ^ vars - 1 - j:=revN_rev (by omega)
   generalize revN vars (2 ^ vars - 1 - j)=x at *
   rw [chF_snoc]
   generalize chF C vars (insF vars K j)=st at *
   unfold chS
   split
   ·rename_i hc
    refine ⟨fun h=>(by cases h),fun _=>⟨List.mem_append_right _ (List.mem_singleton.2 rfl),rfl,fun y hy=>?_⟩⟩
    show csum C vars 0 (bitsF x)<_\/csum C vars 0 (bitsF x)=_/\revN vars y<=revN vars x
    rcases List.mem_append.1 hy with hy | hy
    ·rcases hc with hc | hc
     ·rw [ih.no hc] at hy;cases hy
     ·cases hs:st.2.1 with
      | false=>rw [ih.no hs] at hy;cases hy
      | true=>rcases (ih.yes hs).2.2 y hy with h | ⟨h,-⟩ <;> left <;> omega
    ·rw [List.mem_singleton] at hy
     subst hy
     exact Or.inr ⟨rfl,Nat.le_refl _⟩
   ·rename_i hc
    refine ⟨fun h=>absurd (Or.inl h) hc,fun hs=>?_⟩
    obtain ⟨h1,h2,h3⟩:=ih.yes hs
    refine ⟨List.mem_append_left _ h1,h2,fun y hy=>?_⟩
    rcases List.mem_append.1 hy with hy | hy
    ·exact h3 y hy
    ·rw [List.mem_singleton] at hy
     subst hy
     have h4:¬ csum C vars 0 (bitsF y)<st.1:=fun e=>hc (Or.inr e)
     have h5:=hlow _ h1
     by_cases e:st.1<csum C vars 0 (bitsF y)
     ·exact Or.inl e
     ·exact Or.inr ⟨by omega,by omega⟩
  ·exact ih
theorem best_lex (C:Cost) (h12:vars<=12) (hl:LitsL vars K) (hc:(fromW C vars (clF K).1 (clF K).2 0).can=true) {vals:Nat} (ha:allK vals K=true):(fromW C vars (clF K).1 (clF K).2 0).cost<csum C vars 0 (bitsF vals)\/(fromW C vars (clF K).1 (clF K).2 0).cost=csum C vars 0 (bitsF vals)/\LexLe vars 0 (bitsF (fromW C vars (clF K).1 (clF K).2 0).items) (bitsF vals):=by
 have hb:=bst_best C (vars - 0) 0 (sem (clF K).1 (clF K).2) (fun _=>false)
 have hs:=(clF_all h12 hl).sem
 have ha':K.all (clS (fun j=>if j<vars then bitsF vals j else false))=true:=by
  rw [all_agree hl (g:=bitsF vals) (fun i hi=>if_pos hi),all_bits (by omega) hl];exact ha
 unfold fromW at *
 rw [Nat.sub_zero] at *
 generalize bstV C vars 0 (sem (clF K).1 (clF K).2) (fun _=>false)=x at *
 obtain ⟨f',a1,a2,a3,a4,a5⟩:=hb.yes hc
 have hbit:∀ i,i<vars->bitsF x.items i=f' i:=fun i hi=>by
  show x.items.testBit i=_
  rw [a4 i,decide_eq_true (by omega),Bool.true_and]
 have h6:=a5 _ (fun j hj=>if_neg (by omega)) ((hs _).trans ha')
 rw [csum_congr C vars 0 _ (bitsF vals) (fun i _ h2=>if_pos (by omega))] at h6
 rcases h6 with h | ⟨h,hL⟩
 ·exact Or.inl h
 ·refine Or.inr ⟨h,?_⟩
  rcases hL with hL | ⟨j,j1,j2,j3,j4,j5⟩
  ·exact Or.inl fun i i1 i2=>by have:f' i=if i<vars then bitsF vals i else false:=hL i i1 i2;rw [if_pos (by omega)] at this;rw [hbit i (by omega)];exact this
  ·refine Or.inr ⟨j,j1,j2,by rw [hbit j (by omega)];exact j3,by have j4':(if j<vars then bitsF vals j else false)=false:=j4;rw [if_pos (by omega)] at j4';exact j4',fun i i1 i2=>?_⟩
   have:f' i=if i<vars then bitsF vals i else false:=j5 i i1 i2
   rw [if_pos (by omega)] at this
   rw [hbit i (by omega)];exact this
theorem rev_inj {x y:Nat} (hx:x<2 ^ vars) (hy:y<2 ^ vars) (h:revN vars x=revN vars y):x=y:=by rw [<- revN_rev hx,h,revN_rev hy]
theorem cheapest_is (C:Cost) (h12:vars<=12) (hl:LitsL vars K):(chF C vars (insF vars K (2 ^ vars))).2.1=(fromW C vars (clF K).1 (clF K).2 0).can/\((fromW C vars (clF K).1 (clF K).2 0).can=true->(chF C vars (insF vars K (2 ^ vars))).2.2=(fromW C vars (clF K).1 (clF K).2 0).items):=by
 have hk:=ch_ok (K:=K) (vars:=vars) C (2 ^ vars) (Nat.le_refl _)
 have hb:=bestK C h12 hl
 have hL:=fun hc vals=>best_lex (vals:=vals) C h12 hl hc
 generalize fromW C vars (clF K).1 (clF K).2 0=x at *
 generalize chF C vars (insF vars K (2 ^ vars))=st at *
 have e:st.2.1=x.can:=by
  cases hc:x.can with
  | true =>
   cases hs:st.2.1 with
   | true=>rfl
   | false =>
    have h0:=hk.no hs
    have:x.items ∈ insF vars K (2 ^ vars):=mem_ins.2 ⟨hb.small hc,hb.holds hc⟩
    rw [h0] at this;cases this
  | false =>
   cases hs:st.2.1 with
   | false=>rfl
   | true =>
    have:=(mem_ins.1 (hk.yes hs).1).2
    rw [(hb.least _ this).1] at hc;cases hc
 refine ⟨e,fun hc=>?_⟩
 obtain ⟨h1,h2,h3⟩:=hk.yes (e.trans hc)
 obtain ⟨h4,h5⟩:=mem_ins.1 h1
 have h6:=h3 _ (mem_ins.2 ⟨hb.small hc,hb.holds hc⟩)
 rw [<- hb.cost hc] at h6
 have h7:=hL hc _ h5
 rw [<- h2] at h7
 rcases h6 with h6 | ⟨h6,h8⟩
 ·rcases h7 with h7 | ⟨h7,-⟩ <;> omega
 ·rcases h7 with h7 | ⟨h7,h9⟩
  ·omega
  ·have:=lex_rev (hb.small hc) h4 h9
   exact rev_inj h4 (hb.small hc) (by omega)
end
end Go.Proofs.YtiihalknffbjpaaGreatDoor.Bd
namespace Go.Proofs.YtiihalknffbjpaaGreatDoor
open Go.RowKit
theorem within_any (n lo hi:Int) (w:World):Calls Tryz.prog 209 #[.int .i64 n,.int .i64 lo,.int .i64 hi] w fun e w'=>e=.returned (.bool (decide (lo<=n/\n<=hi)))/\w=w':=by
 by_cases h1:lo<=n
 ·by_cases h2:n<=hi
  ·rw [show decide (lo<=n/\n<=hi)=true by simp [h1,h2]]
   go_enter Tryz.func209,Tryz.ntmps209
   go_wp2
   go_ret
   exact ⟨rfl,rfl⟩
  ·rw [show decide (lo<=n/\n<=hi)=false by simp [h2]]
   go_enter Tryz.func209,Tryz.ntmps209
   go_wp2
   go_ret
   exact ⟨rfl,rfl⟩
 ·rw [show decide (lo<=n/\n<=hi)=false by simp [h1]]
  go_enter Tryz.func209,Tryz.ntmps209
  go_wp2
  go_ret
  exact ⟨rfl,rfl⟩
theorem litH_pos (vals t:Nat):litH vals ((t:Int) + 1)=vals.testBit t:=by
 unfold litH;rw [if_pos (by omega)];congr 1
theorem litH_neg (vals t:Nat):litH vals (-((t:Int) + 1))=!vals.testBit t:=by
 unfold litH;rw [if_neg (by omega),show (- -((t:Int) + 1)).toNat - 1=t by omega]
theorem any_hit {α:Type} {p:α->Bool} {xs:List α} {k:Nat} {d:α} (hk:k<xs.length) (h1:p (xs.getD k d)=true):xs.any p=true:=List.any_eq_true.2 ⟨_,getD_mem hk,h1⟩
theorem any_none {α:Type} {p:α->Bool} {xs:List α} {d:α} (h0:∀ j,j<xs.length->p (xs.getD j d)=false):xs.any p=false:=by
 rw [List.any_eq_false]
 intro x hx
 obtain ⟨j,hj,rfl⟩:=List.getElem_of_mem hx
 have:=h0 j hj
 rw [List.getD_eq_getElem?_getD,List.getElem?_eq_getElem hj] at this
 simpa using this
end Go.Proofs.YtiihalknffbjpaaGreatDoor
namespace Go.Proofs.YtiihalknffbjpaaGreatDoor
open Go.RowKit
theorem rholds_any (c:List Int) (a:Option Addr) (cap:Nat) (vals:Nat) (hv:vals<18446744073709551616) (w:World) (hI:IntsIn w a c) (hm:c.length<=9223372036854775807) (hr:∀ x ∈ c,litB 24 x=true) :
  Calls Tryz.prog 162 #[.slice a c.length cap,.int .u64 (vals:Int)] w fun e w'=>e=.returned (.bool (c.any (litH vals)))/\w=w':=by
 have HI:=Lib.hid hI
 have HR:=Lib.hid hr
 clear hI hr
 go_enter Tryz.func162,Tryz.ntmps162
 go_wp2_with fail
 go_loop [9] (fun kV=>∃ k:Nat,k<=c.length/\kV=.int .i64 (k:Int)/\(∀ j,j<k->litH vals (c.getD j 0)=false)) (fun kV=>c.length - (intOf kV).toNat)
 case atStart=>exact ⟨0,Nat.zero_le _,rfl,fun j h=>by omega⟩
 case round =>
  obtain ⟨k,hk,rfl,h1⟩:=hrel
  have H1:=Lib.hid h1
  clear h1
  by_cases hlt:k<c.length
  ·obtain ⟨ad,rfl,hl,hc⟩:=HI.out k hlt
   have hx0:=HR.out _ (getD_mem (d:=0) hlt)
   generalize hx:c.getD k 0=x at *
   have hx1:x ≠ 0/\-24<=x/\x<=24:=by simpa [litB] using hx0
   have HX:=Lib.hid hx
   clear hx hx0
   by_cases hp:0<x
   ·obtain ⟨t,rfl⟩:∃ t:Nat,x=(t:Int) + 1:=⟨x.toNat - 1,by omega⟩
    have ht:t<24:=by omega
    have hs:=shr_bit1 vals t hv
    cases hb:vals.testBit t with
    | true =>
     rw [hb] at hs
     have HRES:Hid (c.any (litH vals)=true):=any_hit (d:=0) hlt (by rw [HX.out,litH_pos];exact hb)
     clear hb hx1
     go_wp2
     go_ret
     exact ⟨by rw [HRES.out];rfl,rfl⟩
    | false =>
     rw [hb] at hs
     have HRES:Hid (litH vals ((t:Int) + 1)=false):=by show _=false;rw [litH_pos];exact hb
     clear hb hx1
     go_wp2
     go_round
     case rel=>exact ⟨k + 1,hlt,by go_num,fun j hj=>(by
      rcases Nat.lt_succ_iff_lt_or_eq.1 hj with e | e
      ·exact H1.out j e
      ·rw [e,HX.out];exact HRES.out)⟩
     case measure=>simp [intOf];omega
   ·obtain ⟨t,rfl⟩:∃ t:Nat,x=-((t:Int) + 1):=⟨(-x).toNat - 1,by omega⟩
    have ht:t<24:=by omega
    have hs:=shr_bit0 vals t hv
    cases hb:vals.testBit t with
    | false =>
     rw [hb] at hs
     have HRES:Hid (c.any (litH vals)=true):=any_hit (d:=0) hlt (by rw [HX.out,litH_neg,hb];rfl)
     clear hb hx1
     go_wp2
     go_ret
     exact ⟨by rw [HRES.out];rfl,rfl⟩
    | true =>
     rw [hb] at hs
     have HRES:Hid (litH vals (-((t:Int) + 1))=false):=by show _=false;rw [litH_neg,hb];rfl
     clear hb hx1
     go_wp2
     go_round
     case rel=>exact ⟨k + 1,hlt,by go_num,fun j hj=>(by
      rcases Nat.lt_succ_iff_lt_or_eq.1 hj with e | e
      ·exact H1.out j e
      ·rw [e,HX.out];exact HRES.out)⟩
     case measure=>simp [intOf];omega
  ·obtain rfl:k=c.length:=by omega
   have HRES:Hid (c.any (litH vals)=false):=any_none H1.out
   go_wp2
   go_ret
   exact ⟨by rw [HRES.out];rfl,rfl⟩
theorem holdK_of {vals:Nat} {c:List Int} (hr:∀ x ∈ c,litB 24 x=true):holdK vals c=c.any (litH vals):=by
 unfold holdK
 rw [Bool.eq_iff_iff,List.any_eq_true,List.any_eq_true]
 constructor
 ·rintro ⟨x,hx,h⟩;exact ⟨x,hx,by unfold litK at h;rw [hr x hx] at h;simpa using h⟩
 ·rintro ⟨x,hx,h⟩;exact ⟨x,hx,by unfold litK;rw [hr x hx,h];rfl⟩
theorem rallHold_any (l:List (List Int)) (a:Option Addr) (cap:Nat) (vals:Nat) (hv:vals<18446744073709551616) (w:World) (hI:ClsIn w a l) (hm:l.length<=9223372036854775807) (hr:∀ c ∈ l,∀ x ∈ c,litB 24 x=true) :
  Calls Tryz.prog 76 #[.slice a l.length cap,.int .u64 (vals:Int)] w fun e w'=>e=.returned (.bool (allK vals l))/\w=w':=by
 have HI:=Lib.hid hI
 have HR:=Lib.hid hr
 clear hI hr
 rw [allK_eq]
 go_enter Tryz.func76,Tryz.ntmps76
 go_wp2_with fail
 go_loop [9] (fun kV=>∃ k:Nat,k<=l.length/\kV=.int .i64 (k:Int)/\(∀ j,j<k->(!holdK vals (l.getD j []))=false)) (fun kV=>l.length - (intOf kV).toNat)
 case atStart=>exact ⟨0,Nat.zero_le _,rfl,fun j h=>by omega⟩
 case round =>
  obtain ⟨k,hk,rfl,h1⟩:=hrel
  have H1:=Lib.hid h1
  clear h1
  by_cases hlt:k<l.length
  ·obtain ⟨ad,a',cap',rfl,hl,hc,g1,g2,g3⟩:=HI.out k hlt
   have hr0:=HR.out _ (getD_mem (d:=[]) hlt)
   have HC:=Lib.hid (rholds_any (l.getD k []) a' cap' vals hv w g3 (by omega) hr0)
   rw [<- holdK_of hr0] at HC
   generalize hx:l.getD k []=c at *
   have HX:=Lib.hid hx
   clear hx hr0 g3
   cases hb:holdK vals c with
   | true =>
    rw [hb] at HC
    have HB:=Lib.hid hb
    clear hb
    go_wp2_with fail
    refine HC.out.mono ?_
    rintro e w1 ⟨rfl,rfl⟩
    clear HC
    go_wp2
    go_round
    case rel=>exact ⟨k + 1,hlt,by go_num,fun j hj=>(by
     rcases Nat.lt_succ_iff_lt_or_eq.1 hj with e | e
     ·exact H1.out j e
     ·rw [e,HX.out,HB.out];rfl)⟩
    case measure=>simp [intOf];omega
   | false =>
    rw [hb] at HC
    have HRES:Hid (l.any (fun c=>!holdK vals c)=true):=any_hit (d:=[]) hlt (by rw [HX.out,hb];rfl)
    clear hb
    go_wp2_with fail
    refine HC.out.mono ?_
    rintro e w1 ⟨rfl,rfl⟩
    clear HC
    go_wp2
    go_ret
    exact ⟨by rw [HRES.out];rfl,rfl⟩
  ·obtain rfl:k=l.length:=by omega
   have HRES:Hid (l.any (fun c=>!holdK vals c)=false):=any_none H1.out
   go_wp2
   go_ret
   exact ⟨by rw [HRES.out];rfl,rfl⟩
end Go.Proofs.YtiihalknffbjpaaGreatDoor
namespace Go.Proofs.YtiihalknffbjpaaGreatDoor.Bd
open Go.RowKit Go.Deep
def ucells (l:List Nat):List Value:=l.map fun n:Nat=>Value.int .u64 (n:Int)
theorem ucells_snoc (l:List Nat) (x:Nat):ucells (l++[x])=ucells l++[.int .u64 (x:Int)]:=by simp [ucells]
theorem ucells_at (l:List Nat) (i:Nat) (h:i<l.length):(ucells l)[i]?=some (.int .u64 (l.getD i 0:Nat)):=by simp [ucells,List.getD_eq_getElem?_getD,h]
theorem infoUintI:(Tryz.prog.info? 48).map (fun i=>(i.zero,i.size,i.bytes))=some (some (.int .u64 0),1,8):=by kernel_rfl
theorem cell_litU (w:World) (x:Int) (t:TypeId):∀ (j:Nat) (u:Value),[Value.int .u64 x][j]?=some u->(w.alloc (.cells #[.int .u64 x] t)).cell? ((⟨w.heap.size,0,none⟩:Addr).add j)=some u:=by
 intro j u hj
 have:j=0:=by have:=(List.getElem?_eq_some_iff.1 hj).1;simp at this;omega
 subst this
 rw [add_plain,(Blk.new w t #[.int .u64 x]).cell]
 exact hj
theorem one_litU (x:Int):∀ u ∈ [Value.int .u64 x],u.oneCell'=true:=fun u hu=>by
 rw [List.mem_singleton] at hu;subst hu;rfl
theorem and1_256:∀ m:Fin 256,bits BinOp.and IntKind.i64 ((m.val:Nat):Int) 1=((m.val % 2:Nat):Int):=by decide +kernel
theorem shr_i64 (k t:Nat) (hk:k<256):(bits BinOp.and IntKind.i64 ((k:Int) / 2 ^ t) 1 == 1)=k.testBit t:=by
 have e:(k:Int) / 2 ^ t=((k / 2 ^ t:Nat):Int):=by simp
 have hd:k / 2 ^ t<=k:=Nat.div_le_self _ _
 rw [e,and1_256 ⟨k / 2 ^ t,by omega⟩,Nat.testBit_eq_decide_div_mod_eq,Bool.eq_iff_iff]
 simp
 omega
def UIn (w:World) (a:Option Addr) (l:List Nat):Prop:=∀ i,i<l.length->∃ ad:Addr,a=some ad/\ad.block<w.heap.size/\w.cell? (ad.add i)=some (.int .u64 (l.getD i 0:Nat))
theorem UIn.below {w w':World} {a:Option Addr} {l:List Nat} (h:UIn w a l) (hb:Below w.heap.size w w'):UIn w' a l:=fun i hi=>by
 obtain ⟨ad,h1,h2,h3⟩:=h i hi
 exact ⟨ad,h1,Nat.lt_of_lt_of_le h2 hb.size,(hb.cell (p:=ad.add i) (by rw [addr_block];exact h2)).trans h3⟩
theorem urow_in {B:Nat} {w:World} {a:Option Addr} {c:Nat} {l:List Nat} (h:w.ownsRow B 48 1 (.slice a l.length c) l.length (ucells l)):UIn w a l:=by
 intro i hi
 rcases h.2 with ⟨e,e0⟩ | ⟨g,cap,cur,e,-,hg,-⟩
 ·omega
 ·injection e with e1 e2 e3
  subst e1
  have:=h.cellAt i (by omega)
  refine ⟨_,rfl,(Array.getElem?_eq_some_iff.1 hg).1,?_⟩
  rw [add_plain,Nat.zero_add,<- ucells_at l i hi]
  subst e3
  exact this
theorem rinstalls_any (vars:Nat) (hv:vars<=8) (K:List (List Int)) (a:Option Addr) (cap:Nat) (w:World) (hI:ClsIn w a K) (hm:K.length<=10000) (hl:LitsL vars K) :
  Calls Tryz.prog 17 #[.int .i64 (vars:Int),.slice a K.length cap] w fun e w'=>∃ v,e=.returned v/\w'.ownsRow w.heap.size 48 1 v (insF vars K (2 ^ vars)).length (ucells (insF vars K (2 ^ vars)))/\Below w.heap.size w w':=by
 obtain ⟨i0,hin,hz0,hz1,hz2⟩:=info_parts infoUintI
 have hp8:(2:Nat) ^ vars<=256:=Nat.pow_le_pow_right (n:=2) (by omega) hv
 have hp0:0<(2:Nat) ^ vars:=Nat.two_pow_pos vars
 have HAH:Hid (∀ x:Nat,x<18446744073709551616->∀ W,Below w.heap.size w W->Calls Tryz.prog 76 #[.slice a K.length cap,.int .u64 (x:Int)] W fun e w'=>e=.returned (.bool (allK x K))/\W=w'):=fun x hx W hW=>rallHold_any K a cap x hx W (hI.below hW) (by omega) (fun c hc y hy=>lit_24 (by omega) (hl c hc y hy))
 obtain ⟨N,hN⟩:∃ N,N=2 ^ vars:=⟨_,rfl⟩
 have hw1:IntKind.i64.wrap (IntKind.i64.wrap (2 ^ vars) - 1)=(N:Int) - 1:=by
  have e:((2:Int) ^ vars)=(N:Int):=by rw [hN];simp
  rw [e,IntKind.wrap_i64,IntKind.wrap_i64];omega
 have hw2:wrap64 (wrap64 (2 ^ vars) - 1)=(N:Int) - 1:=by
  have e:((2:Int) ^ vars)=(N:Int):=by rw [hN];simp
  have hN':N<=256:=by rw [hN];exact hp8
  rw [e]
  unfold wrap64
  omega
 rw [<- hN] at hp8 hp0 ⊢
 clear hI hl
 have HN:=Lib.hid hN
 clear hN
 go_enter Tryz.func17,Tryz.ntmps17
 go_wp2_with fail
 go_loopw [5,6] (fun oV kV wr=>∃ (j:Nat),j<=N/\kV=.int .i64 ((N:Int) - 1 - (j:Int))/\wr.ownsRow w.heap.size 48 1 oV (insF vars K j).length (ucells (insF vars K j))/\Below w.heap.size w wr) (fun _ kV _=>(intOf kV + 1).toNat)
 case atStart=>exact ⟨0,Nat.zero_le _,by rw [hw2];simp,World.ownsRow_nil _ _ _ _,Below.refl _ _⟩
 case round =>
  obtain ⟨j,hj,rfl,hrow,hbw⟩:=hrel
  clear hw1 hw2
  have HROW:=Lib.hid hrow
  have HBW:=Lib.hid hbw
  have hsz:=hbw.size
  clear hrow hbw
  by_cases hlt:j<N
  ·obtain ⟨k,hk⟩:∃ k:Nat,(N:Int) - 1 - (j:Int)=(k:Int):=⟨N - 1 - j,by omega⟩
   have HK1:Hid (k=N - 1 - j):=(show k=N - 1 - j by omega)
   have hkb:k<256:=by omega
   have hkw:IntKind.i64.wrap ((k:Int) - 1)=(k:Int) - 1:=by rw [IntKind.wrap_i64];omega
   have hk0:(0:Int)<=(k:Int):=by omega
   rw [hk]
   go_wp2_with fail
   go_loop [7,17] (fun xV iV=>∃ (i:Nat),i<=vars/\iV=.int .i64 (i:Int)/\xV=.int .u64 (revG k vars i:Nat)) (fun _ iV=>vars - (intOf iV).toNat)
   case atStart=>exact ⟨0,Nat.zero_le _,rfl,rfl⟩
   case round =>
    obtain ⟨i,hi,rfl,rfl⟩:=hrel
    have hG:=revG_lt k vars i
    have hGp:(2:Nat) ^ i<=256:=Nat.pow_le_pow_right (n:=2) (by omega) (show i<=8 by omega)
    by_cases hlt2:i<vars
    ·have hii:(i:Int)<(vars:Int):=by omega
     have t1:IntKind.i64.wrap ((vars:Int) - 1)=(vars:Int) - 1:=by rw [IntKind.wrap_i64];omega
     obtain ⟨t,ht⟩:∃ t:Nat,(vars:Int) - 1 - (i:Int)=(t:Int):=⟨vars - 1 - i,by omega⟩
     have t2:IntKind.i64.wrap ((vars:Int) - 1 - (i:Int))=(t:Int):=by rw [ht,IntKind.wrap_i64];omega
     have ht0:(0:Int)<=(t:Int):=by omega
     have hs:=shr_i64 k t hkb
     have hor:=or_pow64 (revG k vars i) i (by omega) (by omega)
     have HG:Hid (revG k vars (i + 1)=if k.testBit t then revG k vars i ||| 2 ^ i else revG k vars i):=by
      show _=_
      rw [revG,show vars - 1 - i=t by omega]
     generalize revG k vars i=g at *
     cases hb:k.testBit t with
     | true =>
      rw [hb] at hs HG
      rw [if_pos rfl] at HG
      clear hb
      go_wp2
      go_round
      case rel=>exact ⟨i + 1,hlt2,by go_num,by rw [HG.out]⟩
      case measure=>simp [intOf];omega
     | false =>
      rw [hb] at hs HG
      rw [if_neg (by simp)] at HG
      clear hb
      go_wp2
      go_round
      case rel=>exact ⟨i + 1,hlt2,by go_num,by rw [HG.out]⟩
      case measure=>simp [intOf];omega
    ·obtain rfl:i=vars:=by omega
     have HST:Hid (insF i K (j + 1)=if allK (revG k i i) K=true then insF i K j++[revG k i i] else insF i K j):=by
      have h:=insF_succ (vars:=i) (K:=K) j
      rw [<- HN.out,<- HK1.out] at h
      exact h
     have HA:=Lib.hid (HAH.out (revG k i i) (by omega) wr HBW.out)
     have hil:=insF_len (vars:=i) (K:=K) j
     generalize revG k i i=g at *
     go_wp2_with fail
     refine HA.out.mono ?_
     rintro e wy ⟨rfl,rfl⟩
     obtain ⟨oa,oc,rfl,-⟩:=row_form HROW.out
     generalize hL:(insF i K j).length=n at *
     have HL:=Lib.hid hL
     clear hL HA HAH
     cases hq:allK g K with
     | true =>
      rw [hq,if_pos rfl] at HST
      clear hq
      go_wp2_with (at_builtin;refine wpList_append_own_at _ rfl _ _ 38 rfl w.heap.size 48 i0 (.int .u64 0) 1 8 Tryz.underlying38 hin hz0 hz1 hz2 rfl (by decide) _ _ _ rfl (HROW.out.alloc _) ⟨wr.heap.size,0,none⟩ 1 1 [.int .u64 (g:Int)] rfl rfl ?e1 ?e2 ?e3 ?e4 ?e5 ?_)
      case e1=>exact cell_litU _ _ _
      case e2=>exact one_litU _
      case e3=>unfold maxLen;omega
      case e4=>omega
      case e5=>simp;omega
      intro v8 w8 hown8 hgrow8 _ hloc8
      have HR8:Hid (w8.ownsRow w.heap.size 48 1 v8 (insF i K (j + 1)).length (ucells (insF i K (j + 1)))):=by
       show World.ownsRow _ _ _ _ _ _ _
       rw [HST.out,ucells_snoc,List.length_append,HL.out]
       exact hown8
      have HB8:Hid (Below w.heap.size w w8):=(HBW.out.alloc hsz _).grown hgrow8 (by simp;omega) (fun k hk=>(HROW.out.lt k hk).1)
      obtain ⟨v8a,v8c,rfl,-⟩:=row_form hown8
      clear hown8 hgrow8 hloc8 HROW HST
      go_wp2
      go_roundw
      case rel=>exact ⟨j + 1,hlt,by have:=HK1.out;first | (simp;done) | (simp;omega),HR8.out,HB8.out⟩
      case measure=>first | (simp [intOf];done) | (simp [intOf];omega)
     | false =>
      rw [hq,if_neg (by simp)] at HST
      clear hq
      have HR8:Hid (wr.ownsRow w.heap.size 48 1 (.slice oa n oc) (insF i K (j + 1)).length (ucells (insF i K (j + 1)))):=by
       show World.ownsRow _ _ _ _ _ _ _
       rw [HST.out,HL.out];exact HROW.out
      clear HROW HST
      go_wp2
      go_roundw
      case rel=>exact ⟨j + 1,hlt,by have:=HK1.out;first | (simp;done) | (simp;omega),HR8.out,HBW.out⟩
      case measure=>first | (simp [intOf];done) | (simp [intOf];omega)
  ·obtain rfl:j=N:=by omega
   have hneg:¬ (0:Int)<=(j:Int) - 1 - (j:Int):=by omega
   clear HAH
   go_wp2
   go_ret
   exact ⟨_,rfl,HROW.out,HBW.out⟩
end Go.Proofs.YtiihalknffbjpaaGreatDoor.Bd
