/- What is known, in form: plain. -/
import Derived.Test.YtiihalknffbjpaaGreatDoorBdMakes
import Derived.Test.YtiihalknffbjpaaGreatDoorProg
import Derived.WalkKit
import Derived.WalkSpells
import Derived.WalkLawsBesides
import Derived.Deep.Cut
import Derived.Deep.DeepCutAuto
import Derived.Deep.RegionWith
import Derived.Deep.LoopGhost
import Derived.Deep.DeepFit
import Derived.Deep.DeepMust
import Derived.Deep.Light
import Derived.Lib.QuietBelow
import Derived.Lib.MinMax
import Derived.BigQuiet
import Derived.Lib.Hide
import Derived.Deep.RegionHeld3
import Derived.Deep.Slices
import Derived.WalkSmall
set_option maxHeartbeats 1000000
set_option maxRecDepth 100000
namespace Go.Proofs.YtiihalknffbjpaaGreatDoor.Bd
open Go.RowKit Go.Maps
structure OpR (vars:Nat) (ns:List Nd) (r:List Nd × Int) (g:(Nat->Bool)->Bool):Prop where
 good:Good vars r.1
 ext:Ext ns r.1
 has:hasB r.1 r.2=true
 sem:∀ f,sem r.1 r.2 f=g f
 len:r.1.length + 1<=ns.length + 2 ^ vars
 cnt:cnt r.1 + 1<=cnt ns + 2 ^ vars
 tight:r.1.length + 1<=max (ns.length + 1) (Go.Proofs.YtiihalknffbjpaaGreatDoor.Bd.cnt ns + 2 ^ vars)
def askF (op:Bool) (ns:List Nd) (k:Nd):List Nd × Int:=((makesF 24 op ns [] k).1,(makesF 24 op ns [] k).2.2)
def litF (ns:List Nd) (v:Int) (is:Bool):List Nd × Int:=if is=true then nodeF ns v 0 1 else nodeF ns v 1 0
section
variable {vars:Nat} {ns:List Nd}
theorem memo_nil (op:Bool) (ns:List Nd):MemoOk op ns []:=⟨fun p h=>(by cases h),fun p h=>(by cases h),fun p h=>(by cases h),fun p h=>(by cases h)⟩
theorem has_end0 (ns:List Nd):hasB ns 0=true:=by simp [hasB]
theorem has_end1 (ns:List Nd):hasB ns 1=true:=by simp [hasB]
theorem top_end0 (ns:List Nd):topOf ns 0=24:=by simp [topOf]
theorem top_end1 (ns:List Nd):topOf ns 1=24:=by simp [topOf]
theorem rk_le (hr:Ranked ns) (k:Nd):2 ^ rk vars ns k<=2 ^ vars:=Nat.pow_le_pow_right (by omega) (by unfold rk;have:=(minT_bd hr k).1;omega)
theorem ask_ok' (op:Bool) (hg:Good vars ns) {k:Nd} (h3:Has3 ns k) (hl:ns.length + 2 ^ vars<=900000):OpR vars ns (askF op ns k) (fun f=>opS op (sem ns k.v f) (sem ns k.l f) (sem ns k.h f)):=by
 have hp:=rk_le (vars:=vars) hg.ranked k
 have h:=makes_ok (op:=op) 24 ns [] k hg (memo_nil op ns) h3 (by have:=(minT_bd hg.ranked k).1;omega) (by omega)
 exact ⟨h.good,h.ext,h.has,h.sem,by have:=h.len;show (makesF 24 op ns [] k).1.length + 1<=_;omega,by have:=h.cnt;show Go.Proofs.YtiihalknffbjpaaGreatDoor.Bd.cnt (makesF 24 op ns [] k).1 + 1<=_;omega,by have:=h.tight;show (makesF 24 op ns [] k).1.length + 1<=_;omega⟩
theorem lit_ok (hg:Good vars ns) {v:Int} (is:Bool) (hv0:0<=v) (hv:v<(vars:Int)) (hv24:v<24) (hl:ns.length + 2 ^ vars<=900000):OpR vars ns (litF ns v is) (fun f=>f v.toNat == is):=by
 have h1:1<=vars:=by omega
 have h2:2<=2 ^ vars:=by
  obtain ⟨q,rfl⟩:∃ q,vars=q + 1:=⟨vars - 1,by omega⟩
  have:=Nat.one_le_two_pow (n:=q);rw [Nat.pow_succ];omega
 unfold litF
 cases is with
 | true =>
  rw [if_pos rfl]
  have h:=nodeF_ok hg (v:=v) (l:=0) (h:=1) (by omega) hv0 hv24 hv (has_end0 ns) (has_end1 ns) (by rw [top_end0];exact hv24) (by rw [top_end1];exact hv24)
  exact ⟨h.good,h.ext,h.has,fun f=>by rw [h.sem f,sem_true,sem_false];cases f v.toNat <;> rfl,by have:=h.len;omega,by have:=h.cnt;omega,by have:=h.tight;omega⟩
 | false =>
  rw [if_neg (by simp)]
  have h:=nodeF_ok hg (v:=v) (l:=1) (h:=0) (by omega) hv0 hv24 hv (has_end1 ns) (has_end0 ns) (by rw [top_end1];exact hv24) (by rw [top_end0];exact hv24)
  exact ⟨h.good,h.ext,h.has,fun f=>by rw [h.sem f,sem_true,sem_false];cases f v.toNat <;> rfl,by have:=h.len;omega,by have:=h.cnt;omega,by have:=h.tight;omega⟩
end
end Go.Proofs.YtiihalknffbjpaaGreatDoor.Bd
namespace Go.Proofs.YtiihalknffbjpaaGreatDoor.Bd
open Go.RowKit Go.Maps
theorem markF_real {ns:List Nd} (hr:Ranked ns):∀ (d:Nat) (h:Int) (m:List Bool),m.length=ns.length->(∀ i,mk m i=true->(nd ns i).v<24)->∀ i,mk (markF d ns h m) i=true->(nd ns i).v<24
 | 0,_,_,_,hm=>hm
 | d + 1,h,m,hl,hm=>by
  unfold markF
  split
  ·exact hm
  ·rename_i hn
   obtain ⟨b1,b2,b3⟩:=topOf_node (not_or.1 hn).1
   have b4:=(topOf_le hr h).2
   have b5:=(not_or.1 hn).1
   refine markF_real hr d _ _ (by rw [markF_length,List.length_set,hl]) (markF_real hr d _ _ (by rw [List.length_set,hl]) ?_)
   intro i hi
   rw [mk_set _ _ _ (by omega)] at hi
   by_cases e:i=(h - 2).toNat
   ·rw [e];omega
   ·rw [decide_eq_false e,Bool.false_or] at hi;exact hm i hi
theorem marksOf_real {ns:List Nd} (hr:Ranked ns) (fs:List Int):∀ i,mk (marksOf ns fs) i=true->(nd ns i).v<24:=by
 have:∀ (fs:List Int) (m:List Bool),m.length=ns.length->(∀ i,mk m i=true->(nd ns i).v<24)->∀ i,mk (fs.foldl (fun m h=>markF 24 ns h m) m) i=true->(nd ns i).v<24:=by
  intro fs
  induction fs with
  | nil=>intro m _ h;exact h
  | cons f fs ih=>intro m hl h;exact ih _ (by rw [markF_length,hl]) (markF_real hr 24 f m hl h)
 exact this fs _ (by simp) (fun i h=>by rw [mk_none] at h;cases h)
theorem marksOf_closed {ns:List Nd} (hr:Ranked ns) (fs:List Int):∀ i,i<ns.length->mk (marksOf ns fs) i=true->MarkedOr ns (marksOf ns fs) (nd ns i).l/\MarkedOr ns (marksOf ns fs) (nd ns i).h:=by
 have:∀ (fs:List Int) (m:List Bool),m.length=ns.length->(∀ i,i<ns.length->mk m i=true->MarkedOr ns m (nd ns i).l/\MarkedOr ns m (nd ns i).h) ->
   ∀ i,i<ns.length->mk (fs.foldl (fun m h=>markF 24 ns h m) m) i=true->MarkedOr ns (fs.foldl (fun m h=>markF 24 ns h m) m) (nd ns i).l/\MarkedOr ns (fs.foldl (fun m h=>markF 24 ns h m) m) (nd ns i).h:=by
  intro fs
  induction fs with
  | nil=>intro m _ h;exact h
  | cons f fs ih =>
   intro m hl h
   refine ih _ (by rw [markF_length,hl]) (fun i hi hm=>?_)
   by_cases h0:mk m i=true
   ·exact ⟨(h i hi h0).1.grow hl 24 f,(h i hi h0).2.grow hl 24 f⟩
   ·exact (markF_closed hr 24 f m hl (by have:=(topOf_le hr f).1;omega)).2 i hi hm (by simpa using h0)
 exact this fs _ (by simp) (fun i _ h=>by rw [mk_none] at h;cases h)
theorem swept_ranked_any {ns:List Nd} (hr:Ranked ns) (fs:List Int):Ranked (swept ns (marksOf ns fs)):=by
 have hc:=marksOf_closed hr fs
 have hreal:=marksOf_real hr fs
 generalize marksOf ns fs=M at *
 have key:∀ j,j<ns.length->mk M j=true/\nd (swept ns M) j=nd ns j\/mk M j=false/\nd (swept ns M) j=⟨24,0,0⟩:=fun j hj=>by
  rw [swept_at ns M j hj]
  by_cases h:mk M j=true
  ·exact .inl ⟨h,by rw [if_pos h]⟩
  ·exact .inr ⟨by simpa using h,by rw [if_neg h]⟩
 have child:∀ h,MarkedOr ns M h->hasB ns h=true->topOf (swept ns M) h=topOf ns h/\hasB (swept ns M) h=true:=fun h hm hh=>by
  have e:topOf (swept ns M) h=topOf ns h:=by
   rw [swept_top]
   rcases hm with hm | hm
   ·rw [hm];split <;> rfl
   ·rw [if_pos hm]
  exact ⟨e,by unfold hasB at *;rw [e];exact hh⟩
 refine ⟨?_,?_,?_,?_⟩ <;> intro j hj <;> rw [swept_length] at hj
 ·rcases key j hj with ⟨-,e⟩ | ⟨-,e⟩
  ·rw [e];exact hr.v0 j hj
  ·rw [e];simp
 ·intro hv
  rcases key j hj with ⟨hm,e⟩ | ⟨-,e⟩
  ·rw [e]
   have:=hr.l j hj (hreal j hm)
   have hcl:=child _ (hc j hj hm).1 this.2
   rw [hcl.1];exact ⟨this.1,hcl.2⟩
  ·rw [e] at hv;simp at hv
 ·intro hv
  rcases key j hj with ⟨hm,e⟩ | ⟨-,e⟩
  ·rw [e]
   have:=hr.h j hj (hreal j hm)
   have hcl:=child _ (hc j hj hm).2 this.2
   rw [hcl.1];exact ⟨this.1,hcl.2⟩
  ·rw [e] at hv;simp at hv
 ·rcases key j hj with ⟨-,e⟩ | ⟨-,e⟩
  ·rw [e];exact hr.ok j hj
  ·rw [e];exact ⟨⟨by decide,by decide⟩,⟨by decide,by decide⟩,⟨by decide,by decide⟩⟩
theorem swept_book {ns:List Nd} {L:List (Nd × Int)} {M:List Bool} (hB:Book ns L):Book (swept ns M) (LTo L M ns.length):=by
 refine ⟨fun p hp=>?_,fun i hi hv=>?_,?_,fun i hi hv=>?_⟩
 ·obtain ⟨h1,h2⟩:=List.mem_filter.1 hp
  obtain ⟨i,hi,hv,rfl⟩:=hB.mem p h1
  simp only [show (2 + (i:Int) - 2).toNat=i by omega,decide_eq_false (show ¬ ns.length<=i by omega),Bool.false_or] at h2
  refine ⟨i,by rw [swept_length];exact hi,?_,?_⟩ <;> rw [swept_at ns M i hi,if_pos h2]
  exact hv
 ·rw [swept_length] at hi
  rw [swept_at ns M i hi] at hv ⊢
  by_cases hm:mk M i=true
  ·rw [if_pos hm] at hv ⊢
   exact List.mem_filter.2 ⟨hB.all i hi hv,by simp only [show (2 + (i:Int) - 2).toNat=i by omega,hm,Bool.or_true]⟩
  ·rw [if_neg hm] at hv;simp at hv
 ·exact hB.nodup.sublist (List.filter_sublist.map _)
 ·rw [swept_length] at hi
  rw [swept_at ns M i hi] at hv ⊢
  by_cases hm:mk M i=true
  ·rw [if_pos hm] at hv ⊢;exact hB.free i hi hv
  ·rw [if_neg hm]
def taken (ns:List Nd):List Nat:=(List.range ns.length).filter fun i=>decide ((nd ns i).v<24)
theorem book_len {ns:List Nd} {L:List (Nd × Int)} (hB:Book ns L):L.length=(taken ns).length:=by
 have hp:L.Perm ((taken ns).map fun i:Nat=>(nd ns i,2 + (i:Int))):=by
  refine (List.perm_ext_iff_of_nodup (List.Pairwise.of_map Prod.fst (fun a b h e=>h (e ▸ rfl)) hB.nodup) (List.Pairwise.map _ (fun a b h e=>h (by have:=(Prod.mk.inj e).2;omega)) (List.nodup_range.filter _))).2 fun p=>?_
  rw [List.mem_map]
  constructor
  ·intro h
   obtain ⟨i,hi,hv,rfl⟩:=hB.mem p h
   exact ⟨i,List.mem_filter.2 ⟨List.mem_range.2 hi,by simpa using hv⟩,rfl⟩
  ·rintro ⟨i,hi,rfl⟩
   obtain ⟨h1,h2⟩:=List.mem_filter.1 hi
   exact hB.all i (List.mem_range.1 h1) (by simpa using h2)
 rw [hp.length_eq,List.length_map]
theorem taken_le (ns:List Nd):(taken ns).length<=ns.length:=by
 unfold taken
 exact Nat.le_trans (List.length_filter_le _ _) (by simp)
end Go.Proofs.YtiihalknffbjpaaGreatDoor.Bd
namespace Go.Proofs.YtiihalknffbjpaaGreatDoor.Bd
open Go.RowKit Go.Maps
section
variable {ns:List Nd} {vars:Nat}
theorem marksOf_in (hr:Ranked ns) (fs:List Int):∀ h ∈ fs,MarkedOr ns (marksOf ns fs) h:=by
 have:∀ (fs:List Int) (m:List Bool),m.length=ns.length->∀ h,(h ∈ fs\/MarkedOr ns m h)->MarkedOr ns (fs.foldl (fun m h=>markF 24 ns h m) m) h:=by
  intro fs
  induction fs with
  | nil=>intro m _ h hh;exact hh.elim (fun h=>by cases h) id
  | cons f fs ih =>
   intro m hl h hh
   refine ih _ (by rw [markF_length,hl]) h ?_
   rcases hh with hh | hh
   ·rcases List.mem_cons.1 hh with rfl | hh
    ·exact .inr (markF_closed hr 24 h m hl (by have:=(topOf_le hr h).1;omega)).1
    ·exact .inl hh
   ·exact .inr (hh.grow hl 24 f)
 exact fun h hh=>this fs _ (by simp) h (.inl hh)
theorem swept_node {M:List Bool} {h:Int} (hm:MarkedOr ns M h):topOf (swept ns M) h=topOf ns h/\(topOf ns h ≠ 24->nd (swept ns M) (pl h)=nd ns (pl h)):=by
 have e:topOf (swept ns M) h=topOf ns h:=by
  rw [swept_top]
  rcases hm with hm | hm
  ·rw [hm];split <;> rfl
  ·rw [if_pos hm]
 refine ⟨e,fun ht=>?_⟩
 rcases hm with hm | hm
 ·exact absurd hm ht
 ·rw [swept_at ns M _ (node_at ht).2.1,if_pos (show mk M (pl h)=true from hm)]
theorem swept_good (hg:Good vars ns) (fs:List Int):Good vars (swept ns (marksOf ns fs)):=by
 have hr:=swept_ranked_any hg.ranked fs
 generalize marksOf ns fs=M at *
 have key:∀ j,j<ns.length->mk M j=true/\nd (swept ns M) j=nd ns j\/nd (swept ns M) j=⟨24,0,0⟩:=fun j hj=>by
  rw [swept_at ns M j hj]
  by_cases h:mk M j=true
  ·exact .inl ⟨h,by rw [if_pos h]⟩
  ·exact .inr (by rw [if_neg h])
 refine ⟨hr,fun i j hi hj hv e=>?_,fun i hi hv=>?_,fun i hi hv=>?_,fun i hi hv=>?_⟩
 ·rw [swept_length] at hi hj
  rcases key i hi with ⟨-,e1⟩ | e1 <;> rw [e1] at hv e
  ·rcases key j hj with ⟨-,e2⟩ | e2 <;> rw [e2] at e
   ·exact hg.once i j hi hj hv e
   ·rw [e] at hv;simp at hv
  ·simp at hv
 ·rw [swept_length] at hi
  rcases key i hi with ⟨-,e1⟩ | e1 <;> rw [e1] at hv ⊢
  ·exact hg.red i hi hv
  ·simp at hv
 ·rw [swept_length] at hi
  rcases key i hi with ⟨-,e1⟩ | e1 <;> rw [e1] at hv ⊢
  ·exact hg.vars i hi hv
  ·simp at hv
 ·rw [swept_length] at hi
  rcases key i hi with ⟨-,e1⟩ | e1 <;> rw [e1] at hv ⊢
  exact hg.free i hi hv
theorem semF_swept (hr:Ranked ns) (fs:List Int) (f:Nat->Bool):∀ (d:Nat) (h:Int),MarkedOr ns (marksOf ns fs) h->semF d (swept ns (marksOf ns fs)) h f=semF d ns h f
 | 0,_,_=>rfl
 | d + 1,h,hm=>by
  obtain ⟨e1,e2⟩:=swept_node hm
  unfold semF
  rw [e1]
  by_cases ht:topOf ns h=24
  ·rw [if_pos ht,if_pos ht]
  ·have hk:=marksOf_closed hr fs (pl h) (node_at ht).2.1 (hm.resolve_left ht)
   rw [if_neg ht,if_neg ht,e2 ht,semF_swept hr fs f d _ hk.1,semF_swept hr fs f d _ hk.2]
theorem swept_kept (hg:Good vars ns) {fs:List Int} {h:Int} (hh:h ∈ fs) (hb:hasB ns h=true):hasB (swept ns (marksOf ns fs)) h=true/\∀ f,sem (swept ns (marksOf ns fs)) h f=sem ns h f:=by
 have hm:=marksOf_in hg.ranked fs h hh
 refine ⟨?_,fun f=>semF_swept hg.ranked fs f 24 h hm⟩
 unfold hasB;rw [(swept_node hm).1];exact hb
end
abbrev Fn':Type:=(Nat->Bool)->Bool
end Go.Proofs.YtiihalknffbjpaaGreatDoor.Bd
namespace Go.Proofs.YtiihalknffbjpaaGreatDoor.Bd
open Go.RowKit Go.Maps
def numOf' (f:Nat->Bool):Nat->Nat
 | 0=>0
 | n + 1=>numOf' f n + (if f n then 2 ^ n else 0)
theorem numOf_lt (f:Nat->Bool):∀ n,numOf' f n<2 ^ n
 | 0=>by simp [numOf']
 | n + 1=>by
  have:=numOf_lt f n
  unfold numOf'
  rw [Nat.pow_succ]
  split <;> omega
theorem numOf_bit (f:Nat->Bool):∀ n i,i<n->bitsF (numOf' f n) i=f i
 | n + 1,i,h=>by
  have hl:=numOf_lt f n
  unfold numOf' bitsF
  by_cases e:i=n
  ·subst e
   cases hf:f i with
   | true =>
    rw [if_pos rfl,Nat.add_comm,Nat.testBit_two_pow_add_eq,Nat.testBit_lt_two_pow hl];rfl
   | false =>
    rw [if_neg (by simp),Nat.add_zero,Nat.testBit_lt_two_pow hl]
  ·have hi:i<n:=by omega
   have ih:=numOf_bit f n i hi
   unfold bitsF at ih
   cases hf:f n with
   | true =>
    rw [if_pos rfl,Nat.add_comm,Nat.testBit_two_pow_add_gt hi,ih]
   | false =>
    rw [if_neg (by simp),Nat.add_zero,ih]
end Go.Proofs.YtiihalknffbjpaaGreatDoor.Bd
namespace Go.Proofs.YtiihalknffbjpaaGreatDoor.Bd
open Go.RowKit Go.Maps
def cntV:Nat->Nat->Fn'->(Nat->Bool)->Nat
 | 0,_,g,f=>if g f then 1 else 0
 | k + 1,v,g,f=>cntV k (v + 1) g (turn f v false) + cntV k (v + 1) g (turn f v true)
theorem turnV_at (f:Nat->Bool) (v:Nat) (b:Bool):turn f v b v=b:=by unfold turn;rw [if_pos rfl]
theorem turnV_ne (f:Nat->Bool) {v i:Nat} (b:Bool) (h:i ≠ v):turn f v b i=f i:=by unfold turn;rw [if_neg h]
def topN (vars:Nat) (ns:List Nd) (h:Int):Nat:=min (topOf ns h).toNat vars
section
variable {vars:Nat} {ns:List Nd}
theorem sem_from (hg:Good vars ns) {h:Int} {v:Nat} (hv:(v:Int)<=topOf ns h):∀ f f':Nat->Bool,(∀ i,v<=i->f i=f' i)->sem ns h f=sem ns h f':=fun f f' hf =>
 sem_agree hg.ranked (fun i hi=>hf i (by omega))
end
end Go.Proofs.YtiihalknffbjpaaGreatDoor.Bd
namespace Go.Proofs.YtiihalknffbjpaaGreatDoor.Bd
open Go.RowKit
structure Wy where
 items:Nat
 cost:Int
 can:Bool
abbrev Cost:Type:=Nat->Bool->Int
def woF (C:Cost) (i:Nat) (wo:Wy):Wy:=⟨wo.items,wo.cost + C i false,wo.can⟩
def wiF (C:Cost) (i:Nat) (wi:Wy):Wy:=⟨wi.items ||| 2 ^ i,wi.cost + C i true,wi.can⟩
def betF (C:Cost) (i:Nat) (wo wi:Wy):Wy:=if wi.can=true/\(wo.can=false\/(wiF C i wi).cost<=(woF C i wo).cost) then wiF C i wi else woF C i wo
def bstV (C:Cost):Nat->Nat->Fn'->(Nat->Bool)->Wy
 | 0,_,g,f=>⟨0,0,g f⟩
 | k + 1,v,g,f=>betF C v (bstV C k (v + 1) g (turn f v false)) (bstV C k (v + 1) g (turn f v true))
theorem bstV_congr (C:Cost):∀ (k v:Nat) {g g':Fn'} (f:Nat->Bool),(∀ f',(∀ i,i<v->f' i=f i)->g f'=g' f')->bstV C k v g f=bstV C k v g' f
 | 0,v,g,g',f,h=>by unfold bstV;rw [h f (fun _ _=>rfl)]
 | k + 1,v,g,g',f,h=>by
  unfold bstV
  rw [bstV_congr C k (v + 1) (turn f v false) (fun f' hf=>h f' (fun i hi=>by rw [hf i (by omega),turnV_ne _ _ (by omega)])),
   bstV_congr C k (v + 1) (turn f v true) (fun f' hf=>h f' (fun i hi=>by rw [hf i (by omega),turnV_ne _ _ (by omega)]))]
theorem bstV_any (C:Cost):∀ (k v:Nat) {g:Fn'},(∀ f f':Nat->Bool,(∀ i,v<=i->f i=f' i)->g f=g f')->∀ f f':Nat->Bool,(∀ i,v + k<=i->f i=f' i)->bstV C k v g f=bstV C k v g f'
 | 0,v,g,hg,f,f',h=>by unfold bstV;rw [hg f f' h]
 | k + 1,v,g,hg,f,f',h=>by
  unfold bstV
  have key:∀ b,bstV C k (v + 1) g (turn f v b)=bstV C k (v + 1) g (turn f' v b):=fun b=>by
   have e:bstV C k (v + 1) g (turn f v b)=bstV C k (v + 1) (fun f0=>g (turn f0 v b)) (turn f v b):=bstV_congr C k (v + 1) _ (fun f0 hf=>by
    have:turn f0 v b=f0:=funext fun i=>by
     by_cases e:i=v
     ·rw [e,turnV_at,hf v (by omega),turnV_at]
     ·rw [turnV_ne _ _ e]
    rw [this])
   have e':bstV C k (v + 1) g (turn f' v b)=bstV C k (v + 1) (fun f0=>g (turn f0 v b)) (turn f' v b):=bstV_congr C k (v + 1) _ (fun f0 hf=>by
    have:turn f0 v b=f0:=funext fun i=>by
     by_cases e:i=v
     ·rw [e,turnV_at,hf v (by omega),turnV_at]
     ·rw [turnV_ne _ _ e]
    rw [this])
   rw [e,e']
   refine bstV_any C k (v + 1) (fun a c hac=>hg _ _ (fun i hi=>?_)) _ _ (fun i hi=>?_)
   ·by_cases e:i=v
    ·rw [e,turnV_at,turnV_at]
    ·rw [turnV_ne _ _ e,turnV_ne _ _ e];exact hac i (by omega)
   ·rw [turnV_ne _ _ (by omega),turnV_ne _ _ (by omega)];exact h i (by omega)
  rw [key false,key true]
def fromW (C:Cost) (vars:Nat) (ns:List Nd) (h:Int) (v:Nat):Wy:=bstV C (vars - v) v (sem ns h) (fun _=>false)
def belowW (C:Cost) (vars:Nat) (ns:List Nd) (h:Int):Wy:=fromW C vars ns h (topN vars ns h)
section
variable {C:Cost} {vars:Nat} {ns:List Nd}
theorem from_gap (hg:Good vars ns) {h:Int} {v:Nat} (hv:v<topN vars ns h):fromW C vars ns h v=betF C v (fromW C vars ns h (v + 1)) (fromW C vars ns h (v + 1)):=by
 have h0:=(topOf_le hg.ranked h).1
 have hvt:((v + 1:Nat):Int)<=topOf ns h:=by unfold topN at hv;omega
 have hvv:v<vars:=by unfold topN at hv;omega
 have hs:=sem_from hg (h:=h) (v:=v + 1) hvt
 unfold fromW
 rw [show vars - v=(vars - (v + 1)) + 1 by omega]
 conv=>lhs;unfold bstV
 rw [bstV_any C _ (v + 1) hs (turn (fun _=>false) v false) (fun _=>false) (fun i hi=>turnV_ne _ _ (by omega)),
  bstV_any C _ (v + 1) hs (turn (fun _=>false) v true) (fun _=>false) (fun i hi=>turnV_ne _ _ (by omega))]
theorem belowW_end {h:Int} (hh:hasB ns h=true) (ht:topOf ns h=24) (hv:vars<=24):belowW C vars ns h=⟨0,0,decide (h=1)⟩:=by
 have e:topN vars ns h=vars:=by unfold topN;rw [ht];simp;omega
 unfold belowW fromW
 rw [e,Nat.sub_self]
 unfold bstV
 rcases end_of hh ht with rfl | rfl
 ·rw [sem_false];rfl
 ·rw [sem_true];rfl
theorem belowW_node (hg:Good vars ns) {h:Int} (ht:topOf ns h ≠ 24):belowW C vars ns h=betF C (topOf ns h).toNat (fromW C vars ns (nd ns (pl h)).l ((topOf ns h).toNat + 1)) (fromW C vars ns (nd ns (pl h)).h ((topOf ns h).toNat + 1)):=by
 have hv:=top_vars hg ht
 have h0:=(topOf_le hg.ranked h).1
 obtain ⟨k1,-,k2,-⟩:=kids hg.ranked ht
 obtain ⟨v,e⟩:∃ v:Nat,topOf ns h=(v:Int):=⟨(topOf ns h).toNat,by omega⟩
 have et:topN vars ns h=v:=by unfold topN;rw [e];simp;omega
 have en:=sem_node hg.ranked ht
 unfold belowW
 rw [et]
 rw [e] at hv k1 k2 en ⊢
 rw [Int.toNat_natCast] at en ⊢
 unfold fromW
 rw [show vars - v=(vars - (v + 1)) + 1 by omega]
 rw [bstV]
 have hl:=sem_from hg (h:=(nd ns (pl h)).l) (v:=v + 1) (by omega)
 have hh:=sem_from hg (h:=(nd ns (pl h)).h) (v:=v + 1) (by omega)
 have e1:bstV C (vars - (v + 1)) (v + 1) (sem ns h) (turn (fun _=>false) v false)=bstV C (vars - (v + 1)) (v + 1) (sem ns (nd ns (pl h)).l) (turn (fun _=>false) v false) :=
  bstV_congr C _ _ _ (fun f' hf=>by
   have:f' v=false:=by rw [hf v (by omega),turnV_at]
   rw [en f',this];rfl)
 have e2:bstV C (vars - (v + 1)) (v + 1) (sem ns h) (turn (fun _=>false) v true)=bstV C (vars - (v + 1)) (v + 1) (sem ns (nd ns (pl h)).h) (turn (fun _=>false) v true) :=
  bstV_congr C _ _ _ (fun f' hf=>by
   have:f' v=true:=by rw [hf v (by omega),turnV_at]
   rw [en f',this];rfl)
 rw [e1,e2,bstV_any C _ (v + 1) hl (turn (fun _=>false) v false) (fun _=>false) (fun i hi=>turnV_ne _ _ (by omega)),
  bstV_any C _ (v + 1) hh (turn (fun _=>false) v true) (fun _=>false) (fun i hi=>turnV_ne _ _ (by omega))]
structure WyOk (k v:Nat) (x:Wy):Prop where
 c0:0<=x.cost
 c1:x.cost<=1000000 * (k:Int)
 it:x.items<2 ^ (v + k)
def CostOk (C:Cost):Prop:=∀ i b,0<=C i b/\C i b<=1000000
theorem WyOk.bet (hC:CostOk C) {k v:Nat} {a b:Wy} (ha:WyOk k (v + 1) a) (hb:WyOk k (v + 1) b):WyOk (k + 1) v (betF C v a b):=by
 have h1:=hC v false
 have h2:=hC v true
 have e:v + 1 + k=v + (k + 1):=by omega
 have:=ha.c0;have:=ha.c1;have:=hb.c0;have:=hb.c1
 have i1:=ha.it
 have i2:=hb.it
 rw [e] at i1 i2
 unfold betF
 split
 ·refine ⟨by show 0<=b.cost + C v true;omega,by show b.cost + C v true<=_;omega,?_⟩
  show b.items ||| 2 ^ v<2 ^ (v + (k + 1))
  exact Nat.or_lt_two_pow i2 (Nat.pow_lt_pow_right (by omega) (by omega))
 ·exact ⟨by show 0<=a.cost + C v false;omega,by show a.cost + C v false<=_;omega,i1⟩
theorem bstV_ok (hC:CostOk C) (g:Fn'):∀ (k v:Nat) (f:Nat->Bool),WyOk k v (bstV C k v g f)
 | 0,v,f=>⟨Int.le_refl _,by show (0:Int)<=_;omega,Nat.two_pow_pos _⟩
 | k + 1,v,f=>by unfold bstV;exact (bstV_ok hC g k (v + 1) _).bet hC (bstV_ok hC g k (v + 1) _)
theorem fromW_ok (hC:CostOk C) (hv24:vars<=24) (h:Int) (v:Nat):0<=(fromW C vars ns h v).cost/\(fromW C vars ns h v).cost<=24000000/\(v<=vars->(fromW C vars ns h v).items<2 ^ vars):=by
 have:=bstV_ok hC (sem ns h) (vars - v) v (fun _=>false)
 have h1:=this.c0
 have h2:=this.c1
 exact ⟨h1,by show (bstV C (vars - v) v (sem ns h) (fun _=>false)).cost<=_;omega,fun hv=>by have:=this.it;rw [show v + (vars - v)=vars by omega] at this;exact this⟩
end
end Go.Proofs.YtiihalknffbjpaaGreatDoor.Bd
namespace Go.Proofs.YtiihalknffbjpaaGreatDoor
theorem cell1_0 (w:World) (v:Value) (t:TypeId):(w.alloc (.cells #[v] t)).cell? ⟨w.heap.size,0,none⟩=some v:=by simp
theorem frozen1_0 (w:World) (v:Value) (t:TypeId):(w.alloc (.cells #[v] t)).frozen? ⟨w.heap.size,0,none⟩=false:=by simp
end Go.Proofs.YtiihalknffbjpaaGreatDoor
namespace Go.Proofs.YtiihalknffbjpaaGreatDoor
open Go.RowKit
def ErrIs (w:World) (e:Value) (m pl:Int):Prop :=
 (m=0/\pl=-1/\e=.nilIface)\/(m ≠ 0/\pl=-1/\e=.iface 57 (.int .i64 m)) \/
 (m ≠ 0/\∃ b,b<w.heap.size/\e=.iface 260 (.pointer (some ⟨b,0,none⟩))/\w.cell? ⟨b,0,none⟩=some (.int .i64 m)/\w.cell? ⟨b,1,none⟩=some (.int .i64 pl))
theorem ErrIs.below {w w':World} {e:Value} {m pl:Int} (h:ErrIs w e m pl) (hb:Below w.heap.size w w'):ErrIs w' e m pl:=by
 rcases h with h | h | ⟨h0,b,h1,h2,h3,h4⟩
 ·exact Or.inl h
 ·exact Or.inr (Or.inl h)
 ·exact Or.inr (Or.inr ⟨h0,b,Nat.lt_of_lt_of_le h1 hb.size,h2,(hb.cell (p:=⟨b,0,none⟩) h1).trans h3,(hb.cell (p:=⟨b,1,none⟩) h1).trans h4⟩)
end Go.Proofs.YtiihalknffbjpaaGreatDoor
namespace Go.Proofs.YtiihalknffbjpaaGreatDoor
open Go.RowKit
def I64 (x:Int):Prop:=-9223372036854775808<=x/\x<=9223372036854775807
theorem below_new (w:World) (o:Obj):Below w.heap.size w (w.alloc o):=(Below.refl _ _).alloc (Nat.le_refl _) _
theorem addr_block (a:Addr) (i:Nat):(a.add i).block=a.block:=by unfold Addr.add;split <;> rfl
def IntsIn (w:World) (a:Option Addr) (xs:List Int):Prop :=
 ∀ i,i<xs.length->∃ ad:Addr,a=some ad/\ad.block<w.heap.size/\w.cell? (ad.add i)=some (.int .i64 (xs.getD i 0))
theorem IntsIn.below {w w':World} {a:Option Addr} {xs:List Int} (h:IntsIn w a xs) (hb:Below w.heap.size w w'):IntsIn w' a xs:=by
 intro i hi
 obtain ⟨ad,ha,hl,hc⟩:=h i hi
 exact ⟨ad,ha,Nat.lt_of_lt_of_le hl hb.size,(hb.cell (by rw [addr_block];exact hl)).trans hc⟩
theorem IntsIn.nil (w:World) (a:Option Addr):IntsIn w a []:=fun i hi=>by simp at hi
def ClsIn (w:World) (a:Option Addr) (l:List (List Int)):Prop :=
 ∀ i,i<l.length->∃ (ad:Addr) (a':Option Addr) (cap:Nat),a=some ad/\ad.block<w.heap.size/\w.cell? (ad.add i)=some (.slice a' (l.getD i []).length cap)/\(l.getD i []).length<=cap/\cap<=9223372036854775807/\IntsIn w a' (l.getD i [])
theorem ClsIn.below {w w':World} {a:Option Addr} {l:List (List Int)} (h:ClsIn w a l) (hb:Below w.heap.size w w'):ClsIn w' a l:=by
 intro i hi
 obtain ⟨ad,a',cap,ha,hl,hc,h1,h2,h3⟩:=h i hi
 exact ⟨ad,a',cap,ha,Nat.lt_of_lt_of_le hl hb.size,(hb.cell (by rw [addr_block];exact hl)).trans hc,h1,h2,h3.below hb⟩
theorem getD_mem {α:Type} {l:List α} {i:Nat} {d:α} (h:i<l.length):l.getD i d ∈ l:=by
 rw [List.getD_eq_getElem?_getD,List.getElem?_eq_getElem h];exact List.getElem_mem h
def idxF {α:Type} (p:α->Bool) (xs:List α):Int:=match xs.findIdx? p with | some i=>(i:Int) | none=>-1
theorem idxF_hit {α:Type} {p:α->Bool} {xs:List α} {k:Nat} {d:α} (h0:∀ j,j<k->p (xs.getD j d)=false) (hk:k<xs.length) (h1:p (xs.getD k d)=true):idxF p xs=(k:Int):=by
 have:xs.findIdx? p=some k:=by
  rw [List.findIdx?_eq_some_iff_getElem]
  refine ⟨hk,?_,fun j hj=>?_⟩
  ·rw [List.getD_eq_getElem?_getD,List.getElem?_eq_getElem hk] at h1;exact h1
  ·have:=h0 j hj
   rw [List.getD_eq_getElem?_getD,List.getElem?_eq_getElem (by omega)] at this
   simpa using this
 simp [idxF,this]
theorem idxF_none {α:Type} {p:α->Bool} {xs:List α} {d:α} (h0:∀ j,j<xs.length->p (xs.getD j d)=false):idxF p xs=-1:=by
 have:xs.findIdx? p=none:=by
  rw [List.findIdx?_eq_none_iff]
  intro x hx
  obtain ⟨j,hj,rfl⟩:=List.getElem_of_mem hx
  have:=h0 j hj
  rw [List.getD_eq_getElem?_getD,List.getElem?_eq_getElem hj] at this
  simpa using this
 simp [idxF,this]
theorem idxF_any {α:Type} (p:α->Bool) (xs:List α):decide (0<=idxF p xs)=xs.any p:=by
 rw [Bool.eq_iff_iff]
 simp only [decide_eq_true_eq]
 unfold idxF
 cases h:xs.findIdx? p with
 | none =>
  rw [List.findIdx?_eq_none_iff] at h
  simp only [List.any_eq_true]
  constructor
  ·intro h;omega
  ·rintro ⟨x,hx,hp⟩;rw [h x hx] at hp;cases hp
 | some i =>
  rw [List.findIdx?_eq_some_iff_getElem] at h
  obtain ⟨hi,hp,-⟩:=h
  simp only [List.any_eq_true]
  exact ⟨fun _=>⟨_,List.getElem_mem hi,hp⟩,fun _=>by omega⟩
theorem ix_ints (F:Nat) (cb:Array Value) (p:Int->Bool) (xs:List Int) (a:Option Addr) (cap:Nat) (w:World) (hm:xs.length<=9223372036854775807)
  (hent:∀ args w,(callFunc F args).run Tryz.prog w=.ok (.enter F args) w) (hI:IntsIn w a xs)
  (hf:∀ W i,Below w.heap.size w W->i<xs.length->Calls Tryz.prog F (#[.int .i64 (xs.getD i 0)]++cb) W fun e w'=>e=.returned (.bool (p (xs.getD i 0)))/\Below W.heap.size W w') :
  Calls Tryz.prog 238 #[.slice a xs.length cap,.func (.func F) #[] cb] w fun e w'=>e=.returned (.int .i64 (idxF p xs))/\Below w.heap.size w w':=by
 have HF:=Lib.hid hf
 have HI:=Lib.hid hI
 clear hf hI
 go_enter Tryz.func238,Tryz.ntmps238
 go_wp2_with fail
 go_loopw [8] (fun kV wr=>∃ k:Nat,k<=xs.length/\kV=.int .i64 (k:Int)/\(∀ j,j<k->p (xs.getD j 0)=false)/\Below w.heap.size w wr) (fun kV _=>xs.length - (intOf kV).toNat)
 case atStart=>exact ⟨0,Nat.zero_le _,rfl,fun j h=>by omega,Below.refl _ _⟩
 case round =>
  obtain ⟨k,hk,rfl,h1,hbr⟩:=hrel
  have H1:=Lib.hid h1
  have HBR:=Lib.hid hbr
  clear h1 hbr
  by_cases hlt:k<xs.length
  ·obtain ⟨ad,rfl,hl,hc⟩:=HI.out.below HBR.out k hlt
   have HC:=Lib.hid (HF.out wr k HBR.out hlt)
   cases hp:p (xs.getD k 0) with
   | true =>
    rw [hp] at HC
    have HP:=Lib.hid hp
    clear hp
    generalize hx:xs.getD k 0=x at *
    have HX:=Lib.hid hx
    clear hx
    go_wp2_with fail
    refine HC.out.mono ?_
    rintro e w1 ⟨rfl,hb1⟩
    have HB1:Hid (Below w.heap.size w w1):=HBR.out.trans (hb1.mono HBR.out.size)
    clear hb1 HC
    go_wp2
    go_ret
    exact ⟨by rw [idxF_hit H1.out hlt (by rw [HX.out];exact HP.out)];rfl,HB1.out⟩
   | false =>
    rw [hp] at HC
    have HP:=Lib.hid hp
    clear hp
    generalize hx:xs.getD k 0=x at *
    have HX:=Lib.hid hx
    clear hx
    go_wp2_with fail
    refine HC.out.mono ?_
    rintro e w1 ⟨rfl,hb1⟩
    have HB1:Hid (Below w.heap.size w w1):=HBR.out.trans (hb1.mono HBR.out.size)
    clear hb1 HC
    go_wp2
    go_roundw
    case rel=>exact ⟨k + 1,hlt,by go_num,fun j hj=>(by
     rcases Nat.lt_succ_iff_lt_or_eq.1 hj with e | e
     ·exact H1.out j e
     ·rw [e,HX.out];exact HP.out),HB1.out⟩
    case measure=>simp [intOf];omega
  ·obtain rfl:k=xs.length:=by omega
   go_wp2
   go_ret
   exact ⟨by rw [idxF_none H1.out];rfl,HBR.out⟩
theorem cf_ints (F:Nat) (cb:Array Value) (p:Int->Bool) (xs:List Int) (a:Option Addr) (cap:Nat) (w:World) (hm:xs.length<=9223372036854775807)
  (hent:∀ args w,(callFunc F args).run Tryz.prog w=.ok (.enter F args) w) (hI:IntsIn w a xs)
  (hf:∀ W i,Below w.heap.size w W->i<xs.length->Calls Tryz.prog F (#[.int .i64 (xs.getD i 0)]++cb) W fun e w'=>e=.returned (.bool (p (xs.getD i 0)))/\Below W.heap.size W w') :
  Calls Tryz.prog 174 #[.slice a xs.length cap,.func (.func F) #[] cb] w fun e w'=>e=.returned (.bool (xs.any p))/\Below w.heap.size w w':=by
 have H:=Lib.hid (ix_ints F cb p xs a cap w hm hent hI hf)
 clear hf hI hent
 rw [<- idxF_any]
 generalize idxF p xs=i at *
 go_enter Tryz.func174,Tryz.ntmps174
 go_wp2_with fail
 refine H.out.mono ?_
 rintro e w1 ⟨rfl,hb1⟩
 have HB1:=Lib.hid hb1
 clear hb1 H
 go_wp2
 go_ret
 exact ⟨by first | rfl | simp,HB1.out⟩
end Go.Proofs.YtiihalknffbjpaaGreatDoor
namespace Go.Proofs.YtiihalknffbjpaaGreatDoor
open Go.RowKit
def litB (v x:Int):Bool:=decide (x ≠ 0/\-v<=x/\x<=v)
end Go.Proofs.YtiihalknffbjpaaGreatDoor
namespace Go.Proofs.YtiihalknffbjpaaGreatDoor
open Go.RowKit
def litH (vals:Nat) (x:Int):Bool:=if 0<x then vals.testBit (x.toNat - 1) else !vals.testBit ((-x).toNat - 1)
def litK (vals:Nat) (x:Int):Bool:=litB 24 x && litH vals x
def holdK (vals:Nat) (c:List Int):Bool:=c.any (litK vals)
theorem shr_bit1 (vals t:Nat) (hv:vals<18446744073709551616):(bits BinOp.and IntKind.u64 ((vals:Int) / 2 ^ t) 1 == 1)=vals.testBit t:=by
 have e:(vals:Int) / 2 ^ t=((vals / 2 ^ t:Nat):Int):=by simp
 have hd:vals / 2 ^ t<=vals:=Nat.div_le_self _ _
 rw [e,Nat.testBit_eq_decide_div_mod_eq]
 generalize vals / 2 ^ t=m at *
 rw [and_one_u64 _ (by omega) (by omega),Bool.eq_iff_iff]
 simp
 omega
theorem shr_bit0 (vals t:Nat) (hv:vals<18446744073709551616):(bits BinOp.and IntKind.u64 ((vals:Int) / 2 ^ t) 1 == 0)=!vals.testBit t:=by
 have e:(vals:Int) / 2 ^ t=((vals / 2 ^ t:Nat):Int):=by simp
 have hd:vals / 2 ^ t<=vals:=Nat.div_le_self _ _
 rw [e,Nat.testBit_eq_decide_div_mod_eq]
 generalize vals / 2 ^ t=m at *
 rw [and_one_u64 _ (by omega) (by omega),Bool.eq_iff_iff]
 simp
 omega
end Go.Proofs.YtiihalknffbjpaaGreatDoor
namespace Go.Proofs.YtiihalknffbjpaaGreatDoor
open Go.RowKit
def Lits (v:Int) (xs:List Int):Prop:=∀ x ∈ xs,litB v x=true
theorem litB_iff {v x:Int}:litB v x=true ↔ x ≠ 0/\-v<=x/\x<=v:=by simp [litB]
def LitsL (v:Int) (l:List (List Int)):Prop:=∀ c ∈ l,Lits v c
theorem lit_24 {v x:Int} (hv:v<=24) (h:litB v x=true):litB 24 x=true:=by
 rw [litB_iff] at *;omega
end Go.Proofs.YtiihalknffbjpaaGreatDoor
namespace Go.Proofs.YtiihalknffbjpaaGreatDoor
open Go.RowKit
def Both (c:List Int):Prop:=∃ x ∈ c,-x ∈ c
end Go.Proofs.YtiihalknffbjpaaGreatDoor
namespace Go.Proofs.YtiihalknffbjpaaGreatDoor
open Go.RowKit
def sideS (s:Nat × Nat) (x:Int):Nat × Nat :=
 if 0<x/\x<=24 then (s.1 ||| 2 ^ (x.toNat - 1),s.2) else if -24<=x/\x<0 then (s.1,s.2 ||| 2 ^ ((-x).toNat - 1)) else s
def sidesF (c:List Int):Nat × Nat:=c.foldl sideS (0,0)
theorem sidesF_snoc (c:List Int) (x:Int):sidesF (c++[x])=sideS (sidesF c) x:=by unfold sidesF;rw [List.foldl_append];rfl
theorem bit_or (m k i:Nat):(m ||| 2 ^ k).testBit i=(m.testBit i || decide (k=i)):=by
 rw [Nat.testBit_or,Nat.testBit_two_pow]
theorem fold_bits (c:List Int) (s:Nat × Nat) (i:Nat):((c.foldl sideS s).1.testBit i=(s.1.testBit i || decide (i<24/\(i:Int) + 1 ∈ c)))/\((c.foldl sideS s).2.testBit i=(s.2.testBit i || decide (i<24/\-((i:Int) + 1) ∈ c))):=by
 induction c generalizing s with
 | nil=>simp
 | cons x c ih =>
  rw [List.foldl_cons,(ih _).1,(ih _).2]
  unfold sideS
  by_cases h1:0<x/\x<=24
  ·rw [if_pos h1]
   have e2:(-((i:Int) + 1) ∈ x :: c) ↔ -((i:Int) + 1) ∈ c:=by
    rw [List.mem_cons];exact ⟨fun h=>h.resolve_left (by omega),Or.inr⟩
   have e1:(i<24/\(i:Int) + 1 ∈ x :: c) ↔ (x.toNat - 1=i\/(i<24/\(i:Int) + 1 ∈ c)):=by
    rw [List.mem_cons]
    constructor
    ·rintro ⟨h,h2 | h2⟩
     ·exact Or.inl (by omega)
     ·exact Or.inr ⟨h,h2⟩
    ·rintro (h | ⟨h,h2⟩)
     ·exact ⟨by omega,Or.inl (by omega)⟩
     ·exact ⟨h,Or.inr h2⟩
   refine ⟨?_,by simp only [e2]⟩
   show ((s.1 ||| 2 ^ (x.toNat - 1)).testBit i || _)=_
   rw [bit_or,Bool.or_assoc,<- Bool.decide_or]
   simp only [e1]
  ·rw [if_neg h1]
   by_cases h2:-24<=x/\x<0
   ·rw [if_pos h2]
    have e2:((i:Int) + 1 ∈ x :: c) ↔ (i:Int) + 1 ∈ c:=by
     rw [List.mem_cons];exact ⟨fun h=>h.resolve_left (by omega),Or.inr⟩
    have e1:(i<24/\-((i:Int) + 1) ∈ x :: c) ↔ ((-x).toNat - 1=i\/(i<24/\-((i:Int) + 1) ∈ c)):=by
     rw [List.mem_cons]
     constructor
     ·rintro ⟨h,h3 | h3⟩
      ·exact Or.inl (by omega)
      ·exact Or.inr ⟨h,h3⟩
     ·rintro (h | ⟨h,h3⟩)
      ·exact ⟨by omega,Or.inl (by omega)⟩
      ·exact ⟨h,Or.inr h3⟩
    refine ⟨by simp only [e2],?_⟩
    show ((s.2 ||| 2 ^ ((-x).toNat - 1)).testBit i || _)=_
    rw [bit_or,Bool.or_assoc,<- Bool.decide_or]
    simp only [e1]
   ·rw [if_neg h2]
    have e1:(i<24/\(i:Int) + 1 ∈ x :: c) ↔ (i<24/\(i:Int) + 1 ∈ c):=by
     rw [List.mem_cons]
     exact ⟨fun ⟨h,h3⟩=>⟨h,h3.resolve_left (by omega)⟩,fun ⟨h,h3⟩=>⟨h,Or.inr h3⟩⟩
    have e2:(i<24/\-((i:Int) + 1) ∈ x :: c) ↔ (i<24/\-((i:Int) + 1) ∈ c):=by
     rw [List.mem_cons]
     exact ⟨fun ⟨h,h3⟩=>⟨h,h3.resolve_left (by omega)⟩,fun ⟨h,h3⟩=>⟨h,Or.inr h3⟩⟩
    simp only [e1,e2,and_self]
theorem sides_yes (c:List Int) (i:Nat):(sidesF c).1.testBit i=decide (i<24/\(i:Int) + 1 ∈ c):=by
 have:=(fold_bits c (0,0) i).1
 simpa [sidesF] using this
theorem sides_no (c:List Int) (i:Nat):(sidesF c).2.testBit i=decide (i<24/\-((i:Int) + 1) ∈ c):=by
 have:=(fold_bits c (0,0) i).2
 simpa [sidesF] using this
def Small (s:Nat × Nat):Prop:=s.1<2 ^ 24/\s.2<2 ^ 24
theorem small_of {m:Nat} (h:∀ i,24<=i->m.testBit i=false):m<2 ^ 24:=Nat.lt_pow_two_of_testBit m h
theorem sides_small (c:List Int):Small (sidesF c) :=
 ⟨small_of fun i hi=>by rw [sides_yes];simp;omega,small_of fun i hi=>by rw [sides_no];simp;omega⟩
def alwaysF (s:Nat × Nat):Bool:=decide (s.1 &&& s.2 ≠ 0)
theorem always_iff {s:Nat × Nat}:alwaysF s=true ↔ ∃ i,s.1.testBit i=true/\s.2.testBit i=true:=by
 unfold alwaysF
 rw [decide_eq_true_eq]
 constructor
 ·intro h
  obtain ⟨i,hi⟩:=Nat.exists_testBit_of_ne_zero h
  rw [Nat.testBit_and,Bool.and_eq_true] at hi
  exact ⟨i,hi⟩
 ·rintro ⟨i,h1,h2⟩ h
  have:(s.1 &&& s.2).testBit i=true:=by rw [Nat.testBit_and,h1,h2];rfl
  rw [h] at this
  simp at this
def litOf (s:Nat × Nat) (i:Nat):Option Int:=if s.1.testBit i=true then some ((i:Int) + 1) else if s.2.testBit i=true then some (-((i:Int) + 1)) else none
def clauseK (s:Nat × Nat) (k:Nat):List Int:=(List.range k).filterMap (litOf s)
def clauseF (s:Nat × Nat):List Int:=clauseK s 24
theorem clauseK_succ (s:Nat × Nat) (k:Nat):clauseK s (k + 1)=clauseK s k++(litOf s k).toList:=by
 unfold clauseK
 rw [List.range_succ,List.filterMap_append]
 congr 1
theorem clauseK_len (s:Nat × Nat) (k:Nat):(clauseK s k).length<=k:=by
 unfold clauseK
 refine Nat.le_trans (List.length_filterMap_le _ _) ?_
 simp
theorem mem_clauseF {s:Nat × Nat} (ha:alwaysF s=false) {x:Int}:x ∈ clauseF s ↔ ∃ i:Nat,i<24/\((x=(i:Int) + 1/\s.1.testBit i=true)\/(x=-((i:Int) + 1)/\s.2.testBit i=true)):=by
 unfold clauseF clauseK
 rw [List.mem_filterMap]
 constructor
 ·rintro ⟨i,hi,h⟩
  rw [List.mem_range] at hi
  unfold litOf at h
  by_cases h1:s.1.testBit i=true
  ·rw [if_pos h1] at h
   exact ⟨i,hi,Or.inl ⟨(Option.some.inj h).symm,h1⟩⟩
  ·rw [if_neg h1] at h
   by_cases h2:s.2.testBit i=true
   ·rw [if_pos h2] at h
    exact ⟨i,hi,Or.inr ⟨(Option.some.inj h).symm,h2⟩⟩
   ·rw [if_neg h2] at h;cases h
 ·rintro ⟨i,hi,⟨e,h1⟩ | ⟨e,h2⟩⟩
  ·exact ⟨i,List.mem_range.2 hi,by unfold litOf;rw [if_pos h1,e]⟩
  ·refine ⟨i,List.mem_range.2 hi,?_⟩
   unfold litOf
   rw [if_neg,if_pos h2,e]
   intro h1
   have:=always_iff.2 ⟨i,h1,h2⟩
   rw [ha] at this;cases this
theorem alwaysF_both {c:List Int} (hl:Lits 24 c):alwaysF (sidesF c)=true ↔ ∃ x ∈ c,-x ∈ c:=by
 rw [always_iff]
 constructor
 ·rintro ⟨i,h1,h2⟩
  rw [sides_yes,decide_eq_true_eq] at h1
  rw [sides_no,decide_eq_true_eq] at h2
  exact ⟨_,h1.2,h2.2⟩
 ·rintro ⟨x,hx,hn⟩
  have h:=litB_iff.1 (hl x hx)
  by_cases hp:0<x
  ·refine ⟨x.toNat - 1,?_,?_⟩
   ·rw [sides_yes,decide_eq_true_eq];exact ⟨by omega,by rw [show ((x.toNat - 1:Nat):Int) + 1=x by omega];exact hx⟩
   ·rw [sides_no,decide_eq_true_eq];exact ⟨by omega,by rw [show ((x.toNat - 1:Nat):Int) + 1=x by omega];exact hn⟩
  ·refine ⟨(-x).toNat - 1,?_,?_⟩
   ·rw [sides_yes,decide_eq_true_eq];exact ⟨by omega,by rw [show (((-x).toNat - 1:Nat):Int) + 1=-x by omega];exact hn⟩
   ·rw [sides_no,decide_eq_true_eq];exact ⟨by omega,by rw [show (((-x).toNat - 1:Nat):Int) + 1=-x by omega,Int.neg_neg];exact hx⟩
theorem mem_form {c:List Int} (hl:Lits 24 c) (ha:alwaysF (sidesF c)=false) {x:Int}:x ∈ clauseF (sidesF c) ↔ x ∈ c:=by
 rw [mem_clauseF ha]
 constructor
 ·rintro ⟨i,hi,⟨e,h⟩ | ⟨e,h⟩⟩
  ·rw [sides_yes,decide_eq_true_eq] at h;rw [e];exact h.2
  ·rw [sides_no,decide_eq_true_eq] at h;rw [e];exact h.2
 ·intro hx
  have h:=litB_iff.1 (hl x hx)
  by_cases hp:0<x
  ·refine ⟨x.toNat - 1,by omega,Or.inl ⟨by omega,?_⟩⟩
   rw [sides_yes,decide_eq_true_eq];exact ⟨by omega,by rw [show ((x.toNat - 1:Nat):Int) + 1=x by omega];exact hx⟩
  ·refine ⟨(-x).toNat - 1,by omega,Or.inr ⟨by omega,?_⟩⟩
   rw [sides_no,decide_eq_true_eq];exact ⟨by omega,by rw [show (((-x).toNat - 1:Nat):Int) + 1=-x by omega,Int.neg_neg];exact hx⟩
end Go.Proofs.YtiihalknffbjpaaGreatDoor
namespace Go.Proofs.YtiihalknffbjpaaGreatDoor
open Go.RowKit
theorem both_iff {c:List Int} (hl:Lits 24 c):Both c ↔ alwaysF (sidesF c)=true:=(alwaysF_both hl).symm
end Go.Proofs.YtiihalknffbjpaaGreatDoor
