/- node, sides, present, variable, begin. -/
import Derived.Test.YtiihalknffbjpaaGreatDoorPfKnown
import Derived.Test.YtiihalknffbjpaaGreatDoorBdMakes
import Derived.RangeFuncOwn
set_option maxHeartbeats 1000000
set_option maxRecDepth 100000
namespace Go.Proofs.YtiihalknffbjpaaGreatDoor.Bd
open Go.RowKit Go.Maps
def mcount (m:List Bool):Nat:=m.countP id
theorem mcount_set:∀ (m:List Bool) (i:Nat),mcount (m.set i true)<=mcount m + 1
 | [],_=>by simp [mcount]
 | a :: m,0=>by unfold mcount;simp only [List.set_cons_zero,List.countP_cons];split <;> split <;> simp <;> omega
 | a :: m,i + 1=>by
  have:=mcount_set m i
  unfold mcount at *
  simp only [List.set_cons_succ,List.countP_cons]
  omega
theorem mark_count {vars:Nat} {ns:List Nd} (hg:Good vars ns):∀ (d:Nat) (h:Int) (m:List Bool),mcount (markF d ns h m) + 1<=mcount m + 2 ^ ((vars:Int) - topOf ns h).toNat
 | 0,h,m=>by have:=Nat.one_le_two_pow (n:=((vars:Int) - topOf ns h).toNat);unfold markF;omega
 | d + 1,h,m=>by
  have h1:=Nat.one_le_two_pow (n:=((vars:Int) - topOf ns h).toNat)
  unfold markF
  split
  ·omega
  ·rename_i hn
   have ht:=(not_or.1 hn).1
   have hv:=top_vars hg ht
   obtain ⟨k1,-,k2,-⟩:=kids hg.ranked ht
   have e:(h - 2).toNat=pl h:=rfl
   rw [e]
   have i1:=mark_count hg d (nd ns (pl h)).l (m.set (pl h) true)
   have i2:=mark_count hg d (nd ns (pl h)).h (markF d ns (nd ns (pl h)).l (m.set (pl h) true))
   have i0:=mcount_set m (pl h)
   have hp:2 ^ ((vars:Int) - topOf ns h).toNat=2 ^ (((vars:Int) - topOf ns h).toNat - 1) + 2 ^ (((vars:Int) - topOf ns h).toNat - 1):=by
    obtain ⟨q,hq⟩:∃ q,((vars:Int) - topOf ns h).toNat=q + 1:=⟨((vars:Int) - topOf ns h).toNat - 1,by omega⟩
    rw [hq,Nat.add_sub_cancel,Nat.pow_succ];omega
   have p1:2 ^ ((vars:Int) - topOf ns (nd ns (pl h)).l).toNat<=2 ^ (((vars:Int) - topOf ns h).toNat - 1):=Nat.pow_le_pow_right (by omega) (by omega)
   have p2:2 ^ ((vars:Int) - topOf ns (nd ns (pl h)).h).toNat<=2 ^ (((vars:Int) - topOf ns h).toNat - 1):=Nat.pow_le_pow_right (by omega) (by omega)
   omega
theorem swept_cnt_le {ns:List Nd} {M:List Bool} (hl:M.length=ns.length):cnt (swept ns M)<=mcount M:=by
 unfold cnt swept mcount
 rw [<- List.countP_eq_length_filter,List.countP_map]
 have e:M=(List.range ns.length).map fun i=>mk M i:=by
  apply List.ext_getElem (by simp [hl])
  intro i h1 h2
  simp [mk_at M i h1]
 conv=>rhs;rw [e,List.countP_map]
 refine List.countP_mono_left fun i _ h=>?_
 by_cases hm:mk M i=true
 ·exact hm
 ·simp [Function.comp,hm] at h
theorem swept_cnt {vars:Nat} {ns:List Nd} (hg:Good vars ns) (h:Int):cnt (swept ns (marksOf ns [h])) + 1<=2 ^ vars:=by
 have h1:=swept_cnt_le (marksOf_length ns [h])
 have h2:=mark_count hg 24 h (List.replicate ns.length false)
 have h3:mcount (List.replicate ns.length false)=0:=by
  unfold mcount;rw [List.countP_eq_zero];intro b hb;rw [(List.mem_replicate.1 hb).2];simp
 have h4:marksOf ns [h]=markF 24 ns h (List.replicate ns.length false):=rfl
 rw [<- h4,h3] at h2
 have h5:2 ^ ((vars:Int) - topOf ns h).toNat<=2 ^ vars:=Nat.pow_le_pow_right (by omega) (by have:=(topOf_le hg.ranked h).1;omega)
 omega
def varN (x:Int):Nat:=x.natAbs - 1
def litS (f:Nat->Bool) (x:Int):Bool:=f (varN x) == decide (0<x)
def clS (f:Nat->Bool) (c:List Int):Bool:=c.any (litS f)
theorem makeF_node (ns:List Nd) (n:Nd):topOf (makeF ns n).1 (makeF ns n).2=n.v/\nd (makeF ns n).1 (pl (makeF ns n).2)=n:=by
 unfold makeF
 by_cases c:idx ns n<ns.length
 ·rw [if_pos c]
  have hp:pl (2 + (idx ns n:Int))=idx ns n:=by unfold pl;omega
  exact ⟨by show topOf ns (2 + (idx ns n:Int))=_;rw [topOf_at c,idx_at c],by show nd ns (pl (2 + (idx ns n:Int)))=n;rw [hp,idx_at c]⟩
 ·rw [if_neg c]
  have hp:pl (2 + (lfree ns:Int))=lfree ns:=by unfold pl;omega
  exact ⟨putN_self (lfree_le ns),by show nd (putN ns (lfree ns) n) (pl (2 + (lfree ns:Int)))=n;rw [hp,putN_at (lfree_le ns) _ (.inr rfl),if_pos rfl]⟩
theorem litF_node (ns:List Nd) (v:Int) (is:Bool):topOf (litF ns v is).1 (litF ns v is).2=v/\(nd (litF ns v is).1 (pl (litF ns v is).2)=⟨v,0,1⟩\/nd (litF ns v is).1 (pl (litF ns v is).2)=⟨v,1,0⟩):=by
 unfold litF nodeF
 cases is with
 | true=>simp only [if_true];rw [if_neg (by omega)];exact ⟨(makeF_node ns ⟨v,0,1⟩).1,.inl (makeF_node ns ⟨v,0,1⟩).2⟩
 | false=>simp only [Bool.false_eq_true,if_false];rw [if_neg (by omega)];exact ⟨(makeF_node ns ⟨v,1,0⟩).1,.inr (makeF_node ns ⟨v,1,0⟩).2⟩
theorem litF_few {vars:Nat} {ns:List Nd} (hg:Good vars ns) {v:Int} (is:Bool) (hv0:0<=v) (hv:v<(vars:Int)) (hv24:v<24) (hl:ns.length<=900000):cnt (litF ns v is).1<=cnt ns + 1/\(litF ns v is).1.length<=max ns.length (cnt ns + 1):=by
 unfold litF
 cases is with
 | true =>
  simp only [if_true]
  have h:=nodeF_ok hg (v:=v) (l:=0) (h:=1) hl hv0 hv24 hv (has_end0 ns) (has_end1 ns) (by rw [top_end0];exact hv24) (by rw [top_end1];exact hv24)
  exact ⟨h.cnt,h.tight⟩
 | false =>
  simp only [Bool.false_eq_true,if_false]
  have h:=nodeF_ok hg (v:=v) (l:=1) (h:=0) hl hv0 hv24 hv (has_end1 ns) (has_end0 ns) (by rw [top_end1];exact hv24) (by rw [top_end0];exact hv24)
  exact ⟨h.cnt,h.tight⟩
def chn:Nat->List Nd->Int->Prop
 | 0,_,_=>True
 | d + 1,ns,h=>topOf ns h=24\/(nd ns (pl h)).l=1/\chn d ns (nd ns (pl h)).h\/(nd ns (pl h)).h=1/\chn d ns (nd ns (pl h)).l
theorem litS_turn {f:Nat->Bool} {v:Nat} {b:Bool} {x:Int} (h:varN x=v):litS (turn f v b) x=(b == decide (0<x)):=by unfold litS;rw [h,turn_eq]
theorem litS_other {f:Nat->Bool} {v:Nat} {b:Bool} {x:Int} (h:varN x ≠ v):litS (turn f v b) x=litS f x:=by unfold litS;rw [turn_ne _ _ h]
theorem clS_hit {f:Nat->Bool} {v:Nat} {b:Bool} {ys:List Int} (h:∃ x ∈ ys,varN x=v/\decide (0<x)=b):clS (turn f v b) ys=true:=by
 obtain ⟨x,h1,h2,h3⟩:=h
 unfold clS
 rw [List.any_eq_true]
 exact ⟨x,h1,by rw [litS_turn h2,h3];simp⟩
theorem clS_miss {f:Nat->Bool} {v:Nat} {b:Bool} {ys:List Int} (h:¬ ∃ x ∈ ys,varN x=v/\decide (0<x)=b):clS (turn f v b) ys=clS f (ys.filter fun x=>decide (varN x ≠ v)):=by
 unfold clS
 rw [Bool.eq_iff_iff,List.any_eq_true,List.any_eq_true]
 constructor
 ·rintro ⟨x,h1,h2⟩
  by_cases e:varN x=v
  ·rw [litS_turn e] at h2
   exact absurd ⟨x,h1,e,by simpa using (beq_iff_eq.1 h2).symm⟩ h
  ·exact ⟨x,List.mem_filter.2 ⟨h1,by simpa using e⟩,by rw [litS_other e] at h2;exact h2⟩
 ·rintro ⟨x,h1,h2⟩
  obtain ⟨h3,h4⟩:=List.mem_filter.1 h1
  exact ⟨x,h3,by rw [litS_other (by simpa using h4)];exact h2⟩
theorem sem_kid {vars:Nat} {ns:List Nd} (hg:Good vars ns) {h:Int} (ht:topOf ns h ≠ 24) (f:Nat->Bool) (b:Bool):sem ns (if b=true then (nd ns (pl h)).h else (nd ns (pl h)).l) f=sem ns h (turn f (topOf ns h).toNat b):=by
 obtain ⟨k1,-,k2,-⟩:=kids hg.ranked ht
 have h0:=(topOf_le hg.ranked h).1
 rw [sem_node hg.ranked ht,turn_eq]
 cases b
 ·simp only [Bool.false_eq_true,if_false]
  exact sem_agree hg.ranked (fun i hi=>(turn_ne _ _ (by omega)).symm)
 ·simp only [if_true]
  exact sem_agree hg.ranked (fun i hi=>(turn_ne _ _ (by omega)).symm)
theorem chn_of {vars:Nat} {ns:List Nd} (hg:Good vars ns):∀ (d:Nat) (h:Int) (ys:List Int),hasB ns h=true->(∀ f,sem ns h f=clS f ys)->chn d ns h
 | 0,_,_,_,_=>trivial
 | d + 1,h,ys,hh,hs=>by
  unfold chn
  by_cases ht:topOf ns h=24
  ·exact .inl ht
  ·right
   obtain ⟨-,hl1,-,hh1⟩:=kids hg.ranked ht
   obtain ⟨-,hp,-,-⟩:=node_at ht
   have hv:=top_lt hg.ranked ht
   have hne:(nd ns (pl h)).l ≠ (nd ns (pl h)).h:=hg.red _ hp (by rw [<- (node_at ht).2.2.1];exact hv)
   have slo:∀ f,sem ns (nd ns (pl h)).l f=clS (turn f (topOf ns h).toNat false) ys:=fun f=>by rw [<- hs];exact sem_kid hg ht f false
   have shi:∀ f,sem ns (nd ns (pl h)).h f=clS (turn f (topOf ns h).toNat true) ys:=fun f=>by rw [<- hs];exact sem_kid hg ht f true
   by_cases P:∃ x ∈ ys,varN x=(topOf ns h).toNat/\decide (0<x)=true
   ·have h1:(nd ns (pl h)).h=1:=same_handle hg hh1 (has_end1 ns) (fun f=>by rw [shi f,clS_hit P,sem_true])
    by_cases N:∃ x ∈ ys,varN x=(topOf ns h).toNat/\decide (0<x)=false
    ·exact absurd ((same_handle hg hl1 (has_end1 ns) (fun f=>by rw [slo f,clS_hit N,sem_true])).trans h1.symm) hne
    ·exact .inr ⟨h1,chn_of hg d _ _ hl1 (fun f=>by rw [slo f,clS_miss N])⟩
   ·by_cases N:∃ x ∈ ys,varN x=(topOf ns h).toNat/\decide (0<x)=false
    ·exact .inl ⟨same_handle hg hl1 (has_end1 ns) (fun f=>by rw [slo f,clS_hit N,sem_true]),chn_of hg d _ _ hh1 (fun f=>by rw [shi f,clS_miss P])⟩
    ·exact absurd (same_handle hg hl1 hh1 (fun f=>by rw [slo f,shi f,clS_miss N,clS_miss P])) hne
theorem makes_at {d:Nat} {ns:List Nd} {m:List (Nd × Int)} {k:Nd} (h:∃ y,knownF true k=some y):(makesF d true ns m k).1=ns/\(makesF d true ns m k).2.1=m:=by
 obtain ⟨y,hy⟩:=h
 cases d with
 | zero=>unfold makesF;exact ⟨rfl,rfl⟩
 | succ d=>unfold makesF;rw [hy];exact ⟨rfl,rfl⟩
theorem known_11 (z:Int):∃ y,knownF true ⟨1,1,z⟩=some y:=⟨1,by unfold knownF;rw [if_pos rfl];unfold iteK;rw [if_pos (.inl rfl)]⟩
theorem known_z1 (z:Int):∃ y,knownF true ⟨z,1,1⟩=some y:=⟨1,by unfold knownF;rw [if_pos rfl];unfold iteK;rw [if_pos (.inr rfl)]⟩
theorem known_01 (z:Int):∃ y,knownF true ⟨0,1,z⟩=some y:=by
 unfold knownF;rw [if_pos rfl];unfold iteK
 by_cases h:(1:Int)=z
 ·exact ⟨1,by rw [if_pos (.inr h)]⟩
 ·exact ⟨z,by rw [if_neg (by rintro (h' | h');cases h';exact h h'),if_pos rfl]⟩
theorem or_few {vars:Nat} {x v:Int} (hv24:v<24):∀ (d:Nat) (ns:List Nd) (m:List (Nd × Int)) (out:Int),Good vars ns->MemoOk true ns m->topOf ns x=v->(nd ns (pl x)=⟨v,0,1⟩\/nd ns (pl x)=⟨v,1,0⟩)->hasB ns out=true->chn d ns out->24<=minT ns ⟨x,1,out⟩ + d->ns.length + 2 * 2 ^ vars<=900000 ->
  cnt (makesF d true ns m ⟨x,1,out⟩).1<=cnt ns + d/\(makesF d true ns m ⟨x,1,out⟩).1.length<=max ns.length (cnt ns + d)
 | 0,ns,m,out,_,_,_,_,_,_,_,_=>by unfold makesF;exact ⟨Nat.le_refl _,Nat.le_max_left _ _⟩
 | d + 1,ns,m,out,hg,hm,hx,hn,ho,hc,hd,hl=>by
  have stay:cnt ns<=cnt ns + (d + 1)/\ns.length<=max ns.length (cnt ns + (d + 1)):=⟨by omega,Nat.le_max_left _ _⟩
  have t1:=top_end1 ns
  have hone:=Nat.one_le_two_pow (n:=vars)
  have hxh:hasB ns x=true:=by unfold hasB;rw [hx];simp [hv24]
  have h3:Has3 ns ⟨x,1,out⟩:=⟨hxh,has_end1 ns,ho⟩
  unfold makesF
  cases e:knownF true ⟨x,1,out⟩ with
  | some y=>exact stay
  | none =>
   cases e2:look m ⟨x,1,out⟩ with
   | some y=>exact stay
   | none =>
    have hr:=hg.ranked
    have hmv:=known_none hr h3 e
    have hmv0:=(minT_bd hr ⟨x,1,out⟩).1
    have hvv:=minT_vars hg hmv
    obtain ⟨m1,-,m3⟩:=minT_le ns ⟨x,1,out⟩
    simp only at m1 m3
    obtain ⟨l3,lt⟩:=lo_has3 hr h3 hmv
    obtain ⟨g3,gt⟩:=hi_has3 hr h3 hmv
    have hp1:=rk_le (vars:=vars) hr (loK ns ⟨x,1,out⟩ (minT ns ⟨x,1,out⟩))
    have i1:=makes_ok (op:=true) (vars:=vars) d ns m _ hg hm l3 (by omega) (by omega)
    have g3':=g3.ext i1.ext
    have gm:=minT_ext g3 i1.ext
    have hp2:=rk_le (vars:=vars) i1.good.ranked (hiK ns ⟨x,1,out⟩ (minT ns ⟨x,1,out⟩))
    have l1:=i1.len
    have i2:=makes_ok (op:=true) (vars:=vars) d _ _ _ i1.good i1.memo g3' (by rw [gm];omega) (by omega)
    have l2:=i2.len
    have h1':=i2.ext.has _ i1.has
    have t1':=i2.ext.top _ i1.has
    have hvM:minT ns ⟨x,1,out⟩=v\/(minT ns ⟨x,1,out⟩ ≠ v/\minT ns ⟨x,1,out⟩=topOf ns out):=by unfold minT;simp only;rw [hx,t1];omega
    have lo1:loS ns 1 (minT ns ⟨x,1,out⟩)=1:=by unfold loS;rw [if_neg (by omega)]
    have hi1:hiS ns 1 (minT ns ⟨x,1,out⟩)=1:=by unfold hiS;rw [if_neg (by omega)]
    have hb:cnt (makesF d true (makesF d true ns m (loK ns ⟨x,1,out⟩ (minT ns ⟨x,1,out⟩))).1 (makesF d true ns m (loK ns ⟨x,1,out⟩ (minT ns ⟨x,1,out⟩))).2.1 (hiK ns ⟨x,1,out⟩ (minT ns ⟨x,1,out⟩))).1<=cnt ns + d /\
      (makesF d true (makesF d true ns m (loK ns ⟨x,1,out⟩ (minT ns ⟨x,1,out⟩))).1 (makesF d true ns m (loK ns ⟨x,1,out⟩ (minT ns ⟨x,1,out⟩))).2.1 (hiK ns ⟨x,1,out⟩ (minT ns ⟨x,1,out⟩))).1.length<=max ns.length (cnt ns + d):=by
     rcases hvM with hv | ⟨hv,ht⟩
     ·have kl:∃ y,knownF true (loK ns ⟨x,1,out⟩ (minT ns ⟨x,1,out⟩))=some y:=by
       unfold loK;simp only;rw [lo1,show loS ns x (minT ns ⟨x,1,out⟩)=(nd ns (pl x)).l by unfold loS;rw [if_pos (by omega)]]
       rcases hn with hn | hn <;> rw [hn]
       ·exact known_01 _
       ·exact known_11 _
      have kh:∃ y,knownF true (hiK ns ⟨x,1,out⟩ (minT ns ⟨x,1,out⟩))=some y:=by
       unfold hiK;simp only;rw [hi1,show hiS ns x (minT ns ⟨x,1,out⟩)=(nd ns (pl x)).h by unfold hiS;rw [if_pos (by omega)]]
       rcases hn with hn | hn <;> rw [hn]
       ·exact known_11 _
       ·exact known_01 _
      rw [(makes_at kl).1,(makes_at kl).2,(makes_at kh).1]
      exact ⟨by omega,Nat.le_max_left _ _⟩
     ·have htn:topOf ns out ≠ 24:=by omega
      have lox:loS ns x (minT ns ⟨x,1,out⟩)=x:=by unfold loS;rw [if_neg (by omega)]
      have hix:hiS ns x (minT ns ⟨x,1,out⟩)=x:=by unfold hiS;rw [if_neg (by omega)]
      have loo:loS ns out (minT ns ⟨x,1,out⟩)=(nd ns (pl out)).l:=by unfold loS;rw [if_pos ht.symm]
      have hio:hiS ns out (minT ns ⟨x,1,out⟩)=(nd ns (pl out)).h:=by unfold hiS;rw [if_pos ht.symm]
      have el:loK ns ⟨x,1,out⟩ (minT ns ⟨x,1,out⟩)=⟨x,1,(nd ns (pl out)).l⟩:=by unfold loK;simp only;rw [lox,lo1,loo]
      have eh:hiK ns ⟨x,1,out⟩ (minT ns ⟨x,1,out⟩)=⟨x,1,(nd ns (pl out)).h⟩:=by unfold hiK;simp only;rw [hix,hi1,hio]
      rw [el] at lt
      rw [eh] at gt
      obtain ⟨-,hl1,-,hh1⟩:=kids hr htn
      unfold chn at hc
      rcases hc with hc | ⟨hc,hk⟩ | ⟨hc,hk⟩
      ·exact absurd hc htn
      ·have kl:∃ y,knownF true (loK ns ⟨x,1,out⟩ (minT ns ⟨x,1,out⟩))=some y:=by rw [el,hc];exact known_z1 _
       rw [(makes_at kl).1,(makes_at kl).2,eh]
       exact or_few hv24 d ns m _ hg hm hx hn hh1 hk (by omega) hl
      ·have kh:∃ y,knownF true (hiK ns ⟨x,1,out⟩ (minT ns ⟨x,1,out⟩))=some y:=by rw [eh,hc];exact known_z1 _
       rw [(makes_at kh).1,el]
       exact or_few hv24 d ns m _ hg hm hx hn hl1 hk (by omega) hl
    have h:=nodeF_ok i2.good (v:=minT ns ⟨x,1,out⟩) (by omega) hmv0 hmv hvv h1' i2.has (by rw [t1'];have:=i1.top;omega) (by have:=i2.top;rw [gm] at this;omega)
    have h5:=h.cnt
    have h6:=h.tight
    exact ⟨by show cnt (nodeF _ _ _ _).1<=_;omega,by show (nodeF _ _ _ _).1.length<=_;omega⟩
structure EiR (vars:Nat) (ns:List Nd) (ys:List Int) (st:List Nd × Int):Prop where
 good:Good vars st.1
 ext:Ext ns st.1
 has:hasB st.1 st.2=true
 sem:∀ f,sem st.1 st.2 f=clS f ys
 cnt:cnt st.1<=cnt ns + 25 * ys.length
 tight:st.1.length<=max ns.length (Go.Proofs.YtiihalknffbjpaaGreatDoor.Bd.cnt ns + 25 * ys.length)
theorem eiR_nil {vars:Nat} {ns:List Nd} (hg:Good vars ns):EiR vars ns [] (ns,0) :=
 ⟨hg,Ext.refl _,has_end0 ns,fun f=>sem_false f,Nat.le_refl _,Nat.le_max_left _ _⟩
def litR (ns:List Nd) (x:Int):List Nd × Int:=litF ns (varN x:Int) (decide (0<x))
def eStep (st:List Nd × Int) (x:Int):List Nd × Int:=askF true (litR st.1 x).1 ⟨(litR st.1 x).2,1,st.2⟩
theorem litR_ok {vars:Nat} {ns:List Nd} (hg:Good vars ns) {x:Int} (hv:varN x<vars) (h24:vars<=24) (hl:ns.length + 2 ^ vars<=900000):OpR vars ns (litR ns x) (fun f=>litS f x):=by
 have:=lit_ok hg (v:=(varN x:Int)) (decide (0<x)) (by omega) (by omega) (by omega) hl
 exact ⟨this.good,this.ext,this.has,fun f=>by have:=this.sem f;exact this,this.len,this.cnt,this.tight⟩
theorem EiR.step {vars:Nat} {ns:List Nd} {ys:List Int} {st:List Nd × Int} (h:EiR vars ns ys st) {x:Int} (hv:varN x<vars) (h24:vars<=24) (hl:st.1.length + 2 ^ vars<=600000) (hpw:2 ^ vars<=100000):EiR vars ns (x :: ys) (eStep st x):=by
 have hone:=Nat.one_le_two_pow (n:=vars)
 have hL:=litR_ok h.good hv h24 (by omega)
 have hF:=litF_few h.good (v:=(varN x:Int)) (decide (0<x)) (by omega) (by omega) (by omega) (by omega)
 have hN:=litF_node st.1 (varN x:Int) (decide (0<x))
 have hlen:=hL.len
 unfold eStep
 unfold litR at *
 generalize litF st.1 (varN x:Int) (decide (0<x))=a at *
 have ho:hasB a.1 st.2=true:=hL.ext.has _ h.has
 have h3:Has3 a.1 ⟨a.2,1,st.2⟩:=⟨hL.has,has_end1 _,ho⟩
 have hp:=rk_le (vars:=vars) hL.good.ranked ⟨a.2,1,st.2⟩
 have hsm:∀ f,Go.Proofs.YtiihalknffbjpaaGreatDoor.Bd.sem a.1 st.2 f=clS f ys:=fun f=>by rw [sem_ext h.good.ranked hL.ext h.has,h.sem f]
 have hmb:=(minT_bd hL.good.ranked ⟨a.2,1,st.2⟩).1
 have hM:=makes_ok (op:=true) 24 a.1 [] ⟨a.2,1,st.2⟩ hL.good (memo_nil true a.1) h3 (by omega) (by omega)
 have hO:=or_few (vars:=vars) (x:=a.2) (v:=(varN x:Int)) (by omega) 24 a.1 [] st.2 hL.good (memo_nil true a.1) hN.1 hN.2 ho (chn_of hL.good 24 st.2 ys ho hsm) (by omega) (by omega)
 have hc:=h.cnt
 have hT:=h.tight
 refine ⟨hM.good,h.ext.trans (hL.ext.trans hM.ext),hM.has,fun f=>?_,?_,?_⟩
 ·show Go.Proofs.YtiihalknffbjpaaGreatDoor.Bd.sem (makesF 24 true a.1 [] ⟨a.2,1,st.2⟩).1 (makesF 24 true a.1 [] ⟨a.2,1,st.2⟩).2.2 f=_
  rw [hM.sem f]
  show opS true (Go.Proofs.YtiihalknffbjpaaGreatDoor.Bd.sem a.1 a.2 f) (Go.Proofs.YtiihalknffbjpaaGreatDoor.Bd.sem a.1 1 f) (Go.Proofs.YtiihalknffbjpaaGreatDoor.Bd.sem a.1 st.2 f)=_
  rw [sem_true,hL.sem f,hsm f]
  simp only [opS,if_true,clS,List.any_cons]
  cases litS f x <;> simp
 ·have:=hO.1;have:=hF.1;rw [List.length_cons];show Go.Proofs.YtiihalknffbjpaaGreatDoor.Bd.cnt (makesF 24 true a.1 [] ⟨a.2,1,st.2⟩).1<=_;omega
 ·have:=hO.2;have:=hF.1;have:=hF.2;rw [List.length_cons];show (makesF 24 true a.1 [] ⟨a.2,1,st.2⟩).1.length<=_;omega
def eithF (ns:List Nd) (xs:List Int):List Nd × Int:=xs.foldr (fun x st=>eStep st x) (ns,0)
theorem eith_ok {vars:Nat} {ns:List Nd} (hg:Good vars ns) (h24:vars<=24) (hl:ns.length + 2 ^ vars<=500000) (hc:cnt ns<=400000) (hpw:2 ^ vars<=100000):∀ (xs:List Int),xs.length<=100->(∀ x ∈ xs,varN x<vars)->EiR vars ns xs (eithF ns xs)
 | [],_,_=>eiR_nil hg
 | x :: xs,hn,hx=>by
  have ih:=eith_ok hg h24 hl hc hpw xs (by simp at hn;omega) (fun y hy=>hx y (List.mem_cons_of_mem _ hy))
  exact ih.step (hx x (List.mem_cons_self ..)) h24 (by have:=ih.tight;simp at hn;omega) hpw
def oneF (st:List Nd × Int) (c:List Int):List Nd × Int :=
 if alwaysF (sidesF c)=true then askF true st.1 ⟨st.2,1,0⟩ else askF true (eithF st.1 (clauseF (sidesF c))).1 ⟨st.2,(eithF st.1 (clauseF (sidesF c))).2,0⟩
def clStep (st:List Nd × Int) (c:List Int):List Nd × Int:=(swept (oneF st c).1 (marksOf (oneF st c).1 [(oneF st c).2]),(oneF st c).2)
def clF (cs:List (List Int)):List Nd × Int:=cs.foldl clStep ([],1)
structure ClR (vars:Nat) (cs:List (List Int)) (st:List Nd × Int):Prop where
 good:Good vars st.1
 has:hasB st.1 st.2=true
 sem:∀ f,sem st.1 st.2 f=cs.all (clS f)
 cnt:cnt st.1 + 1<=2 ^ vars
 len:st.1.length<=2 * 2 ^ vars + 600
theorem clS_form {f:Nat->Bool} {c:List Int} (hl:Lits 24 c) (ha:alwaysF (sidesF c)=false):clS f (clauseF (sidesF c))=clS f c:=by
 unfold clS
 rw [Bool.eq_iff_iff,List.any_eq_true,List.any_eq_true]
 exact ⟨fun ⟨x,h1,h2⟩=>⟨x,(mem_form hl ha).1 h1,h2⟩,fun ⟨x,h1,h2⟩=>⟨x,(mem_form hl ha).2 h1,h2⟩⟩
theorem clS_always {f:Nat->Bool} {c:List Int} (hl:Lits 24 c) (ha:alwaysF (sidesF c)=true):clS f c=true:=by
 obtain ⟨x,h1,h2⟩:=(both_iff hl).2 ha
 have h0:=litB_iff.1 (hl x h1)
 unfold clS
 rw [List.any_eq_true]
 have e:varN (-x)=varN x:=by unfold varN;omega
 by_cases hx:litS f x=true
 ·exact ⟨x,h1,hx⟩
 ·refine ⟨-x,h2,?_⟩
  unfold litS at *
  rw [e]
  by_cases hp:0<x
  ·have:¬ 0 < -x:=by omega
   rw [decide_eq_true hp] at hx
   rw [decide_eq_false this]
   cases hf:f (varN x) <;> simp [hf] at hx ⊢
  ·have:0 < -x:=by omega
   rw [decide_eq_false hp] at hx
   rw [decide_eq_true this]
   cases hf:f (varN x) <;> simp [hf] at hx ⊢
theorem lit_var {vars:Nat} {x:Int} (h:litB vars x=true):varN x<vars:=by
 have:=litB_iff.1 h;unfold varN;omega
theorem small_pow {vars:Nat} (h:vars<=12):2 ^ vars<=4096:=Nat.pow_le_pow_right (by omega) h
theorem clauseF_len (s:Nat × Nat):(clauseF s).length<=24:=clauseK_len s 24
theorem clauseF_vars {vars:Nat} (h24:vars<=24) {c:List Int} (hl:Lits vars c):(clauseF (sidesF c)).length<=vars:=by
 have key:∀ k,vars + k<=24->clauseK (sidesF c) (vars + k)=clauseK (sidesF c) vars:=by
  intro k
  induction k with
  | zero=>intro _;rfl
  | succ k ih =>
   intro hk
   have h1:(sidesF c).1.testBit (vars + k)=false:=by
    rw [sides_yes,decide_eq_false_iff_not]
    rintro ⟨-,h⟩
    have:=litB_iff.1 (hl _ h)
    omega
   have h2:(sidesF c).2.testBit (vars + k)=false:=by
    rw [sides_no,decide_eq_false_iff_not]
    rintro ⟨-,h⟩
    have:=litB_iff.1 (hl _ h)
    omega
   rw [show vars + (k + 1)=(vars + k) + 1 by omega,clauseK_succ,ih (by omega)]
   unfold litOf
   rw [if_neg (by rw [h1];simp),if_neg (by rw [h2];simp)]
   simp
 have:=key (24 - vars) (by omega)
 rw [show vars + (24 - vars)=24 by omega] at this
 show (clauseK (sidesF c) 24).length<=vars
 rw [this]
 exact clauseK_len _ _
theorem one_ok {vars:Nat} {cs:List (List Int)} {st:List Nd × Int} (h:ClR vars cs st) (h12:vars<=12) {c:List Int} (hl:Lits vars c) :
  OpR vars (if alwaysF (sidesF c)=true then st.1 else (eithF st.1 (clauseF (sidesF c))).1) (oneF st c) (fun f=>cs.all (clS f) && clS f c):=by
 have hp:=small_pow h12
 have hl24:Lits 24 c:=fun x hx=>lit_24 (by omega) (hl x hx)
 have hc:=h.cnt
 have hn:=h.len
 by_cases ha:alwaysF (sidesF c)=true
 ·unfold oneF
  rw [if_pos ha,if_pos ha]
  have:=ask_ok' true h.good (k:=⟨st.2,1,0⟩) ⟨h.has,has_end1 _,has_end0 _⟩ (by omega)
  refine ⟨this.good,this.ext,this.has,fun f=>?_,this.len,this.cnt,this.tight⟩
  rw [this.sem f,sem_true,sem_false,h.sem f,clS_always hl24 ha]
  simp only [opS,if_true]
  cases cs.all (clS f) <;> rfl
 ·have ha':alwaysF (sidesF c)=false:=by simpa using ha
  have hv:∀ x ∈ clauseF (sidesF c),varN x<vars:=fun x hx=>lit_var (hl x ((mem_form hl24 ha').1 hx))
  have he:=eith_ok h.good (by omega) (by omega) (by omega) (by omega) (clauseF (sidesF c)) (by have:=clauseF_len (sidesF c);omega) hv
  have ht:=he.tight
  have hcl:=clauseF_len (sidesF c)
  unfold oneF
  rw [if_neg ha,if_neg ha]
  have:=ask_ok' true he.good (k:=⟨st.2,(eithF st.1 (clauseF (sidesF c))).2,0⟩) ⟨he.ext.has _ h.has,he.has,has_end0 _⟩ (by omega)
  refine ⟨this.good,this.ext,this.has,fun f=>?_,this.len,this.cnt,this.tight⟩
  rw [this.sem f,sem_false,sem_ext h.good.ranked he.ext h.has,h.sem f,he.sem f,clS_form hl24 ha']
  simp only [opS,if_true]
  cases cs.all (clS f) <;> simp
theorem cl_step {vars:Nat} {cs:List (List Int)} {st:List Nd × Int} (h:ClR vars cs st) (h12:vars<=12) {c:List Int} (hl:Lits vars c):ClR vars (cs++[c]) (clStep st c):=by
 have h1:=one_ok h h12 hl
 have hp:=small_pow h12
 have hl24:Lits 24 c:=fun x hx=>lit_24 (by omega) (hl x hx)
 have hc:=h.cnt
 have hn:=h.len
 have hb:cnt (if alwaysF (sidesF c)=true then st.1 else (eithF st.1 (clauseF (sidesF c))).1)<=cnt st.1 + 600/\(if alwaysF (sidesF c)=true then st.1 else (eithF st.1 (clauseF (sidesF c))).1).length<=max st.1.length (cnt st.1 + 600):=by
  by_cases ha:alwaysF (sidesF c)=true
  ·rw [if_pos ha];exact ⟨by omega,by omega⟩
  ·rw [if_neg ha]
   have ha':alwaysF (sidesF c)=false:=by simpa using ha
   have hv:∀ x ∈ clauseF (sidesF c),varN x<vars:=fun x hx=>lit_var (hl x ((mem_form hl24 ha').1 hx))
   have hcl:=clauseF_len (sidesF c)
   have he:=eith_ok h.good (by omega) (by omega) (by omega) (by omega) (clauseF (sidesF c)) (by omega) hv
   exact ⟨by have:=he.cnt;omega,by have:=he.tight;omega⟩
 generalize (if alwaysF (sidesF c)=true then st.1 else (eithF st.1 (clauseF (sidesF c))).1)=ns1 at *
 have hk:=swept_kept h1.good (fs:=[(oneF st c).2]) (List.mem_singleton.2 rfl) h1.has
 have ht:=h1.tight
 refine ⟨swept_good h1.good _,hk.1,fun f=>?_,swept_cnt h1.good _,?_⟩
 ·show Go.Proofs.YtiihalknffbjpaaGreatDoor.Bd.sem (swept (oneF st c).1 (marksOf (oneF st c).1 [(oneF st c).2])) (oneF st c).2 f=_
  rw [hk.2 f,h1.sem f,List.all_append];simp
 ·show (swept _ _).length<=_
  rw [swept_length];omega
theorem clF_snoc (cs:List (List Int)) (c:List Int):clF (cs++[c])=clStep (clF cs) c:=by unfold clF;rw [List.foldl_append];rfl
theorem good_none (vars:Nat):Good vars []:=⟨⟨fun j h=>by simp at h,fun j h=>by simp at h,fun j h=>by simp at h,fun j h=>by simp at h⟩,fun i j h=>by simp at h,fun i h=>by simp at h,fun i h=>by simp at h,fun i h=>by simp at h⟩
theorem clR_nil (vars:Nat):ClR vars [] ([],1) :=
 ⟨good_none vars,has_end1 _,fun f=>by rw [sem_true];rfl,by show cnt [] + 1<=_;have:=Nat.one_le_two_pow (n:=vars);simpa [cnt] using this,Nat.zero_le _⟩
theorem clF_ok {vars:Nat} (h12:vars<=12) (cs:List (List Int)) (hl:LitsL vars cs):∀ k,k<=cs.length->ClR vars (cs.take k) (clF (cs.take k))
 | 0,_=>by rw [List.take_zero];exact clR_nil vars
 | k + 1,hk=>by
  have ih:=clF_ok h12 cs hl k (by omega)
  rw [List.take_succ_eq_append_getElem (by omega),clF_snoc]
  exact cl_step ih h12 (hl _ (List.getElem_mem _))
theorem litS_bits {vals:Nat} {x:Int} (h:litB 24 x=true):litS (bitsF vals) x=litK vals x:=by
 have h0:=litB_iff.1 h
 unfold litS litK litH bitsF varN
 rw [h,Bool.true_and]
 by_cases hp:0<x
 ·rw [if_pos hp,decide_eq_true hp,show x.natAbs - 1=x.toNat - 1 by omega];simp
 ·rw [if_neg hp,decide_eq_false hp,show x.natAbs - 1=(-x).toNat - 1 by omega];cases vals.testBit ((-x).toNat - 1) <;> rfl
theorem clS_bits {vals:Nat} {c:List Int} (h:Lits 24 c):clS (bitsF vals) c=holdK vals c:=by
 unfold clS holdK
 rw [Bool.eq_iff_iff,List.any_eq_true,List.any_eq_true]
 exact ⟨fun ⟨x,h1,h2⟩=>⟨x,h1,by rw [<- litS_bits (h x h1)];exact h2⟩,fun ⟨x,h1,h2⟩=>⟨x,h1,by rw [litS_bits (h x h1)];exact h2⟩⟩
end Go.Proofs.YtiihalknffbjpaaGreatDoor.Bd
namespace Go.Proofs.YtiihalknffbjpaaGreatDoor.Bd
open Go.RowKit Go.Maps
structure SpaceAt (B:Nat) (w:World) (s b:Nat) (O:Nat->Prop) (vars:Nat) (room:Int) (ns:List Nd):Prop where
 arena:∃ bm v L next,ArenaAt B w b bm v ns L room next/\Book ns L/\(∃ i:Nat,next=2 + (i:Int)/\i<=ns.length/\∀ j,j<i->(nd ns j).v<24)/\(∀ k,Own b bm v k->O k)
 own:∀ k,O k->B<=k/\k<w.heap.size
 sO:¬ O s
 slt:s<w.heap.size
 c0:w.cell? ⟨s,0,none⟩=some (.pointer (some ⟨b,0,none⟩))
 c1:w.cell? ⟨s,1,none⟩=some (.int .i64 (vars:Int))
def CellsAt (w:World) (k:Nat):Prop:=∃ o:Obj,w.heap[k]?=some o/\o.isCells=true
theorem CellsAt.kept {w w':World} {S:Nat->Prop} {k:Nat} (h:CellsAt w k) (hk:Kept S w w') (hn:¬ S k):CellsAt w' k:=by
 obtain ⟨o,h1,h2⟩:=h
 exact ⟨o,(hk.block k (Array.getElem?_eq_some_iff.1 h1).1 hn).trans h1,h2⟩
theorem CellsAt.below {w w':World} {k:Nat} (h:CellsAt w k) (hb:Below w.heap.size w w'):CellsAt w' k:=h.kept (Kept.of_below hb (fun _=>False)) (fun h=>h)
theorem cells_at {w:World} {a:Addr} {v:Value} (h:w.cell? a=some v):CellsAt w a.block:=by
 unfold World.cell? at h
 cases e:w.heap[a.block]? with
 | none=>rw [e] at h;cases h
 | some o =>
  rw [e] at h
  cases o <;> first | exact ⟨_,e,rfl⟩ | cases h
theorem map_none {w:World} {P:Program} {k:TypeId} {R:Value->Option (DataW Unit × List MemPlace)} {bm n:Nat} {D:DataW Unit} (h:w.ownsMap P k R bm n D):¬ CellsAt w bm:=by
 obtain ⟨es,clock,hb,-⟩:=h
 rintro ⟨o,h1,h2⟩
 rw [hb] at h1
 cases h1
 cases h2
theorem rowCells {W:World} {B t k n:Nat} {v:Value} {cs:List Value} (h:W.ownsRow B t k v n cs):∀ (j:Nat) (o:Obj),v.ownBlock=some j->W.heap[j]?=some o->o.isCells=true:=by
 intro j o hj ho
 rcases h.2 with ⟨rfl,_⟩ | ⟨g,cap,cur,rfl,_,hg,_⟩
 ·simp [Value.ownBlock] at hj
 ·simp only [Value.ownBlock,Option.some.injEq] at hj
  subst hj
  rw [hg] at ho
  cases ho
  rfl
theorem row_cellsAt {W:World} {B t k n:Nat} {v:Value} {cs:List Value} (h:W.ownsRow B t k v n cs) {j:Nat} (hj:v.ownBlock=some j):CellsAt W j:=by
 have hl:=(h.lt j hj).2
 obtain ⟨o,ho⟩:∃ o,W.heap[j]?=some o:=⟨_,Array.getElem?_eq_getElem hl⟩
 exact ⟨o,ho,rowCells h j o hj ho⟩
structure Moves (O O':Nat->Prop) (w w':World):Prop where
 kept:Kept O w w'
 own:∀ k,O' k->O k\/w.heap.size<=k
 map:∀ k,O' k->CellsAt w' k\/(O k/\¬ CellsAt w k)
section
variable {B s b:Nat} {O O' O'':Nat->Prop} {vars:Nat} {room:Int} {ns:List Nd} {w w' w'':World}
theorem SpaceAt.kept {S:Nat->Prop} (h:SpaceAt B w s b O vars room ns) (hk:Kept S w w') (hn:∀ k,O k->¬ S k) (hs:¬ S s):SpaceAt B w' s b O vars room ns:=by
 obtain ⟨bm,v,L,next,hA,hB,hN,hO⟩:=h.arena
 exact ⟨⟨bm,v,L,next,hA.kept hk (fun k hk=>hn k (hO k hk)),hB,hN,hO⟩,fun k hk'=>⟨(h.own k hk').1,Nat.lt_of_lt_of_le (h.own k hk').2 hk.size⟩,h.sO,Nat.lt_of_lt_of_le h.slt hk.size,
  (hk.cell (a:=⟨s,0,none⟩) h.slt hs).trans h.c0,(hk.cell (a:=⟨s,1,none⟩) h.slt hs).trans h.c1⟩
theorem SpaceAt.new (h:SpaceAt B w s b O vars room ns) (hb:Below w.heap.size w w'):SpaceAt B w' s b O vars room ns:=h.kept (Kept.of_below hb (fun _=>False)) (fun _ _ h=>h) (fun h=>h)
theorem Moves.refl (O:Nat->Prop) (w:World):Moves O O w w:=⟨Kept.refl _ _,fun _ h=>.inl h,fun k h=>(Classical.em (CellsAt w k)).imp id (fun n=>⟨h,n⟩)⟩
theorem Moves.of_below (O:Nat->Prop) (hb:Below w.heap.size w w'):Moves O O w w':=⟨Kept.of_below hb _,fun _ h=>.inl h,fun k h=>(Classical.em (CellsAt w k)).imp (fun c=>c.below hb) (fun n=>⟨h,n⟩)⟩
theorem Moves.trans (h:Moves O O' w w') (k:Moves O' O'' w' w''):Moves O O'' w w'' :=
 ⟨h.kept.andThen k.kept (fun i hi hlt=>(h.own i hi).elim id (fun h=>by omega)),fun i hi=>by
  rcases k.own i hi with h1 | h1
  ·exact h.own i h1
  ·exact .inr (Nat.le_trans h.kept.size h1),fun i hi=>by
  rcases k.map i hi with h1 | ⟨h1,h2⟩
  ·exact .inl h1
  ·rcases h.map i h1 with h3 | h3
   ·exact absurd h3 h2
   ·exact .inr h3⟩
theorem Moves.size (h:Moves O O' w w'):w.heap.size<=w'.heap.size:=h.kept.size
theorem Moves.cell (h:Moves O O' w w') {a:Addr} (hlt:a.block<w.heap.size) (hn:¬ O a.block):w'.cell? a=w.cell? a:=h.kept.cell hlt hn
theorem Moves.beside (h:Moves O O' w w') {j:Nat} (hlt:j<w.heap.size) (hn:¬ O j):¬ O' j:=fun ho=>by
 rcases h.own j ho with h1 | h1
 ·exact hn h1
 ·omega
theorem Moves.below {B:Nat} (h:Moves O O' w w') (hB:B<=w.heap.size) (ho:∀ k,O k->B<=k):Below B w w':=h.kept.below hB ho
theorem SpaceAt.moved {bm:Nat} {v v':Value} {ns':List Nd} {L':List (Nd × Int)} {next':Int} (h:SpaceAt B w s b O vars room ns) (hbm0:¬ CellsAt w bm) (hO:∀ k,Own b bm v k->O k) (hA:ArenaAt B w' b bm v' ns' L' room next') (hB:Book ns' L') (hN:∃ i:Nat,next'=2 + (i:Int)/\i<=ns'.length/\∀ j,j<i->(nd ns' j).v<24)
  (hk:Kept (Own b bm v) w w') (hv:v'.ownBlock=v.ownBlock\/∃ g,v'.ownBlock=some g/\w.heap.size<=g):∃ O',SpaceAt B w' s b O' vars room ns'/\Moves O O' w w':=by
 have hs:¬ Own b bm v s:=fun ho=>h.sO (hO s ho)
 obtain ⟨D,hD,-⟩:=hA.hmap
 have hbm:=hD.lt
 refine ⟨Own b bm v',⟨⟨bm,v',L',next',hA,hB,hN,fun _ h=>h⟩,?_,?_,Nat.lt_of_lt_of_le h.slt hk.size,(hk.cell (a:=⟨s,0,none⟩) h.slt hs).trans h.c0,(hk.cell (a:=⟨s,1,none⟩) h.slt hs).trans h.c1⟩,hk.mono hO,?_,?_⟩
 ·rintro k (e | e | e)
  ·have:=h.own k (hO k (.inl e));exact ⟨this.1,Nat.lt_of_lt_of_le this.2 hk.size⟩
  ·have:=h.own k (hO k (.inr (.inl e)));exact ⟨this.1,Nat.lt_of_lt_of_le this.2 hk.size⟩
  ·exact hA.row.lt k e
 ·rintro (e | e | e)
  ·exact h.sO (hO s (.inl e))
  ·exact h.sO (hO s (.inr (.inl e)))
  ·rcases hv with h1 | ⟨g,h1,h2⟩
   ·exact h.sO (hO s (.inr (.inr (by rw [<- h1];exact e))))
   ·rw [h1] at e;cases e;have:=h.slt;omega
 ·rintro k (e | e | e)
  ·exact .inl (hO k (.inl e))
  ·exact .inl (hO k (.inr (.inl e)))
  ·rcases hv with h1 | ⟨g,h1,h2⟩
   ·exact .inl (hO k (.inr (.inr (by rw [<- h1];exact e))))
   ·rw [h1] at e;cases e;exact .inr h2
 ·rintro k (e | e | e)
  ·rw [e];exact .inl (cells_at hA.croom)
  ·rw [e];exact .inr ⟨hO bm (.inr (.inl rfl)),hbm0⟩
  ·exact .inl (row_cellsAt hA.row e)
theorem taken_cnt:∀ ns:List Nd,(taken ns).length=cnt ns:=by
 intro ns
 unfold taken cnt
 have key:(ns.map fun n=>decide (n.v<24))=(List.range ns.length).map fun i=>decide ((nd ns i).v<24):=by
  apply List.ext_getElem (by simp)
  intro i h1 h2
  simp at h1 h2
  simp [nd_at ns i h1]
 rw [<- List.countP_eq_length_filter,<- List.countP_eq_length_filter]
 have e1:List.countP (fun n:Nd=>decide (n.v<24)) ns=List.countP (fun b:Bool=>b) (ns.map fun n=>decide (n.v<24)):=by rw [List.countP_map];rfl
 have e2:List.countP (fun i=>decide ((nd ns i).v<24)) (List.range ns.length)=List.countP (fun b:Bool=>b) ((List.range ns.length).map fun i=>decide ((nd ns i).v<24)):=by rw [List.countP_map];rfl
 rw [e1,e2,key]
theorem make_any (hS:SpaceAt B w s b O vars room ns) (hl:ns.length<=90000) (hroom:(cnt ns:Int)<room) (hB:B<=w.heap.size) (n:Nd) (hn:n.Ok) (hf:Fit ns n) :
  Calls Tryz.prog 350 #[.pointer (some ⟨b,0,none⟩),n.val] w fun e w'=>e=.returned (.tuple #[.int .i64 (makeF ns n).2,.nilIface])/\∃ O',SpaceAt B w' s b O' vars room (makeF ns n).1/\Moves O O' w w':=by
 obtain ⟨bm,v,L,next,hA,hBk,⟨i,hi1,hi2,hi3⟩,hO⟩:=hS.arena
 have hLl:L.length<=ns.length:=by rw [book_len hBk];exact taken_le ns
 have hLc:L.length<=cnt ns:=by rw [book_len hBk];exact Nat.le_of_eq (taken_cnt ns)
 unfold makeF
 by_cases c:idx ns n<ns.length
 ·rw [if_pos c]
  have hin:(n,2 + (idx ns n:Int)) ∈ L:=by
   have:=hBk.all _ c (by rw [idx_at c];exact hf.v1)
   rwa [idx_at c] at this
  exact (make_found hA (by omega) n hn hf _ hin).mono fun e w' ⟨he,hb⟩=>⟨he,O,hS.new hb,Moves.of_below O hb⟩
 ·rw [if_neg c]
  have hnin:n ∉ L.map Prod.fst:=fun h=>by
   obtain ⟨p,hp,rfl⟩:=List.mem_map.1 h
   obtain ⟨j,hj,-,rfl⟩:=hBk.mem p hp
   exact idx_none c hj rfl
  refine (make_new hA (by omega) n hn hf hnin (by omega) (by omega) i hi1 hi2 hB).mono ?_
  rintro e w' ⟨k,v',rfl,hk,hocc,hfree,hA',hK,hv⟩
  have hocc':∀ j,j<k->(nd ns j).v<24:=fun j hj=>by
   by_cases h:j<i
   ·exact hi3 j h
   ·exact hocc j (by omega) hj
  obtain rfl:k=lfree ns:=lfree_is hk hocc' hfree
  refine ⟨rfl,hS.moved (by obtain ⟨D0,hD0,-⟩:=hA.hmap;exact map_none hD0) hO hA' (putN_book hBk hk hfree hf.v1 hnin) ⟨lfree ns,rfl,?_,fun j hj=>?_⟩ hK hv⟩
  ·have:=(putN_length (n:=n) hk).2
   exact Nat.le_trans hk this
  ·show (nd (putN ns (lfree ns) n) j).v<24
   rw [putN_at hk j (by omega),if_neg (by omega)];exact hocc' j hj
theorem spHas (hS:SpaceAt B w s b O vars room ns) (h:Int) (hi:I64 h) (hl:ns.length<=90000) :
  Calls Tryz.prog 163 #[.pointer (some ⟨b,0,none⟩),.int .i64 h] w fun e w'=>e=.returned (.bool (hasB ns h))/\w=w':=by
 obtain ⟨bm,v,L,next,hA,-⟩:=hS.arena
 exact has_any hA h hi (by omega)
theorem spTop (hS:SpaceAt B w s b O vars room ns) (h:Int) (hi:I64 h) (hl:ns.length<=90000) :
  Calls Tryz.prog 164 #[.pointer (some ⟨b,0,none⟩),.int .i64 h] w fun e w'=>e=.returned (.int .i64 (topOf ns h))/\w=w':=by
 obtain ⟨bm,v,L,next,hA,-⟩:=hS.arena
 exact top_any hA h hi (by omega)
theorem spGet (hS:SpaceAt B w s b O vars room ns) (h:Int) (hi:I64 h) (hl:ns.length<=90000) :
  Calls Tryz.prog 92 #[.pointer (some ⟨b,0,none⟩),.int .i64 h] w fun e w'=>e=.returned (.tuple #[(getOf ns h).val,.bool (decide (topOf ns h ≠ 24))])/\Below w.heap.size w w':=by
 obtain ⟨bm,v,L,next,hA,-⟩:=hS.arena
 exact get_any hA h hi (by omega)
theorem spSweep (hS:SpaceAt B w s b O vars room ns) (hr:Ranked ns) (hl:ns.length<=90000) (hB:B<=w.heap.size) (bf:Nat) {cp:Nat} (fs:List Int) (hF:IntsAt w bf fs) (hfl:fs.length<=1000) :
  Calls Tryz.prog 226 #[.pointer (some ⟨b,0,none⟩),.slice (some ⟨bf,0,none⟩) fs.length cp] w fun e w'=>∃ n:Int,e=.returned (.int .i64 n)/\∃ O',SpaceAt B w' s b O' vars room (swept ns (marksOf ns fs))/\Moves O O' w w':=by
 obtain ⟨bm,v,L,next,hA,hBk,-,hO⟩:=hS.arena
 have hLl:L.length<=ns.length:=by rw [book_len hBk];exact taken_le ns
 refine (sweep_any hr hBk (by omega) hA bf fs hF hfl hB (by omega)).mono ?_
 rintro e w' ⟨rfl,hA',hK⟩
 exact ⟨_,rfl,hS.moved (by obtain ⟨D0,hD0,-⟩:=hA.hmap;exact map_none hD0) hO hA' (swept_book hBk) ⟨0,rfl,Nat.zero_le _,fun j h=>by omega⟩ hK (.inl rfl)⟩
end
end Go.Proofs.YtiihalknffbjpaaGreatDoor.Bd
namespace Go.Proofs.YtiihalknffbjpaaGreatDoor.Bd
open Go.RowKit Go.Maps
section
variable {B s b:Nat} {O:Nat->Prop} {vars:Nat} {room:Int} {ns:List Nd} {w:World}
theorem node_any (hS:SpaceAt B w s b O vars room ns) (hl:ns.length<=90000) (hroom:(cnt ns:Int)<room) (hB:B<=w.heap.size) (v l h:Int) (hv0:0<=v) (hv1:v<24) (hl1:hasB ns l=true) (hh1:hasB ns h=true) (tl:v<topOf ns l) (th:v<topOf ns h) :
  Calls Tryz.prog 323 #[.pointer (some ⟨s,0,none⟩),.int .i64 v,.int .i64 l,.int .i64 h] w fun e w'=>e=.returned (.tuple #[.int .i64 (nodeF ns v l h).2,.nilIface])/\∃ O',SpaceAt B w' s b O' vars room (nodeF ns v l h).1/\Moves O O' w w':=by
 have c0:=hS.c0
 by_cases e:l=h
 ·have hn:nodeF ns v l h=(ns,l):=by unfold nodeF;rw [if_pos e]
  rw [hn]
  subst e
  have HS:=Lib.hid hS
  clear hS hl1 hh1 tl th hn
  go_enter Tryz.func323,Tryz.ntmps323
  go_wp2
  go_ret2
  exact ⟨rfl,O,HS.out,Moves.refl _ _⟩
 ·have hn:nodeF ns v l h=makeF ns ⟨v,l,h⟩:=by unfold nodeF;rw [if_neg e]
  rw [hn]
  have HM:=Lib.hid (make_any hS hl hroom hB ⟨v,l,h⟩ ⟨⟨by show _<=v;omega,by show v<=_;omega⟩,has_i64 hl1 (by omega),has_i64 hh1 (by omega)⟩ ⟨hv0,hv1,hl1,hh1,tl,th⟩)
  unfold Nd.val at HM
  clear hS hl1 hh1 tl th hn
  generalize makeF ns ⟨v,l,h⟩=r at *
  go_enter Tryz.func323,Tryz.ntmps323
  go_wp2_with fail
  refine HM.out.mono ?_
  rintro e w' ⟨rfl,hO⟩
  go_wp2
  go_ret2
  exact ⟨rfl,hO⟩
theorem sides_any (hS:SpaceAt B w s b O vars room ns) (hl:ns.length<=90000) (h v:Int) (hi:I64 h) (hv1:v<24) :
  Calls Tryz.prog 351 #[.pointer (some ⟨s,0,none⟩),.int .i64 h,.int .i64 v] w fun e w'=>e=.returned (.tuple #[.int .i64 (loS ns h v),.int .i64 (hiS ns h v)])/\Below w.heap.size w w':=by
 have c0:=hS.c0
 have HG:=Lib.hid (spGet hS h hi hl)
 have hsl:=hS.slt
 by_cases ht:topOf ns h=24
 ·have e1:loS ns h v=h:=by unfold loS;rw [if_neg (by omega)]
  have e2:hiS ns h v=h:=by unfold hiS;rw [if_neg (by omega)]
  rw [e1,e2]
  rw [show decide (topOf ns h ≠ 24)=false by simp [ht]] at HG
  generalize getOf ns h=gn at *
  obtain ⟨gv,gl,gh⟩:=gn
  unfold Nd.val at HG
  clear hS e1 e2 ht
  go_enter Tryz.func351,Tryz.ntmps351
  go_wp2_with fail
  refine HG.out.mono ?_
  rintro e w1 ⟨rfl,hb1⟩
  have hb2:=hb1.alloc hb1.size (.cells #[.int .i64 gv,.int .i64 gl,.int .i64 gh] 176)
  clear HG
  go_wp2
  go_ret2
  exact ⟨rfl,hb2⟩
 ·rw [show decide (topOf ns h ≠ 24)=true by simp [ht]] at HG
  have hgv:(getOf ns h).v=topOf ns h:=by
   obtain ⟨h1,h2,h3,h4⟩:=node_at ht
   unfold getOf;rw [if_neg ht];exact h3.symm
  have hgn:getOf ns h=nd ns (pl h):=by unfold getOf;rw [if_neg ht];rfl
  by_cases ev:topOf ns h=v
  ·have e1:loS ns h v=(getOf ns h).l:=by unfold loS;rw [if_pos ev,hgn]
   have e2:hiS ns h v=(getOf ns h).h:=by unfold hiS;rw [if_pos ev,hgn]
   rw [e1,e2]
   rw [ev] at hgv
   generalize getOf ns h=gn at *
   obtain ⟨gv,gl,gh⟩:=gn
   simp only at hgv
   subst hgv
   unfold Nd.val at HG
   clear hS e1 e2 ht ev hgn
   go_enter Tryz.func351,Tryz.ntmps351
   go_wp2_with fail
   refine HG.out.mono ?_
   rintro e w1 ⟨rfl,hb1⟩
   have hb2:=hb1.alloc hb1.size (.cells #[.int .i64 gv,.int .i64 gl,.int .i64 gh] 176)
   obtain ⟨x0,x1,x2,-⟩:=cell3 w1 (.int .i64 gv) (.int .i64 gl) (.int .i64 gh) 176
   clear HG
   go_wp2_with fail
   go_quiet (fail)
   go_wp2
   go_ret2
   exact ⟨rfl,hb2.trans (below_drewN _ _ _)⟩
  ·have e1:loS ns h v=h:=by unfold loS;rw [if_neg ev]
   have e2:hiS ns h v=h:=by unfold hiS;rw [if_neg ev]
   rw [e1,e2]
   have hne:¬ (getOf ns h).v=v:=by rw [hgv];exact ev
   generalize getOf ns h=gn at *
   obtain ⟨gv,gl,gh⟩:=gn
   simp only at hne
   unfold Nd.val at HG
   clear hS e1 e2 ht ev hgn hgv
   go_enter Tryz.func351,Tryz.ntmps351
   go_wp2_with fail
   refine HG.out.mono ?_
   rintro e w1 ⟨rfl,hb1⟩
   have hb2:=hb1.alloc hb1.size (.cells #[.int .i64 gv,.int .i64 gl,.int .i64 gh] 176)
   obtain ⟨x0,x1,x2,-⟩:=cell3 w1 (.int .i64 gv) (.int .i64 gl) (.int .i64 gh) 176
   clear HG
   go_wp2
   go_ret2
   exact ⟨rfl,hb2⟩
theorem present_any (hS:SpaceAt B w s b O vars room ns) (hl:ns.length<=90000) (bf:Nat) {cp:Nat} (fs:List Int) (hF:IntsAt w bf fs) (hfl:fs.length<=1000) (hall:∀ x ∈ fs,hasB ns x=true) :
  Calls Tryz.prog 77 #[.pointer (some ⟨s,0,none⟩),.slice (some ⟨bf,0,none⟩) fs.length cp] w fun e w'=>e=.returned .nilIface/\w=w':=by
 have c0:=hS.c0
 have HS:=Lib.hid hS
 have HF:=Lib.hid hF
 have HA:=Lib.hid hall
 clear hS hF hall
 go_enter Tryz.func77,Tryz.ntmps77
 go_wp2_with fail
 go_loop [9] (fun i=>∃ k:Nat,k<=fs.length/\i=.int .i64 (k:Int)) (fun i=>fs.length - (intOf i).toNat)
 case atStart=>exact ⟨0,Nat.zero_le _,rfl⟩
 case round =>
  obtain ⟨k,hk,rfl⟩:=hrel
  by_cases hlt:k<fs.length
  ·have ck:=HF.out.cells k hlt
   have HH:=Lib.hid (spHas HS.out fs[k] (HF.out.ok _ (List.getElem_mem hlt)) hl)
   rw [HA.out _ (List.getElem_mem hlt)] at HH
   generalize fs[k]=x at *
   go_wp2_with fail
   refine HH.out.mono ?_
   rintro e w' ⟨rfl,rfl⟩
   clear HH
   go_wp2
   go_round
   case rel=>exact ⟨k + 1,by omega,by go_num⟩
   case measure=>simp [intOf];omega
  ·go_wp2
   go_ret
   exact ⟨rfl,rfl⟩
theorem variable_any (hS:SpaceAt B w s b O vars room ns) (v:Int) (h0:0<=v) (h1:v<(vars:Int)) :
  Calls Tryz.prog 322 #[.pointer (some ⟨s,0,none⟩),.int .i64 v] w fun e w'=>e=.returned .nilIface/\w=w':=by
 have c1:=hS.c1
 clear hS
 go_enter Tryz.func322,Tryz.ntmps322
 go_wp2
 all_goals
  go_ret
  exact ⟨rfl,rfl⟩
end
end Go.Proofs.YtiihalknffbjpaaGreatDoor.Bd
