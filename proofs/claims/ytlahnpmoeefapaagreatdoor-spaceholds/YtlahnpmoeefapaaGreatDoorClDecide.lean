/- decide. -/
import Derived.Test.YtlahnpmoeefapaaGreatDoorClFirstM
import Derived.Test.YtlahnpmoeefapaaGreatDoorSpEither
import Derived.Lib.SliceRun
import Derived.Deep.MidRow
import Derived.WalkSmall
import Derived.Deep.RegionLaw
set_option maxHeartbeats 4000000
set_option maxRecDepth 100000
namespace Go.Proofs.YtlahnpmoeefapaaGreatDoor
section
open Go.RowKit Go.Deep
def subsN:Nat->List (List Int)
 | 0=>[[]]
 | v + 1=>subsN v++(subsN v).map (·++[-((v:Int) + 1)])
theorem subsN_len:∀ v,(subsN v).length=2 ^ v
 | 0=>rfl
 | v + 1=>by
  simp only [subsN,List.length_append,List.length_map,subsN_len v,Nat.pow_succ]
  omega
def Down (c:List Int):Prop:=c.Pairwise (fun x y=>y<x)
theorem down_mem:∀ (v:Nat) (c:List Int),Down c->(∀ x ∈ c,x<0/\-(v:Int)<=x)->c ∈ subsN v
 | 0,c,_,hb=>by
  cases c with
  | nil=>simp [subsN]
  | cons x c=>have:=hb x (by simp);omega
 | v + 1,c,hd,hb=>by
  unfold subsN
  rw [List.mem_append]
  rcases List.eq_nil_or_concat c with rfl | ⟨c',y,rfl⟩
  ·exact Or.inl (down_mem v [] .nil (by simp))
  ·rw [List.concat_eq_append] at *
   have hd':=List.pairwise_append.1 hd
   have hy:=hb y (by simp)
   by_cases e:y=-((v:Int) + 1)
   ·refine Or.inr (List.mem_map.2 ⟨c',down_mem v c' hd'.1 (fun x hx=>?_),by rw [e]⟩)
    have h1:=hb x (by simp [hx])
    have h2:=hd'.2.2 x hx y (by simp)
    omega
   ·refine Or.inl (down_mem v _ hd (fun x hx=>?_))
    have h1:=hb x hx
    rcases List.mem_append.1 hx with h | h
    ·have:=hd'.2.2 x h y (by simp)
     omega
    ·simp at h
     omega
theorem nodup_le {α:Type} [BEq α] [LawfulBEq α]:∀ {l m:List α},l.Nodup->(∀ x ∈ l,x ∈ m)->l.length<=m.length
 | [],_,_,_=>Nat.zero_le _
 | a :: l,m,hn,hs=>by
  have hm:=hs a (by simp)
  have hn':=List.nodup_cons.1 hn
  have h1:=nodup_le (l:=l) (m:=m.erase a) hn'.2 (fun x hx =>
   (List.mem_erase_of_ne (fun e:x=a=>hn'.1 (e ▸ hx))).2 (hs x (by simp [hx])))
  rw [List.length_erase_of_mem hm] at h1
  have:=List.length_pos_of_mem hm
  simp only [List.length_cons]
  omega
def Still (l:List (List Int)) (t:List Int):Prop :=
 ∀ c ∈ l,(∃ x ∈ c,x ∈ t)\/∃ x ∈ c,∃ y ∈ c,x ≠ y/\x ∉ t/\-x ∉ t/\y ∉ t/\-y ∉ t
def Quiet (l:List (List Int)) (ds:List (Int × List Int)):Prop :=
 ∀ (k:Nat) (d:Int × List Int),ds[k]?=some d->Still l d.2/\d.1 ∉ d.2/\-d.1 ∉ d.2
structure Dist (F:List (List Int)) (s:St):Prop where
 nodup:s.prf.Nodup
 pre:∀ k,k<s.decs.length->refC (s.decs.take (k + 1)) ∉ s.prf
 all:∀ c ∈ s.prf,c ∈ F
theorem dist0 (F:List (List Int)):Dist F st0:=⟨.nil,(fun k hk=>by simp [st0] at hk),(fun c hc=>by cases hc)⟩
theorem quiet0 (l:List (List Int)):Quiet l st0.decs:=fun k d h=>by simp [st0] at h
theorem still_of {t:List Int} {l:List (List Int)} (hc:Cons t) (h1:¬ (nextF t l).2 ≠ 0) (h2:¬ 0<=(nextF t l).1):Still l t:=by
 have h:=next_is (l:=l) hc
 generalize nextF t l=r at *
 cases h with
 | none h=>exact h
 | bad hk h=>exact absurd (Int.natCast_nonneg _) h2
 | one hk _ _ _ _=>exact absurd (Int.natCast_nonneg _) h2
theorem fresh_of {s:St} (hc:Cons s.told) {P:List (List Int)} (hs:Still P s.told) (hm:∀ d ∈ s.decs,d.1 ∈ s.told) {x:Int} (h1:-x ∉ s.told) (T:List Int):refC (s.decs++[(x,T)]) ∉ P:=by
 intro hP
 have e:∀ y ∈ refC (s.decs++[(x,T)]),y=-x\/-y ∈ s.told:=by
  intro y hy
  unfold refC at hy
  obtain ⟨d,hd,rfl⟩:=List.mem_map.1 hy
  rcases List.mem_append.1 hd with h | h
  ·exact Or.inr (by rw [Int.neg_neg];exact hm d h)
  ·rw [List.mem_singleton] at h
   subst h
   exact Or.inl rfl
 rcases hs _ hP with ⟨y,hy,ht⟩ | ⟨y,hy,z,hz,hne,hy0,hy1,hz0,hz1⟩
 ·rcases e y hy with rfl | h
  ·exact h1 ht
  ·exact hc y ht h
 ·rcases e y hy with rfl | h
  ·rcases e z hz with rfl | h
   ·exact hne rfl
   ·exact hz1 h
  ·exact hy1 h
theorem refC_lenN (ds:List (Int × List Int)):(refC ds).length=ds.length:=by simp [refC]
theorem quiet_down {l:List (List Int)} {s:St} (hi:InvS l s) (hq:Quiet l s.decs):Down (refC s.decs):=by
 unfold Down refC
 rw [List.pairwise_map,List.pairwise_iff_getElem]
 intro i j hi' hj' hij
 have ej:s.decs[j]?=some s.decs[j]:=List.getElem?_eq_getElem hj'
 have hp:=hi.past j _ ej
 have hn:=(hq j _ ej).2
 have hmi:s.decs[i] ∈ s.decs.take j:=by
  rw [List.mem_take_iff_getElem]
  exact ⟨i,by omega,rfl⟩
 have hpos:=hi.now.pos s.decs[j] (List.getElem_mem hj')
 rcases Int.lt_or_le s.decs[i].1 s.decs[j].1 with h | h
 ·omega
 ·rcases hp.low _ hmi s.decs[j].1 hpos h with h2 | h2
  ·exact absurd h2 hn.1
  ·exact absurd h2 hn.2
theorem step_dist {v:Nat} {l F:List (List Int)} {s s':St} (hg:Good v s) (hi:InvS l s) (hq:Quiet l s.decs) (hd:Dist F s) (hin:refC s.decs ∈ F) (e:stepF v l s=.inl s'):Quiet l s'.decs/\Dist F s':=by
 unfold stepF at e
 by_cases h1:(nextF s.told (l++s.prf)).2 ≠ 0
 ·rw [if_pos h1] at e
  injection e with e
  subst e
  exact ⟨hq,hd.nodup,hd.pre,hd.all⟩
 ·rw [if_neg h1] at e
  by_cases h2:0<=(nextF s.told (l++s.prf)).1
  ·rw [if_pos h2] at e
   cases hl:s.decs.getLast? with
   | none=>rw [hl] at e;cases e
   | some d =>
    rw [hl] at e
    by_cases h3:s.prf.length + 1=2000
    ·simp only [if_pos h3] at e;cases e
    ·simp only [if_neg h3] at e
     injection e with e
     subst e
     have hne:s.decs ≠ []:=fun e=>by rw [e] at hl;cases hl
     have hpos:=List.length_pos_iff.2 hne
     have hnew:refC s.decs ∉ s.prf:=by
      have:=hd.pre (s.decs.length - 1) (by omega)
      rwa [List.take_of_length_le (by omega)] at this
     refine ⟨fun k d' hk=>?_,?_,fun k hk=>?_,fun c hc=>?_⟩
     ·have hk':s.decs.dropLast[k]?=some d':=hk
      rw [List.getElem?_dropLast] at hk'
      split at hk'
      ·exact hq k d' hk'
      ·cases hk'
     ·show (s.prf++[refC s.decs]).Nodup
      rw [List.nodup_append]
      refine ⟨hd.nodup,by simp,fun a ha b hb=>?_⟩
      rw [List.mem_singleton] at hb
      subst hb
      exact fun e=>hnew (e ▸ ha)
     ·have hk':k<s.decs.dropLast.length:=hk
      rw [List.length_dropLast] at hk'
      show refC (s.decs.dropLast.take (k + 1)) ∉ s.prf++[refC s.decs]
      rw [List.dropLast_eq_take,List.take_take,Nat.min_eq_left (by omega),List.mem_append]
      rintro (h | h)
      ·exact hd.pre k (by omega) h
      ·rw [List.mem_singleton] at h
       have:=congrArg List.length h
       rw [refC_lenN,refC_lenN,List.length_take] at this
       omega
     ·have hc':c ∈ s.prf++[refC s.decs]:=hc
      rcases List.mem_append.1 hc' with h | h
      ·exact hd.all c h
      ·rw [List.mem_singleton] at h
       subst h
       exact hin
  ·rw [if_neg h2] at e
   by_cases h3:leastF v s.told<0
   ·rw [if_pos h3] at e;cases e
   ·rw [if_neg h3] at e
    injection e with e
    subst e
    have hst:=still_of hg.cons h1 h2
    rcases least_is (v:=v) (told:=s.told) with ⟨h4,_⟩ | ⟨k,h4,hk,h5,_⟩
    ·omega
    ·obtain ⟨n1,n2⟩:=tv_zero.1 h5
     rw [h4]
     refine ⟨fun j d hj=>?_,hd.nodup,fun j hj=>?_,hd.all⟩
     ·have hj':(s.decs++[((k:Int) + 1,s.told)])[j]?=some d:=hj
      rw [List.getElem?_append] at hj'
      split at hj'
      ·exact hq j d hj'
      ·rename_i hge
       have hjl:j - s.decs.length=0:=by
        rcases Nat.eq_zero_or_pos (j - s.decs.length) with h | h
        ·exact h
        ·rw [List.getElem?_eq_none (by simp;omega)] at hj';cases hj'
       rw [hjl] at hj'
       simp at hj'
       subst hj'
       exact ⟨fun c hc=>hst c (List.mem_append.2 (Or.inl hc)),n1,n2⟩
     ·have hj':j<(s.decs++[((k:Int) + 1,s.told)]).length:=hj
      simp only [List.length_append,List.length_singleton] at hj'
      show refC ((s.decs++[((k:Int) + 1,s.told)]).take (j + 1)) ∉ s.prf
      by_cases hjl:j=s.decs.length
      ·rw [List.take_of_length_le (by simp;omega)]
       exact fresh_of hg.cons (fun c hc=>hst c (List.mem_append.2 (Or.inr hc))) hi.now.mem n2 s.told
      ·rw [List.take_append_of_le_length (by omega)]
       exact hd.pre j (by omega)
theorem run_not_limit {v:Nat} {l F:List (List Int)} (hv:v<=24) (hl:LitsL v l) (hF:F.length<2000) (hin:∀ s,Good v s->InvS l s->Quiet l s.decs->refC s.decs ∈ F) {s:St} {r:Res} (hr:Run v l s r):Good v s->InvS l s->Quiet l s.decs->Dist F s->r ≠ .limit:=by
 induction hr with
 | @done s r h =>
  intro hg hi hq hd hlim
  subst hlim
  unfold stepF at h
  by_cases h1:(nextF s.told (l++s.prf)).2 ≠ 0
  ·rw [if_pos h1] at h;cases h
  ·rw [if_neg h1] at h
   by_cases h2:0<=(nextF s.told (l++s.prf)).1
   ·rw [if_pos h2] at h
    cases hlast:s.decs.getLast? with
    | none=>rw [hlast] at h;cases h
    | some d =>
     rw [hlast] at h
     by_cases h3:s.prf.length + 1=2000
     ·have:=nodup_le hd.nodup hd.all
      have hlt:=hd.nodup
      have hne:s.decs ≠ []:=fun e=>by rw [e] at hlast;cases hlast
      have hpos:=List.length_pos_iff.2 hne
      have hnew:refC s.decs ∉ s.prf:=by
       have:=hd.pre (s.decs.length - 1) (by omega)
       rwa [List.take_of_length_le (by omega)] at this
      have h4:=nodup_le (l:=refC s.decs :: s.prf) (m:=F) (List.nodup_cons.2 ⟨hnew,hd.nodup⟩) (fun c hc=>by
       rcases List.mem_cons.1 hc with rfl | h
       ·exact hin s hg hi hq
       ·exact hd.all c h)
      simp only [List.length_cons] at h4
      omega
     ·simp only [if_neg h3] at h;cases h
   ·rw [if_neg h2] at h
    by_cases h3:leastF v s.told<0
    ·rw [if_pos h3] at h;cases h
    ·rw [if_neg h3] at h;cases h
 | @go s s' r h _ ih =>
  intro hg hi hq hd
  obtain ⟨q1,q2⟩:=step_dist hg hi hq hd (hin s hg hi hq) h
  exact ih (step_good hv hl hg h).1 (step_inv hl hg hi h) q1 q2
theorem refC_neg {v:Nat} {l:List (List Int)} {s:St} (hg:Good v s) (hi:InvS l s):∀ x ∈ refC s.decs,x<0/\-(v:Int)<=x:=by
 intro x hx
 have h1:=refC_lits hg x hx
 rw [litB_iff] at h1
 unfold refC at hx
 obtain ⟨d,hd,rfl⟩:=List.mem_map.1 hx
 have:=hi.now.pos d hd
 omega
theorem ten_not_limit {v:Nat} {l:List (List Int)} (hv:v<=10) (hl:LitsL v l) {r:Res} (hr:Run v l st0 r):r ≠ .limit:=by
 refine run_not_limit (F:=subsN v) (by omega) hl ?_ (fun s hg hi hq=>down_mem v _ (quiet_down hi hq) (refC_neg hg hi)) hr (good0 v) (inv0 l) (quiet0 l) (dist0 _)
 rw [subsN_len]
 have:=Nat.pow_le_pow_right (n:=2) (by omega) hv
 omega
end
section
open Go.RowKit Go.Deep
theorem cls_cells {W0 w:World} {ad:Addr} {l:List (List Int)} (h:ClsIn W0 (some ad) l) (hb:Below W0.heap.size W0 w):∃ cs:List Value,ClsK W0.heap.size w cs l/\∀ j u,cs[j]?=some u->ad.block<W0.heap.size/\w.cell? (ad.add j)=some u:=by
 have each:∀ i,i<l.length->∃ u:Value,(∃ (a:Option Addr) (cap:Nat),u=.slice a (l.getD i []).length cap/\(l.getD i []).length<=cap/\cap<=9223372036854775807/\IntsK W0.heap.size w a (l.getD i []))/\ad.block<W0.heap.size/\w.cell? (ad.add i)=some u:=by
  intro i hi
  obtain ⟨ad',a',cap,e,h1,h2,h3,h4,h5⟩:=h i hi
  obtain rfl:=Option.some.inj e
  exact ⟨_,⟨a',cap,rfl,h3,h4,IntsK.of h5 hb⟩,h1,(hb.cell (by rw [addr_block];exact h1)).trans h2⟩
 obtain ⟨q,hq⟩:=choose_lt (fun i hi=>each i hi)
 have hlen:((List.range l.length).map q).length=l.length:=by simp
 have hat:∀ i,i<l.length->((List.range l.length).map q)[i]?=some (q i):=fun i hi=>by simp [hi]
 refine ⟨(List.range l.length).map q,⟨hlen,fun i hi=>?_⟩,fun j u hj=>?_⟩
 ·obtain ⟨a,cap,e,h1,h2,h3⟩:=(hq i hi).1
  exact ⟨a,cap,by rw [hat i hi,e],h1,h2,h3⟩
 ·have hj':j<l.length:=by have:=(List.getElem?_eq_some_iff.1 hj).1;rw [hlen] at this;exact this
  rw [hat j hj'] at hj
  obtain rfl:=Option.some.inj hj
  exact (hq j hj').2
theorem clone_any (W0:World) (l:List (List Int)) (a:Option Addr) (cap:Nat) (hn:a=none->cap=0) (hl:l.length<=100000) (w:World) (hI:ClsIn W0 a l) (hb:Below W0.heap.size W0 w) :
  Calls Tryz.prog 84 #[.slice a l.length cap] w fun e w'=>∃ va vc,e=.returned (.slice va l.length vc)/\(∃ cs,w'.ownsRow w.heap.size 81 1 (.slice va l.length vc) l.length cs/\ClsK W0.heap.size w' cs l)/\Below w.heap.size w w':=by
 obtain ⟨ic,hic,hc0,hc1,hc2⟩:=info_parts infoCls
 have hq:=fun (x:Option Addr) (n c:Nat) (W:World)=>Lib.run_eql_slice_nil (P:=Tryz.prog) W 26 81 x n c 0 0 Tryz.underlying26
 cases a with
 | none =>
  obtain rfl:cap=0:=hn rfl
  obtain rfl:l=[]:=by
   cases l with
   | nil=>rfl
   | cons c l=>obtain ⟨ad,_,_,e,_⟩:=hI 0 (by simp);cases e
  have fin:Calls Tryz.prog 84 #[.slice none 0 0] w fun e w'=>e=.returned (.slice none 0 0)/\w=w':=by
   go_enter Tryz.func84,Tryz.ntmps84
   go_wp2
   go_ret
   exact ⟨rfl,rfl⟩
  exact fin.mono fun e w' ⟨he,hw⟩=>⟨none,0,he,⟨[],World.ownsRow_nil _ _ _ _,ClsK.nil⟩,hw ▸ Below.refl _ _⟩
 | some ad =>
  obtain ⟨cs,hck,hcell⟩:=cls_cells hI hb
  have hcl:=hck.1
  have hrow:=World.ownsRow_lit (base:=w.heap.size) (e:=81) (size:=1) w #[] 0 (Nat.le_refl _) (by decide) rfl
  have hone:=hck.one
  have hnews:∀ j u,cs[j]?=some u->(w.alloc (.cells #[] 81)).cell? (ad.add j)=some u:=fun j u hu=>by
   obtain ⟨h1,h2⟩:=hcell j u hu
   rw [World.cell?_alloc_lt _ _ _ (by rw [addr_block];exact Nat.lt_of_lt_of_le h1 hb.size)];exact h2
  have HCK:=Lib.hid hck
  have HROW:=Lib.hid hrow
  have HONE:=Lib.hid hone
  have HNEWS:=Lib.hid hnews
  have HCL:=Lib.hid hcl
  clear hI hck hcell hrow hone hnews hcl hn
  generalize hL:l.length=L at *
  clear hL
  go_enter Tryz.func84,Tryz.ntmps84
  go_wp2_with (at_builtin;refine wpList_append_own_at _ rfl _ _ 26 rfl w.heap.size 81 ic (.slice none 0 0) 1 24 Tryz.underlying26 hic hc0 hc1 hc2 rfl (by decide) _ _ _ rfl HROW.out ad L cap cs rfl (by rw [HCL.out,Nat.mul_one]) HNEWS.out HONE.out ?c3 ?c4 ?c5 ?_)
  case c3=>unfold maxLen;omega
  case c4=>omega
  intro v7 w7 hown7 hgrow7 _ _
  have hb7:Below w.heap.size w w7:=(below_new w (.cells #[] 81)).grown hgrow7 (by simp) (fun k hk=>by
   simp [Value.ownBlock] at hk;omega)
  have HK:Hid (ClsK W0.heap.size w7 cs l):=HCK.out.kp (Kp.new hb7)
  have hown8:w7.ownsRow w.heap.size 81 1 v7 L cs:=by simpa using hown7
  obtain ⟨va,vc,rfl,-,-⟩:=row_form hown8
  have HO:=Lib.hid hown8
  have HB7:=Lib.hid hb7
  clear hown7 hown8 hgrow7 hb7 HROW HNEWS
  go_wp2
  go_ret
  exact ⟨_,_,rfl,⟨cs,HO.out,HK.out⟩,HB7.out⟩
end
section
open Go.RowKit Go.Deep
def dcell (d:Int × List Int):List Value:=.int .i64 d.1 :: tvl d.2
def dcells (ds:List (Int × List Int)):List Value:=ds.flatMap dcell
theorem dcell_len (d:Int × List Int):(dcell d).length=25:=by simp [dcell,tvl_len]
theorem dcells_len (ds:List (Int × List Int)):(dcells ds).length=ds.length * 25:=by
 induction ds with
 | nil=>rfl
 | cons d ds ih =>
  have:dcells (d :: ds)=dcell d++dcells ds:=rfl
  rw [this,List.length_append,dcell_len,ih,List.length_cons]
  omega
theorem dcells_snoc (ds:List (Int × List Int)) (d:Int × List Int):dcells (ds++[d])=dcells ds++dcell d:=by simp [dcells]
theorem dcells_at {ds:List (Int × List Int)} {k:Nat} {d:Int × List Int} (h:ds[k]?=some d) (j:Nat) (hj:j<25):(dcells ds)[k * 25 + j]?=(dcell d)[j]?:=by
 induction ds generalizing k with
 | nil=>simp at h
 | cons e ds ih =>
  have he:dcells (e :: ds)=dcell e++dcells ds:=rfl
  rw [he]
  cases k with
  | zero =>
   simp at h
   subst h
   rw [Nat.zero_mul,Nat.zero_add,List.getElem?_append_left (by rw [dcell_len];exact hj)]
  | succ k =>
   rw [List.getElem?_append_right (by rw [dcell_len];omega),dcell_len,show (k + 1) * 25 + j - 25=k * 25 + j by omega]
   exact ih (by simpa using h)
structure SAt (B:Nat) (w:World) (sb:Nat) (l:List (List Int)) (s:St) (cV dV pV:Value):Prop where
 blk:Blk w sb 171 ([cV]++tvl s.told++[dV,pV]).toArray
 Bsb:B<=sb
 crow:∃ cs,w.ownsRow B 81 1 cV (l++s.prf).length cs/\ClsK B w cs (l++s.prf)
 prow:∃ ps,w.ownsRow B 81 1 pV s.prf.length ps/\ClsK 0 w ps s.prf
 drow:w.ownsRow B 265 25 dV s.decs.length (dcells s.decs)
 apart:cV.ownBlock=none\/cV.ownBlock ≠ pV.ownBlock
section
variable {B sb:Nat} {w w':World} {l:List (List Int)} {s:St} {cV dV pV:Value}
theorem SAt.new (h:SAt B w sb l s cV dV pV) (hb:Below w.heap.size w w'):SAt B w' sb l s cV dV pV:=by
 obtain ⟨cs,h1,h2⟩:=h.crow
 obtain ⟨ps,h3,h4⟩:=h.prow
 exact ⟨h.blk.below hb h.blk.lt,h.Bsb,⟨cs,row_new' h1 hb,h2.kp (Kp.new hb)⟩,⟨ps,row_new' h3 hb,h4.kp (Kp.new hb)⟩,row_new' h.drow hb,h.apart⟩
theorem SAt.vals (h:SAt B w sb l s cV dV pV):ValsAt w ⟨sb,1,none⟩ s.told:=vals_of (pre:=[cV]) (post:=[dV,pV]) h.blk
theorem SAt.c0 (h:SAt B w sb l s cV dV pV):w.cell? ⟨sb,0,none⟩=some cV:=by rw [h.blk.cell];rfl
theorem SAt.c25 (h:SAt B w sb l s cV dV pV):w.cell? ⟨sb,25,none⟩=some dV:=by
 rw [h.blk.cell,List.getElem?_toArray,List.getElem?_append_right (by simp [tvl_len])];simp [tvl_len]
theorem SAt.c26 (h:SAt B w sb l s cV dV pV):w.cell? ⟨sb,26,none⟩=some pV:=by
 rw [h.blk.cell,List.getElem?_toArray,List.getElem?_append_right (by simp [tvl_len])];simp [tvl_len]
theorem SAt.fz (h:SAt B w sb l s cV dV pV) (i:Nat):w.frozen? ⟨sb,i,none⟩=false:=h.blk.frozen i
theorem SAt.rows (h:SAt B w sb l s cV dV pV) (i:Nat) (u:Value):(∃ cs,(w.setCell ⟨sb,i,none⟩ u).ownsRow B 81 1 cV (l++s.prf).length cs/\ClsK B (w.setCell ⟨sb,i,none⟩ u) cs (l++s.prf))/\(∃ ps,(w.setCell ⟨sb,i,none⟩ u).ownsRow B 81 1 pV s.prf.length ps/\ClsK 0 (w.setCell ⟨sb,i,none⟩ u) ps s.prf)/\(w.setCell ⟨sb,i,none⟩ u).ownsRow B 265 25 dV s.decs.length (dcells s.decs):=by
 obtain ⟨cs,h1,h2⟩:=h.crow
 obtain ⟨ps,h3,h4⟩:=h.prow
 have hk:Kp B w (w.setCell ⟨sb,i,none⟩ u):=Kp.set h.Bsb h.blk (by decide)
 exact ⟨⟨cs,ownsRow_setCell_other h1 (ownBlock_ne' h1 h.blk (by decide)) u,h2.kp hk⟩,⟨ps,ownsRow_setCell_other h3 (ownBlock_ne' h3 h.blk (by decide)) u,h4.kp hk.zero⟩,ownsRow_setCell_other h.drow (ownBlock_ne' h.drow h.blk (by decide)) u⟩
theorem SAt.tell (h:SAt B w sb l s cV dV pV) {x:Int} (hx:litB 24 x=true) (hn:-x ∉ s.told):SAt B (w.setCell ((⟨sb,1,none⟩:Addr).add (tellAt x)) (.int .i8 (tellV x))) sb l ⟨s.told++[x],s.decs,s.prf⟩ cV dV pV:=by
 have hb:=blk_tell (pre:=[cV]) (post:=[dV,pV]) hx hn h.blk
 have hr:=h.rows (1 + tellAt x) (.int .i8 (tellV x))
 rw [add_plain] at *
 exact ⟨hb,h.Bsb,hr.1,hr.2.1,hr.2.2,h.apart⟩
end
end
section
open Go.RowKit Go.Deep
theorem infoDec:(Tryz.prog.info? 265).map (fun i=>(i.zero.map (·.cells.size),i.size,i.bytes))=some (some 25,25,32):=by kernel_rfl
theorem infoVals:(Tryz.prog.info? 168).map (·.size)=some 24:=by kernel_rfl
theorem dec_parts:∃ (i:TypeInfo) (z:Value),Tryz.prog.info? 265=some i/\i.zero=some z/\i.size=25/\i.bytes=32/\z.cells.size=25:=by
 obtain ⟨i,hi,h⟩:=Option.map_eq_some_iff.1 infoDec
 simp only [Prod.mk.injEq,Option.map_eq_some_iff] at h
 obtain ⟨⟨z,hz,hs⟩,h1,h2⟩:=h
 exact ⟨i,z,hi,hz,h1,h2,hs⟩
theorem set0 (cV dV pV u:Value) (told:List Int):([cV]++tvl told++[dV,pV]).toArray.setIfInBounds 0 u=([u]++tvl told++[dV,pV]).toArray:=by
 rw [List.setIfInBounds_toArray];rfl
theorem set25 (cV dV pV u:Value) (told:List Int):([cV]++tvl told++[dV,pV]).toArray.setIfInBounds 25 u=([cV]++tvl told++[u,pV]).toArray:=by
 rw [List.setIfInBounds_toArray,List.set_append_right _ _ (by simp [tvl_len])];simp [tvl_len]
theorem set26 (cV dV pV u:Value) (told:List Int):([cV]++tvl told++[dV,pV]).toArray.setIfInBounds 26 u=([cV]++tvl told++[dV,u]).toArray:=by
 rw [List.setIfInBounds_toArray,List.set_append_right _ _ (by simp [tvl_len])];simp [tvl_len]
theorem range_far {w w':World} {row:Option Nat} {b o:Nat} {cs:List Value} (h:w.rangeAt b o cs) (hg:w.grownBy w' row) (hlt:b<w.heap.size) (hne:some b ≠ row):w'.rangeAt b o cs:=fun j v hv=>by
 rw [hg.cell_far ⟨b,o + j,none⟩ hlt hne];exact h j v hv
theorem SAt.grow_d {B sb:Nat} {W w1:World} {l:List (List Int)} {s:St} {cV dV pV dV':Value} {ds:List (Int × List Int)} (h:SAt B W sb l s cV dV pV) (hown:w1.ownsRow B 265 25 dV' ds.length (dcells ds)) (hg:W.grownBy w1 dV.ownBlock) (hB:B<=W.heap.size) :
  w1.cell? ⟨sb,25,none⟩=some dV/\w1.frozen? ⟨sb,25,none⟩=false/\SAt B (w1.setCell ⟨sb,25,none⟩ dV') sb l ⟨s.told,ds,s.prf⟩ cV dV' pV/\Below B W (w1.setCell ⟨sb,25,none⟩ dV'):=by
 obtain ⟨cs,h1,h2⟩:=h.crow
 obtain ⟨ps,h3,h4⟩:=h.prow
 have hne:some sb ≠ dV.ownBlock:=fun e=>ownBlock_ne' h.drow h.blk (by decide) e.symm
 have hb:Blk w1 sb 171 _:=h.blk.kept hg hne
 have hk:=Kp.grown h.drow hg (by decide)
 have h1':=h1.kept hg (ownBlocks_ne h1 h.drow (by decide))
 have h3':=h3.kept hg (ownBlocks_ne h3 h.drow (by decide))
 have hk2:Kp B w1 (w1.setCell ⟨sb,25,none⟩ dV'):=Kp.set h.Bsb hb (by decide)
 have hbw:Below B W w1:=(Below.refl _ _).grown hg hB (fun k hk=>(h.drow.lt k hk).1)
 refine ⟨by rw [hb.cell,List.getElem?_toArray,List.getElem?_append_right (by simp [tvl_len])];simp [tvl_len],hb.frozen _,⟨?_,h.Bsb,⟨cs,ownsRow_setCell_other h1' (ownBlock_ne' h1' hb (by decide)) _,(h2.kp hk).kp hk2⟩,⟨ps,ownsRow_setCell_other h3' (ownBlock_ne' h3' hb (by decide)) _,(h4.kp hk.zero).kp hk2.zero⟩,ownsRow_setCell_other hown (ownBlock_ne' hown hb (by decide)) _,h.apart⟩,hbw.setCell h.Bsb _⟩
 have:=hb.set (i:=25) (v:=dV')
 rw [set25] at this
 exact this
theorem decide_any (B sb:Nat) (l:List (List Int)) (s:St) (cV dV pV:Value) (x:Int) (hx:litB 24 x=true) (h1:-x ∉ s.told) (hd:s.decs.length<=24) (w:World) (h:SAt B w sb l s cV dV pV) :
  Calls Tryz.prog 91 #[.pointer (some ⟨sb,0,none⟩),.int .i64 x] w fun e w'=>e=.returned (.tuple #[])/\(∃ dV',SAt B w' sb l ⟨s.told++[x],s.decs++[(x,s.told)],s.prf⟩ cV dV' pV)/\Below B w w':=by
 obtain ⟨i0,z,hin,hz0,hz1,hz2,hz3⟩:=dec_parts
 have c25:=h.c25
 have S0:w.drew.cell? ⟨sb,25,none⟩=some dV/\w.drew.rangeAt sb 1 (tvl s.told):=by
  refine ⟨by simpa using c25,?_⟩
  rw [World.rangeAt_drew]
  intro j v hj
  have hj24:j<24:=by have:=(List.getElem?_eq_some_iff.1 hj).1;rw [tvl_len] at this;exact this
  have:=h.vals.cell j hj24
  rw [add_plain] at this
  rw [this,<- tvl_at _ _ hj24];exact hj
 have hu:=Tryz.underlying168
 have hi:(Tryz.prog.info? 168).map (·.size)=some (tvl s.told).length:=by rw [tvl_len];exact infoVals
 have hl:(tvl s.told).length=24:=tvl_len _
 have ho:∀ v ∈ tvl s.told,v.oneCell'=true:=fun v hv=>by
  unfold tvl at hv
  obtain ⟨i,_,rfl⟩:=List.mem_map.1 hv
  rfl
 have HD:=Lib.hid h
 obtain ⟨V,hV⟩:∃ V,V=tvl s.told:=⟨_,rfl⟩
 rw [<- hV] at S0 hi hl ho
 have HV:=Lib.hid hV
 clear h hV
 match V,hl with
 | [v0,v1,v2,v3,v4,v5,v6,v7,v8,v9,v10,v11,v12,v13,v14,v15,v16,v17,v18,v19,v20,v21,v22,v23],hl =>
  clear hl
  have cb:=HD.out.blk
  have hws:=cb.lt
  have S1:(w.alloc (.cells #[.int .i64 x,v0,v1,v2,v3,v4,v5,v6,v7,v8,v9,v10,v11,v12,v13,v14,v15,v16,v17,v18,v19,v20,v21,v22,v23] 265)).drew.cell? ⟨sb,25,none⟩=some dV/\(w.alloc (.cells #[.int .i64 x,v0,v1,v2,v3,v4,v5,v6,v7,v8,v9,v10,v11,v12,v13,v14,v15,v16,v17,v18,v19,v20,v21,v22,v23] 265)).drew.rangeAt sb 1 [v0,v1,v2,v3,v4,v5,v6,v7,v8,v9,v10,v11,v12,v13,v14,v15,v16,v17,v18,v19,v20,v21,v22,v23]:=by
   refine ⟨?_,?_⟩
   ·rw [World.cell?_drew,World.cell?_alloc_lt _ _ ⟨sb,25,none⟩ hws];exact c25
   ·rw [World.rangeAt_drew]
    exact World.rangeAt_alloc ((World.rangeAt_drew _ _ _ _).1 S0.2) _
  have hsz:=HD.out.drow.lt
  have hW:SAt B (w.alloc (.cells #[.int .i64 x,v0,v1,v2,v3,v4,v5,v6,v7,v8,v9,v10,v11,v12,v13,v14,v15,v16,v17,v18,v19,v20,v21,v22,v23] 265)).drew sb l s cV dV pV:=HD.out.new ((below_new w _).drew)
  have HOW:=Lib.hid hW.drow
  have hws2:=hW.blk.lt
  have hnr:some sb ≠ dV.ownBlock:=fun e=>ownBlock_ne' hW.drow hW.blk (by decide) e.symm
  have hBw:B<=w.heap.size:=by have:=HD.out.Bsb;omega
  have hB2:B<=(w.alloc (.cells #[.int .i64 x,v0,v1,v2,v3,v4,v5,v6,v7,v8,v9,v10,v11,v12,v13,v14,v15,v16,v17,v18,v19,v20,v21,v22,v23] 265)).drew.heap.size:=by show B<=(w.alloc _).heap.size;rw [World.size_alloc];omega
  have one:∀ u ∈ [Value.int .i64 x,v0,v1,v2,v3,v4,v5,v6,v7,v8,v9,v10,v11,v12,v13,v14,v15,v16,v17,v18,v19,v20,v21,v22,v23],u.oneCell'=true:=fun u hu=>by
   rcases List.mem_cons.1 hu with h | h
   ·rw [h];rfl
   ·exact ho u h
  have GR:Hid (∀ (g cap:Nat) (w1:World),w1.ownsRow B 265 25 (.slice (some ⟨g,0,none⟩) (s.decs.length + 1) cap) (s.decs.length + 1) (dcells s.decs++[.int .i64 x,v0,v1,v2,v3,v4,v5,v6,v7,v8,v9,v10,v11,v12,v13,v14,v15,v16,v17,v18,v19,v20,v21,v22,v23])->(w.alloc (.cells #[.int .i64 x,v0,v1,v2,v3,v4,v5,v6,v7,v8,v9,v10,v11,v12,v13,v14,v15,v16,v17,v18,v19,v20,v21,v22,v23] 265)).drew.grownBy w1 dV.ownBlock ->
    w1.cell? ⟨sb,25,none⟩=some dV/\w1.frozen? ⟨sb,25,none⟩=false/\SAt B (w1.setCell ⟨sb,25,none⟩ (.slice (some ⟨g,0,none⟩) (s.decs.length + 1) cap)) sb l ⟨s.told,s.decs++[(x,s.told)],s.prf⟩ cV (.slice (some ⟨g,0,none⟩) (s.decs.length + 1) cap) pV/\Below B w (w1.setCell ⟨sb,25,none⟩ (.slice (some ⟨g,0,none⟩) (s.decs.length + 1) cap))):=fun g cap w1 hown hgrow=>by
   have e:dcells s.decs++[.int .i64 x,v0,v1,v2,v3,v4,v5,v6,v7,v8,v9,v10,v11,v12,v13,v14,v15,v16,v17,v18,v19,v20,v21,v22,v23]=dcells (s.decs++[(x,s.told)]):=by rw [dcells_snoc];unfold dcell;rw [HV.out]
   rw [e] at hown
   obtain ⟨g1,g2,g3,g4⟩:=hW.grow_d (ds:=s.decs++[(x,s.told)]) (by simpa using hown) hgrow hB2
   exact ⟨g1,g2,g3,((below_new w (.cells #[.int .i64 x,v0,v1,v2,v3,v4,v5,v6,v7,v8,v9,v10,v11,v12,v13,v14,v15,v16,v17,v18,v19,v20,v21,v22,v23] 265)).drew.mono hBw).trans g4⟩
  obtain ⟨r0,S0⟩:=S0
  obtain ⟨r1,S1⟩:=S1
  clear cb ho hsz hW HD HV
  go_enter Tryz.func91,Tryz.ntmps91
  go_wp2_with fail
  refine wp_region_noPanic ?_
  refine wp_region_held_drew (S:=(fun X=>X.rangeAt sb 1 [v0,v1,v2,v3,v4,v5,v6,v7,v8,v9,v10,v11,v12,v13,v14,v15,v16,v17,v18,v19,v20,v21,v22,v23])) (by kernel_rfl) S0 (fun hHeld=>?_)
  refine wpAnyH_take (i:=0) (oi:=⟨_,_,_,_,_,_⟩) (v:=?_) rfl (by as_aux_lemma=>kernel_rfl) (by as_aux_lemma=>kernel_rfl) (by as_aux_lemma=>kernel_rfl) (fun _ _ _ h=>h) (Or.inl ⟨by rfl,?_⟩) (by assumption) ?_
  rotate_left
  ·(intro w hSw;(try dsimp only at hSw);first | (go_simp;done) | (go_simp;with_reducible rfl))
  try simp only [Act.put,List.setIfInBounds_toArray,List.set_cons_zero,List.set_cons_succ]
  refine wpAnyH_take (i:=1) (oi:=⟨_,_,_,_,_,_⟩) (v:=?_) rfl (by as_aux_lemma=>kernel_rfl) (by as_aux_lemma=>kernel_rfl) (by as_aux_lemma=>kernel_rfl) (fun _ _ _ h=>h) (Or.inl ⟨by rfl,?_⟩) (by assumption) ?_
  rotate_left
  ·(intro w hSw;(try dsimp only at hSw);first | (go_simp;done) | (go_simp;with_reducible rfl))
  try simp only [Act.put,List.setIfInBounds_toArray,List.set_cons_zero,List.set_cons_succ]
  refine wpAnyH_take (i:=2) (oi:=⟨_,_,_,_,_,_⟩) (v:=?_) rfl (by as_aux_lemma=>kernel_rfl) (by as_aux_lemma=>kernel_rfl) (by as_aux_lemma=>kernel_rfl) (fun _ _ _ h=>h) (Or.inl ⟨by rfl,?_⟩) (by assumption) ?_
  rotate_left
  ·(intro w hSw;(try dsimp only at hSw);first | (go_simp;done) | (go_simp;with_reducible rfl))
  try simp only [Act.put,List.setIfInBounds_toArray,List.set_cons_zero,List.set_cons_succ]
  refine wpAnyH_take (i:=3) (oi:=⟨_,_,_,_,_,_⟩) (v:=?_) rfl (by as_aux_lemma=>kernel_rfl) (by as_aux_lemma=>kernel_rfl) (by as_aux_lemma=>kernel_rfl) (fun _ _ _ h=>h) (Or.inl ⟨by rfl,?_⟩) (by assumption) ?_
  rotate_left
  ·(intro w hSw;(try dsimp only at hSw);first | (go_simp;done) | (go_simp;with_reducible rfl))
  try simp only [Act.put,List.setIfInBounds_toArray,List.set_cons_zero,List.set_cons_succ]
  refine wpAnyH_take (i:=5) (oi:=⟨_,_,_,_,_,_⟩) (v:=?_) rfl (by as_aux_lemma=>kernel_rfl) (by as_aux_lemma=>kernel_rfl) (by as_aux_lemma=>kernel_rfl) (fun _ _ _ h=>h) (Or.inl ⟨by rfl,?_⟩) (by assumption) ?_
  rotate_left
  ·(intro w hSw;(try dsimp only at hSw);first | (go_simp;done) | (go_simp;with_reducible rfl))
  try simp only [Act.put,List.setIfInBounds_toArray,List.set_cons_zero,List.set_cons_succ]
  refine wpAnyH_take (i:=6) (oi:=⟨_,_,_,_,_,_⟩) (v:=?_) rfl (by as_aux_lemma=>kernel_rfl) (by as_aux_lemma=>kernel_rfl) (by as_aux_lemma=>kernel_rfl) (fun _ _ _ h=>h) (Or.inl ⟨by rfl,?_⟩) (by assumption) ?_
  rotate_left
  ·(intro w hSw;(try dsimp only at hSw);first | (go_simp;done) | (go_simp;with_reducible rfl))
  try simp only [Act.put,List.setIfInBounds_toArray,List.set_cons_zero,List.set_cons_succ]
  refine wpAnyH_take (i:=7) (oi:=⟨_,_,_,_,_,_⟩) (v:=?_) rfl (by as_aux_lemma=>kernel_rfl) (by as_aux_lemma=>kernel_rfl) (by as_aux_lemma=>kernel_rfl) (fun _ _ _ h=>h) (Or.inl ⟨by rfl,?_⟩) (by assumption) ?_
  rotate_left
  ·(intro w hSw;(try dsimp only at hSw);first | (go_simp;done) | (go_simp;with_reducible rfl))
  try simp only [Act.put,List.setIfInBounds_toArray,List.set_cons_zero,List.set_cons_succ]
  refine wpAnyH_take (i:=8) (oi:=⟨_,_,_,_,_,_⟩) (v:=?_) rfl (by as_aux_lemma=>kernel_rfl) (by as_aux_lemma=>kernel_rfl) (by as_aux_lemma=>kernel_rfl) (fun _ _ _ h=>h) (Or.inl ⟨by rfl,?_⟩) (by assumption) ?_
  rotate_left
  ·(intro w hSw;(try dsimp only at hSw);first | (go_simp;done) | (go_simp;with_reducible rfl))
  try simp only [Act.put,List.setIfInBounds_toArray,List.set_cons_zero,List.set_cons_succ]
  refine wpAnyH_take (i:=9) (oi:=⟨_,_,_,_,_,_⟩) (v:=.agg #[v0,v1,v2,v3,v4,v5,v6,v7,v8,v9,v10,v11,v12,v13,v14,v15,v16,v17,v18,v19,v20,v21,v22,v23]) rfl (by as_aux_lemma=>kernel_rfl) (by as_aux_lemma=>kernel_rfl) (by as_aux_lemma=>kernel_rfl) (fun _ _ _ h=>h) (yieldsIf_load_mid (by rfl) 168 _ rfl sb 1 rfl [v0,v1,v2,v3,v4,v5,v6,v7,v8,v9,v10,v11,v12,v13,v14,v15,v16,v17,v18,v19,v20,v21,v22,v23] _ (fun _ h=>h) hu rfl hi) (by assumption) ?_
  try simp only [Act.put,List.setIfInBounds_toArray,List.set_cons_zero,List.set_cons_succ]
  refine wpAnyH_take (i:=10) (oi:=⟨_,_,_,_,_,_⟩) (v:=?_) rfl (by as_aux_lemma=>kernel_rfl) (by as_aux_lemma=>kernel_rfl) (by as_aux_lemma=>kernel_rfl) (fun _ _ _ h=>h) (Or.inl ⟨by rfl,?_⟩) (by assumption) ?_
  rotate_left
  ·(intro w hSw;(try dsimp only at hSw);first | (go_simp;done) | (go_simp;with_reducible rfl))
  try simp only [Act.put,List.setIfInBounds_toArray,List.set_cons_zero,List.set_cons_succ]
  refine wpAnyH_ready (rs:=[4,11]) (by as_aux_lemma=>kernel_rfl) (by simp) ?_
  refine AllReadyH.cons (o:=⟨_,_,_,_,_,_⟩) rfl (fun K hK=>?_) (AllReadyH.cons (o:=⟨_,_,_,_,_,_⟩) rfl (fun K hK=>?_) AllReadyH.nil)
  ·go_simp
   refine hK.out _ _ ?_ (fun hNew=>?_)
   ·exact hHeld
   clear hK K
   replace hHeld:=hNew
   clear hNew
   try simp only [Act.put,List.setIfInBounds_toArray,List.set_cons_zero,List.set_cons_succ]
   refine wpAnyH_ready (rs:=[11]) (by as_aux_lemma=>kernel_rfl) (by simp) ?_
   refine AllReadyH.cons (o:=⟨_,_,_,_,_,_⟩) rfl (fun K hK=>?_) AllReadyH.nil
   go_simp
   refine hK.out _ _ ?_ (fun hNew=>?_)
   ·exact S1
   clear hK K
   replace hHeld:=hNew
   clear hNew
   try simp only [Act.put,List.setIfInBounds_toArray,List.set_cons_zero,List.set_cons_succ]
   refine wpAnyH_ready (rs:=[12]) (by as_aux_lemma=>kernel_rfl) (by simp) ?_
   refine AllReadyH.cons (o:=⟨_,_,_,_,_,_⟩) rfl (fun K hK=>?_) AllReadyH.nil
   refine step_append_lies _ (by rfl) _ _ _ (by rfl) B 265 i0 z 25 32 Tryz.underlying169 hin hz0 hz1 hz2 hz3 (by decide) dV s.decs.length (dcells s.decs) (by rfl) HOW.out ⟨w.heap.size,0,none⟩ 1 1 [.int .i64 x,v0,v1,v2,v3,v4,v5,v6,v7,v8,v9,v10,v11,v12,v13,v14,v15,v16,v17,v18,v19,v20,v21,v22,v23] (by rfl) (by rfl) (World.news_of_block (heap_alloc_new w _)) one (by decide) (by unfold maxLen;omega) (by omega) hB2 _ rfl ?_
   intro g cap w1 hown hgrow hat hlt
   obtain ⟨C2,F2,HS,HBB⟩:=GR.out g cap w1 hown hgrow
   have R1:=range_far S1 hgrow hws2 hnr
   have R2:=World.rangeAt_setCells_apart R1 sb 25 [.slice (some ⟨g,0,none⟩) (s.decs.length + 1) cap] (Or.inr (Or.inl (by simp)))
   have HS2:=Lib.hid HS
   have HB2:=Lib.hid HBB
   clear hown hgrow hat hlt HS HBB GR HOW
   refine hK.out _ _ ?_ (fun hNew=>?_)
   ·exact R1
   clear hK K
   replace hHeld:=hNew
   clear hNew
   try simp only [Act.put,List.setIfInBounds_toArray,List.set_cons_zero,List.set_cons_succ]
   refine wpAnyH_take (i:=13) (oi:=⟨_,_,_,_,_,_⟩) (v:=?_) rfl (by as_aux_lemma=>kernel_rfl) (by as_aux_lemma=>kernel_rfl) (by as_aux_lemma=>kernel_rfl) (fun _ _ _ h=>h) (Or.inl ⟨by rfl,?_⟩) (by assumption) ?_
   rotate_left
   ·(intro w hSw;(try dsimp only at hSw);first | (go_simp;done) | (go_simp;with_reducible rfl))
   try simp only [Act.put,List.setIfInBounds_toArray,List.set_cons_zero,List.set_cons_succ]
   refine wpAnyH_take (i:=14) (oi:=⟨_,_,_,_,_,_⟩) (v:=?_) rfl (by as_aux_lemma=>kernel_rfl) (by as_aux_lemma=>kernel_rfl) (by as_aux_lemma=>kernel_rfl) (fun _ _ _ h=>h) (Or.inl ⟨by rfl,?_⟩) (by assumption) ?_
   rotate_left
   ·(intro w hSw;(try dsimp only at hSw);first | (go_simp;done) | (go_simp;with_reducible rfl))
   try simp only [Act.put,List.setIfInBounds_toArray,List.set_cons_zero,List.set_cons_succ]
   refine wpAnyH_ready (rs:=[15]) (by as_aux_lemma=>kernel_rfl) (by simp) ?_
   refine AllReadyH.cons (o:=⟨_,_,_,_,_,_⟩) rfl (fun K hK=>?_) AllReadyH.nil
   go_simp
   refine hK.out _ _ ?_ (fun hNew=>?_)
   ·exact R2
   clear hK K
   replace hHeld:=hNew
   clear hNew
   try simp only [Act.put,List.setIfInBounds_toArray,List.set_cons_zero,List.set_cons_succ]
   refine wpAnyH_done (by kernel_rfl) (NoPanic.normal ?_) _
   as_aux_lemma =>
    clear hHeld
    clear r0 r1 C2 F2 R1 R2 S1
    have HT:=Lib.hid (tell_any ⟨sb,1,none⟩ s.told x hx _ HS2.out.vals)
    have HS3:=Lib.hid (HS2.out.tell hx h1)
    have HB3:Hid (Below B w _):=HB2.out.setCell (p:=(⟨sb,1,none⟩:Addr).add (tellAt x)) (by rw [addr_block];exact HS2.out.Bsb) (.int .i8 (tellV x))
    generalize w1.setCell ⟨sb,25,none⟩ (.slice (some ⟨g,0,none⟩) (s.decs.length + 1) cap)=W3 at *
    go_wp2_with fail
    refine HT.out.mono ?_
    rintro e w4 ⟨rfl,hw4⟩
    have HS4:Hid (SAt B w4 sb l ⟨s.told++[x],s.decs++[(x,s.told)],s.prf⟩ cV (.slice (some ⟨g,0,none⟩) (s.decs.length + 1) cap) pV):=by rw [hw4];exact HS3.out
    have HB4:Hid (Below B w w4):=by rw [hw4];exact HB3.out
    clear hw4 HS3 HB3 HT
    go_wp2
    refine bodyPost_end (v:=.tuple #[]) (by simp [results,Tryz.results91,go_sem]) rfl ?_
    exact ⟨rfl,⟨_,HS4.out⟩,HB4.out⟩
  ·go_simp
   refine hK.out _ _ ?_ (fun hNew=>?_)
   ·exact S1
   clear hK K
   replace hHeld:=hNew
   clear hNew
   try simp only [Act.put,List.setIfInBounds_toArray,List.set_cons_zero,List.set_cons_succ]
   refine wpAnyH_ready (rs:=[4]) (by as_aux_lemma=>kernel_rfl) (by simp) ?_
   refine AllReadyH.cons (o:=⟨_,_,_,_,_,_⟩) rfl (fun K hK=>?_) AllReadyH.nil
   go_simp
   refine hK.out _ _ ?_ (fun hNew=>?_)
   ·exact hHeld
   clear hK K
   replace hHeld:=hNew
   clear hNew
   try simp only [Act.put,List.setIfInBounds_toArray,List.set_cons_zero,List.set_cons_succ]
   refine wpAnyH_ready (rs:=[12]) (by as_aux_lemma=>kernel_rfl) (by simp) ?_
   refine AllReadyH.cons (o:=⟨_,_,_,_,_,_⟩) rfl (fun K hK=>?_) AllReadyH.nil
   refine step_append_lies _ (by rfl) _ _ _ (by rfl) B 265 i0 z 25 32 Tryz.underlying169 hin hz0 hz1 hz2 hz3 (by decide) dV s.decs.length (dcells s.decs) (by rfl) HOW.out ⟨w.heap.size,0,none⟩ 1 1 [.int .i64 x,v0,v1,v2,v3,v4,v5,v6,v7,v8,v9,v10,v11,v12,v13,v14,v15,v16,v17,v18,v19,v20,v21,v22,v23] (by rfl) (by rfl) (World.news_of_block (heap_alloc_new w _)) one (by decide) (by unfold maxLen;omega) (by omega) hB2 _ rfl ?_
   intro g cap w1 hown hgrow hat hlt
   obtain ⟨C2,F2,HS,HBB⟩:=GR.out g cap w1 hown hgrow
   have R1:=range_far S1 hgrow hws2 hnr
   have R2:=World.rangeAt_setCells_apart R1 sb 25 [.slice (some ⟨g,0,none⟩) (s.decs.length + 1) cap] (Or.inr (Or.inl (by simp)))
   have HS2:=Lib.hid HS
   have HB2:=Lib.hid HBB
   clear hown hgrow hat hlt HS HBB GR HOW
   refine hK.out _ _ ?_ (fun hNew=>?_)
   ·exact R1
   clear hK K
   replace hHeld:=hNew
   clear hNew
   try simp only [Act.put,List.setIfInBounds_toArray,List.set_cons_zero,List.set_cons_succ]
   refine wpAnyH_take (i:=13) (oi:=⟨_,_,_,_,_,_⟩) (v:=?_) rfl (by as_aux_lemma=>kernel_rfl) (by as_aux_lemma=>kernel_rfl) (by as_aux_lemma=>kernel_rfl) (fun _ _ _ h=>h) (Or.inl ⟨by rfl,?_⟩) (by assumption) ?_
   rotate_left
   ·(intro w hSw;(try dsimp only at hSw);first | (go_simp;done) | (go_simp;with_reducible rfl))
   try simp only [Act.put,List.setIfInBounds_toArray,List.set_cons_zero,List.set_cons_succ]
   refine wpAnyH_take (i:=14) (oi:=⟨_,_,_,_,_,_⟩) (v:=?_) rfl (by as_aux_lemma=>kernel_rfl) (by as_aux_lemma=>kernel_rfl) (by as_aux_lemma=>kernel_rfl) (fun _ _ _ h=>h) (Or.inl ⟨by rfl,?_⟩) (by assumption) ?_
   rotate_left
   ·(intro w hSw;(try dsimp only at hSw);first | (go_simp;done) | (go_simp;with_reducible rfl))
   try simp only [Act.put,List.setIfInBounds_toArray,List.set_cons_zero,List.set_cons_succ]
   refine wpAnyH_ready (rs:=[15]) (by as_aux_lemma=>kernel_rfl) (by simp) ?_
   refine AllReadyH.cons (o:=⟨_,_,_,_,_,_⟩) rfl (fun K hK=>?_) AllReadyH.nil
   go_simp
   refine hK.out _ _ ?_ (fun hNew=>?_)
   ·exact R2
   clear hK K
   replace hHeld:=hNew
   clear hNew
   try simp only [Act.put,List.setIfInBounds_toArray,List.set_cons_zero,List.set_cons_succ]
   refine wpAnyH_done (by kernel_rfl) (NoPanic.normal ?_) _
   as_aux_lemma =>
    clear hHeld
    clear r0 r1 C2 F2 R1 R2 S1
    have HT:=Lib.hid (tell_any ⟨sb,1,none⟩ s.told x hx _ HS2.out.vals)
    have HS3:=Lib.hid (HS2.out.tell hx h1)
    have HB3:Hid (Below B w _):=HB2.out.setCell (p:=(⟨sb,1,none⟩:Addr).add (tellAt x)) (by rw [addr_block];exact HS2.out.Bsb) (.int .i8 (tellV x))
    generalize w1.setCell ⟨sb,25,none⟩ (.slice (some ⟨g,0,none⟩) (s.decs.length + 1) cap)=W3 at *
    go_wp2_with fail
    refine HT.out.mono ?_
    rintro e w4 ⟨rfl,hw4⟩
    have HS4:Hid (SAt B w4 sb l ⟨s.told++[x],s.decs++[(x,s.told)],s.prf⟩ cV (.slice (some ⟨g,0,none⟩) (s.decs.length + 1) cap) pV):=by rw [hw4];exact HS3.out
    have HB4:Hid (Below B w w4):=by rw [hw4];exact HB3.out
    clear hw4 HS3 HB3 HT
    go_wp2
    refine bodyPost_end (v:=.tuple #[]) (by simp [results,Tryz.results91,go_sem]) rfl ?_
    exact ⟨rfl,⟨_,HS4.out⟩,HB4.out⟩
end
end Go.Proofs.YtlahnpmoeefapaaGreatDoor
