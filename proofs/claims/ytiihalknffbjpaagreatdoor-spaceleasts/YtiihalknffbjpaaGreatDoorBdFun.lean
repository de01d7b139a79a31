/- What steps make, one behind the other, all others swept behind each. -/
import Derived.Test.YtiihalknffbjpaaGreatDoorBdSem
import Derived.WalkSmall
namespace Go.Proofs.YtiihalknffbjpaaGreatDoor.Bd
open Go.RowKit Go.Maps
def bitsF (n:Nat):Nat->Bool:=fun i=>n.testBit i
theorem shr_bit (vals v:Nat) (hv:vals<18446744073709551616):(bits BinOp.and IntKind.u64 ((vals:Int) / 2 ^ v) 1 == 1)=bitsF vals v:=by
  have e:(vals:Int) / 2 ^ v=((vals / 2 ^ v:Nat):Int):=by simp
  have hd:vals / 2 ^ v<=vals:=Nat.div_le_self _ _
  generalize hm:vals / 2 ^ v=m at *
  rw [e,and_one_u64 _ (by omega) (by omega)]
  have hb:bitsF vals v=decide (m % 2=1):=by unfold bitsF;rw [Nat.testBit_eq_decide_div_mod_eq,hm]
  rw [hb,Bool.eq_iff_iff]
  simp
  omega
end Go.Proofs.YtiihalknffbjpaaGreatDoor.Bd
namespace Go.Proofs.YtiihalknffbjpaaGreatDoor.Bd
open Go.RowKit Go.Maps
def lfree (ns:List Nd):Nat:=ns.findIdx fun n=>!decide (n.v<24)
def idx (ns:List Nd) (n:Nd):Nat:=ns.findIdx fun m=>decide (m=n)
def cnt (ns:List Nd):Nat:=(ns.filter fun n=>decide (n.v<24)).length
section
variable {ns:List Nd}
theorem lfree_le (ns:List Nd):lfree ns<=ns.length:=List.findIdx_le_length
theorem lfree_taken {j:Nat} (h:j<lfree ns):(nd ns j).v<24:=by
  have hl:j<ns.length:=Nat.lt_of_lt_of_le h (lfree_le ns)
  have:=List.not_of_lt_findIdx h
  rw [nd_at ns j hl];simpa using this
theorem lfree_free (h:lfree ns<ns.length):¬ (nd ns (lfree ns)).v<24:=by
  have:=List.findIdx_getElem (w:=h)
  rw [nd_at ns _ h];unfold lfree;simpa using this
theorem lfree_is {k:Nat} (hk:k<=ns.length) (ht:∀ j,j<k->(nd ns j).v<24) (hf:k<ns.length->¬ (nd ns k).v<24):k=lfree ns:=by
  rcases Nat.lt_trichotomy k (lfree ns) with h | h | h
  · exact absurd (lfree_taken h) (hf (Nat.lt_of_lt_of_le h (lfree_le ns)))
  · exact h
  · exact absurd (ht _ h) (lfree_free (by omega))
theorem idx_at {n:Nd} (h:idx ns n<ns.length):nd ns (idx ns n)=n:=by
  have:=List.findIdx_getElem (w:=h)
  rw [nd_at ns _ h];unfold idx;simpa using this
theorem idx_none {n:Nd} (h:¬ idx ns n<ns.length) {j:Nat} (hj:j<ns.length):nd ns j ≠ n:=by
  have:j<idx ns n:=by omega
  have:=List.not_of_lt_findIdx this
  rw [nd_at ns j hj];simpa using this
def makeF (ns:List Nd) (n:Nd):List Nd × Int:=if idx ns n<ns.length then (ns,2 + (idx ns n:Int)) else (putN ns (lfree ns) n,2 + (lfree ns:Int))
def nodeF (ns:List Nd) (v l h:Int):List Nd × Int:=if l=h then (ns,l) else makeF ns ⟨v,l,h⟩
theorem cnt_put_le (ns:List Nd) (n:Nd):cnt (putN ns (lfree ns) n)<=cnt ns + 1:=by
  unfold cnt putN
  have key:∀ (l:List Nd) (k:Nat),((l.set k n).filter fun n=>decide (n.v<24)).length<=(l.filter fun n=>decide (n.v<24)).length + 1:=by
    intro l
    induction l with
    | nil=>intro k;simp
    | cons a l ih =>
      intro k
      cases k with
      | zero =>
        simp only [List.set_cons_zero,List.filter_cons]
        split <;> split <;> simp <;> omega
      | succ k =>
        simp only [List.set_cons_succ,List.filter_cons]
        have:=ih k
        split
        · simp only [List.length_cons];omega
        · exact this
  refine Nat.le_trans (key _ _) ?_
  split
  · rw [List.filter_append];simp
  · exact Nat.le_refl _
theorem good_put {vars:Nat} (hg:Good vars ns) {n:Nd} (hn:n.Ok) (hf:Fit ns n) (hne:n.l ≠ n.h) (hv:n.v<(vars:Int)) (hnin:∀ j,j<ns.length->nd ns j ≠ n):Good vars (putN ns (lfree ns) n):=by
  have hk:=lfree_le ns
  have hfr:lfree ns<ns.length->¬ (nd ns (lfree ns)).v<24:=lfree_free
  have key:∀ j,j<(putN ns (lfree ns) n).length->nd (putN ns (lfree ns) n) j=n/\j=lfree ns\/j<ns.length/\j ≠ lfree ns/\nd (putN ns (lfree ns) n) j=nd ns j:=fun j hj=>by
    have hj':=(putN_lt hk j).1 hj
    by_cases e:j=lfree ns
    · exact .inl ⟨by rw [putN_at hk j hj',if_pos e],e⟩
    · exact .inr ⟨by omega,e,by rw [putN_at hk j hj',if_neg e]⟩
  refine ⟨putN_ranked hg.ranked hk hfr hn hf,fun i j hi hj hvi e=>?_,fun i hi hvi=>?_,fun i hi hvi=>?_,fun i hi hvi=>?_⟩
  · rcases key i hi with ⟨e1,x1⟩ | ⟨l1,n1,e1⟩ <;> rcases key j hj with ⟨e2,x2⟩ | ⟨l2,n2,e2⟩
    · omega
    · rw [e1,e2] at e;exact absurd e.symm (hnin j l2)
    · rw [e1,e2] at e;exact absurd e (hnin i l1)
    · rw [e1] at hvi;rw [e1,e2] at e;exact hg.once i j l1 l2 hvi e
  · rcases key i hi with ⟨e1,-⟩ | ⟨l1,-,e1⟩ <;> rw [e1] at hvi ⊢
    · exact hne
    · exact hg.red i l1 hvi
  · rcases key i hi with ⟨e1,-⟩ | ⟨l1,-,e1⟩ <;> rw [e1] at hvi ⊢
    · exact hv
    · exact hg.vars i l1 hvi
  · rcases key i hi with ⟨e1,-⟩ | ⟨l1,-,e1⟩ <;> rw [e1] at hvi ⊢
    · exact absurd hf.v1 hvi
    · exact hg.free i l1 hvi
theorem cnt_full:∀ (ns:List Nd),¬ lfree ns<ns.length->cnt ns=ns.length:=fun ns h=>by
  unfold cnt
  rw [List.filter_eq_self.2]
  intro a ha
  obtain ⟨i,hi,rfl⟩:=List.getElem_of_mem ha
  have:=lfree_taken (ns:=ns) (j:=i) (by have:=lfree_le ns;omega)
  rw [nd_at ns i hi] at this
  simpa using this
theorem put_tight (ns:List Nd) (n:Nd):(putN ns (lfree ns) n).length<=max ns.length (cnt ns + 1):=by
  by_cases h:lfree ns<ns.length
  · have:(putN ns (lfree ns) n).length=ns.length:=by unfold putN;rw [if_neg (by omega)];simp
    omega
  · have h1:=cnt_full ns h
    have h2:=(putN_length (n:=n) (lfree_le ns)).1
    omega
structure Made (vars:Nat) (ns:List Nd) (v l h:Int) (r:List Nd × Int):Prop where
  good:Good vars r.1
  ext:Ext ns r.1
  has:hasB r.1 r.2=true
  sem:∀ f,sem r.1 r.2 f=if f v.toNat then sem ns h f else sem ns l f
  top:v<=topOf r.1 r.2
  cnt:cnt r.1<=cnt ns + 1
  len:r.1.length<=ns.length + 1
  tight:r.1.length<=max ns.length (Go.Proofs.YtiihalknffbjpaaGreatDoor.Bd.cnt ns + 1)
  i64:I64 r.2
theorem has_i64 {h:Int} (hh:hasB ns h=true) (hl:ns.length<=1000000):I64 h:=by
  rcases hasB_cases hh with rfl | rfl | ht
  · exact ⟨by omega,by omega⟩
  · exact ⟨by omega,by omega⟩
  · obtain ⟨h1,h2,-,h4⟩:=node_at (ns:=ns) (h:=h) (by omega)
    exact ⟨by omega,by omega⟩
theorem nodeF_ok {vars:Nat} (hg:Good vars ns) {v l h:Int} (hl:ns.length<=900000) (h0:0<=v) (h24:v<24) (hv:v<(vars:Int)) (hl1:hasB ns l=true) (hh1:hasB ns h=true) (tl:v<topOf ns l) (th:v<topOf ns h):Made vars ns v l h (nodeF ns v l h):=by
  unfold nodeF
  by_cases e:l=h
  · rw [if_pos e]
    subst e
    exact ⟨hg,Ext.refl _,hl1,fun f=>by split <;> rfl,by show v<=topOf ns l;omega,Nat.le_succ _,Nat.le_succ _,Nat.le_max_left _ _,has_i64 hl1 (by omega)⟩
  · rw [if_neg e]
    unfold makeF
    have hi1:=has_i64 hl1 (by omega)
    have hi2:=has_i64 hh1 (by omega)
    by_cases c:idx ns ⟨v,l,h⟩<ns.length
    · rw [if_pos c]
      have ha:=idx_at c
      have ht:topOf ns (2 + (idx ns ⟨v,l,h⟩:Int))=v:=by rw [topOf_at c,ha]
      have hp:pl (2 + (idx ns ⟨v,l,h⟩:Int))=idx ns ⟨v,l,h⟩:=by unfold pl;omega
      refine ⟨hg,Ext.refl _,?_,fun f=>?_,?_,Nat.le_succ _,Nat.le_succ _,Nat.le_max_left _ _,⟨by show _<=(2 + _:Int);omega,by show (2 + _:Int)<=_;omega⟩⟩
      · show hasB ns _=true;unfold hasB;rw [ht];simp [h24]
      · show Go.Proofs.YtiihalknffbjpaaGreatDoor.Bd.sem ns _ f=_
        rw [sem_node hg.ranked (by rw [ht];omega),ht,hp,ha]
      · show v<=topOf ns (2 + (idx ns ⟨v,l,h⟩:Int));omega
    · rw [if_neg c]
      have hnin:∀ j,j<ns.length->nd ns j ≠ ⟨v,l,h⟩:=fun j hj=>idx_none c hj
      have hf:Fit ns ⟨v,l,h⟩:=⟨h0,h24,hl1,hh1,tl,th⟩
      have hgp:=good_put hg ⟨⟨by show _<=v;omega,by show v<=_;omega⟩,hi1,hi2⟩ hf e hv hnin
      have hk:=lfree_le ns
      have hx:Ext ns (putN ns (lfree ns) ⟨v,l,h⟩):=ext_put hk lfree_free hg.ranked
      have ht:topOf (putN ns (lfree ns) ⟨v,l,h⟩) (2 + (lfree ns:Int))=v:=putN_self hk
      have hp:pl (2 + (lfree ns:Int))=lfree ns:=by unfold pl;omega
      refine ⟨hgp,hx,?_,fun f=>?_,?_,cnt_put_le _ _,(putN_length hk).1,put_tight _ _,⟨by show _<=(2 + _:Int);omega,by show (2 + _:Int)<=_;omega⟩⟩
      · show hasB _ _=true;unfold hasB;rw [ht];simp [h24]
      · show Go.Proofs.YtiihalknffbjpaaGreatDoor.Bd.sem _ _ f=_
        rw [sem_node hgp.ranked (by rw [ht];omega),ht,hp,putN_at hk _ (.inr rfl),if_pos rfl,sem_ext hg.ranked hx hl1,sem_ext hg.ranked hx hh1]
      · show v<=topOf (putN ns (lfree ns) ⟨v,l,h⟩) (2 + (lfree ns:Int));omega
end
end Go.Proofs.YtiihalknffbjpaaGreatDoor.Bd
namespace Go.Proofs.YtiihalknffbjpaaGreatDoor.Bd
open Go.RowKit Go.Maps
def iteK (k:Nd):Option Int:=if k.v=1\/k.l=k.h then some k.l else if k.v=0 then some k.h else if k.l=1/\k.h=0 then some k.v else none
def xorK (k:Nd):Option Int:=if k.v=k.l then some 0 else if k.v=0 then some k.l else if k.l=0 then some k.v else none
def knownF (op:Bool) (k:Nd):Option Int:=if op=true then iteK k else xorK k
def opS (op a b c:Bool):Bool:=if op=true then (if a=true then b else c) else (a != b)
def minT (ns:List Nd) (k:Nd):Int:=min (min (topOf ns k.v) (topOf ns k.l)) (topOf ns k.h)
def loK (ns:List Nd) (k:Nd) (v:Int):Nd:=⟨loS ns k.v v,loS ns k.l v,loS ns k.h v⟩
def hiK (ns:List Nd) (k:Nd) (v:Int):Nd:=⟨hiS ns k.v v,hiS ns k.l v,hiS ns k.h v⟩
def look {α:Type} [DecidableEq α] (m:List (α × Int)) (k:α):Option Int:=(m.find? fun p=>decide (p.1=k)).map Prod.snd
def memoPut {α:Type} [DecidableEq α] (m:List (α × Int)) (k:α) (h:Int):List (α × Int):=if k ∈ m.map Prod.fst then m.map (fun q=>if q.1=k then (q.1,h) else q) else m++[(k,h)]
def makesF:Nat->Bool->List Nd->List (Nd × Int)->Nd->List Nd × List (Nd × Int) × Int
  | 0,op,ns,m,k=>(ns,m,(knownF op k).getD 0)
  | d + 1,op,ns,m,k =>
    match knownF op k with
    | some h=>(ns,m,h)
    | none =>
      match look m k with
      | some h=>(ns,m,h)
      | none =>
        let r1:=makesF d op ns m (loK ns k (minT ns k))
        let r2:=makesF d op r1.1 r1.2.1 (hiK ns k (minT ns k))
        let r3:=nodeF r2.1 (minT ns k) r1.2.2 r2.2.2
        (r3.1,memoPut r2.2.1 k r3.2,r3.2)
section
variable {α:Type} [DecidableEq α] {m:List (α × Int)} {k:α}
theorem look_mem {h:Int} (e:look m k=some h):(k,h) ∈ m:=by
  unfold look at e
  obtain ⟨p,hp,rfl⟩:=Option.map_eq_some_iff.1 e
  have h1:=List.find?_some hp
  have h2:=List.mem_of_find?_eq_some hp
  simp at h1
  subst h1
  exact h2
theorem look_no (e:look m k=none):k ∉ m.map Prod.fst:=by
  unfold look at e
  rw [Option.map_eq_none_iff,List.find?_eq_none] at e
  intro h
  obtain ⟨p,hp,rfl⟩:=List.mem_map.1 h
  exact e p hp (by simp)
theorem memoPut_mem {h:Int} {p:α × Int} (hp:p ∈ memoPut m k h):p=(k,h)\/p ∈ m:=by
  unfold memoPut at hp
  split at hp
  · obtain ⟨q,hq,rfl⟩:=List.mem_map.1 hp
    by_cases e:q.1=k
    · rw [if_pos e];exact .inl (by rw [e])
    · rw [if_neg e];exact .inr hq
  · rcases List.mem_append.1 hp with hp | hp
    · exact .inr hp
    · rw [List.mem_singleton] at hp;exact .inl hp
theorem memoPut_len (h:Int):(memoPut m k h).length<=m.length + 1:=by
  unfold memoPut
  split
  · simp
  · simp
end
structure Has3 (ns:List Nd) (k:Nd):Prop where
  a:hasB ns k.v=true
  b:hasB ns k.l=true
  c:hasB ns k.h=true
structure MemoOk (op:Bool) (ns:List Nd) (m:List (Nd × Int)):Prop where
  keys:∀ p ∈ m,Has3 ns p.1
  has:∀ p ∈ m,hasB ns p.2=true
  top:∀ p ∈ m,minT ns p.1<=topOf ns p.2
  sem:∀ p ∈ m,∀ f,sem ns p.2 f=opS op (sem ns p.1.v f) (sem ns p.1.l f) (sem ns p.1.h f)
section
variable {ns:List Nd} {op:Bool} {m:List (Nd × Int)} {k:Nd} {vars:Nat}
theorem minT_le (ns:List Nd) (k:Nd):minT ns k<=topOf ns k.v/\minT ns k<=topOf ns k.l/\minT ns k<=topOf ns k.h:=by unfold minT;omega
theorem minT_ge {x:Int} (h1:x<=topOf ns k.v) (h2:x<=topOf ns k.l) (h3:x<=topOf ns k.h):x<=minT ns k:=by unfold minT;omega
theorem minT_bd (hr:Ranked ns) (k:Nd):0<=minT ns k/\minT ns k<=24:=by
  have h1:=topOf_le hr k.v
  have h2:=topOf_le hr k.l
  have h3:=topOf_le hr k.h
  unfold minT;omega
theorem Has3.ext {ns':List Nd} (h:Has3 ns k) (he:Ext ns ns'):Has3 ns' k:=⟨he.has _ h.a,he.has _ h.b,he.has _ h.c⟩
theorem minT_ext {ns':List Nd} (h:Has3 ns k) (he:Ext ns ns'):minT ns' k=minT ns k:=by unfold minT;rw [he.top _ h.a,he.top _ h.b,he.top _ h.c]
theorem MemoOk.ext {ns':List Nd} (hr:Ranked ns) (h:MemoOk op ns m) (he:Ext ns ns'):MemoOk op ns' m :=
  ⟨fun p hp=>(h.keys p hp).ext he,fun p hp=>he.has _ (h.has p hp),fun p hp=>by rw [minT_ext (h.keys p hp) he,he.top _ (h.has p hp)];exact h.top p hp,
   fun p hp f=>by rw [sem_ext hr he (h.has p hp),sem_ext hr he (h.keys p hp).a,sem_ext hr he (h.keys p hp).b,sem_ext hr he (h.keys p hp).c];exact h.sem p hp f⟩
theorem end_ge {h:Int} (hh:h=0\/h=1):topOf ns h=24:=by rcases hh with rfl | rfl <;> simp [topOf]
theorem known_ok (hr:Ranked ns) {h:Int} (h3:Has3 ns k) (e:knownF op k=some h):hasB ns h=true/\minT ns k<=topOf ns h/\∀ f,sem ns h f=opS op (sem ns k.v f) (sem ns k.l f) (sem ns k.h f):=by
  obtain ⟨m1,m2,m3⟩:=minT_le ns k
  have mb:=(minT_bd hr k).2
  unfold knownF at e
  cases op with
  | true =>
    simp only [if_true] at e
    unfold iteK at e
    split at e
    · rename_i c
      cases e
      refine ⟨h3.b,m2,fun f=>?_⟩
      rcases c with c | c
      · rw [c,sem_true];simp [opS]
      · rw [c];simp only [opS,if_true];split <;> rfl
    · split at e
      · rename_i c
        cases e
        refine ⟨h3.c,m3,fun f=>?_⟩
        rw [c,sem_false];simp [opS]
      · split at e
        · rename_i c
          cases e
          refine ⟨h3.a,m1,fun f=>?_⟩
          rw [c.1,c.2,sem_true,sem_false]
          simp only [opS,if_true];cases sem ns k.v f <;> rfl
        · cases e
  | false =>
    simp only [Bool.false_eq_true,if_false] at e
    unfold xorK at e
    split at e
    · rename_i c
      cases e
      refine ⟨by simp [hasB],by rw [end_ge (.inl rfl)];exact mb,fun f=>?_⟩
      rw [c,sem_false];simp [opS]
    · split at e
      · rename_i c
        cases e
        refine ⟨h3.b,m2,fun f=>?_⟩
        rw [c,sem_false];simp [opS]
      · split at e
        · rename_i c
          cases e
          refine ⟨h3.a,m1,fun f=>?_⟩
          rw [c,sem_false];simp [opS]
        · cases e
theorem known_none (hr:Ranked ns) (h3:Has3 ns k) (e:knownF op k=none):minT ns k<24:=by
  have tv:=topOf_le hr k.v
  have tl:=topOf_le hr k.l
  obtain ⟨m1,m2,m3⟩:=minT_le ns k
  unfold knownF at e
  cases op with
  | true =>
    simp only [if_true] at e
    unfold iteK at e
    split at e
    · cases e
    · split at e
      · cases e
      · rename_i c1 c2
        by_cases t:topOf ns k.v=24
        · rcases end_of h3.a t with h | h
          · exact absurd h c2
          · exact absurd (.inl h) c1
        · omega
  | false =>
    simp only [Bool.false_eq_true,if_false] at e
    unfold xorK at e
    split at e
    · cases e
    · split at e
      · cases e
      · split at e
        · cases e
        · rename_i c1 c2 c3
          by_cases t:topOf ns k.v=24
          · by_cases u:topOf ns k.l=24
            · rcases end_of h3.a t with h | h <;> rcases end_of h3.b u with g | g <;> first | exact absurd h c2 | exact absurd g c3 | exact absurd (h.trans g.symm) c1
            · omega
          · omega
def rk (vars:Nat) (ns:List Nd) (k:Nd):Nat:=((vars:Int) - minT ns k).toNat
structure MakesR (vars:Nat) (op:Bool) (ns:List Nd) (m:List (Nd × Int)) (k:Nd) (r:List Nd × List (Nd × Int) × Int):Prop where
  good:Good vars r.1
  ext:Ext ns r.1
  memo:MemoOk op r.1 r.2.1
  has:hasB r.1 r.2.2=true
  sem:∀ f,sem r.1 r.2.2 f=opS op (sem ns k.v f) (sem ns k.l f) (sem ns k.h f)
  top:minT ns k<=topOf r.1 r.2.2
  cnt:cnt r.1 + 1<=cnt ns + 2 ^ rk vars ns k
  len:r.1.length + 1<=ns.length + 2 ^ rk vars ns k
  tight:r.1.length + 1<=max (ns.length + 1) (Go.Proofs.YtiihalknffbjpaaGreatDoor.Bd.cnt ns + 2 ^ rk vars ns k)
  mlen:r.2.1.length + 1<=m.length + 2 ^ rk vars ns k
theorem lo_has3 (hr:Ranked ns) (h3:Has3 ns k) (hv:minT ns k<24):Has3 ns (loK ns k (minT ns k))/\minT ns k<minT ns (loK ns k (minT ns k)):=by
  obtain ⟨m1,m2,m3⟩:=minT_le ns k
  have a:=loS_has hr hv h3.a
  have b:=loS_has hr hv h3.b
  have c:=loS_has hr hv h3.c
  refine ⟨⟨a.1,b.1,c.1⟩,?_⟩
  have:=minT_ge (ns:=ns) (k:=loK ns k (minT ns k)) (x:=minT ns k + 1) (a.2.1 m1) (b.2.1 m2) (c.2.1 m3)
  omega
theorem hi_has3 (hr:Ranked ns) (h3:Has3 ns k) (hv:minT ns k<24):Has3 ns (hiK ns k (minT ns k))/\minT ns k<minT ns (hiK ns k (minT ns k)):=by
  obtain ⟨m1,m2,m3⟩:=minT_le ns k
  have a:=hiS_has hr hv h3.a
  have b:=hiS_has hr hv h3.b
  have c:=hiS_has hr hv h3.c
  refine ⟨⟨a.1,b.1,c.1⟩,?_⟩
  have:=minT_ge (ns:=ns) (k:=hiK ns k (minT ns k)) (x:=minT ns k + 1) (a.2.1 m1) (b.2.1 m2) (c.2.1 m3)
  omega
theorem top_vars (hg:Good vars ns) {h:Int} (ht:topOf ns h ≠ 24):topOf ns h<(vars:Int):=by
  obtain ⟨h1,h2,h3,-⟩:=node_at ht
  have:=top_lt hg.ranked ht
  rw [h3] at this ⊢;exact hg.vars _ h2 this
theorem minT_vars (hg:Good vars ns) (hv:minT ns k<24):minT ns k<(vars:Int):=by
  have:minT ns k=topOf ns k.v\/minT ns k=topOf ns k.l\/minT ns k=topOf ns k.h:=by unfold minT;omega
  rcases this with e | e | e <;> rw [e] at hv ⊢ <;> exact top_vars hg (by omega)
theorem opS_if (op c a b d x y z:Bool):opS op (if c=true then a else x) (if c=true then b else y) (if c=true then d else z)=if c=true then opS op a b d else opS op x y z:=by
  cases c <;> simp
theorem makes_hit (hg:Good vars ns) (hm:MemoOk op ns m) {h:Int} (hh:hasB ns h=true) (ht:minT ns k<=topOf ns h) (hs:∀ f,Go.Proofs.YtiihalknffbjpaaGreatDoor.Bd.sem ns h f=opS op (Go.Proofs.YtiihalknffbjpaaGreatDoor.Bd.sem ns k.v f) (Go.Proofs.YtiihalknffbjpaaGreatDoor.Bd.sem ns k.l f) (Go.Proofs.YtiihalknffbjpaaGreatDoor.Bd.sem ns k.h f)):MakesR vars op ns m k (ns,m,h):=by
  have:=Nat.one_le_two_pow (n:=rk vars ns k)
  exact ⟨hg,Ext.refl _,hm,hh,hs,ht,by show Go.Proofs.YtiihalknffbjpaaGreatDoor.Bd.cnt ns + 1<=_;omega,by show ns.length + 1<=_;omega,by show ns.length + 1<=_;omega,by show m.length + 1<=_;omega⟩
theorem makes_ok:∀ (d:Nat) (ns:List Nd) (m:List (Nd × Int)) (k:Nd),Good vars ns->MemoOk op ns m->Has3 ns k->24<=minT ns k + d->ns.length + 2 ^ rk vars ns k<=900000->MakesR vars op ns m k (makesF d op ns m k)
  | 0,ns,m,k,hg,hm,h3,hd,_=>by
    unfold makesF
    cases e:knownF op k with
    | none=>have:=known_none hg.ranked h3 e;omega
    | some h =>
      obtain ⟨a,b,c⟩:=known_ok hg.ranked h3 e
      exact makes_hit hg hm a b c
  | d + 1,ns,m,k,hg,hm,h3,hd,hl=>by
    unfold makesF
    cases e:knownF op k with
    | some h =>
      obtain ⟨a,b,c⟩:=known_ok hg.ranked h3 e
      exact makes_hit hg hm a b c
    | none =>
      cases e2:look m k with
      | some h =>
        have hp:=look_mem e2
        exact makes_hit hg hm (hm.has _ hp) (hm.top _ hp) (hm.sem _ hp)
      | none =>
        have hr:=hg.ranked
        have hv:=known_none hr h3 e
        have hvv:=minT_vars hg hv
        have hv0:=(minT_bd hr k).1
        obtain ⟨l3,lt⟩:=lo_has3 hr h3 hv
        obtain ⟨g3,gt⟩:=hi_has3 hr h3 hv
        have hpow:2 ^ rk vars ns k=2 ^ (rk vars ns k - 1) + 2 ^ (rk vars ns k - 1):=by
          have:1<=rk vars ns k:=by unfold rk;omega
          obtain ⟨q,hq⟩:∃ q,rk vars ns k=q + 1:=⟨rk vars ns k - 1,by omega⟩
          rw [hq,Nat.add_sub_cancel,Nat.pow_succ];omega
        have pge:=Nat.one_le_two_pow (n:=rk vars ns k - 1)
        have p1:2 ^ rk vars ns (loK ns k (minT ns k))<=2 ^ (rk vars ns k - 1):=Nat.pow_le_pow_right (by omega) (by unfold rk;omega)
        have i1:=makes_ok d ns m (loK ns k (minT ns k)) hg hm l3 (by omega) (by omega)
        show MakesR vars op ns m k (_,_,_)
        generalize makesF d op ns m (loK ns k (minT ns k))=r1 at *
        have g3':=g3.ext i1.ext
        have gm:=minT_ext g3 i1.ext
        have p2:2 ^ rk vars r1.1 (hiK ns k (minT ns k))<=2 ^ (rk vars ns k - 1):=Nat.pow_le_pow_right (by omega) (by unfold rk;rw [gm];omega)
        have l1:=i1.len
        have c1:=i1.cnt
        have m1:=i1.mlen
        have i2:=makes_ok d r1.1 r1.2.1 (hiK ns k (minT ns k)) i1.good i1.memo g3' (by rw [gm];omega) (by omega)
        generalize makesF d op r1.1 r1.2.1 (hiK ns k (minT ns k))=r2 at *
        have l2:=i2.len
        have c2:=i2.cnt
        have t1:=i1.tight
        have t2:=i2.tight
        have m2:=i2.mlen
        have h1':=i2.ext.has _ i1.has
        have t1':topOf r2.1 r1.2.2=topOf r1.1 r1.2.2:=i2.ext.top _ i1.has
        have i3:=nodeF_ok i2.good (v:=minT ns k) (l:=r1.2.2) (h:=r2.2.2) (by omega) hv0 hv hvv h1' i2.has (by rw [t1'];have:=i1.top;omega) (by have:=i2.top;rw [gm] at this;omega)
        generalize nodeF r2.1 (minT ns k) r1.2.2 r2.2.2=r3 at *
        have x13:=(i1.ext.trans i2.ext).trans i3.ext
        have c3:=i3.cnt
        have t3:=i3.tight
        have l3':=i3.len
        have hsem:∀ f,Go.Proofs.YtiihalknffbjpaaGreatDoor.Bd.sem r3.1 r3.2 f=opS op (Go.Proofs.YtiihalknffbjpaaGreatDoor.Bd.sem ns k.v f) (Go.Proofs.YtiihalknffbjpaaGreatDoor.Bd.sem ns k.l f) (Go.Proofs.YtiihalknffbjpaaGreatDoor.Bd.sem ns k.h f):=fun f=>by
          rw [i3.sem f,sem_ext i1.good.ranked i2.ext i1.has,i1.sem f,i2.sem f,sem_ext hr i1.ext g3.a,sem_ext hr i1.ext g3.b,sem_ext hr i1.ext g3.c,
            sem_sides (h:=k.v) hr hv f,sem_sides (h:=k.l) hr hv f,sem_sides (h:=k.h) hr hv f,opS_if]
          rfl
        have mp:=memoPut_len (m:=r2.2.1) (k:=k) r3.2
        have mo:=i2.memo.ext i2.good.ranked i3.ext
        have htop:minT ns k<=topOf r3.1 r3.2:=i3.top
        have h3x:=h3.ext x13
        have mk:=minT_ext h3 x13
        refine ⟨i3.good,x13,⟨fun p hp=>?_,fun p hp=>?_,fun p hp=>?_,fun p hp f=>?_⟩,i3.has,hsem,htop,by show Go.Proofs.YtiihalknffbjpaaGreatDoor.Bd.cnt r3.1 + 1<=_;omega,by show r3.1.length + 1<=_;omega,by show r3.1.length + 1<=_;omega,by show (memoPut r2.2.1 k r3.2).length + 1<=_;omega⟩
        · rcases memoPut_mem hp with rfl | hp
          · exact h3x
          · exact mo.keys p hp
        · rcases memoPut_mem hp with rfl | hp
          · exact i3.has
          · exact mo.has p hp
        · rcases memoPut_mem hp with rfl | hp
          · show minT r3.1 k<=_;rw [mk];exact htop
          · exact mo.top p hp
        · rcases memoPut_mem hp with rfl | hp
          · show Go.Proofs.YtiihalknffbjpaaGreatDoor.Bd.sem r3.1 r3.2 f=_
            rw [hsem f,sem_ext hr x13 h3.a,sem_ext hr x13 h3.b,sem_ext hr x13 h3.c]
          · exact mo.sem p hp f
end
end Go.Proofs.YtiihalknffbjpaaGreatDoor.Bd
namespace Go.Proofs.YtiihalknffbjpaaGreatDoor.Bd
open Go.RowKit Go.Maps
structure OpR (vars:Nat) (ns:List Nd) (r:List Nd × Int) (g:(Nat->Bool)->Bool):Prop where
  good:Good vars r.1
  ext:Ext ns r.1
  has:hasB r.1 r.2=true
  sem:∀ f,sem r.1 r.2 f=g f
  len:r.1.length + 1<=ns.length + 2 ^ vars
  cnt:cnt r.1 + 1<=cnt ns + 2 ^ vars
  tight:r.1.length + 1<=max (ns.length + 1) (Go.Proofs.YtiihalknffbjpaaGreatDoor.Bd.cnt ns + 2 ^ vars)
def askF (op:Bool) (ns:List Nd) (k:Nd):List Nd × Int:=((makesF 24 op ns [] k).1,(makesF 24 op ns [] k).2.2)
def litF (ns:List Nd) (v:Int) (is:Bool):List Nd × Int:=if is=true then nodeF ns v 0 1 else nodeF ns v 1 0
section
variable {vars:Nat} {ns:List Nd}
theorem memo_nil (op:Bool) (ns:List Nd):MemoOk op ns []:=⟨fun p h=>(by cases h),fun p h=>(by cases h),fun p h=>(by cases h),fun p h=>(by cases h)⟩
theorem has_end0 (ns:List Nd):hasB ns 0=true:=by simp [hasB]
theorem has_end1 (ns:List Nd):hasB ns 1=true:=by simp [hasB]
theorem top_end0 (ns:List Nd):topOf ns 0=24:=by simp [topOf]
theorem top_end1 (ns:List Nd):topOf ns 1=24:=by simp [topOf]
theorem rk_le (hr:Ranked ns) (k:Nd):2 ^ rk vars ns k<=2 ^ vars:=Nat.pow_le_pow_right (by omega) (by unfold rk;have:=(minT_bd hr k).1;omega)
theorem ask_ok' (op:Bool) (hg:Good vars ns) {k:Nd} (h3:Has3 ns k) (hl:ns.length + 2 ^ vars<=900000):OpR vars ns (askF op ns k) (fun f=>opS op (sem ns k.v f) (sem ns k.l f) (sem ns k.h f)):=by
  have hp:=rk_le (vars:=vars) hg.ranked k
  have h:=makes_ok (op:=op) 24 ns [] k hg (memo_nil op ns) h3 (by have:=(minT_bd hg.ranked k).1;omega) (by omega)
  exact ⟨h.good,h.ext,h.has,h.sem,by have:=h.len;show (makesF 24 op ns [] k).1.length + 1<=_;omega,by have:=h.cnt;show Go.Proofs.YtiihalknffbjpaaGreatDoor.Bd.cnt (makesF 24 op ns [] k).1 + 1<=_;omega,by have:=h.tight;show (makesF 24 op ns [] k).1.length + 1<=_;omega⟩
theorem lit_ok (hg:Good vars ns) {v:Int} (is:Bool) (hv0:0<=v) (hv:v<(vars:Int)) (hv24:v<24) (hl:ns.length + 2 ^ vars<=900000):OpR vars ns (litF ns v is) (fun f=>f v.toNat == is):=by
  have h1:1<=vars:=by omega
  have h2:2<=2 ^ vars:=by
    obtain ⟨q,rfl⟩:∃ q,vars=q + 1:=⟨vars - 1,by omega⟩
    have:=Nat.one_le_two_pow (n:=q);rw [Nat.pow_succ];omega
  unfold litF
  cases is with
  | true =>
    rw [if_pos rfl]
    have h:=nodeF_ok hg (v:=v) (l:=0) (h:=1) (by omega) hv0 hv24 hv (has_end0 ns) (has_end1 ns) (by rw [top_end0];exact hv24) (by rw [top_end1];exact hv24)
    exact ⟨h.good,h.ext,h.has,fun f=>by rw [h.sem f,sem_true,sem_false];cases f v.toNat <;> rfl,by have:=h.len;omega,by have:=h.cnt;omega,by have:=h.tight;omega⟩
  | false =>
    rw [if_neg (by simp)]
    have h:=nodeF_ok hg (v:=v) (l:=1) (h:=0) (by omega) hv0 hv24 hv (has_end1 ns) (has_end0 ns) (by rw [top_end1];exact hv24) (by rw [top_end0];exact hv24)
    exact ⟨h.good,h.ext,h.has,fun f=>by rw [h.sem f,sem_true,sem_false];cases f v.toNat <;> rfl,by have:=h.len;omega,by have:=h.cnt;omega,by have:=h.tight;omega⟩
end
end Go.Proofs.YtiihalknffbjpaaGreatDoor.Bd
namespace Go.Proofs.YtiihalknffbjpaaGreatDoor.Bd
open Go.RowKit Go.Maps
theorem markF_real {ns:List Nd} (hr:Ranked ns):∀ (d:Nat) (h:Int) (m:List Bool),m.length=ns.length->(∀ i,mk m i=true->(nd ns i).v<24)->∀ i,mk (markF d ns h m) i=true->(nd ns i).v<24
  | 0,_,_,_,hm=>hm
  | d + 1,h,m,hl,hm=>by
    unfold markF
    split
    · exact hm
    · rename_i hn
      obtain ⟨b1,b2,b3⟩:=topOf_node (not_or.1 hn).1
      have b4:=(topOf_le hr h).2
      have b5:=(not_or.1 hn).1
      refine markF_real hr d _ _ (by rw [markF_length,List.length_set,hl]) (markF_real hr d _ _ (by rw [List.length_set,hl]) ?_)
      intro i hi
      rw [mk_set _ _ _ (by omega)] at hi
      by_cases e:i=(h - 2).toNat
      · rw [e];omega
      · rw [decide_eq_false e,Bool.false_or] at hi;exact hm i hi
theorem marksOf_real {ns:List Nd} (hr:Ranked ns) (fs:List Int):∀ i,mk (marksOf ns fs) i=true->(nd ns i).v<24:=by
  have:∀ (fs:List Int) (m:List Bool),m.length=ns.length->(∀ i,mk m i=true->(nd ns i).v<24)->∀ i,mk (fs.foldl (fun m h=>markF 24 ns h m) m) i=true->(nd ns i).v<24:=by
    intro fs
    induction fs with
    | nil=>intro m _ h;exact h
    | cons f fs ih=>intro m hl h;exact ih _ (by rw [markF_length,hl]) (markF_real hr 24 f m hl h)
  exact this fs _ (by simp) (fun i h=>by rw [mk_none] at h;cases h)
theorem marksOf_closed {ns:List Nd} (hr:Ranked ns) (fs:List Int):∀ i,i<ns.length->mk (marksOf ns fs) i=true->MarkedOr ns (marksOf ns fs) (nd ns i).l/\MarkedOr ns (marksOf ns fs) (nd ns i).h:=by
  have:∀ (fs:List Int) (m:List Bool),m.length=ns.length->(∀ i,i<ns.length->mk m i=true->MarkedOr ns m (nd ns i).l/\MarkedOr ns m (nd ns i).h) ->
      ∀ i,i<ns.length->mk (fs.foldl (fun m h=>markF 24 ns h m) m) i=true->MarkedOr ns (fs.foldl (fun m h=>markF 24 ns h m) m) (nd ns i).l/\MarkedOr ns (fs.foldl (fun m h=>markF 24 ns h m) m) (nd ns i).h:=by
    intro fs
    induction fs with
    | nil=>intro m _ h;exact h
    | cons f fs ih =>
      intro m hl h
      refine ih _ (by rw [markF_length,hl]) (fun i hi hm=>?_)
      by_cases h0:mk m i=true
      · exact ⟨(h i hi h0).1.grow hl 24 f,(h i hi h0).2.grow hl 24 f⟩
      · exact (markF_closed hr 24 f m hl (by have:=(topOf_le hr f).1;omega)).2 i hi hm (by simpa using h0)
  exact this fs _ (by simp) (fun i _ h=>by rw [mk_none] at h;cases h)
theorem swept_ranked_any {ns:List Nd} (hr:Ranked ns) (fs:List Int):Ranked (swept ns (marksOf ns fs)):=by
  have hc:=marksOf_closed hr fs
  have hreal:=marksOf_real hr fs
  generalize marksOf ns fs=M at *
  have key:∀ j,j<ns.length->mk M j=true/\nd (swept ns M) j=nd ns j\/mk M j=false/\nd (swept ns M) j=⟨24,0,0⟩:=fun j hj=>by
    rw [swept_at ns M j hj]
    by_cases h:mk M j=true
    · exact .inl ⟨h,by rw [if_pos h]⟩
    · exact .inr ⟨by simpa using h,by rw [if_neg h]⟩
  have child:∀ h,MarkedOr ns M h->hasB ns h=true->topOf (swept ns M) h=topOf ns h/\hasB (swept ns M) h=true:=fun h hm hh=>by
    have e:topOf (swept ns M) h=topOf ns h:=by
      rw [swept_top]
      rcases hm with hm | hm
      · rw [hm];split <;> rfl
      · rw [if_pos hm]
    exact ⟨e,by unfold hasB at *;rw [e];exact hh⟩
  refine ⟨?_,?_,?_,?_⟩ <;> intro j hj <;> rw [swept_length] at hj
  · rcases key j hj with ⟨-,e⟩ | ⟨-,e⟩
    · rw [e];exact hr.v0 j hj
    · rw [e];simp
  · intro hv
    rcases key j hj with ⟨hm,e⟩ | ⟨-,e⟩
    · rw [e]
      have:=hr.l j hj (hreal j hm)
      have hcl:=child _ (hc j hj hm).1 this.2
      rw [hcl.1];exact ⟨this.1,hcl.2⟩
    · rw [e] at hv;simp at hv
  · intro hv
    rcases key j hj with ⟨hm,e⟩ | ⟨-,e⟩
    · rw [e]
      have:=hr.h j hj (hreal j hm)
      have hcl:=child _ (hc j hj hm).2 this.2
      rw [hcl.1];exact ⟨this.1,hcl.2⟩
    · rw [e] at hv;simp at hv
  · rcases key j hj with ⟨-,e⟩ | ⟨-,e⟩
    · rw [e];exact hr.ok j hj
    · rw [e];exact ⟨⟨by decide,by decide⟩,⟨by decide,by decide⟩,⟨by decide,by decide⟩⟩
theorem swept_book {ns:List Nd} {L:List (Nd × Int)} {M:List Bool} (hB:Book ns L):Book (swept ns M) (LTo L M ns.length):=by
  refine ⟨fun p hp=>?_,fun i hi hv=>?_,?_,fun i hi hv=>?_⟩
  · obtain ⟨h1,h2⟩:=List.mem_filter.1 hp
    obtain ⟨i,hi,hv,rfl⟩:=hB.mem p h1
    simp only [show (2 + (i:Int) - 2).toNat=i by omega,decide_eq_false (show ¬ ns.length<=i by omega),Bool.false_or] at h2
    refine ⟨i,by rw [swept_length];exact hi,?_,?_⟩ <;> rw [swept_at ns M i hi,if_pos h2]
    exact hv
  · rw [swept_length] at hi
    rw [swept_at ns M i hi] at hv ⊢
    by_cases hm:mk M i=true
    · rw [if_pos hm] at hv ⊢
      exact List.mem_filter.2 ⟨hB.all i hi hv,by simp only [show (2 + (i:Int) - 2).toNat=i by omega,hm,Bool.or_true]⟩
    · rw [if_neg hm] at hv;simp at hv
  · exact hB.nodup.sublist (List.filter_sublist.map _)
  · rw [swept_length] at hi
    rw [swept_at ns M i hi] at hv ⊢
    by_cases hm:mk M i=true
    · rw [if_pos hm] at hv ⊢;exact hB.free i hi hv
    · rw [if_neg hm]
def taken (ns:List Nd):List Nat:=(List.range ns.length).filter fun i=>decide ((nd ns i).v<24)
theorem book_len {ns:List Nd} {L:List (Nd × Int)} (hB:Book ns L):L.length=(taken ns).length:=by
  have hp:L.Perm ((taken ns).map fun i:Nat=>(nd ns i,2 + (i:Int))):=by
    refine (List.perm_ext_iff_of_nodup (List.Pairwise.of_map Prod.fst (fun a b h e=>h (e ▸ rfl)) hB.nodup) (List.Pairwise.map _ (fun a b h e=>h (by have:=(Prod.mk.inj e).2;omega)) (List.nodup_range.filter _))).2 fun p=>?_
    rw [List.mem_map]
    constructor
    · intro h
      obtain ⟨i,hi,hv,rfl⟩:=hB.mem p h
      exact ⟨i,List.mem_filter.2 ⟨List.mem_range.2 hi,by simpa using hv⟩,rfl⟩
    · rintro ⟨i,hi,rfl⟩
      obtain ⟨h1,h2⟩:=List.mem_filter.1 hi
      exact hB.all i (List.mem_range.1 h1) (by simpa using h2)
  rw [hp.length_eq,List.length_map]
theorem taken_le (ns:List Nd):(taken ns).length<=ns.length:=by
  unfold taken
  exact Nat.le_trans (List.length_filter_le _ _) (by simp)
end Go.Proofs.YtiihalknffbjpaaGreatDoor.Bd
namespace Go.Proofs.YtiihalknffbjpaaGreatDoor.Bd
open Go.RowKit Go.Maps
section
variable {ns:List Nd} {vars:Nat}
theorem marksOf_in (hr:Ranked ns) (fs:List Int):∀ h ∈ fs,MarkedOr ns (marksOf ns fs) h:=by
  have:∀ (fs:List Int) (m:List Bool),m.length=ns.length->∀ h,(h ∈ fs\/MarkedOr ns m h)->MarkedOr ns (fs.foldl (fun m h=>markF 24 ns h m) m) h:=by
    intro fs
    induction fs with
    | nil=>intro m _ h hh;exact hh.elim (fun h=>by cases h) id
    | cons f fs ih =>
      intro m hl h hh
      refine ih _ (by rw [markF_length,hl]) h ?_
      rcases hh with hh | hh
      · rcases List.mem_cons.1 hh with rfl | hh
        · exact .inr (markF_closed hr 24 h m hl (by have:=(topOf_le hr h).1;omega)).1
        · exact .inl hh
      · exact .inr (hh.grow hl 24 f)
  exact fun h hh=>this fs _ (by simp) h (.inl hh)
theorem swept_node {M:List Bool} {h:Int} (hm:MarkedOr ns M h):topOf (swept ns M) h=topOf ns h/\(topOf ns h ≠ 24->nd (swept ns M) (pl h)=nd ns (pl h)):=by
  have e:topOf (swept ns M) h=topOf ns h:=by
    rw [swept_top]
    rcases hm with hm | hm
    · rw [hm];split <;> rfl
    · rw [if_pos hm]
  refine ⟨e,fun ht=>?_⟩
  rcases hm with hm | hm
  · exact absurd hm ht
  · rw [swept_at ns M _ (node_at ht).2.1,if_pos (show mk M (pl h)=true from hm)]
theorem swept_good (hg:Good vars ns) (fs:List Int):Good vars (swept ns (marksOf ns fs)):=by
  have hr:=swept_ranked_any hg.ranked fs
  generalize marksOf ns fs=M at *
  have key:∀ j,j<ns.length->mk M j=true/\nd (swept ns M) j=nd ns j\/nd (swept ns M) j=⟨24,0,0⟩:=fun j hj=>by
    rw [swept_at ns M j hj]
    by_cases h:mk M j=true
    · exact .inl ⟨h,by rw [if_pos h]⟩
    · exact .inr (by rw [if_neg h])
  refine ⟨hr,fun i j hi hj hv e=>?_,fun i hi hv=>?_,fun i hi hv=>?_,fun i hi hv=>?_⟩
  · rw [swept_length] at hi hj
    rcases key i hi with ⟨-,e1⟩ | e1 <;> rw [e1] at hv e
    · rcases key j hj with ⟨-,e2⟩ | e2 <;> rw [e2] at e
      · exact hg.once i j hi hj hv e
      · rw [e] at hv;simp at hv
    · simp at hv
  · rw [swept_length] at hi
    rcases key i hi with ⟨-,e1⟩ | e1 <;> rw [e1] at hv ⊢
    · exact hg.red i hi hv
    · simp at hv
  · rw [swept_length] at hi
    rcases key i hi with ⟨-,e1⟩ | e1 <;> rw [e1] at hv ⊢
    · exact hg.vars i hi hv
    · simp at hv
  · rw [swept_length] at hi
    rcases key i hi with ⟨-,e1⟩ | e1 <;> rw [e1] at hv ⊢
    exact hg.free i hi hv
theorem semF_swept (hr:Ranked ns) (fs:List Int) (f:Nat->Bool):∀ (d:Nat) (h:Int),MarkedOr ns (marksOf ns fs) h->semF d (swept ns (marksOf ns fs)) h f=semF d ns h f
  | 0,_,_=>rfl
  | d + 1,h,hm=>by
    obtain ⟨e1,e2⟩:=swept_node hm
    unfold semF
    rw [e1]
    by_cases ht:topOf ns h=24
    · rw [if_pos ht,if_pos ht]
    · have hk:=marksOf_closed hr fs (pl h) (node_at ht).2.1 (hm.resolve_left ht)
      rw [if_neg ht,if_neg ht,e2 ht,semF_swept hr fs f d _ hk.1,semF_swept hr fs f d _ hk.2]
theorem swept_kept (hg:Good vars ns) {fs:List Int} {h:Int} (hh:h ∈ fs) (hb:hasB ns h=true):hasB (swept ns (marksOf ns fs)) h=true/\∀ f,sem (swept ns (marksOf ns fs)) h f=sem ns h f:=by
  have hm:=marksOf_in hg.ranked fs h hh
  refine ⟨?_,fun f=>semF_swept hg.ranked fs f 24 h hm⟩
  unfold hasB;rw [(swept_node hm).1];exact hb
end
abbrev Fn':Type:=(Nat->Bool)->Bool
end Go.Proofs.YtiihalknffbjpaaGreatDoor.Bd
