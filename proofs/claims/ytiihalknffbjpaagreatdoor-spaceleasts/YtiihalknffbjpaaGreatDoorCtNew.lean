/- New. -/
import Derived.Test.YtiihalknffbjpaaGreatDoorCtSmall
import Derived.Shelf.SlSortCmp.NoneTotal
import Derived.Test.YtiihalknffbjpaaGreatDoorCtGathW
import Derived.Test.YtiihalknffbjpaaGreatDoorSvOut
set_option maxHeartbeats 4000000
set_option maxRecDepth 100000
namespace Go.Proofs.YtiihalknffbjpaaGreatDoor
section
open Go.Shelf Go.Lib Go.Sort Sv
theorem ord_swo {α:Type} {c:α->α->Int} (anti:∀ x y,c y x=-c x y) (eq0:∀ x y,c x y=0->x=y) (tr:∀ x y z,c x y<0->c y z<0->c x z<0):SWO (ltOf c) where
 irrefl x:=by have:=anti x x;unfold ltOf;simp;omega
 trans x y z h1 h2:=by unfold ltOf at *;simp at *;exact tr x y z h1 h2
 ntrans x y z h1 h2:=by
  unfold ltOf at *
  simp at *
  by_cases h:c x z<0
  ·exfalso
   by_cases e:c x y=0
   ·have:=eq0 x y e;subst this;omega
   ·have h3:c y x<0:=by rw [anti];omega
    have:=tr y x z h3 h
    omega
  ·omega
theorem ord_total {α:Type} {c:α->α->Int} (anti:∀ x y,c y x=-c x y) (eq0:∀ x y,c x y=0->x=y):∀ x y,ltOf c x y=false->ltOf c y x=false->x=y:=by
 intro x y h1 h2
 unfold ltOf at *
 simp at *
 have:=anti x y
 exact eq0 x y (by omega)
theorem cb_anti:∀ a b:List UInt8,compareBytes b a=-compareBytes a b
 | [],[]=>rfl
 | [],_ :: _=>rfl
 | _ :: _,[]=>rfl
 | x :: a,y :: b=>by
  rw [compareBytes,compareBytes]
  by_cases h:x<y
  ·have h':¬ y<x:=fun h2=>absurd (UInt8.lt_trans h h2) (UInt8.lt_irrefl _)
   rw [if_pos h,if_neg h',if_pos h];rfl
  ·by_cases h':y<x
   ·rw [if_pos h',if_neg h,if_pos h']
   ·rw [if_neg h,if_neg h',if_neg h',if_neg h];exact cb_anti a b
theorem u8_eq {x y:UInt8} (h:¬ x<y) (h':¬ y<x):x=y:=UInt8.le_antisymm (UInt8.not_lt.1 h') (UInt8.not_lt.1 h)
theorem cb_eq:∀ a b:List UInt8,compareBytes a b=0->a=b
 | [],[],_=>rfl
 | [],_ :: _,h=>by cases h
 | _ :: _,[],h=>by cases h
 | x :: a,y :: b,h=>by
  rw [compareBytes] at h
  by_cases h1:x<y
  ·rw [if_pos h1] at h;cases h
  ·by_cases h2:y<x
   ·rw [if_neg h1,if_pos h2] at h;cases h
   ·rw [if_neg h1,if_neg h2] at h
    rw [u8_eq h1 h2,cb_eq a b h]
theorem cb_trans:∀ a b c:List UInt8,compareBytes a b<0->compareBytes b c<0->compareBytes a c<0
 | [],_,[],h1,h2=>by
  rename_i b
  cases b with
  | nil=>exact h1
  | cons y b=>exact absurd (show (1:Int)<0 from h2) (by decide)
 | [],_,_ :: _,_,_=>show (-1:Int)<0 by decide
 | _ :: _,[],_,h1,_=>absurd (show (1:Int)<0 from h1) (by decide)
 | _ :: _,_ :: _,[],_,h2=>absurd (show (1:Int)<0 from h2) (by decide)
 | x :: a,y :: b,z :: c,h1,h2=>by
  rw [compareBytes] at h1 h2 ⊢
  by_cases xy:x<y
  ·by_cases yz:y<z
   ·rw [if_pos (UInt8.lt_trans xy yz)];decide
   ·by_cases zy:z<y
    ·rw [if_neg yz,if_pos zy] at h2;exact absurd h2 (by decide)
    ·rw [<- u8_eq yz zy,if_pos xy];decide
  ·by_cases yx:y<x
   ·rw [if_neg xy,if_pos yx] at h1;exact absurd h1 (by decide)
   ·rw [if_neg xy,if_neg yx] at h1
    have e:=u8_eq xy yx
    subst e
    by_cases yz:x<z
    ·rw [if_pos yz];decide
    ·by_cases zy:z<x
     ·rw [if_neg yz,if_pos zy] at h2;exact absurd h2 (by decide)
     ·rw [if_neg yz,if_neg zy] at h2 ⊢
      exact cb_trans a b c h1 h2
theorem cmp3_val (a b c d e f:Int):cmp3 (tI a b c) (tI d e f) 3=if a<d then -1 else if d<a then 1 else if b<e then -1 else if e<b then 1 else if c<f then -1 else if f<c then 1 else 0:=by
 show (if cmpI a d ≠ 0 then cmpI a d else if cmpI b e ≠ 0 then cmpI b e else if cmpI c f ≠ 0 then cmpI c f else 0)=_
 unfold cmpI
 by_cases h1:a<d
 ·simp [h1]
 ·by_cases h2:d<a
  ·simp [h1,h2]
  ·by_cases h3:b<e
   ·simp [h1,h2,h3]
   ·by_cases h4:e<b
    ·simp [h1,h2,h3,h4]
    ·by_cases h5:c<f
     ·simp [h1,h2,h3,h4,h5]
     ·by_cases h6:f<c <;> simp [h1,h2,h3,h4,h5,h6]
theorem cmp3_neg (a b c d e f:Int):cmp3 (tI a b c) (tI d e f) 3<0 ↔ (a<d\/(a=d/\(b<e\/(b=e/\c<f)))):=by
 rw [cmp3_val]
 repeat' split
 all_goals omega
theorem cmp3_zero (a b c d e f:Int):cmp3 (tI a b c) (tI d e f) 3=0 ↔ (a=d/\b=e/\c=f):=by
 rw [cmp3_val]
 repeat' split
 all_goals omega
theorem cmp3_anti (a b c d e f:Int):cmp3 (tI d e f) (tI a b c) 3=-cmp3 (tI a b c) (tI d e f) 3:=by
 rw [cmp3_val,cmp3_val]
 by_cases h1:a<d
 ·have:¬ d<a:=by omega
  simp [h1,this]
 ·by_cases h2:d<a
  ·simp [h1,h2]
  ·by_cases h3:b<e
   ·have:¬ e<b:=by omega
    simp [h1,h2,h3,this]
   ·by_cases h4:e<b
    ·simp [h1,h2,h3,h4]
    ·by_cases h5:c<f
     ·have:¬ f<c:=by omega
      simp [h1,h2,h3,h4,h5,this]
     ·by_cases h6:f<c <;> simp [h1,h2,h3,h4,h5,h6]
theorem nm_eq {x y:It}:x.name.toList=y.name.toList ↔ x.name.data.toList=y.name.data.toList:=by rw [ByteArray.toList_eq,ByteArray.toList_eq]
theorem ctCmp_anti (x y:It):ctCmp y x=-ctCmp x y:=by
 unfold ctCmp
 by_cases h:x.name.toList=y.name.toList
 ·rw [if_pos h,if_pos h.symm];exact cmp3_anti _ _ _ _ _ _
 ·rw [if_neg h,if_neg (fun e=>h e.symm)];exact cb_anti _ _
theorem ctCmp_eq (x y:It) (h:ctCmp x y=0):x=y:=by
 unfold ctCmp at h
 by_cases e:x.name.toList=y.name.toList
 ·rw [if_pos e,cmp3_zero] at h
  obtain ⟨n,a,b,c⟩:=x
  obtain ⟨n',a',b',c'⟩:=y
  obtain rfl:n=n':=bytes_eq e
  obtain ⟨h1,h2,h3⟩:=h
  simp only at h1 h2 h3
  subst h1 h2 h3
  rfl
 ·rw [if_neg e] at h
  exact absurd (nm_eq.2 (cb_eq _ _ h)) e
theorem ctCmp_trans (x y z:It) (h1:ctCmp x y<0) (h2:ctCmp y z<0):ctCmp x z<0:=by
 unfold ctCmp at *
 by_cases e1:x.name.toList=y.name.toList
 ·by_cases e2:y.name.toList=z.name.toList
  ·rw [if_pos e1,cmp3_neg] at h1
   rw [if_pos e2,cmp3_neg] at h2
   rw [if_pos (e1.trans e2),cmp3_neg]
   omega
  ·rw [if_neg e2] at h2
   rw [if_neg (fun e=>e2 (e1.symm.trans e)),nm_eq.1 e1]
   exact h2
 ·by_cases e2:y.name.toList=z.name.toList
  ·rw [if_neg e1] at h1
   rw [if_neg (fun e=>e1 (e.trans e2.symm)),<- nm_eq.1 e2]
   exact h1
  ·rw [if_neg e1] at h1
   rw [if_neg e2] at h2
   by_cases e3:x.name.toList=z.name.toList
   ·exfalso
    rw [<- nm_eq.1 e3,cb_anti] at h2
    omega
   ·rw [if_neg e3]
    exact cb_trans _ _ _ h1 h2
theorem ctSwo:SWO (ltOf ctCmp):=ord_swo ctCmp_anti ctCmp_eq ctCmp_trans
theorem ctTotal:∀ x y,ltOf ctCmp x y=false->ltOf ctCmp y x=false->x=y:=ord_total ctCmp_anti ctCmp_eq
theorem sortF_perm (l:List It):(sortF l).Perm l:=List.mergeSort_perm _ _
theorem sortF_len (l:List It):(sortF l).length=l.length:=(sortF_perm l).length_eq
end
section
open Go.RowKit Go.Shelf Go.Lib Go.Sort Sv
theorem cmpc_any (x y:It) (W:World) :
  Calls Tryz.prog 266 #[.agg #[.string x.name,.int .i64 x.a,.int .i64 x.b,.int .i64 x.c],.agg #[.string y.name,.int .i64 y.a,.int .i64 y.b,.int .i64 y.c]] W fun e w'=>e=.returned (.int .i64 (ctCmp x y))/\Gr W w':=by
 have hg:Gr W ((W.alloc (.cells #[.string x.name,.int .i64 x.a,.int .i64 x.b,.int .i64 x.c] 114)).alloc (.cells #[.string y.name,.int .i64 y.a,.int .i64 y.b,.int .i64 y.c] 114)):=((Gr.refl W).alloc _).alloc _
 have HG:=Lib.hid hg
 clear hg
 have HV:Hid (∀ W',Calls Tryz.prog 267 #[.agg #[.int .i64 y.a,.int .i64 y.b,.int .i64 y.c],.agg #[.int .i64 x.a,.int .i64 x.b,.int .i64 x.c]] W' fun r w'=>r=.returned (.int .i64 (cmp3 (tI y.a y.b y.c) (tI x.a x.b x.c) 3))/\Gr W' w'):=fun W'=>cmpw_gr y.a y.b y.c x.a x.b x.c W'
 have HN:Hid (∀ W',Calls Tryz.prog 268 #[.string x.name,.string y.name] W' fun r w'=>r=.returned (.int .i64 (compareBytes x.name.data.toList y.name.data.toList))/\w'=W'):=fun W'=>Tryz.strings_Compare x.name y.name W'
 by_cases h:x.name.toList=y.name.toList
 ·have HC:Hid (ctCmp x y=cmp3 (tI y.a y.b y.c) (tI x.a x.b x.c) 3):=by show _=_;unfold ctCmp;rw [if_pos h]
  have hb:(x.name.toList == y.name.toList)=true:=by rw [h];exact beq_self_eq_true _
  clear h HN
  generalize cmp3 (tI y.a y.b y.c) (tI x.a x.b x.c) 3=Z at *
  go_enter Tryz.func266,Tryz.ntmps266
  go_wp2_with fail
  refine (HV.out _).mono ?_
  rintro e w1 ⟨rfl,hg1⟩
  have HG1:Hid (Gr W w1):=HG.out.trans hg1
  clear hg1 HG HV
  go_wp2
  go_ret
  exact ⟨by rw [HC.out];rfl,HG1.out⟩
 ·have HC:Hid (ctCmp x y=compareBytes x.name.data.toList y.name.data.toList):=by show _=_;unfold ctCmp;rw [if_neg h]
  have hb:(x.name.toList == y.name.toList)=false:=by rw [beq_eq_false_iff_ne];exact h
  clear h HV
  generalize compareBytes x.name.data.toList y.name.data.toList=Z at *
  go_enter Tryz.func266,Tryz.ntmps266
  go_wp2_with fail
  refine (HN.out _).mono ?_
  rintro e w1 ⟨rfl,rfl⟩
  clear HN
  go_wp2
  go_ret
  exact ⟨by rw [HC.out];rfl,HG.out⟩
theorem cmpLays (blk off size:Nat) (w:World):CmpLays Tryz.prog 266 #[] encIt 4 ctCmp blk off size w :=
 fun _ _ _ _ x y=>cmpc_any x y _
theorem flat_its (l:List It):flatK encIt 4 l.toArray=(itCells l).toArray:=by
 apply Array.ext_getElem?
 intro t
 by_cases ht:t<l.length * 4
 ·have h1:t<(flatK encIt 4 l.toArray).size:=by rw [size_flatK];simpa using ht
  have hj:t / 4<l.length:=by omega
  have h2:(itCells l)[t]?=some ((encIt (l.getD (t / 4) default))[t % 4]!):=by
   have hlt:t % 4<(encIt (l.getD (t / 4) default)).length:=by simp [encIt];omega
   have:=itCells_at l (t / 4) hj (t % 4) _ (List.getElem?_eq_getElem hlt)
   rw [show t / 4 * 4 + t % 4=t by omega] at this
   rw [this,getElem!_pos (encIt (l.getD (t / 4) default)) (t % 4) hlt]
  have e1:(flatK encIt 4 l.toArray)[t]?=some ((flatK encIt 4 l.toArray)[t]!):=by rw [Array.getElem?_eq_getElem h1,getElem!_pos (flatK encIt 4 l.toArray) t h1]
  have e2:(itCells l).toArray[t]?=(itCells l)[t]?:=by simp
  have e3:l.toArray[t / 4]! = l.getD (t / 4) default:=by
   rw [getElem!_pos l.toArray (t / 4) (by simpa using hj),List.getD_eq_getElem?_getD,List.getElem?_eq_getElem hj];rfl
  rw [e1,get_flatK encIt 4 _ t (by simpa using ht),e2,h2,e3]
 ·rw [Array.getElem?_eq_none (by rw [size_flatK];simpa using ht),Array.getElem?_eq_none (by simp [itCells_length];omega)]
theorem sort_any (l:List It) (v:Value) (B:Nat) (w:World) (h:w.ownsRow B 114 4 v l.length (itCells l)) (hl:l.length<=100000) :
  Calls Tryz.prog 200 #[v] w fun e w'=>e=.returned (.tuple #[])/\w'.ownsRow B 114 4 v l.length (itCells (sortF l))/\Below B w w':=by
 have H:Hid (Calls Tryz.prog 265 #[v,.func (.func 266) #[] #[]] w fun e w'=>e=.returned (.tuple #[])/\w'.ownsRow B 114 4 v l.length (itCells (sortF l))/\Below B w w'):=by
  rcases h.2 with ⟨rfl,e0⟩ | ⟨g,cap,cur,rfl,hB,hg,hn,hm,hsz,htake⟩
  ·obtain rfl:l=[]:=List.eq_nil_of_length_eq_zero e0
   refine (AnyF.slices_SortFunc_none Tryz.sortItem none 0 _ w).mono fun e w' ⟨he,hw⟩=>⟨he,?_,by rw [hw];exact Below.refl _ _⟩
   rw [hw,show sortF []=[] by unfold sortF;simp];exact h
  ·have eg:∀ args w,(callFunc 266 args).run Tryz.prog w=.ok (.enter 266 args) w:=enters_of Tryz.func266 (by kernel_rfl) rfl
   have hlt:g<w.heap.size:=(Array.getElem?_eq_some_iff.1 hg).1
   have hH:HoldsK encIt 4 w g 0 l.toArray:=by
    intro j hj
    rw [size_flatK] at hj
    have hj':j<l.length * 4:=by simpa using hj
    rw [flat_its]
    have hjl:j<(itCells l).length:=by rw [itCells_length];exact hj'
    rw [getElem!_pos _ j (by simpa using hjl)]
    constructor
    ·rw [Nat.zero_add]
     have hc:cur[j]?=(itCells l)[j]?:=by
      rw [<- htake,List.getElem?_take,if_pos hj',Array.getElem?_toList]
     show w.cell? _=some (itCells l)[j]
     simp [World.cell?,hg,hc,List.getElem?_eq_getElem hjl]
    ·simp [World.frozen?,hg]
   refine (AnyQ.slices_SortFunc_total Tryz.sortItem 4 Tryz.isAgg114 Tryz.sizeOf114 encIt (fun _=>rfl) (fun x u hu=>one_it [x] u (by simpa [itCells] using hu)) ctCmp ctSwo 266 #[] g 0 cap l.toArray w eg (cmpLays g 0 _ w) hH hlt (by simp;omega) ctTotal).mono fun e w' ⟨he,n,os,hw⟩=>⟨he,?_⟩
   have hw2:w'=grow (putRow id (Sort.ahead w n) g 0 ((itCells (sortF l)).toArray)) os:=by
    rw [hw,<- flat_its];rfl
   have hblk:w'.heap[g]?=some (.cells (putCells id 0 (itCells (sortF l)).toArray cur) 114 (0,0)):=by
    rw [hw2]
    show ((putRow id (Sort.ahead w n) g 0 ((itCells (sortF l)).toArray)).heap++os)[g]?=_
    rw [Array.getElem?_append_left (by simp [putRow,mapBlock,Sort.ahead];exact hlt)]
    simp [putRow,mapBlock,Sort.ahead,Array.getElem?_modify,hg,onCells]
   refine ⟨⟨by rw [itCells_length,sortF_len],Or.inr ⟨g,cap,_,rfl,hB,hblk,hn,hm,by simp [putCells,hsz],?_⟩⟩,?_⟩
   ·apply List.ext_getElem?
    intro t
    rw [List.getElem?_take]
    have hlen:(itCells (sortF l)).length=l.length * 4:=by rw [itCells_length,sortF_len]
    by_cases ht:t<l.length * 4
    ·have htc:t<cur.size:=by rw [hsz];omega
     rw [if_pos ht,Array.getElem?_toList]
     simp only [putCells,Array.getElem?_mapIdx,Array.getElem?_eq_getElem htc,Option.map_some]
     rw [if_pos ⟨Nat.zero_le _,by simp [hlen];exact ht⟩,Nat.sub_zero,getElem!_pos _ t (by simp [hlen];exact ht),List.getElem?_eq_getElem (by rw [hlen];exact ht)]
     rfl
    ·rw [if_neg ht,List.getElem?_eq_none (by rw [hlen];omega)]
   ·rw [hw2]
    refine ⟨rfl,rfl,rfl,by simp [grow,putRow,mapBlock,Sort.ahead],fun k hk=>?_⟩
    show ((putRow id (Sort.ahead w n) g 0 ((itCells (sortF l)).toArray)).heap++os)[k]?=_
    have hkw:(putRow id (Sort.ahead w n) g 0 ((itCells (sortF l)).toArray)).heap[k]?=w.heap[k]?:=by
     simp only [putRow,mapBlock,Sort.ahead,Array.getElem?_modify]
     rw [if_neg (by omega)]
    rcases Nat.lt_or_ge k w.heap.size with hkl | hkl
    ·rw [Array.getElem?_append_left (by simp [putRow,mapBlock,Sort.ahead];exact hkl),hkw]
    ·exfalso;omega
 obtain ⟨a,cap,rfl,-⟩:=(rowAt_own h).form
 clear h
 go_enter Tryz.func200,Tryz.ntmps200
 go_wp2_with fail
 refine H.out.mono ?_
 rintro e w1 ⟨rfl,h1,h2⟩
 have H1:=Lib.hid h1
 have H2:=Lib.hid h2
 clear h1 h2 H
 go_wp2
 go_end0
 exact ⟨rfl,H1.out,H2.out⟩
end
section
open Go.RowKit Go.Deep Sv
def CatAt (w:World) (b:Nat) (ls:List Ln) (its:List It):Prop :=
 ∃ lv iv bm,Blk w b 228 #[lv,iv,.map (some bm)]/\LnsAt w lv ls/\ItsAt w iv its/\RowsAt w bm (ctRowO its) its.length
theorem CatAt.below {B:Nat} {w w':World} {b:Nat} {ls:List Ln} {its:List It} (h:CatAt w b ls its) (hb:Below B w w') (hB:w.heap.size<=B):CatAt w' b ls its:=by
 obtain ⟨lv,iv,bm,h1,h2,h3,h4⟩:=h
 exact ⟨lv,iv,bm,h1.below hb (Nat.lt_of_lt_of_le h1.lt hB),h2.below hb hB,h3.below hb hB,h4.below hb hB⟩
def CatV (w:World) (b:Nat) (ls:List Ln) (vs:List Value) (its:List It) (B:Nat):Prop :=
 ∃ lv iv bm,Blk w b 228 #[lv,iv,.map (some bm)]/\RgsAt w ls vs/\RowAt w lv ls.length (lnCells ls vs)/\ItsAt w iv its/\RowsAt w bm (ctRowO its) its.length/\B<=b/\B<=bm/\(∀ g,lv.ownBlock=some g->B<=g)/\(∀ g,iv.ownBlock=some g->B<=g)
theorem CatV.cat {w:World} {b:Nat} {ls:List Ln} {vs:List Value} {its:List It} {B:Nat} (h:CatV w b ls vs its B):CatAt w b ls its:=by
 obtain ⟨lv,iv,bm,h1,h2,h3,h4,h5,-⟩:=h
 exact ⟨lv,iv,bm,h1,⟨vs,h2,h3⟩,h4,h5⟩
theorem CatV.below {B':Nat} {w w':World} {b:Nat} {ls:List Ln} {vs:List Value} {its:List It} {B:Nat} (h:CatV w b ls vs its B) (hb:Below B' w w') (hB:w.heap.size<=B'):CatV w' b ls vs its B:=by
 obtain ⟨lv,iv,bm,h1,h2,h3,h4,h5,h6⟩:=h
 exact ⟨lv,iv,bm,h1.below hb (Nat.lt_of_lt_of_le h1.lt hB),h2.below hb hB,h3.below hb hB,h4.below hb hB,h5.below hb hB,h6⟩
theorem RowAt.set {w:World} {v x:Value} {n b i:Nat} {cs:List Value} (h:RowAt w v n cs) (hn:∀ g,v.ownBlock=some g->g ≠ b):RowAt (w.setCell ⟨b,i,none⟩ x) v n cs :=
 ⟨h.form,fun h0=>by
  obtain ⟨g,cap,e,hg,hc⟩:=h.cells h0
  have hne:=hn g (by rw [e];rfl)
  exact ⟨g,cap,e,by simp [World.setCell];exact hg,fun j u hu=>by unfold World.cell?;rw [Below.heap_setCell _ _ _ g hne];exact hc j u hu⟩⟩
theorem RowAt.put {w:World} {v:Value} {n l:Nat} {cs:List Value} {o o':Obj} (h:RowAt w v n cs) (hl:w.heap[l]?=some o) (hc:o.isCells=false) (hcs:cs.length=0->n=0):RowAt (w.putObj l o') v n cs :=
 ⟨h.form,fun h0=>by
  obtain ⟨g,cap,e,hg,hcl⟩:=h.cells h0
  have hne:g ≠ l:=by
   rintro rfl
   have hcp:0<cs.length:=by
    rcases Nat.eq_zero_or_pos cs.length with h | h
    ·have:=hcs h;omega
    ·exact h
   have:=hcl 0 _ (List.getElem?_eq_getElem hcp)
   unfold World.cell? at this
   rw [hl] at this
   cases o <;> simp [Obj.isCells] at hc this
  exact ⟨g,cap,e,by simp [World.putObj];exact hg,fun j u hu=>by unfold World.cell?;rw [World.putObj_heap_other hne];exact hcl j u hu⟩⟩
theorem number_c (bk:Nat) (ls:List Ln) (its:List It) (name:ByteArray) (a b c:Int) (w:World) (h:CatAt w bk ls its) (hl:its.length<=100000) :
  Calls Tryz.prog 119 #[.pointer (some ⟨bk,0,none⟩),.string name,.agg #[.int .i64 a,.int .i64 b,.int .i64 c]] w fun e w'=>e=.returned (.int .i64 (ctNumb its ⟨name,a,b,c⟩))/\Below w.heap.size w w':=by
 obtain ⟨lv,iv,bm,h1,h2,h3,h4⟩:=h
 obtain ⟨la,lc,rfl,-⟩:∃ la lc,lv=.slice la ls.length lc/\True:=by obtain ⟨vs,_,h2⟩:=h2;obtain ⟨x,y,e,_⟩:=h2.form;exact ⟨x,y,e,trivial⟩
 obtain ⟨va,vc,rfl,-⟩:=h3.form
 have HI:Hid (∀ W,Below w.heap.size w W->Calls Tryz.prog 195 #[.slice va its.length vc,.agg #[.string name,.int .i64 a,.int .i64 b,.int .i64 c]] W fun e w'=>e=.returned (.int .i64 (ctNumb its ⟨name,a,b,c⟩))/\Below W.heap.size W w'):=fun W hW=>ix_item its ⟨name,a,b,c⟩ _ W (h3.below hW (Nat.le_refl _)) hl
 have kv:=Blk.new w 84 #[.int .i64 a,.int .i64 b,.int .i64 c]
 have hb0:Below w.heap.size w (w.alloc (.cells #[.int .i64 a,.int .i64 b,.int .i64 c] 84)):=(Below.refl _ w).alloc (Nat.le_refl _) _
 have k1:=h1.below hb0 h1.lt
 clear h1 h2 h3 h4 hl
 generalize ctNumb its ⟨name,a,b,c⟩=Z at *
 go_enter Tryz.func119,Tryz.ntmps119
 go_wp2_with fail
 have D0:Below w.heap.size w (w.alloc (.cells #[.int .i64 a,.int .i64 b,.int .i64 c] 84)).drew:=hb0.drew
 generalize w.alloc (.cells #[.int .i64 a,.int .i64 b,.int .i64 c] 84)=W0 at *
 have SC:Hid (∀ W,Below W0.heap.size W0 W->W.cell? ⟨bk,1,none⟩=some (.slice va its.length vc)/\W.cell? ⟨w.heap.size,0,none⟩=some (.int .i64 a)/\W.cell? ⟨w.heap.size,1,none⟩=some (.int .i64 b)/\W.cell? ⟨w.heap.size,2,none⟩=some (.int .i64 c)):=fun W h=>⟨(k1.below h k1.lt).cell 1,(kv.below h kv.lt).cell 0,(kv.below h kv.lt).cell 1,(kv.below h kv.lt).cell 2⟩
 have E0:Below W0.heap.size W0 W0.drew:=(Below.refl _ _).drew
 clear kv k1
 go_region_held3 (fun W=>W.cell? ⟨bk,1,none⟩=some (.slice va its.length vc)/\W.cell? ⟨w.heap.size,0,none⟩=some (.int .i64 a)/\W.cell? ⟨w.heap.size,1,none⟩=some (.int .i64 b)/\W.cell? ⟨w.heap.size,2,none⟩=some (.int .i64 c)) (first | exact SC.out _ E0 | exact SC.out _ E1)
  (((with_reducible refine (HI.out _ D0).mono ?_);rintro e x1 ⟨rfl,hb1⟩;have E1:Below W0.heap.size W0 x1:=E0.trans (hb1.mono E0.size);have D1:Below w.heap.size w x1:=D0.trans (hb1.mono D0.size);clear HI D0 E0 hb1))
 have HB1:=Lib.hid D1
 clear D1 E1
 go_wp2
 go_ret
 exact ⟨rfl,HB1.out⟩
def NewRes (w:World) (ls:List Ln) (vs:List Value) (r:Except (Int × Option Nat) (List It)) (e:Ending) (w':World):Prop :=
 match r with
 | .ok its=>∃ bc,e=.returned (.tuple #[.pointer (some ⟨bc,0,none⟩),.nilIface])/\CatV w' bc ls vs its w.heap.size/\Below w.heap.size w w'
 | .error (k,p)=>∃ er,e=.returned (.tuple #[.pointer none,er])/\ErrP w' er k p/\Below w.heap.size w w'
theorem gathF_ok {P:It->Prop}:∀ (ls:List Ln) (i:Nat) (its out:List It),gathF ls i its=.ok out->(∀ x ∈ its,P x)->(∀ x:Ln,ctCheck x=0->P x.it)->(∀ x ∈ out,P x)/\out.length<=its.length + ls.length
 | [],i,its,out,h,h1,_=>by cases h;exact ⟨h1,by simp⟩
 | x :: r,i,its,out,h,h1,h2=>by
  rw [gathF] at h
  by_cases hz:ctCheck x=0
  ·rw [if_neg (fun h=>h hz)] at h
   by_cases hk:x.kind=1
   ·rw [if_pos hk] at h
    split at h
    ·cases h
    ·split at h
     ·cases h
     ·have:=gathF_ok r (i + 1) (its++[x.it]) out h (fun y hy=>by
       rcases List.mem_append.1 hy with hy | hy
       ·exact h1 y hy
       ·rw [List.mem_singleton] at hy;subst hy;exact h2 x hz) h2
      refine ⟨this.1,?_⟩
      have h3:=this.2
      simp at h3 ⊢;omega
   ·rw [if_neg hk] at h
    have:=gathF_ok r (i + 1) its out h h1 h2
    exact ⟨this.1,by have h3:=this.2;simp;omega⟩
  ·rw [if_pos hz] at h;cases h
theorem missF_at {ls:List Ln} {i:Nat} (hi:i<ls.length) (its:List It):missF (ls.drop i) i its=if (ls.getD i default).pair/\(ls.getD i default).it ∉ its then some i else missF (ls.drop (i + 1)) (i + 1) its:=by
 rw [drop_cons (d:=default) hi,missF]
theorem numb_neg (its:List It) (x:It):ctNumb its x<0 ↔ x ∉ its:=by
 unfold ctNumb
 cases h:its.findIdx? (fun y=>decide (x=y)) with
 | none =>
  simp only [List.findIdx?_eq_none_iff,decide_eq_false_iff_not] at h
  constructor
  ·intro _ hm;exact h x hm rfl
  ·intro _;decide
 | some i =>
  rw [List.findIdx?_eq_some_iff_getElem] at h
  obtain ⟨hi,hp,-⟩:=h
  simp at hp
  constructor
  ·intro h;have h':(i:Int)<0:=h;omega
  ·intro h;exact absurd (hp ▸ List.getElem_mem hi) h
end
section
open Go.RowKit Go.Deep Sv
theorem new_long (ls:List Ln) (la:Option Addr) (lc:Nat) (w:World) (h:100<ls.length) :
  Calls Tryz.prog 122 #[.slice la ls.length lc] w fun e w'=>e=.returned (.tuple #[.pointer none,.iface 57 (.int .i64 4)])/\Below w.heap.size w w':=by
 have h1:(100:Int)<(ls.length:Int):=by omega
 clear h
 go_enter Tryz.func122,Tryz.ntmps122
 go_wp2
 go_ret2
 exact ⟨rfl,Below.refl _ _⟩
theorem new_bad (ls:List Ln) (la:Option Addr) (lc:Nat) (w:World) (hl:ls.length<=100) (vs:List Value) (h:LnsAt w (.slice la ls.length lc) ls) (k:Int) (i:Nat) (hg:gathF ls 0 []=.error (k,i)) :
  Calls Tryz.prog 122 #[.slice la ls.length lc] w (NewRes w ls vs (.error (k,some i))):=by
 have h1:¬ (100:Int)<(ls.length:Int):=by omega
 have HG:Hid (Calls Tryz.prog 199 #[.slice la ls.length lc] w fun e w'=>∃ N,e=.returned (.tuple #[.slice none 0 0,.iface 260 (.pointer (some ⟨N,0,none⟩))])/\Blk w' N 261 #[.int .i64 k,.int .i64 (i:Int)]/\Below w.heap.size w w'):=by
  have h2:=gather_any ls _ w h (by omega)
  rw [hg] at h2
  exact h2
 clear hg h hl
 go_enter Tryz.func122,Tryz.ntmps122
 go_wp2_with fail
 refine HG.out.mono ?_
 rintro e w1 ⟨N,rfl,hN,hb⟩
 have HN:=Lib.hid hN
 have HB:=Lib.hid hb
 clear hN hb HG
 go_wp2
 go_ret2
 exact ⟨_,rfl,⟨N,rfl,HN.out⟩,HB.out⟩
theorem new_ok (ls:List Ln) (la:Option Addr) (lc:Nat) (w:World) (hl:ls.length<=100) (vs:List Value) (hvg:RgsAt w ls vs) (hvr:RowAt w (.slice la ls.length lc) ls.length (lnCells ls vs)) (its:List It) (hg:gathF ls 0 []=.ok its) (R:Except (Int × Option Nat) (List It)) (hR:R=match missF ls 0 (sortF its) with | some i=>.error (7,some i) | none=>.ok (sortF its)) :
  Calls Tryz.prog 122 #[.slice la ls.length lc] w (NewRes w ls vs R):=by
 have h:LnsAt w (.slice la ls.length lc) ls:=⟨vs,hvg,hvr⟩
 have h1:¬ (100:Int)<(ls.length:Int):=by omega
 have HR:=Lib.hid hR
 clear hR
 have HG:Hid (Calls Tryz.prog 199 #[.slice la ls.length lc] w fun e w'=>∃ v,e=.returned (.tuple #[v,.nilIface])/\w'.ownsRow w.heap.size 114 4 v its.length (itCells its)/\Below w.heap.size w w'):=by
  have h2:=gather_any ls _ w h (by omega)
  rw [hg] at h2
  exact h2
 have hok:=gathF_ok (P:=fun x=>x.name.size<=12) ls 0 [] its hg (fun x hx=>by cases hx) (fun x hx=>check_name hx)
 have hil:its.length<=100:=by have:=hok.2;simp at this;omega
 have HNM:Hid (∀ x ∈ sortF its,x.name.size<=100000):=fun x hx=>by have:=hok.1 x ((sortF_perm its).mem_iff.1 hx);omega
 obtain ⟨S,hS⟩:∃ S,sortF its=S:=⟨_,rfl⟩
 have hsl:S.length=its.length:=by rw [<- hS];exact sortF_len its
 have hSl:S.length<=100:=by omega
 have HS0:Hid (∀ v W,W.ownsRow w.heap.size 114 4 v S.length (itCells its)->Calls Tryz.prog 200 #[v] W fun e w'=>e=.returned (.tuple #[])/\w'.ownsRow w.heap.size 114 4 v S.length (itCells S)/\Below w.heap.size W w'):=fun v W h=>by rw [hsl] at h ⊢;rw [<- hS];exact sort_any its v w.heap.size W h (by omega)
 rw [<- hsl] at HG
 rw [hS] at HNM HR
 have HVG:=Lib.hid hvg
 have HVR:=Lib.hid hvr
 clear hg h hok hS hsl hil hvg hvr
 go_enter Tryz.func122,Tryz.ntmps122
 go_wp2_with fail
 refine HG.out.mono ?_
 rintro e w1 ⟨v,rfl,hrow,hb1⟩
 have HS:=Lib.hid (HS0.out v w1 hrow)
 have HB1:=Lib.hid hb1
 obtain ⟨va,vc,rfl,-⟩:=(rowAt_own hrow).form
 clear HG hrow hb1 HS0
 go_wp2_with fail
 refine HS.out.mono ?_
 rintro e w2 ⟨rfl,hrow2,hb2⟩
 have HB2:Hid (Below w.heap.size w w2):=HB1.out.trans hb2
 have HI2:Hid (ItsAt w2 (.slice va S.length vc) S):=rowAt_own hrow2
 have hrg:=HVG.out.below HB2.out (Nat.le_refl _)
 have hrw:=HVR.out.below HB2.out (Nat.le_refl _)
 have HCL:=Lib.hid (clone_lns ls vs hrg.1 hrg.one _ w2 hrw (by omega))
 have HRG:=Lib.hid hrg
 have HIV:Hid (∀ g,(Value.slice va S.length vc).ownBlock=some g->w.heap.size<=g):=fun g hg=>(hrow2.lt g hg).1
 have h2s:=HB2.out.size
 clear HS hrow2 hb2 HB1 hrg hrw HVG HVR
 go_wp2_with fail
 refine HCL.out.mono ?_
 rintro e w3 ⟨lv,rfl,hrow3,hb3⟩
 have HB3:Hid (Below w.heap.size w w3):=HB2.out.trans (hb3.mono HB2.out.size)
 have HI3:Hid (ItsAt w3 (.slice va S.length vc) S):=HI2.out.below hb3 (Nat.le_refl _)
 have HL3:Hid (RgsAt w3 ls vs/\RowAt w3 lv ls.length (lnCells ls vs)):=⟨HRG.out.below hb3 (Nat.le_refl _),rowAt_own hrow3⟩
 have HLV:Hid (∀ g,lv.ownBlock=some g->w.heap.size<=g):=fun g hg=>by have:=(hrow3.lt g hg).1;omega
 have h3s:=HB3.out.size
 have HRW:=Lib.hid (rows_any S _ w3 HI3.out (by omega) HNM.out)
 obtain ⟨lva,lvc,rfl,-⟩:=(rowAt_own hrow3).form
 clear HCL hrow3 hb3 HB2 HI2 HRG
 go_wp2_with fail
 refine HRW.out.mono ?_
 rintro e w4 ⟨rfl,hrows,hb4⟩
 have HB4:Hid (Below w.heap.size w w4):=HB3.out.trans (hb4.mono HB3.out.size)
 have HI4:Hid (ItsAt w4 (.slice va S.length vc) S):=HI3.out.below hb4 (Nat.le_refl _)
 have HL4:Hid (RgsAt w4 ls vs/\RowAt w4 (.slice lva ls.length lvc) ls.length (lnCells ls vs)):=⟨HL3.out.1.below hb4 (Nat.le_refl _),HL3.out.2.below hb4 (Nat.le_refl _)⟩
 have HRW4:=Lib.hid hrows
 clear HRW hrows hb4 HB3 HI3 HL3
 have kc:=Blk.new w4 228 #[.slice lva ls.length lvc,.slice va S.length vc,.map (some w3.heap.size)]
 have hb5:Below w4.heap.size w4 (w4.alloc (.cells #[.slice lva ls.length lvc,.slice va S.length vc,.map (some w3.heap.size)] 228)):=(Below.refl _ _).alloc (Nat.le_refl _) _
 have hbc:w.heap.size<=w4.heap.size:=HB4.out.size
 have HC5:Hid (CatV (w4.alloc (.cells #[.slice lva ls.length lvc,.slice va S.length vc,.map (some w3.heap.size)] 228)) w4.heap.size ls vs S w.heap.size):=⟨_,_,_,kc,HL4.out.1.below hb5 (Nat.le_refl _),HL4.out.2.below hb5 (Nat.le_refl _),HI4.out.below hb5 (Nat.le_refl _),HRW4.out.below hb5 (Nat.le_refl _),hbc,h3s,HLV.out,HIV.out⟩
 have HL5:Hid (LnsAt (w4.alloc (.cells #[.slice lva ls.length lvc,.slice va S.length vc,.map (some w3.heap.size)] 228)) (.slice lva ls.length lvc) ls):=⟨vs,HL4.out.1.below hb5 (Nat.le_refl _),HL4.out.2.below hb5 (Nat.le_refl _)⟩
 have HB5:Hid (Below w.heap.size w (w4.alloc (.cells #[.slice lva ls.length lvc,.slice va S.length vc,.map (some w3.heap.size)] 228))):=HB4.out.trans (hb5.mono HB4.out.size)
 clear hb5 HB4 HI4 HL4 HRW4 HLV HIV h2s h3s hbc
 go_upto_region 8 with fail
 generalize w4.alloc (.cells #[.slice lva ls.length lvc,.slice va S.length vc,.map (some w3.heap.size)] 228)=W5 at *
 generalize w4.heap.size=bc at *
 have d0:W5.cell? ⟨bc,0,none⟩=some (.slice lva ls.length lvc):=kc.cell 0
 clear kc
 go_wp2_with fail
 clear d0
 go_loopw [35] (fun iV wr=>∃ i:Nat,i<=ls.length/\iV=.int .i64 (i:Int)/\missF (ls.drop i) i S=missF ls 0 S/\Below W5.heap.size W5 wr) (fun iV _=>ls.length - (intOf iV).toNat)
 case atStart=>exact ⟨0,Nat.zero_le _,rfl,by rw [List.drop_zero],Below.refl _ _⟩
 case round =>
  obtain ⟨i,hi,rfl,hms,hbr⟩:=hrel
  have hB:Below w.heap.size w wr:=HB5.out.trans (hbr.mono HB5.out.size)
  have HCW:=Lib.hid (HC5.out.below hbr (Nat.le_refl _))
  have HB:=Lib.hid hB
  have HBR:=Lib.hid hbr
  by_cases hlt:i<ls.length
  ·obtain ⟨g,cap',rv,e,hg,hsp,hrg,c0,c1,c2,c3,c4,c5,c6⟩:=(HL5.out.below hbr (Nat.le_refl _)).at i hlt
   simp at e
   obtain ⟨rfl,rfl⟩:=e
   rw [missF_at hlt] at hms
   have HMS:=Lib.hid hms
   obtain ⟨rra,rrc,rfl⟩:=hsp.form
   clear hms hsp hrg hbr hB
   generalize ls.getD i default=x at *
   have kx:=Blk.new wr 130 #[.int .i64 x.kind,.string x.name,.int .i64 x.a,.int .i64 x.b,.int .i64 x.c,.string x.other,.slice rra x.rng.length rrc]
   have hbx:Below wr.heap.size wr (wr.alloc (.cells #[.int .i64 x.kind,.string x.name,.int .i64 x.a,.int .i64 x.b,.int .i64 x.c,.string x.other,.slice rra x.rng.length rrc] 130)):=(Below.refl _ _).alloc (Nat.le_refl _) _
   have HBX:Hid (Below wr.heap.size wr (wr.alloc (.cells #[.int .i64 x.kind,.string x.name,.int .i64 x.a,.int .i64 x.b,.int .i64 x.c,.string x.other,.slice rra x.rng.length rrc] 130))):=hbx
   clear hbx
   go_upto_region 11 with fail
   clear c0 c1 c2 c3 c4 c5 c6
   have HBX2:Hid (Below W5.heap.size W5 (wr.alloc (.cells #[.int .i64 x.kind,.string x.name,.int .i64 x.a,.int .i64 x.b,.int .i64 x.c,.string x.other,.slice rra x.rng.length rrc] 130))):=HBR.out.trans (HBX.out.mono HBR.out.size)
   clear HBX
   generalize wr.alloc (.cells #[.int .i64 x.kind,.string x.name,.int .i64 x.a,.int .i64 x.b,.int .i64 x.c,.string x.other,.slice rra x.rng.length rrc] 130)=W6 at *
   generalize wr.heap.size=bx at *
   have d0:W6.cell? ⟨bx,0,none⟩=some (.int .i64 x.kind):=kx.cell 0
   have d1:W6.cell? ⟨bx,1,none⟩=some (.string x.name):=kx.cell 1
   have d2:W6.cell? ⟨bx,2,none⟩=some (.int .i64 x.a):=kx.cell 2
   have d3:W6.cell? ⟨bx,3,none⟩=some (.int .i64 x.b):=kx.cell 3
   have d4:W6.cell? ⟨bx,4,none⟩=some (.int .i64 x.c):=kx.cell 4
   have d5:W6.cell? ⟨bx,5,none⟩=some (.string x.other):=kx.cell 5
   have d6:W6.cell? ⟨bx,6,none⟩=some (.slice rra x.rng.length rrc):=kx.cell 6
   go_wp2_with fail
   clear d0 d1 d2 d3 d4 d5 d6
   have hp0:=pair_any x (.slice rra x.rng.length rrc) W6
   by_cases hpr:x.pair
   ·have HP:Hid (Calls Tryz.prog 135 #[.agg #[.int .i64 x.kind,.string x.name,.int .i64 x.a,.int .i64 x.b,.int .i64 x.c,.string x.other,.slice rra x.rng.length rrc]] W6 fun e w'=>e=.returned (.bool true)/\Below W6.heap.size W6 w'):=hp0.mono fun e w' ⟨he,hw⟩=>⟨by rw [he,decide_eq_true hpr],by rw [hw];exact (Below.refl _ _).alloc (Nat.le_refl _) _⟩
    clear hp0
    refine HP.out.mono ?_
    rintro e w7 ⟨rfl,hb7⟩
    have kx7:=kx.below hb7 kx.lt
    have HB7:Hid (Below W5.heap.size W5 w7):=HBX2.out.trans (hb7.mono HBX2.out.size)
    have d1:w7.cell? ⟨bx,1,none⟩=some (.string x.name):=kx7.cell 1
    have d2:w7.cell? ⟨bx,2,none⟩=some (.int .i64 x.a):=kx7.cell 2
    have d3:w7.cell? ⟨bx,3,none⟩=some (.int .i64 x.b):=kx7.cell 3
    have d4:w7.cell? ⟨bx,4,none⟩=some (.int .i64 x.c):=kx7.cell 4
    have HNUM:=Lib.hid (number_c bc ls S x.name x.a x.b x.c w7 (HC5.out.below HB7.out (Nat.le_refl _)).cat (by omega))
    clear HP hb7 kx kx7 HBX2
    go_wp2_with fail
    clear d1 d2 d3 d4
    refine HNUM.out.mono ?_
    rintro e w8 ⟨rfl,hb8⟩
    have HB8:Hid (Below W5.heap.size W5 w8):=HB7.out.trans (hb8.mono HB7.out.size)
    have HNEG:Hid (ctNumb S ⟨x.name,x.a,x.b,x.c⟩<0 ↔ x.it ∉ S):=numb_neg S x.it
    clear HNUM hb8 HB7
    generalize ctNumb S ⟨x.name,x.a,x.b,x.c⟩=Z at *
    by_cases hz:Z<0
    ·have HM:Hid (missF ls 0 S=some i):=by show _=_;rw [<- HMS.out,if_pos ⟨hpr,HNEG.out.1 hz⟩]
     have HBF:Hid (Below w.heap.size w (w8.alloc (.cells #[.int .i64 7,.int .i64 (i:Int)] 261))):=by
      have h:=HB5.out.trans (HB8.out.mono HB5.out.size)
      exact h.alloc h.size _
     have HKF:Hid (Blk (w8.alloc (.cells #[.int .i64 7,.int .i64 (i:Int)] 261)) w8.heap.size 261 #[.int .i64 7,.int .i64 (i:Int)]):=Blk.new _ _ _
     clear HNEG HB8 hpr
     go_wp2
     go_ret2
     rw [HR.out,HM.out]
     exact ⟨_,rfl,⟨_,rfl,HKF.out⟩,HBF.out⟩
    ·have HM:Hid (missF (ls.drop (i + 1)) (i + 1) S=missF ls 0 S):=by show _=_;rw [<- HMS.out,if_neg (fun h=>hz (HNEG.out.2 h.2))]
     clear HNEG hpr
     go_wp2
     go_roundw
     case rel=>exact ⟨i + 1,hlt,by go_num,HM.out,HB8.out⟩
     case measure=>simp [intOf];omega
   ·have HP:Hid (Calls Tryz.prog 135 #[.agg #[.int .i64 x.kind,.string x.name,.int .i64 x.a,.int .i64 x.b,.int .i64 x.c,.string x.other,.slice rra x.rng.length rrc]] W6 fun e w'=>e=.returned (.bool false)/\Below W6.heap.size W6 w'):=hp0.mono fun e w' ⟨he,hw⟩=>⟨by rw [he,decide_eq_false hpr],by rw [hw];exact (Below.refl _ _).alloc (Nat.le_refl _) _⟩
    have HM:Hid (missF (ls.drop (i + 1)) (i + 1) S=missF ls 0 S):=by show _=_;rw [<- HMS.out,if_neg (fun h=>hpr h.1)]
    clear hp0 hpr
    refine HP.out.mono ?_
    rintro e w7 ⟨rfl,hb7⟩
    have HB7:Hid (Below W5.heap.size W5 w7):=HBX2.out.trans (hb7.mono HBX2.out.size)
    clear HP hb7 kx HBX2
    go_wp2
    go_roundw
    case rel=>exact ⟨i + 1,hlt,by go_num,HM.out,HB7.out⟩
    case measure=>simp [intOf];omega
  ·obtain rfl:i=ls.length:=by omega
   have HM:Hid (missF ls 0 S=none):=by show _=_;rw [<- hms,List.drop_length,missF]
   clear hms hbr hB
   go_wp2
   go_ret2
   rw [HR.out,HM.out]
   exact ⟨bc,rfl,HCW.out,HB.out⟩
theorem new_any (ls:List Ln) (vs:List Value) (lv:Value) (w:World) (hvg:RgsAt w ls vs) (hvr:RowAt w lv ls.length (lnCells ls vs)):Calls Tryz.prog 122 #[lv] w (NewRes w ls vs (newF ls)):=by
 obtain ⟨la,lc,rfl,-⟩:=hvr.form
 unfold newF
 by_cases h1:100<ls.length
 ·rw [if_pos h1]
  exact (new_long ls la lc w h1).mono fun e w' ⟨he,hb⟩=>⟨_,he,rfl,hb⟩
 ·rw [if_neg h1]
  cases hg:gathF ls 0 [] with
  | error e=>exact new_bad ls la lc w (by omega) vs ⟨vs,hvg,hvr⟩ e.1 e.2 hg
  | ok its=>exact new_ok ls la lc w (by omega) vs hvg hvr its hg _ rfl
end
end Go.Proofs.YtiihalknffbjpaaGreatDoor
