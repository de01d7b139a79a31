/- New. -/
import Derived.Test.YtlamemjfaogjmaaGreatDoorCtGathW
set_option maxHeartbeats 4000000
set_option maxRecDepth 100000
namespace Go.Proofs.YtlamemjfaogjmaaGreatDoor
section
open Go.Shelf Go.Lib Go.Sort Sv
theorem zcg{α:Type}{c:α->α->Int}(anti:∀x y,c y x=-c x y)(eq0:∀x y,c x y=0->x=y)(tr:∀x y z,c x y<0->c y z<0->c x z<0):SWO (ltOf c) where
 irrefl x:=by have:=anti x x;unfold ltOf;simp;omega
 trans x y z h1 h2:=by unfold ltOf at *;simp at *;exact tr x y z h1 h2
 ntrans x y z h1 h2:=by
  unfold ltOf at *;simp at *
  by_cases h:c x z<0
  ·exfalso
   by_cases e:c x y=0
   ·have:=eq0 x y e;subst this;omega
   ·have h3:c y x<0:=by rw[anti];omega
    have:=tr y x z h3 h;omega
  ·omega
theorem zij{α:Type}{c:α->α->Int}(anti:∀x y,c y x=-c x y)(eq0:∀x y,c x y=0->x=y):∀x y,ltOf c x y=false->ltOf c y x=false->x=y:=by
 intro x y h1 h2;unfold ltOf at *;simp at *;have:=anti x y;exact eq0 x y (by omega)
theorem ZD:∀a b:List UInt8,compareBytes b a=-compareBytes a b
 |[],[]=>rfl
 |[],_ :: _=>rfl
 |_ :: _,[]=>rfl
 |x :: a,y :: b=>by
  rw[compareBytes,compareBytes]
  by_cases h:x<y
  ·have h':¬y<x:=fun h2=>absurd (UInt8.lt_trans h h2) (UInt8.lt_irrefl _);rw[if_pos h,if_neg h',if_pos h];rfl
  ·by_cases h':y<x
   ·rw[if_pos h',if_neg h,if_pos h']
   ·rw[if_neg h,if_neg h',if_neg h',if_neg h];exact ZD a b
theorem Q7{x y:UInt8}(h:¬x<y)(h':¬y<x):x=y:=UInt8.le_antisymm (UInt8.not_lt.1 h') (UInt8.not_lt.1 h)
theorem XJ:∀a b:List UInt8,compareBytes a b=0->a=b
 |[],[],_=>rfl
 |[],_ :: _,h=>by cases h
 |_ :: _,[],h=>by cases h
 |x :: a,y :: b,h=>by
  rw[compareBytes] at h
  by_cases h1:x<y
  ·rw[if_pos h1] at h;cases h
  ·by_cases h2:y<x
   ·rw[if_neg h1,if_pos h2] at h;cases h
   ·rw[if_neg h1,if_neg h2] at h;rw[Q7 h1 h2,XJ a b h]
theorem Ky:∀a b c:List UInt8,compareBytes a b<0->compareBytes b c<0->compareBytes a c<0
 |[],_,[],h1,h2=>by
  rename_i b;cases b with
  |nil=>exact h1
  |cons y b=>exact absurd (show (1:Int)<0 from h2) (by decide)
 |[],_,_ :: _,_,_=>show (-1:Int)<0 by decide
 |_ :: _,[],_,h1,_=>absurd (show (1:Int)<0 from h1) (by decide)
 |_ :: _,_ :: _,[],_,h2=>absurd (show (1:Int)<0 from h2) (by decide)
 |x :: a,y :: b,z :: c,h1,h2=>by
  rw[compareBytes] at h1 h2 ⊢
  by_cases xy:x<y
  ·by_cases yz:y<z
   ·rw[if_pos (UInt8.lt_trans xy yz)];decide
   ·by_cases zy:z<y
    ·rw[if_neg yz,if_pos zy] at h2;exact absurd h2 (by decide)
    ·rw[<-Q7 yz zy,if_pos xy];decide
  ·by_cases yx:y<x
   ·rw[if_neg xy,if_pos yx] at h1;exact absurd h1 (by decide)
   ·rw[if_neg xy,if_neg yx] at h1;have e:=Q7 xy yx;subst e
    by_cases yz:x<z
    ·rw[if_pos yz];decide
    ·by_cases zy:z<x
     ·rw[if_neg yz,if_pos zy] at h2;exact absurd h2 (by decide)
     ·rw[if_neg yz,if_neg zy] at h2 ⊢;exact Ky a b c h1 h2
theorem QS(a b c d e f:Int):qp (tI a b c) (tI d e f) 3=if a<d then -1 else if d<a then 1 else if b<e then -1 else if e<b then 1 else if c<f then -1 else if f<c then 1 else 0:=by
 show (if qg a d≠0 then qg a d else if qg b e≠0 then qg b e else if qg c f≠0 then qg c f else 0)=_;unfold qg
 by_cases h1:a<d
 ·simp[h1]
 ·by_cases h2:d<a
  ·simp[h1,h2]
  ·by_cases h3:b<e
   ·simp[h1,h2,h3]
   ·by_cases h4:e<b
    ·simp[h1,h2,h3,h4]
    ·by_cases h5:c<f
     ·simp[h1,h2,h3,h4,h5]
     ·by_cases h6:f<c<;>simp[h1,h2,h3,h4,h5,h6]
theorem Xo(a b c d e f:Int):qp (tI a b c) (tI d e f) 3<0↔(a<d\/(a=d/\(b<e\/(b=e/\c<f)))):=by
 rw[QS]
 repeat' split
 all_goals omega
theorem zbY(a b c d e f:Int):qp (tI a b c) (tI d e f) 3=0↔(a=d/\b=e/\c=f):=by
 rw[QS]
 repeat' split
 all_goals omega
theorem zaT(a b c d e f:Int):qp (tI d e f) (tI a b c) 3=-qp (tI a b c) (tI d e f) 3:=by
 rw[QS,QS]
 by_cases h1:a<d
 ·have:¬d<a:=by omega
  simp[h1,this]
 ·by_cases h2:d<a
  ·simp[h1,h2]
  ·by_cases h3:b<e
   ·have:¬e<b:=by omega
    simp[h1,h2,h3,this]
   ·by_cases h4:e<b
    ·simp[h1,h2,h3,h4]
    ·by_cases h5:c<f
     ·have:¬f<c:=by omega
      simp[h1,h2,h3,h4,h5,this]
     ·by_cases h6:f<c<;>simp[h1,h2,h3,h4,h5,h6]
theorem QH{x y:It}:x.name.toList=y.name.toList↔x.name.data.toList=y.name.data.toList:=by rw[ByteArray.toList_eq,ByteArray.toList_eq]
theorem Zi(x y:It):zw y x=-zw x y:=by
 unfold zw
 by_cases h:x.name.toList=y.name.toList
 ·rw[if_pos h,if_pos h.symm];exact zaT _ _ _ _ _ _
 ·rw[if_neg h,if_neg (fun e=>h e.symm)];exact ZD _ _
theorem Z0(x y:It)(h:zw x y=0):x=y:=by
 unfold zw at h
 by_cases e:x.name.toList=y.name.toList
 ·rw[if_pos e,zbY] at h;obtain⟨n,a,b,c⟩:=x;obtain⟨n',a',b',c'⟩:=y;obtain rfl:n=n':=yE e;obtain⟨h1,h2,h3⟩:=h;simp only at h1 h2 h3;subst h1 h2 h3;rfl
 ·rw[if_neg e] at h;exact absurd (QH.2 (XJ _ _ h)) e
theorem Yr(x y z:It)(h1:zw x y<0)(h2:zw y z<0):zw x z<0:=by
 unfold zw at *
 by_cases e1:x.name.toList=y.name.toList
 ·by_cases e2:y.name.toList=z.name.toList
  ·rw[if_pos e1,Xo] at h1;rw[if_pos e2,Xo] at h2;rw[if_pos (e1.trans e2),Xo];omega
  ·rw[if_neg e2] at h2;rw[if_neg (fun e=>e2 (e1.symm.trans e)),QH.1 e1];exact h2
 ·by_cases e2:y.name.toList=z.name.toList
  ·rw[if_neg e1] at h1;rw[if_neg (fun e=>e1 (e.trans e2.symm)),<-QH.1 e2];exact h1
  ·rw[if_neg e1] at h1;rw[if_neg e2] at h2
   by_cases e3:x.name.toList=z.name.toList
   ·exfalso;rw[<-QH.1 e3,ZD] at h2;omega
   ·rw[if_neg e3];exact Ky _ _ _ h1 h2
theorem zgT:SWO (ltOf zw):=zcg Zi Z0 Yr
theorem zeO:∀x y,ltOf zw x y=false->ltOf zw y x=false->x=y:=zij Zi Z0
theorem xP(l:List It):(qq l).Perm l:=List.mergeSort_perm _ _
theorem Yw(l:List It):(qq l).length=l.length:=(xP l).length_eq
end
section
open Go.RowKit Go.Shelf Go.Lib Go.Sort Sv
theorem zcz(x y:It)(W:World) :
  zC 98 #[.agg #[.string x.name,.int .i64 x.a,.int .i64 x.b,.int .i64 x.c],.agg #[.string y.name,.int .i64 y.a,.int .i64 y.b,.int .i64 y.c]] W fun e w'=>e=.returned (.int .i64 (zw x y))/\Gr W w':=by
 have hg:Gr W ((W.alloc (.cells #[.string x.name,.int .i64 x.a,.int .i64 x.b,.int .i64 x.c] 145)).alloc (.cells #[.string y.name,.int .i64 y.a,.int .i64 y.b,.int .i64 y.c] 145)):=((Gr.refl W).alloc _).alloc _;have HG:=zH hg;clear hg;have HV:Hid (∀W',zC 99 #[.agg #[.int .i64 y.a,.int .i64 y.b,.int .i64 y.c],.agg #[.int .i64 x.a,.int .i64 x.b,.int .i64 x.c]] W' fun r w'=>r=.returned (.int .i64 (qp (tI y.a y.b y.c) (tI x.a x.b x.c) 3))/\Gr W' w'):=fun W'=>zhb y.a y.b y.c x.a x.b x.c W';have HN:Hid (∀W',zC 100 #[.string x.name,.string y.name] W' fun r w'=>r=.returned (.int .i64 (compareBytes x.name.data.toList y.name.data.toList))/\w'=W'):=fun W'=>Tryz.strings_Compare x.name y.name W'
 by_cases h:x.name.toList=y.name.toList
 ·have HC:Hid (zw x y=qp (tI y.a y.b y.c) (tI x.a x.b x.c) 3):=by show _=_;unfold zw;rw[if_pos h]
  have hb:(x.name.toList==y.name.toList)=true:=by rw[h];exact beq_self_eq_true _
  clear h HN;generalize qp (tI y.a y.b y.c) (tI x.a x.b x.c) 3=Z at *;go_enter Tryz.func98,Tryz.ntmps98;go_wp2_with fail;refine(HV.out _).mono ?_;rintro e w1 ⟨rfl,hg1⟩;have HG1:Hid (Gr W w1):=HG.out.trans hg1;clear hg1 HG HV;go_wp2;go_ret;exact⟨by rw[HC.out];rfl,HG1.out⟩
 ·have HC:Hid (zw x y=compareBytes x.name.data.toList y.name.data.toList):=by show _=_;unfold zw;rw[if_neg h]
  have hb:(x.name.toList==y.name.toList)=false:=by rw[beq_eq_false_iff_ne];exact h
  clear h HV;generalize compareBytes x.name.data.toList y.name.data.toList=Z at *;go_enter Tryz.func98,Tryz.ntmps98;go_wp2_with fail;refine(HN.out _).mono ?_;rintro e w1 ⟨rfl,rfl⟩;clear HN;go_wp2;go_ret;exact⟨by rw[HC.out];rfl,HG.out⟩
theorem zfJ(blk off size:Nat)(w:World):CmpLays Tryz.prog 98 #[] zr 4 zw blk off size w :=
 fun _ _ _ _ x y=>zcz x y _
theorem Kt(l:List It):flatK zr 4 l.toArray=(zf l).toArray:=by
 apply Array.ext_getElem?;intro t
 by_cases ht:t<l.length*4
 ·have h1:t<(flatK zr 4 l.toArray).size:=by rw[size_flatK];simpa using ht
  have hj:t/4<l.length:=by omega
  have h2:(zf l)[t]?=some ((zr (l.getD (t/4) default))[t%4]!):=by
   have hlt:t%4<(zr (l.getD (t/4) default)).length:=by simp[zr];omega
   have:=Zb l (t/4) hj (t%4) _ (List.getElem?_eq_getElem hlt);rw[show t/4*4+t%4=t by omega] at this;rw[this,getElem!_pos (zr (l.getD (t/4) default)) (t%4) hlt]
  have e1:(flatK zr 4 l.toArray)[t]?=some ((flatK zr 4 l.toArray)[t]!):=by rw[Array.getElem?_eq_getElem h1,getElem!_pos (flatK zr 4 l.toArray) t h1]
  have e2:(zf l).toArray[t]?=(zf l)[t]?:=by simp
  have e3:l.toArray[t/4]! = l.getD (t/4) default:=by
   rw[getElem!_pos l.toArray (t/4) (by simpa using hj),List.getD_eq_getElem?_getD,List.getElem?_eq_getElem hj];rfl
  rw[e1,get_flatK zr 4 _ t (by simpa using ht),e2,h2,e3]
 ·rw[Array.getElem?_eq_none (by rw[size_flatK];simpa using ht),Array.getElem?_eq_none (by simp[yr];omega)]
theorem zdh(l:List It)(v:Value)(B:Nat)(w:World)(h:w.ownsRow B 145 4 v l.length (zf l))(hl:l.length<=100000) :
  zC 63 #[v] w fun e w'=>e=.returned (.tuple #[])/\w'.ownsRow B 145 4 v l.length (zf (qq l))/\Below B w w':=by
 have H:Hid (zC 97 #[v,.func (.func 98) #[] #[]] w fun e w'=>e=.returned (.tuple #[])/\w'.ownsRow B 145 4 v l.length (zf (qq l))/\Below B w w'):=by
  rcases h.2 with ⟨rfl,e0⟩|⟨g,cap,cur,rfl,hB,hg,hn,hm,hsz,htake⟩
  ·obtain rfl:l=[]:=List.eq_nil_of_length_eq_zero e0;refine(AnyF.slices_SortFunc_none Tryz.sortItem none 0 _ w).mono fun e w' ⟨he,hw⟩=>⟨he,?_,by rw[hw];exact Below.refl _ _⟩;rw[hw,show qq []=[] by unfold qq;simp];exact h
  ·have eg:∀args w,(callFunc 98 args).run Tryz.prog w=.ok (.enter 98 args) w:=enters_of Tryz.func98 (by kernel_rfl) rfl;have hlt:g<w.heap.size:=(Array.getElem?_eq_some_iff.1 hg).1;have hH:HoldsK zr 4 w g 0 l.toArray:=by
    intro j hj;rw[size_flatK] at hj;have hj':j<l.length*4:=by simpa using hj
    rw[Kt];have hjl:j<(zf l).length:=by rw[yr];exact hj'
    rw[getElem!_pos _ j (by simpa using hjl)];constructor
    ·rw[Nat.zero_add];have hc:cur[j]?=(zf l)[j]?:=by
      rw[<-htake,List.getElem?_take,if_pos hj',Array.getElem?_toList]
     show w.cell? _=some (zf l)[j];simp[World.cell?,hg,hc,List.getElem?_eq_getElem hjl]
    ·simp[World.frozen?,hg]
   refine(AnyQ.slices_SortFunc_total Tryz.sortItem 4 Tryz.isAgg145 Tryz.sizeOf145 zr (fun _=>rfl) (fun x u hu=>zae [x] u (by simpa[zf] using hu)) zw zgT 98 #[] g 0 cap l.toArray w eg (zfJ g 0 _ w) hH hlt (by simp;omega) zeO).mono fun e w' ⟨he,n,os,hw⟩=>⟨he,?_⟩;have hw2:w'=grow (putRow id (Sort.ahead w n) g 0 ((zf (qq l)).toArray)) os:=by
    rw[hw,<-Kt];rfl
   have hblk:w'.heap[g]?=some (.cells (putCells id 0 (zf (qq l)).toArray cur) 145 (0,0)):=by
    rw[hw2];show ((putRow id (Sort.ahead w n) g 0 ((zf (qq l)).toArray)).heap++os)[g]?=_;rw[Array.getElem?_append_left (by simp[putRow,mapBlock,Sort.ahead];exact hlt)];simp[putRow,mapBlock,Sort.ahead,Array.getElem?_modify,hg,onCells]
   refine⟨⟨by rw[yr,Yw],Or.inr ⟨g,cap,_,rfl,hB,hblk,hn,hm,by simp[putCells,hsz],?_⟩⟩,?_⟩
   ·apply List.ext_getElem?;intro t;rw[List.getElem?_take];have hlen:(zf (qq l)).length=l.length*4:=by rw[yr,Yw]
    by_cases ht:t<l.length*4
    ·have htc:t<cur.size:=by rw[hsz];omega
     rw[if_pos ht,Array.getElem?_toList];simp only[putCells,Array.getElem?_mapIdx,Array.getElem?_eq_getElem htc,Option.map_some];rw[if_pos ⟨Nat.zero_le _,by simp[hlen];exact ht⟩,Nat.sub_zero,getElem!_pos _ t (by simp[hlen];exact ht),List.getElem?_eq_getElem (by rw[hlen];exact ht)];rfl
    ·rw[if_neg ht,List.getElem?_eq_none (by rw[hlen];omega)]
   ·rw[hw2];refine⟨rfl,rfl,rfl,by simp[grow,putRow,mapBlock,Sort.ahead],fun k hk=>?_⟩;show ((putRow id (Sort.ahead w n) g 0 ((zf (qq l)).toArray)).heap++os)[k]?=_;have hkw:(putRow id (Sort.ahead w n) g 0 ((zf (qq l)).toArray)).heap[k]?=w.heap[k]?:=by
     simp only[putRow,mapBlock,Sort.ahead,Array.getElem?_modify];rw[if_neg (by omega)]
    rcases Nat.lt_or_ge k w.heap.size with hkl|hkl
    ·rw[Array.getElem?_append_left (by simp[putRow,mapBlock,Sort.ahead];exact hkl),hkw]
    ·exfalso;omega
 obtain⟨a,cap,rfl,-⟩:=(zD h).form;clear h;go_enter Tryz.func63,Tryz.ntmps63;go_wp2_with fail;refine H.out.mono ?_;rintro e w1 ⟨rfl,h1,h2⟩;have H1:=zH h1;have H2:=zH h2;clear h1 h2 H;go_wp2;go_end0;exact⟨rfl,H1.out,H2.out⟩
end
section
open Go.RowKit Go.Deep Sv
def zV(w:World)(b:Nat)(ls:List Ln)(its:List It):Prop :=
 ∃lv iv bm,Blk w b 141 #[lv,iv,.map (some bm)]/\yI w lv ls/\zS w iv its/\qb w bm (qv its) its.length
theorem zV.below{B:Nat}{w w':World}{b:Nat}{ls:List Ln}{its:List It}(h:zV w b ls its)(hb:Below B w w')(hB:w.heap.size<=B):zV w' b ls its:=by
 obtain⟨lv,iv,bm,h1,h2,h3,h4⟩:=h;exact⟨lv,iv,bm,h1.below hb (Nat.lt_of_lt_of_le h1.lt hB),h2.below hb hB,h3.below hb hB,h4.below hb hB⟩
theorem zV.lt{w:World}{b:Nat}{ls:List Ln}{its:List It}(h:zV w b ls its):b<w.heap.size:=by
 obtain⟨lv,iv,bm,h1,_⟩:=h;exact h1.lt
def qQ(w:World)(b:Nat)(ls:List Ln)(vs:List Value)(its:List It)(B:Nat):Prop :=
 ∃lv iv bm,Blk w b 141 #[lv,iv,.map (some bm)]/\zY w ls vs/\qt w lv ls.length (zG ls vs)/\zS w iv its/\qb w bm (qv its) its.length/\B<=b/\B<=bm/\(∀g,lv.ownBlock=some g->B<=g)/\(∀g,iv.ownBlock=some g->B<=g)
theorem qQ.cat{w:World}{b:Nat}{ls:List Ln}{vs:List Value}{its:List It}{B:Nat}(h:qQ w b ls vs its B):zV w b ls its:=by
 obtain⟨lv,iv,bm,h1,h2,h3,h4,h5,-⟩:=h;exact⟨lv,iv,bm,h1,⟨vs,h2,h3⟩,h4,h5⟩
theorem qQ.below{B':Nat}{w w':World}{b:Nat}{ls:List Ln}{vs:List Value}{its:List It}{B:Nat}(h:qQ w b ls vs its B)(hb:Below B' w w')(hB:w.heap.size<=B'):qQ w' b ls vs its B:=by
 obtain⟨lv,iv,bm,h1,h2,h3,h4,h5,h6⟩:=h;exact⟨lv,iv,bm,h1.below hb (Nat.lt_of_lt_of_le h1.lt hB),h2.below hb hB,h3.below hb hB,h4.below hb hB,h5.below hb hB,h6⟩
theorem qt.set{w:World}{v x:Value}{n b i:Nat}{cs:List Value}(h:qt w v n cs)(hn:∀g,v.ownBlock=some g->g≠b):qt (w.setCell ⟨b,i,none⟩ x) v n cs :=
 ⟨h.form,fun h0=>by
  obtain⟨g,cap,e,hg,hc⟩:=h.cells h0;have hne:=hn g (by rw[e];rfl);exact ⟨g,cap,e,by simp [World.setCell];exact hg,fun j u hu=>by unfold World.cell?;rw [Below.heap_setCell _ _ _ g hne];exact hc j u hu⟩⟩
theorem qt.put{w:World}{v:Value}{n l:Nat}{cs:List Value}{o o':Obj}(h:qt w v n cs)(hl:w.heap[l]?=some o)(hc:o.isCells=false)(hcs:cs.length=0->n=0):qt (w.putObj l o') v n cs :=
 ⟨h.form,fun h0=>by
  obtain⟨g,cap,e,hg,hcl⟩:=h.cells h0;have hne:g≠l:=by
   rintro rfl;have hcp:0<cs.length:=by
    rcases Nat.eq_zero_or_pos cs.length with h|h
    ·have:=hcs h;omega
    ·exact h
   have:=hcl 0 _ (List.getElem?_eq_getElem hcp);unfold World.cell? at this;rw[hl] at this;cases o<;>simp[Obj.isCells] at hc this
  exact ⟨g,cap,e,by simp [World.putObj];exact hg,fun j u hu=>by unfold World.cell?;rw [World.putObj_heap_other hne];exact hcl j u hu⟩⟩
theorem YD(bk:Nat)(ls:List Ln)(its:List It)(name:ByteArray)(a b c:Int)(w:World)(h:zV w bk ls its)(hl:its.length<=100000) :
  zR 44 #[.pointer (some ⟨bk,0,none⟩),.string name,.agg #[.int .i64 a,.int .i64 b,.int .i64 c]] w (.int .i64 (zJ its ⟨name,a,b,c⟩)):=by
 obtain⟨lv,iv,bm,h1,h2,h3,h4⟩:=h;obtain⟨la,lc,rfl,-⟩:∃la lc,lv=.slice la ls.length lc/\True:=by obtain⟨vs,_,h2⟩:=h2;obtain⟨x,y,e,_⟩:=h2.form;exact⟨x,y,e,trivial⟩
 obtain⟨va,vc,rfl,-⟩:=h3.form;have HI:Hid (∀W,zB w W->zR 72 #[.slice va its.length vc,.agg #[.string name,.int .i64 a,.int .i64 b,.int .i64 c]] W (.int .i64 (zJ its ⟨name,a,b,c⟩))):=fun W hW=>zbU its ⟨name,a,b,c⟩ _ W (h3.below hW zN) hl;have kv:=Blk.new w 87 #[.int .i64 a,.int .i64 b,.int .i64 c];have hb0:zB w (w.alloc (.cells #[.int .i64 a,.int .i64 b,.int .i64 c] 87)):=(Below.refl _ w).alloc zN _;have k1:=h1.below hb0 h1.lt;clear h1 h2 h3 h4 hl;generalize zJ its ⟨name,a,b,c⟩=Z at *;go_enter Tryz.func44,Tryz.ntmps44;go_wp2_with fail;have D0:zB w (w.alloc (.cells #[.int .i64 a,.int .i64 b,.int .i64 c] 87)).drew:=hb0.drew;generalize w.alloc (.cells #[.int .i64 a,.int .i64 b,.int .i64 c] 87)=W0 at *;have SC:Hid (∀W,zB W0 W->W.cell? ⟨bk,1,none⟩=some (.slice va its.length vc)/\W.cell? ⟨w.heap.size,0,none⟩=some (.int .i64 a)/\W.cell? ⟨w.heap.size,1,none⟩=some (.int .i64 b)/\W.cell? ⟨w.heap.size,2,none⟩=some (.int .i64 c)):=fun W h=>⟨(k1.below h k1.lt).cell 1,(kv.below h kv.lt).cell 0,(kv.below h kv.lt).cell 1,(kv.below h kv.lt).cell 2⟩;have E0:zB W0 W0.drew:=zF.drew;clear kv k1;go_region_held3 (fun W=>W.cell? ⟨bk,1,none⟩=some (.slice va its.length vc)/\W.cell? ⟨w.heap.size,0,none⟩=some (.int .i64 a)/\W.cell? ⟨w.heap.size,1,none⟩=some (.int .i64 b)/\W.cell? ⟨w.heap.size,2,none⟩=some (.int .i64 c)) (first|exact SC.out _ E0|exact SC.out _ E1)
  (((with_reducible refine(HI.out _ D0).mono ?_);rintro e x1 ⟨rfl,hb1⟩;have E1:zB W0 x1:=zT E0 hb1;have D1:zB w x1:=zT D0 hb1;clear HI D0 E0 hb1))
 have HB1:=zH D1;clear D1 E1;go_wp2;go_ret;exact⟨rfl,HB1.out⟩
def XB(w:World)(ls:List Ln)(vs:List Value)(r:Except (Int × Option Nat) (List It))(e:Ending)(w':World):Prop :=
 match r with
 |.ok its=>∃bc,e=.returned (.tuple #[.pointer (some ⟨bc,0,none⟩),.nilIface])/\qQ w' bc ls vs its w.heap.size/\zB w w'
 |.error (k,p)=>∃er,e=.returned (.tuple #[.pointer none,er])/\qs w' er k p/\zB w w'
theorem XH{P:It->Prop}:∀(ls:List Ln) (i:Nat) (its out:List It),zE ls i its=.ok out->(∀x∈its,P x)->(∀x:Ln,zM x=0->P x.it)->(∀x∈out,P x)/\out.length<=its.length+ls.length
 |[],i,its,out,h,h1,_=>by cases h;exact⟨h1,by simp⟩
 |x :: r,i,its,out,h,h1,h2=>by
  rw[zE] at h
  by_cases hz:zM x=0
  ·rw[if_neg (fun h=>h hz)] at h
   by_cases hk:x.kind=1
   ·rw[if_pos hk] at h;split at h
    ·cases h
    ·split at h
     ·cases h
     ·have:=XH r (i + 1) (its++[x.it]) out h (fun y hy=>by
       rcases List.mem_append.1 hy with hy|hy
       ·exact h1 y hy
       ·rw [List.mem_singleton] at hy;subst hy;exact h2 x hz) h2
      refine⟨this.1,?_⟩;have h3:=this.2;simp at h3 ⊢;omega
   ·rw[if_neg hk] at h;have:=XH r (i+1) its out h h1 h2;exact⟨this.1,by have h3:=this.2;simp;omega⟩
  ·rw[if_pos hz] at h;cases h
theorem zea{x:Ln}(h:zM x=0):InV x.a x.b x.c:=by
 unfold zM at h;split at h
 ·cases h
 ·split at h
  ·cases h
  ·split at h
   ·cases h
   ·split at h
    ·cases h
    ·split at h
     ·cases h
     ·split at h
      ·cases h
      ·rename_i h6;exact Decidable.not_not.1 h6
theorem zaE{ls:List Ln}{i:Nat}(hi:i<ls.length)(its:List It):zI (ls.drop i) i its=if (ls.getD i default).pair/\(ls.getD i default).it∉its then some i else zI (ls.drop (i+1)) (i+1) its:=by
 rw[zaB (d:=default) hi,zI]
theorem zhg(its:List It)(x:It):zJ its x<0↔x∉its:=by
 unfold zJ;cases h:its.findIdx? (fun y=>decide (x=y)) with
 |none =>
  simp only[List.findIdx?_eq_none_iff,decide_eq_false_iff_not] at h;constructor
  ·intro _ hm;exact h x hm rfl
  ·intro _;decide
 |some i =>
  rw[List.findIdx?_eq_some_iff_getElem] at h;obtain⟨hi,hp,-⟩:=h;simp at hp;constructor
  ·intro h;have h':(i:Int)<0:=h;omega
  ·intro h;exact absurd (hp▸List.getElem_mem hi) h
end
section
open Go.RowKit Go.Deep Sv
theorem zeE(ls:List Ln)(la:Option Addr)(lc:Nat)(w:World)(h:100<ls.length) :
  zR 36 #[.slice la ls.length lc] w (.tuple #[.pointer none,.iface 28 (.int .i64 4)]):=by
 have h1:(100:Int)<(ls.length:Int):=by omega
 clear h;go_enter Tryz.func36,Tryz.ntmps36;go_wp2;go_ret2;exact⟨rfl,Below.refl _ _⟩
theorem zgu(ls:List Ln)(la:Option Addr)(lc:Nat)(w:World)(hl:ls.length<=100)(vs:List Value)(h:yI w (.slice la ls.length lc) ls)(k:Int)(i:Nat)(hg:zE ls 0 []=.error (k,i)) :
  zC 36 #[.slice la ls.length lc] w (XB w ls vs (.error (k,some i))):=by
 have h1:¬(100:Int)<(ls.length:Int):=by omega
 have HG:Hid (zC 62 #[.slice la ls.length lc] w fun e w'=>∃N,e=.returned (.tuple #[.slice none 0 0,.iface 95 (.pointer (some ⟨N,0,none⟩))])/\Blk w' N 97 #[.int .i64 k,.int .i64 i]/\zB w w'):=by
  have h2:=JU ls _ w h (by omega);rw[hg] at h2;exact h2
 clear hg h hl;go_enter Tryz.func36,Tryz.ntmps36;go_wp2_with fail;refine HG.out.mono ?_;rintro e w1 ⟨N,rfl,hN,hb⟩;have HN:=zH hN;have HB:=zH hb;clear hN hb HG;go_wp2;go_ret2;exact⟨_,rfl,⟨N,rfl,HN.out⟩,HB.out⟩
theorem zbh(ls:List Ln)(la:Option Addr)(lc:Nat)(w:World)(hl:ls.length<=100)(vs:List Value)(hvg:zY w ls vs)(hvr:qt w (.slice la ls.length lc) ls.length (zG ls vs))(its:List It)(hg:zE ls 0 []=.ok its)(R:Except (Int × Option Nat) (List It))(hR:R=match zI ls 0 (qq its) with|some i=>.error (7,some i)|none=>.ok (qq its)) :
  zC 36 #[.slice la ls.length lc] w (XB w ls vs R):=by
 have h:yI w (.slice la ls.length lc) ls:=⟨vs,hvg,hvr⟩;have h1:¬(100:Int)<(ls.length:Int):=by omega
 have HR:=zH hR;clear hR;have HG:Hid (zC 62 #[.slice la ls.length lc] w fun e w'=>∃v,e=.returned (.tuple #[v,.nilIface])/\w'.ownsRow w.heap.size 145 4 v its.length (zf its)/\zB w w'):=by
  have h2:=JU ls _ w h (by omega);rw[hg] at h2;exact h2
 have hok:=XH (P:=fun x=>x.name.size<=12) ls 0 [] its hg (fun x hx=>by cases hx) (fun x hx=>YN hx);have hil:its.length<=100:=by have:=hok.2;simp at this;omega
 have HNM:Hid (∀x∈qq its,x.name.size<=100000):=fun x hx=>by have:=hok.1 x ((xP its).mem_iff.1 hx);omega
 obtain⟨S,hS⟩:∃S,qq its=S:=⟨_,rfl⟩;have hsl:S.length=its.length:=by rw[<-hS];exact Yw its
 have hSl:S.length<=100:=by omega
 have HS0:Hid (∀v W,W.ownsRow w.heap.size 145 4 v S.length (zf its)->zC 63 #[v] W fun e w'=>e=.returned (.tuple #[])/\w'.ownsRow w.heap.size 145 4 v S.length (zf S)/\Below w.heap.size W w'):=fun v W h=>by rw[hsl] at h ⊢;rw[<-hS];exact zdh its v w.heap.size W h (by omega)
 rw[<-hsl] at HG;rw[hS] at HNM HR;have HVG:=zH hvg;have HVR:=zH hvr;clear hg h hok hS hsl hil hvg hvr;go_enter Tryz.func36,Tryz.ntmps36;go_wp2_with fail;refine HG.out.mono ?_;rintro e w1 ⟨v,rfl,hrow,hb1⟩;have HS:=zH (HS0.out v w1 hrow);have HB1:=zH hb1;obtain⟨va,vc,rfl,-⟩:=(zD hrow).form;clear HG hrow hb1 HS0;go_wp2_with fail;refine HS.out.mono ?_;rintro e w2 ⟨rfl,hrow2,hb2⟩;have HB2:Hid (zB w w2):=HB1.out.trans hb2;have HI2:Hid (zS w2 (.slice va S.length vc) S):=zD hrow2;have hrg:=HVG.out.below HB2.out zN;have hrw:=HVR.out.below HB2.out zN;have HCL:=zH (Xl ls vs hrg.1 hrg.one _ w2 hrw (by omega));have HRG:=zH hrg;have HIV:Hid (∀g,(Value.slice va S.length vc).ownBlock=some g->w.heap.size<=g):=fun g hg=>(hrow2.lt g hg).1;have h2s:=HB2.out.size;clear HS hrow2 hb2 HB1 hrg hrw HVG HVR;go_wp2_with fail;refine HCL.out.mono ?_;rintro e w3 ⟨lv,rfl,hrow3,hb3⟩;have HB3:Hid (zB w w3):=zT HB2.out hb3;have HI3:Hid (zS w3 (.slice va S.length vc) S):=HI2.out.below hb3 zN;have HL3:Hid (zY w3 ls vs/\qt w3 lv ls.length (zG ls vs)):=⟨HRG.out.below hb3 zN,zD hrow3⟩;have HLV:Hid (∀g,lv.ownBlock=some g->w.heap.size<=g):=fun g hg=>by have:=(hrow3.lt g hg).1;omega
 have h3s:=HB3.out.size;have HRW:=zH (zeA S _ w3 HI3.out (by omega) HNM.out);obtain⟨lva,lvc,rfl,-⟩:=(zD hrow3).form;clear HCL hrow3 hb3 HB2 HI2 HRG;go_wp2_with fail;refine HRW.out.mono ?_;rintro e w4 ⟨rfl,hrows,hb4⟩;have HB4:Hid (zB w w4):=zT HB3.out hb4;have HI4:Hid (zS w4 (.slice va S.length vc) S):=HI3.out.below hb4 zN;have HL4:Hid (zY w4 ls vs/\qt w4 (.slice lva ls.length lvc) ls.length (zG ls vs)):=⟨HL3.out.1.below hb4 zN,HL3.out.2.below hb4 zN⟩;have HRW4:=zH hrows;clear HRW hrows hb4 HB3 HI3 HL3;have kc:=Blk.new w4 141 #[.slice lva ls.length lvc,.slice va S.length vc,.map (some w3.heap.size)];have hb5:zB w4 (w4.alloc (.cells #[.slice lva ls.length lvc,.slice va S.length vc,.map (some w3.heap.size)] 141)):=zF.alloc zN _;have hbc:w.heap.size<=w4.heap.size:=HB4.out.size;have HC5:Hid (qQ (w4.alloc (.cells #[.slice lva ls.length lvc,.slice va S.length vc,.map (some w3.heap.size)] 141)) w4.heap.size ls vs S w.heap.size):=⟨_,_,_,kc,HL4.out.1.below hb5 zN,HL4.out.2.below hb5 zN,HI4.out.below hb5 zN,HRW4.out.below hb5 zN,hbc,h3s,HLV.out,HIV.out⟩;have HL5:Hid (yI (w4.alloc (.cells #[.slice lva ls.length lvc,.slice va S.length vc,.map (some w3.heap.size)] 141)) (.slice lva ls.length lvc) ls):=⟨vs,HL4.out.1.below hb5 zN,HL4.out.2.below hb5 zN⟩;have HB5:Hid (zB w (w4.alloc (.cells #[.slice lva ls.length lvc,.slice va S.length vc,.map (some w3.heap.size)] 141))):=zT HB4.out hb5;clear hb5 HB4 HI4 HL4 HRW4 HLV HIV h2s h3s hbc;go_upto_region 8 with fail;generalize w4.alloc (.cells #[.slice lva ls.length lvc,.slice va S.length vc,.map (some w3.heap.size)] 141)=W5 at *;generalize w4.heap.size=bc at *;have d0:_=some (Value.slice lva ls.length lvc):=kc.cell 0;clear kc;go_wp2_with fail;clear d0;go_loopw [35] (fun iV wr=>∃i:Nat,i<=ls.length/\iV=.int .i64 i/\zI (ls.drop i) i S=zI ls 0 S/\zB W5 wr) (fun iV _=>ls.length-(intOf iV).toNat)
 case atStart=>exact⟨0,Nat.zero_le _,rfl,by rw[List.drop_zero],Below.refl _ _⟩
 case round =>
  obtain⟨i,hi,rfl,hms,hbr⟩:=hrel;have hB:zB w wr:=zT HB5.out hbr;have HCW:=zH (HC5.out.below hbr zN);have HB:=zH hB;have HBR:=zH hbr
  by_cases hlt:i<ls.length
  ·obtain⟨g,cap',rv,e,hg,hsp,hrg,c0,c1,c2,c3,c4,c5,c6⟩:=(HL5.out.below hbr zN).at i hlt;simp at e;obtain⟨rfl,rfl⟩:=e;rw[zaE hlt] at hms;have HMS:=zH hms;obtain⟨rra,rrc,rfl⟩:=hsp.form;clear hms hsp hrg hbr hB;generalize ls.getD i default=x at *;have kx:=Blk.new wr 92 #[.int .i64 x.kind,.string x.name,.int .i64 x.a,.int .i64 x.b,.int .i64 x.c,.string x.other,.slice rra x.rng.length rrc];have hbx:zB wr (wr.alloc (.cells #[.int .i64 x.kind,.string x.name,.int .i64 x.a,.int .i64 x.b,.int .i64 x.c,.string x.other,.slice rra x.rng.length rrc] 92)):=zF.alloc zN _;have HBX:Hid (zB wr (wr.alloc (.cells #[.int .i64 x.kind,.string x.name,.int .i64 x.a,.int .i64 x.b,.int .i64 x.c,.string x.other,.slice rra x.rng.length rrc] 92))):=hbx;clear hbx;go_upto_region 11 with fail;clear c0 c1 c2 c3 c4 c5 c6;have HBX2:Hid (zB W5 (wr.alloc (.cells #[.int .i64 x.kind,.string x.name,.int .i64 x.a,.int .i64 x.b,.int .i64 x.c,.string x.other,.slice rra x.rng.length rrc] 92))):=zT HBR.out HBX.out;clear HBX;generalize wr.alloc (.cells #[.int .i64 x.kind,.string x.name,.int .i64 x.a,.int .i64 x.b,.int .i64 x.c,.string x.other,.slice rra x.rng.length rrc] 92)=W6 at *;generalize wr.heap.size=bx at *;have d0:_=some (Value.int .i64 x.kind):=kx.cell 0;have d1:_=some (Value.string x.name):=kx.cell 1;have d2:_=some (Value.int .i64 x.a):=kx.cell 2;have d3:_=some (Value.int .i64 x.b):=kx.cell 3;have d4:_=some (Value.int .i64 x.c):=kx.cell 4;have d5:_=some (Value.string x.other):=kx.cell 5;have d6:_=some (Value.slice rra x.rng.length rrc):=kx.cell 6;go_wp2_with fail;clear d0 d1 d2 d3 d4 d5 d6;have hp0:=qF x (.slice rra x.rng.length rrc) W6
   by_cases hpr:x.pair
   ·have HP:Hid (zR 59 #[.agg #[.int .i64 x.kind,.string x.name,.int .i64 x.a,.int .i64 x.b,.int .i64 x.c,.string x.other,.slice rra x.rng.length rrc]] W6 (.bool true)):=hp0.mono fun e w' ⟨he,hw⟩=>⟨by rw[he,decide_eq_true hpr],by rw[hw];exact zF.alloc zN _⟩;clear hp0;refine HP.out.mono ?_;rintro e w7 ⟨rfl,hb7⟩;have kx7:=kx.below hb7 kx.lt;have HB7:Hid (zB W5 w7):=zT HBX2.out hb7;have d1:_=some (Value.string x.name):=kx7.cell 1;have d2:_=some (Value.int .i64 x.a):=kx7.cell 2;have d3:_=some (Value.int .i64 x.b):=kx7.cell 3;have d4:_=some (Value.int .i64 x.c):=kx7.cell 4;have HNUM:=zH (YD bc ls S x.name x.a x.b x.c w7 (HC5.out.below HB7.out zN).cat (by omega));clear HP hb7 kx kx7 HBX2;go_wp2_with fail;clear d1 d2 d3 d4;refine HNUM.out.mono ?_;rintro e w8 ⟨rfl,hb8⟩;have HB8:Hid (zB W5 w8):=zT HB7.out hb8;have HNEG:Hid (zJ S ⟨x.name,x.a,x.b,x.c⟩<0↔x.it∉S):=zhg S x.it;clear HNUM hb8 HB7;generalize zJ S ⟨x.name,x.a,x.b,x.c⟩=Z at *
    by_cases hz:Z<0
    ·have HM:Hid (zI ls 0 S=some i):=by show _=_;rw[<-HMS.out,if_pos ⟨hpr,HNEG.out.1 hz⟩]
     have HBF:Hid (zB w (w8.alloc (.cells #[.int .i64 7,.int .i64 i] 97))):=by
      have h:=zT HB5.out HB8.out;exact zL h
     have HKF:Hid (Blk (w8.alloc (.cells #[.int .i64 7,.int .i64 i] 97)) w8.heap.size 97 #[.int .i64 7,.int .i64 i]):=Blk.new _ _ _;clear HNEG HB8 hpr;go_wp2;go_ret2;rw[HR.out,HM.out];exact⟨_,rfl,⟨_,rfl,HKF.out⟩,HBF.out⟩
    ·have HM:Hid (zI (ls.drop (i+1)) (i+1) S=zI ls 0 S):=by show _=_;rw[<-HMS.out,if_neg (fun h=>hz (HNEG.out.2 h.2))]
     clear HNEG hpr;go_wp2;go_roundw
     case rel=>exact⟨i+1,hlt,by go_num,HM.out,HB8.out⟩
     case measure=>simp[intOf];omega
   ·have HP:Hid (zR 59 #[.agg #[.int .i64 x.kind,.string x.name,.int .i64 x.a,.int .i64 x.b,.int .i64 x.c,.string x.other,.slice rra x.rng.length rrc]] W6 (.bool false)):=hp0.mono fun e w' ⟨he,hw⟩=>⟨by rw[he,decide_eq_false hpr],by rw[hw];exact zF.alloc zN _⟩;have HM:Hid (zI (ls.drop (i+1)) (i+1) S=zI ls 0 S):=by show _=_;rw[<-HMS.out,if_neg (fun h=>hpr h.1)]
    clear hp0 hpr;refine HP.out.mono ?_;rintro e w7 ⟨rfl,hb7⟩;have HB7:Hid (zB W5 w7):=zT HBX2.out hb7;clear HP hb7 kx HBX2;go_wp2;go_roundw
    case rel=>exact⟨i+1,hlt,by go_num,HM.out,HB7.out⟩
    case measure=>simp[intOf];omega
  ·obtain rfl:i=ls.length:=by omega
   have HM:Hid (zI ls 0 S=none):=by show _=_;rw[<-hms,List.drop_length,zI]
   clear hms hbr hB;go_wp2;go_ret2;rw[HR.out,HM.out];exact⟨bc,rfl,HCW.out,HB.out⟩
theorem zcD(ls:List Ln)(vs:List Value)(lv:Value)(w:World)(hvg:zY w ls vs)(hvr:qt w lv ls.length (zG ls vs)):zC 36 #[lv] w (XB w ls vs (zk ls)):=by
 obtain⟨la,lc,rfl,-⟩:=hvr.form;unfold zk
 by_cases h1:100<ls.length
 ·rw[if_pos h1];exact(zeE ls la lc w h1).mono fun e w' ⟨he,hb⟩=>⟨_,he,rfl,hb⟩
 ·rw[if_neg h1];cases hg:zE ls 0 [] with
  |error e=>exact zgu ls la lc w (by omega) vs ⟨vs,hvg,hvr⟩ e.1 e.2 hg
  |ok its=>exact zbh ls la lc w (by omega) vs hvg hvr its hg _ rfl
end
end Go.Proofs.YtlamemjfaogjmaaGreatDoor
