/- Items, Lines. -/
import Derived.Test.YtapobpgbcbplbaaGreatDoorCtSort
import Derived.Maps.OwnIn
import Derived.Sort.CutIn
set_option maxHeartbeats 4000000
set_option maxRecDepth 100000
namespace Go.Proofs.YtapobpgbcbplbaaGreatDoor
section
open Go.RowKit Go.Deep Sv
def ya(w:World)(b:Nat)(ls:List Ln)(its:List It):Prop :=
 ∃lv iv bm,Blk w b 59 #[lv,iv,.map (some bm)]/\xj w lv ls/\yJ w iv its/\qv w bm (yf its) its.length
theorem ya.below{B:Nat}{w w':World}{b:Nat}{ls:List Ln}{its:List It}(h:ya w b ls its)(hb:Below B w w')(hB:w.heap.size<=B):ya w' b ls its:=by
 obtain⟨lv,iv,bm,h1,h2,h3,h4⟩:=h;exact⟨lv,iv,bm,h1.below hb (Nat.lt_of_lt_of_le h1.lt hB),h2.below hb hB,h3.below hb hB,h4.below hb hB⟩
theorem ya.lt{w:World}{b:Nat}{ls:List Ln}{its:List It}(h:ya w b ls its):b<w.heap.size:=by
 obtain⟨lv,iv,bm,h1,_⟩:=h;exact h1.lt
def yg(w:World)(b:Nat)(ls:List Ln)(vs:List Value)(its:List It)(B:Nat):Prop :=
 ∃lv iv bm,Blk w b 59 #[lv,iv,.map (some bm)]/\qu w ls vs/\qT w lv ls.length (qq ls vs)/\yJ w iv its/\qv w bm (yf its) its.length/\B<=b/\B<=bm/\(∀g,lv.ownBlock=some g->B<=g)/\(∀g,iv.ownBlock=some g->B<=g)
theorem yg.cat{w:World}{b:Nat}{ls:List Ln}{vs:List Value}{its:List It}{B:Nat}(h:yg w b ls vs its B):ya w b ls its:=by
 obtain⟨lv,iv,bm,h1,h2,h3,h4,h5,-⟩:=h;exact⟨lv,iv,bm,h1,⟨vs,h2,h3⟩,h4,h5⟩
theorem yg.below{B':Nat}{w w':World}{b:Nat}{ls:List Ln}{vs:List Value}{its:List It}{B:Nat}(h:yg w b ls vs its B)(hb:Below B' w w')(hB:w.heap.size<=B'):yg w' b ls vs its B:=by
 obtain⟨lv,iv,bm,h1,h2,h3,h4,h5,h6⟩:=h;exact⟨lv,iv,bm,h1.below hb (Nat.lt_of_lt_of_le h1.lt hB),h2.below hb hB,h3.below hb hB,h4.below hb hB,h5.below hb hB,h6⟩
theorem qT.set{w:World}{v x:Value}{n b i:Nat}{cs:List Value}(h:qT w v n cs)(hn:∀g,v.ownBlock=some g->g≠b):qT (w.setCell ⟨b,i,none⟩ x) v n cs :=
 ⟨h.form,fun h0=>by
  obtain⟨g,cap,e,hg,hc⟩:=h.cells h0;have hne:=hn g (by rw[e];rfl);exact ⟨g,cap,e,by simp [World.setCell];exact hg,fun j u hu=>by unfold World.cell?;rw [Below.heap_setCell _ _ _ g hne];exact hc j u hu⟩⟩
theorem qT.put{w:World}{v:Value}{n l:Nat}{cs:List Value}{o o':Obj}(h:qT w v n cs)(hl:w.heap[l]?=some o)(hc:o.isCells=false)(hcs:cs.length=0->n=0):qT (w.putObj l o') v n cs :=
 ⟨h.form,fun h0=>by
  obtain⟨g,cap,e,hg,hcl⟩:=h.cells h0;have hne:g≠l:=by
   rintro rfl;have hcp:0<cs.length:=by
    rcases Nat.eq_zero_or_pos cs.length with h|h
    ·have:=hcs h;omega
    ·exact h
   have:=hcl 0 _ (List.getElem?_eq_getElem hcp);unfold World.cell? at this;rw[hl] at this;cases o<;>simp[Obj.isCells] at hc this
  exact ⟨g,cap,e,by simp [World.putObj];exact hg,fun j u hu=>by unfold World.cell?;rw [World.putObj_heap_other hne];exact hcl j u hu⟩⟩
theorem Jj(bk:Nat)(ls:List Ln)(its:List It)(name:ByteArray)(a b c:Int)(w:World)(h:ya w bk ls its)(hl:its.length<=100000) :
  zR 33 #[.pointer (some ⟨bk,0,none⟩),.string name,.agg #[.int .i64 a,.int .i64 b,.int .i64 c]] w (.int .i64 (qQ its ⟨name,a,b,c⟩)):=by
 obtain⟨lv,iv,bm,h1,h2,h3,h4⟩:=h;obtain⟨la,lc,rfl,-⟩:∃la lc,lv=.slice la ls.length lc/\True:=by obtain⟨vs,_,h2⟩:=h2;obtain⟨x,y,e,_⟩:=h2.form;exact⟨x,y,e,trivial⟩
 obtain⟨va,vc,rfl,-⟩:=h3.form;have HI:Hid (∀W,zB w W->zR 61 #[.slice va its.length vc,.agg #[.string name,.int .i64 a,.int .i64 b,.int .i64 c]] W (.int .i64 (qQ its ⟨name,a,b,c⟩))):=fun W hW=>zhh its ⟨name,a,b,c⟩ _ W (h3.below hW zN) hl;have kv:=Blk.new w 33 #[.int .i64 a,.int .i64 b,.int .i64 c];have hb0:zB w (w.alloc (.cells #[.int .i64 a,.int .i64 b,.int .i64 c] 33)):=(Below.refl _ w).alloc zN _;have k1:=h1.below hb0 h1.lt;clear h1 h2 h3 h4 hl;generalize qQ its ⟨name,a,b,c⟩=Z at *;go_enter Tryz.func33,Tryz.ntmps33;go_wp2_with fail;have D0:zB w (w.alloc (.cells #[.int .i64 a,.int .i64 b,.int .i64 c] 33)).drew:=hb0.drew;generalize w.alloc (.cells #[.int .i64 a,.int .i64 b,.int .i64 c] 33)=W0 at *;have SC:Hid (∀W,zB W0 W->W.cell? ⟨bk,1,none⟩=some (.slice va its.length vc)/\W.cell? ⟨w.heap.size,0,none⟩=some (.int .i64 a)/\W.cell? ⟨w.heap.size,1,none⟩=some (.int .i64 b)/\W.cell? ⟨w.heap.size,2,none⟩=some (.int .i64 c)):=fun W h=>⟨(k1.below h k1.lt).cell 1,(kv.below h kv.lt).cell 0,(kv.below h kv.lt).cell 1,(kv.below h kv.lt).cell 2⟩;have E0:zB W0 W0.drew:=zF.drew;clear kv k1;go_region_held3 (fun W=>W.cell? ⟨bk,1,none⟩=some (.slice va its.length vc)/\W.cell? ⟨w.heap.size,0,none⟩=some (.int .i64 a)/\W.cell? ⟨w.heap.size,1,none⟩=some (.int .i64 b)/\W.cell? ⟨w.heap.size,2,none⟩=some (.int .i64 c)) (first|exact SC.out _ E0|exact SC.out _ E1)
  (((with_reducible refine(HI.out _ D0).mono ?_);rintro e x1 ⟨rfl,hb1⟩;have E1:zB W0 x1:=zT E0 hb1;have D1:zB w x1:=zT D0 hb1;clear HI D0 E0 hb1))
 have HB1:=zH D1;clear D1 E1;go_wp2;go_ret;exact⟨rfl,HB1.out⟩
def KZ(w:World)(ls:List Ln)(vs:List Value)(r:Except (Int × Option Nat) (List It))(e:Ending)(w':World):Prop :=
 match r with
 |.ok its=>∃bc,e=.returned (.tuple #[.pointer (some ⟨bc,0,none⟩),.nilIface])/\yg w' bc ls vs its w.heap.size/\zB w w'
 |.error (k,p)=>∃er,e=.returned (.tuple #[.pointer none,er])/\qF w' er k p/\zB w w'
theorem zak{P:It->Prop}:∀(ls:List Ln) (i:Nat) (its out:List It),ql ls i its=.ok out->(∀x∈its,P x)->(∀x:Ln,qJ x=0->P x.it)->(∀x∈out,P x)/\out.length<=its.length+ls.length
 |[],i,its,out,h,h1,_=>by cases h;exact⟨h1,by simp⟩
 |x :: r,i,its,out,h,h1,h2=>by
  rw[ql] at h
  by_cases hz:qJ x=0
  ·rw[if_neg (fun h=>h hz)] at h
   by_cases hk:x.kind=1
   ·rw[if_pos hk] at h;split at h
    ·cases h
    ·split at h
     ·cases h
     ·have:=zak r (i + 1) (its++[x.it]) out h (fun y hy=>by
       rcases List.mem_append.1 hy with hy|hy
       ·exact h1 y hy
       ·rw [List.mem_singleton] at hy;subst hy;exact h2 x hz) h2
      refine⟨this.1,?_⟩;have h3:=this.2;simp at h3 ⊢;omega
   ·rw[if_neg hk] at h;have:=zak r (i+1) its out h h1 h2;exact⟨this.1,by have h3:=this.2;simp;omega⟩
  ·rw[if_pos hz] at h;cases h
theorem zow{ls:List Ln}{i:Nat}(hi:i<ls.length)(its:List It):yn (ls.drop i) i its=if (ls.getD i default).pair/\(ls.getD i default).it∉its then some i else yn (ls.drop (i+1)) (i+1) its:=by
 rw[zfr (d:=default) hi,yn]
theorem zlt(its:List It)(x:It):qQ its x<0↔x∉its:=by
 unfold qQ;cases h:its.findIdx? (fun y=>decide (x=y)) with
 |none =>
  simp only[List.findIdx?_eq_none_iff,decide_eq_false_iff_not] at h;constructor
  ·intro _ hm;exact h x hm rfl
  ·intro _;decide
 |some i =>
  rw[List.findIdx?_eq_some_iff_getElem] at h;obtain⟨hi,hp,-⟩:=h;simp at hp;constructor
  ·intro h;have h':(i:Int)<0:=h;omega
  ·intro h;exact absurd (hp▸List.getElem_mem hi) h
end
section
open Go.RowKit Go.Deep Sv
theorem zlb(ls:List Ln)(la:Option Addr)(lc:Nat)(w:World)(h:100<ls.length) :
  zR 27 #[.slice la ls.length lc] w (.tuple #[.pointer none,.iface 64 (.int .i64 4)]):=by
 have h1:(100:Int)<(ls.length:Int):=by omega
 clear h;go_enter Tryz.func27,Tryz.ntmps27;go_wp2;go_ret2;exact⟨rfl,Below.refl _ _⟩
theorem ziL(ls:List Ln)(la:Option Addr)(lc:Nat)(w:World)(hl:ls.length<=100)(vs:List Value)(h:xj w (.slice la ls.length lc) ls)(k:Int)(i:Nat)(hg:ql ls 0 []=.error (k,i)) :
  zC 27 #[.slice la ls.length lc] w (KZ w ls vs (.error (k,some i))):=by
 have h1:¬(100:Int)<(ls.length:Int):=by omega
 have HG:Hid (zC 56 #[.slice la ls.length lc] w fun e w'=>∃N,e=.returned (.tuple #[.slice none 0 0,.iface 83 (.pointer (some ⟨N,0,none⟩))])/\Blk w' N 86 #[.int .i64 k,.int .i64 i]/\zB w w'):=by
  have h2:=zds ls _ w h (by omega);rw[hg] at h2;exact h2
 clear hg h hl;go_enter Tryz.func27,Tryz.ntmps27;go_wp2_with fail;refine HG.out.mono ?_;rintro e w1 ⟨N,rfl,hN,hb⟩;have HN:=zH hN;have HB:=zH hb;clear hN hb HG;go_wp2;go_ret2;exact⟨_,rfl,⟨N,rfl,HN.out⟩,HB.out⟩
theorem zg9(ls:List Ln)(la:Option Addr)(lc:Nat)(w:World)(hl:ls.length<=100)(vs:List Value)(hvg:qu w ls vs)(hvr:qT w (.slice la ls.length lc) ls.length (qq ls vs))(its:List It)(hg:ql ls 0 []=.ok its)(R:Except (Int × Option Nat) (List It))(hR:R=match yn ls 0 (qL its) with|some i=>.error (7,some i)|none=>.ok (qL its)) :
  zC 27 #[.slice la ls.length lc] w (KZ w ls vs R):=by
 have h:xj w (.slice la ls.length lc) ls:=⟨vs,hvg,hvr⟩;have h1:¬(100:Int)<(ls.length:Int):=by omega
 have HR:=zH hR;clear hR;have HG:Hid (zC 56 #[.slice la ls.length lc] w fun e w'=>∃v,e=.returned (.tuple #[v,.nilIface])/\w'.ownsRow w.heap.size 92 4 v its.length (zQ its)/\zB w w'):=by
  have h2:=zds ls _ w h (by omega);rw[hg] at h2;exact h2
 have hok:=zak (P:=fun x=>x.name.size<=12) ls 0 [] its hg (fun x hx=>by cases hx) (fun x hx=>zed hx);have hil:its.length<=100:=by have:=hok.2;simp at this;omega
 have HNM:Hid (∀x∈qL its,x.name.size<=100000):=fun x hx=>by have:=hok.1 x ((YP its).mem_iff.1 hx);omega
 obtain⟨S,hS⟩:∃S,qL its=S:=⟨_,rfl⟩;have hsl:S.length=its.length:=by rw[<-hS];exact KU its
 have hSl:S.length<=100:=by omega
 have HS0:Hid (∀v W,W.ownsRow w.heap.size 92 4 v S.length (zQ its)->zC 57 #[v] W fun e w'=>e=.returned (.tuple #[])/\w'.ownsRow w.heap.size 92 4 v S.length (zQ S)/\Below w.heap.size W w'):=fun v W h=>by rw[hsl] at h ⊢;rw[<-hS];exact JX its v w.heap.size W h (by omega)
 rw[<-hsl] at HG;rw[hS] at HNM HR;have HVG:=zH hvg;have HVR:=zH hvr;clear hg h hok hS hsl hil hvg hvr;go_enter Tryz.func27,Tryz.ntmps27;go_wp2_with fail;refine HG.out.mono ?_;rintro e w1 ⟨v,rfl,hrow,hb1⟩;have HS:=zH (HS0.out v w1 hrow);have HB1:=zH hb1;obtain⟨va,vc,rfl,-⟩:=(zD hrow).form;clear HG hrow hb1 HS0;go_wp2_with fail;refine HS.out.mono ?_;rintro e w2 ⟨rfl,hrow2,hb2⟩;have HB2:Hid (zB w w2):=HB1.out.trans hb2;have HI2:Hid (yJ w2 (.slice va S.length vc) S):=zD hrow2;have hrg:=HVG.out.below HB2.out zN;have hrw:=HVR.out.below HB2.out zN;have HCL:=zH (zay ls vs hrg.1 hrg.one _ w2 hrw (by omega));have HRG:=zH hrg;have HIV:Hid (∀g,(Value.slice va S.length vc).ownBlock=some g->w.heap.size<=g):=fun g hg=>(hrow2.lt g hg).1;have h2s:=HB2.out.size;clear HS hrow2 hb2 HB1 hrg hrw HVG HVR;go_wp2_with fail;refine HCL.out.mono ?_;rintro e w3 ⟨lv,rfl,hrow3,hb3⟩;have HB3:Hid (zB w w3):=zT HB2.out hb3;have HI3:Hid (yJ w3 (.slice va S.length vc) S):=HI2.out.below hb3 zN;have HL3:Hid (qu w3 ls vs/\qT w3 lv ls.length (qq ls vs)):=⟨HRG.out.below hb3 zN,zD hrow3⟩;have HLV:Hid (∀g,lv.ownBlock=some g->w.heap.size<=g):=fun g hg=>by have:=(hrow3.lt g hg).1;omega
 have h3s:=HB3.out.size;have HRW:=zH (zgU S _ w3 HI3.out (by omega) HNM.out);obtain⟨lva,lvc,rfl,-⟩:=(zD hrow3).form;clear HCL hrow3 hb3 HB2 HI2 HRG;go_wp2_with fail;refine HRW.out.mono ?_;rintro e w4 ⟨rfl,hrows,hb4⟩;have HB4:Hid (zB w w4):=zT HB3.out hb4;have HI4:Hid (yJ w4 (.slice va S.length vc) S):=HI3.out.below hb4 zN;have HL4:Hid (qu w4 ls vs/\qT w4 (.slice lva ls.length lvc) ls.length (qq ls vs)):=⟨HL3.out.1.below hb4 zN,HL3.out.2.below hb4 zN⟩;have HRW4:=zH hrows;clear HRW hrows hb4 HB3 HI3 HL3;have kc:=Blk.new w4 59 #[.slice lva ls.length lvc,.slice va S.length vc,.map (some w3.heap.size)];have hb5:zB w4 (w4.alloc (.cells #[.slice lva ls.length lvc,.slice va S.length vc,.map (some w3.heap.size)] 59)):=zF.alloc zN _;have hbc:w.heap.size<=w4.heap.size:=HB4.out.size;have HC5:Hid (yg (w4.alloc (.cells #[.slice lva ls.length lvc,.slice va S.length vc,.map (some w3.heap.size)] 59)) w4.heap.size ls vs S w.heap.size):=⟨_,_,_,kc,HL4.out.1.below hb5 zN,HL4.out.2.below hb5 zN,HI4.out.below hb5 zN,HRW4.out.below hb5 zN,hbc,h3s,HLV.out,HIV.out⟩;have HL5:Hid (xj (w4.alloc (.cells #[.slice lva ls.length lvc,.slice va S.length vc,.map (some w3.heap.size)] 59)) (.slice lva ls.length lvc) ls):=⟨vs,HL4.out.1.below hb5 zN,HL4.out.2.below hb5 zN⟩;have HB5:Hid (zB w (w4.alloc (.cells #[.slice lva ls.length lvc,.slice va S.length vc,.map (some w3.heap.size)] 59))):=zT HB4.out hb5;clear hb5 HB4 HI4 HL4 HRW4 HLV HIV h2s h3s hbc;go_upto_region 8 with fail;generalize w4.alloc (.cells #[.slice lva ls.length lvc,.slice va S.length vc,.map (some w3.heap.size)] 59)=W5 at *;generalize w4.heap.size=bc at *;have d0:_=some (Value.slice lva ls.length lvc):=kc.cell 0;clear kc;go_wp2_with fail;clear d0;go_loopw [35] (fun iV wr=>∃i:Nat,i<=ls.length/\iV=.int .i64 i/\yn (ls.drop i) i S=yn ls 0 S/\zB W5 wr) (fun iV _=>ls.length-(intOf iV).toNat)
 case atStart=>exact⟨0,Nat.zero_le _,rfl,by rw[List.drop_zero],Below.refl _ _⟩
 case round =>
  obtain⟨i,hi,rfl,hms,hbr⟩:=hrel;have hB:zB w wr:=zT HB5.out hbr;have HCW:=zH (HC5.out.below hbr zN);have HB:=zH hB;have HBR:=zH hbr
  by_cases hlt:i<ls.length
  ·obtain⟨g,cap',rv,e,hg,hsp,hrg,c0,c1,c2,c3,c4,c5,c6⟩:=(HL5.out.below hbr zN).at i hlt;simp at e;obtain⟨rfl,rfl⟩:=e;rw[zow hlt] at hms;have HMS:=zH hms;obtain⟨rra,rrc,rfl⟩:=hsp.form;clear hms hsp hrg hbr hB;generalize ls.getD i default=x at *;have kx:=Blk.new wr 38 #[.int .i64 x.kind,.string x.name,.int .i64 x.a,.int .i64 x.b,.int .i64 x.c,.string x.other,.slice rra x.rng.length rrc];have hbx:zB wr (wr.alloc (.cells #[.int .i64 x.kind,.string x.name,.int .i64 x.a,.int .i64 x.b,.int .i64 x.c,.string x.other,.slice rra x.rng.length rrc] 38)):=zF.alloc zN _;have HBX:Hid (zB wr (wr.alloc (.cells #[.int .i64 x.kind,.string x.name,.int .i64 x.a,.int .i64 x.b,.int .i64 x.c,.string x.other,.slice rra x.rng.length rrc] 38))):=hbx;clear hbx;go_upto_region 11 with fail;clear c0 c1 c2 c3 c4 c5 c6;have HBX2:Hid (zB W5 (wr.alloc (.cells #[.int .i64 x.kind,.string x.name,.int .i64 x.a,.int .i64 x.b,.int .i64 x.c,.string x.other,.slice rra x.rng.length rrc] 38))):=zT HBR.out HBX.out;clear HBX;generalize wr.alloc (.cells #[.int .i64 x.kind,.string x.name,.int .i64 x.a,.int .i64 x.b,.int .i64 x.c,.string x.other,.slice rra x.rng.length rrc] 38)=W6 at *;generalize wr.heap.size=bx at *;have d0:_=some (Value.int .i64 x.kind):=kx.cell 0;have d1:_=some (Value.string x.name):=kx.cell 1;have d2:_=some (Value.int .i64 x.a):=kx.cell 2;have d3:_=some (Value.int .i64 x.b):=kx.cell 3;have d4:_=some (Value.int .i64 x.c):=kx.cell 4;have d5:_=some (Value.string x.other):=kx.cell 5;have d6:_=some (Value.slice rra x.rng.length rrc):=kx.cell 6;go_wp2_with fail;clear d0 d1 d2 d3 d4 d5 d6;have hp0:=ye x (.slice rra x.rng.length rrc) W6
   by_cases hpr:x.pair
   ·have HP:Hid (zR 53 #[.agg #[.int .i64 x.kind,.string x.name,.int .i64 x.a,.int .i64 x.b,.int .i64 x.c,.string x.other,.slice rra x.rng.length rrc]] W6 (.bool true)):=hp0.mono fun e w' ⟨he,hw⟩=>⟨by rw[he,decide_eq_true hpr],by rw[hw];exact zF.alloc zN _⟩;clear hp0;refine HP.out.mono ?_;rintro e w7 ⟨rfl,hb7⟩;have kx7:=kx.below hb7 kx.lt;have HB7:Hid (zB W5 w7):=zT HBX2.out hb7;have d1:_=some (Value.string x.name):=kx7.cell 1;have d2:_=some (Value.int .i64 x.a):=kx7.cell 2;have d3:_=some (Value.int .i64 x.b):=kx7.cell 3;have d4:_=some (Value.int .i64 x.c):=kx7.cell 4;have HNUM:=zH (Jj bc ls S x.name x.a x.b x.c w7 (HC5.out.below HB7.out zN).cat (by omega));clear HP hb7 kx kx7 HBX2;go_wp2_with fail;clear d1 d2 d3 d4;refine HNUM.out.mono ?_;rintro e w8 ⟨rfl,hb8⟩;have HB8:Hid (zB W5 w8):=zT HB7.out hb8;have HNEG:Hid (qQ S ⟨x.name,x.a,x.b,x.c⟩<0↔x.it∉S):=zlt S x.it;clear HNUM hb8 HB7;generalize qQ S ⟨x.name,x.a,x.b,x.c⟩=Z at *
    by_cases hz:Z<0
    ·have HM:Hid (yn ls 0 S=some i):=by show _=_;rw[<-HMS.out,if_pos ⟨hpr,HNEG.out.1 hz⟩]
     have HBF:Hid (zB w (w8.alloc (.cells #[.int .i64 7,.int .i64 i] 86))):=by
      have h:=zT HB5.out HB8.out;exact zL h
     have HKF:Hid (Blk (w8.alloc (.cells #[.int .i64 7,.int .i64 i] 86)) w8.heap.size 86 #[.int .i64 7,.int .i64 i]):=Blk.new _ _ _;clear HNEG HB8 hpr;go_wp2;go_ret2;rw[HR.out,HM.out];exact⟨_,rfl,⟨_,rfl,HKF.out⟩,HBF.out⟩
    ·have HM:Hid (yn (ls.drop (i+1)) (i+1) S=yn ls 0 S):=by show _=_;rw[<-HMS.out,if_neg (fun h=>hz (HNEG.out.2 h.2))]
     clear HNEG hpr;go_wp2;go_roundw
     case rel=>exact⟨i+1,hlt,by go_num,HM.out,HB8.out⟩
     case measure=>simp[intOf];omega
   ·have HP:Hid (zR 53 #[.agg #[.int .i64 x.kind,.string x.name,.int .i64 x.a,.int .i64 x.b,.int .i64 x.c,.string x.other,.slice rra x.rng.length rrc]] W6 (.bool false)):=hp0.mono fun e w' ⟨he,hw⟩=>⟨by rw[he,decide_eq_false hpr],by rw[hw];exact zF.alloc zN _⟩;have HM:Hid (yn (ls.drop (i+1)) (i+1) S=yn ls 0 S):=by show _=_;rw[<-HMS.out,if_neg (fun h=>hpr h.1)]
    clear hp0 hpr;refine HP.out.mono ?_;rintro e w7 ⟨rfl,hb7⟩;have HB7:Hid (zB W5 w7):=zT HBX2.out hb7;clear HP hb7 kx HBX2;go_wp2;go_roundw
    case rel=>exact⟨i+1,hlt,by go_num,HM.out,HB7.out⟩
    case measure=>simp[intOf];omega
  ·obtain rfl:i=ls.length:=by omega
   have HM:Hid (yn ls 0 S=none):=by show _=_;rw[<-hms,List.drop_length,yn]
   clear hms hbr hB;go_wp2;go_ret2;rw[HR.out,HM.out];exact⟨bc,rfl,HCW.out,HB.out⟩
theorem KL(ls:List Ln)(vs:List Value)(lv:Value)(w:World)(hvg:qu w ls vs)(hvr:qT w lv ls.length (qq ls vs)):zC 27 #[lv] w (KZ w ls vs (qU ls)):=by
 obtain⟨la,lc,rfl,-⟩:=hvr.form;unfold qU
 by_cases h1:100<ls.length
 ·rw[if_pos h1];exact(zlb ls la lc w h1).mono fun e w' ⟨he,hb⟩=>⟨_,he,rfl,hb⟩
 ·rw[if_neg h1];cases hg:ql ls 0 [] with
  |error e=>exact ziL ls la lc w (by omega) vs ⟨vs,hvg,hvr⟩ e.1 e.2 hg
  |ok its=>exact zg9 ls la lc w (by omega) vs hvg hvr its hg _ rfl
end
section
open Go.RowKit Go.Deep Go.Shelf Sv
def RgN(ls:List Ln)(vs:List Value)(b:Option Nat):Prop:=∀i,i<ls.length->0<(ls.getD i default).rng.length->∀g,(vs.getD i undef).ownBlock=some g->some g≠b
theorem RgN.nil(b:Option Nat):RgN [] [] b:=fun i h=>by simp at h
theorem RgN.none(ls:List Ln)(vs:List Value):RgN ls vs none:=fun _ _ _ _ _ h=>by cases h
theorem zi.lt'{w:World}{v:Value}{l:List zh}(h:zi w v l)(hl:0<l.length){g:Nat}(hg:v.ownBlock=some g):g<w.heap.size:=by
 obtain⟨g',cap,e,hlt,_⟩:=h.cells 0 hl;rw[e] at hg;simp[Value.ownBlock] at hg;omega
theorem RgN.new{W:World}{ls:List Ln}{vs:List Value}(h:qu W ls vs){b:Nat}(hb:W.heap.size<=b):RgN ls vs (some b):=fun i hi hl g hg e=>by
 have:=(h.2 i hi).1.lt' hl hg;cases e;omega
theorem RgN.snoc{ls:List Ln}{vs:List Value}{b:Option Nat}(h:RgN ls vs b)(hv:vs.length=ls.length){x:Ln}{v:Value}(hx:0<x.rng.length->∀g,v.ownBlock=some g->some g≠b):RgN (ls++[x]) (vs++[v]) b:=by
 intro i hi
 by_cases hl:i<ls.length
 ·have e1:(ls++[x]).getD i default=ls.getD i default:=by simp[List.getD_eq_getElem?_getD,List.getElem?_append_left hl]
  have e2:(vs++[v]).getD i undef=vs.getD i undef:=by simp[List.getD_eq_getElem?_getD,List.getElem?_append_left (show i<vs.length by rw[hv];exact hl)]
  rw[e1,e2];exact h i hl
 ·obtain rfl:i=ls.length:=by simp at hi;omega
  have e1:(ls++[x]).getD ls.length default=x:=by simp[List.getD_eq_getElem?_getD]
  have e2:(vs++[v]).getD ls.length undef=v:=by simp[List.getD_eq_getElem?_getD,<-hv]
  rw[e1,e2];exact hx
theorem zi.grown{W W':World}{v:Value}{l:List zh}{row:Option Nat}(h:zi W v l)(hg:W.grownBy W' row)(hn:0<l.length->∀g,v.ownBlock=some g->some g≠row):zi W' v l :=
 ⟨h.form,fun i hi=>by
  obtain⟨g,cap,e,hlt,c0,c1⟩:=h.cells i hi;have hne:=hn (by omega) g (by rw[e];rfl);exact ⟨g,cap,e,Nat.lt_of_lt_of_le hlt hg.size,(ZF hg hlt hne).trans c0,(ZF hg hlt hne).trans c1⟩⟩
theorem qu.grown{W W':World}{ls:List Ln}{vs:List Value}{row:Option Nat}(h:qu W ls vs)(hg:W.grownBy W' row)(hn:RgN ls vs row):qu W' ls vs:=⟨h.1,fun i hi=>⟨(h.2 i hi).1.grown hg (hn i hi),(h.2 i hi).2⟩⟩
theorem zi.one'{W:World}{b:Nat}{v x:Value}{l:List zh}{i:Nat}(h:zi W v l)(hn:0<l.length->∀g,v.ownBlock=some g->some g≠some b):zi (W.setCell ⟨b,i,none⟩ x) v l :=
 ⟨h.form,fun j hj=>by
  obtain⟨g,cap,e,hg,c0,c1⟩:=h.cells j hj;have hne:g≠b:=fun e'=>hn (by omega) g (by rw[e];rfl) (by rw[e']);exact ⟨g,cap,e,by simp [World.setCell];exact hg,(yj hne).trans c0,(yj hne).trans c1⟩⟩
theorem qu.set{W:World}{ls:List Ln}{vs:List Value}{b i:Nat}{x:Value}(h:qu W ls vs)(hn:RgN ls vs (some b)):qu (W.setCell ⟨b,i,none⟩ x) ls vs:=⟨h.1,fun j hj=>⟨(h.2 j hj).1.one' (hn j hj),(h.2 j hj).2⟩⟩
theorem qu.keptO{W W':World}{ls:List Ln}{vs:List Value}{row:Option Nat}(h:qu W ls vs)(hg:W.grownBy W' row)(hr:∀r,row=some r->∃o:Obj,W.heap[r]?=some o/\o.isCells=false):qu W' ls vs:=⟨h.1,fun i hi=>⟨Xk (h.2 i hi).1 hg hr,(h.2 i hi).2⟩⟩
theorem zfs{W W':World}{B t k n:Nat}{v:Value}{cs:List Value}{row:Option Nat}(h:W.ownsRow B t k v n cs)(hg:W.grownBy W' row)(hr:∀r,row=some r->∃o:Obj,W.heap[r]?=some o/\o.isCells=false):W'.ownsRow B t k v n cs:=by
 obtain⟨h1,h2⟩:=h;refine⟨h1,?_⟩;rcases h2 with h2|⟨g,cap,cur,rfl,hB,hh,r⟩
 ·exact Or.inl h2
 ·refine Or.inr ⟨g,cap,cur,rfl,hB,(hg.block g (Array.getElem?_eq_some_iff.1 hh).1 (fun e=>?_)).trans hh,r⟩;obtain⟨o,ho,hc⟩:=hr g e.symm;rw[hh] at ho;cases ho;cases hc
theorem Ka{W W':World}{B t k n:Nat}{v:Value}{cs:List Value}{row:Option Nat}(h:W.ownsRow B t k v n cs)(hg:W.grownBy W' row)(hne:v.ownBlock=none\/v.ownBlock≠row):W'.ownsRow B t k v n cs:=by
 obtain⟨h1,h2⟩:=h;refine⟨h1,?_⟩;rcases h2 with h2|⟨g,cap,cur,rfl,hB,hh,r⟩
 ·exact Or.inl h2
 ·refine Or.inr ⟨g,cap,cur,rfl,hB,(hg.block g (Array.getElem?_eq_some_iff.1 hh).1 (fun e=>?_)).trans hh,r⟩;rcases hne with h|h
  ·simp[Value.ownBlock] at h
  ·exact h e
theorem yA{W:World}{B t k n b i:Nat}{v x:Value}{cs:List Value}(h:W.ownsRow B t k v n cs)(hb:b<B):(W.setCell ⟨b,i,none⟩ x).ownsRow B t k v n cs:=by
 refine⟨h.1,?_⟩;rcases h.2 with h1|⟨g,cap,cur,h1,h2,h3,h4⟩
 ·exact .inl h1
 ·exact .inr ⟨g,cap,cur,h1,h2,(Below.heap_setCell _ _ _ g (by show g≠b;omega)).trans h3,h4⟩
theorem zlQ(w:World)(A B C D E F G:Value)(t:TypeId):∀(j:Nat) (u:Value),[A,B,C,D,E,F,G][j]?=some u->(w.alloc (.cells #[A,B,C,D,E,F,G] t)).cell? (Addr.add ⟨w.heap.size,0,none⟩ j)=some u:=by
 intro j u h
 match j,h with
 |0,h=>simp at h;subst h;simp[Addr.add]
 |1,h=>simp at h;subst h;simp[Addr.add]
 |2,h=>simp at h;subst h;simp[Addr.add]
 |3,h=>simp at h;subst h;simp[Addr.add]
 |4,h=>simp at h;subst h;simp[Addr.add]
 |5,h=>simp at h;subst h;simp[Addr.add]
 |6,h=>simp at h;subst h;simp[Addr.add]
 |j+7,h=>simp at h
structure PS(w W:World)(lv sv:Value)(ls:List Ln)(vs:List Value)(ss:List Nat):Prop where
 r0:Blk W w.heap.size 22 #[.pointer none]
 r1:Blk W (w.heap.size+1) 41 #[.nilIface]
 r2:Blk W (w.heap.size+1+1) 30 #[lv]
 r3:Blk W (w.heap.size+1+1+1) 24 #[sv]
 lrow:W.ownsRow (w.heap.size+1+1+1+1+1) 38 7 lv ls.length (qq ls vs)
 srow:W.ownsRow (w.heap.size+1+1+1+1+1) 3 1 sv ss.length (zn (ss.map fun (k:Nat)=>(k:Int)))
 rg:qu W ls vs
 nl:RgN ls vs lv.ownBlock
 ns:RgN ls vs sv.ownBlock
 lo:∀k,k<w.heap.size+1+1+1+1+1->RgN ls vs (some k)
 B:zB w W
 sz:w.heap.size+1+1+1+1+1<=W.heap.size
theorem PS.step{w W W':World}{lv sv:Value}{ls:List Ln}{vs:List Value}{ss:List Nat}(h:PS w W lv sv ls vs ss)(hb:zB W W'):PS w W' lv sv ls vs ss :=
 ⟨h.r0.below hb h.r0.lt,h.r1.below hb h.r1.lt,h.r2.below hb h.r2.lt,h.r3.below hb h.r3.lt,zS h.lrow hb,zS h.srow hb,h.rg.below hb zN,h.nl,h.ns,h.lo,zT h.B hb,Nat.le_trans h.sz hb.size⟩
theorem PS.own{w:World}(B:Nat)(hB:w.heap.size<=B)(Φ:List Pc->List Ln->List Nat->Prop):OwnFrom B (fun (pre:List Pc) W=>∃lv sv ls vs ss,Φ pre ls ss/\PS w W lv sv ls vs ss):=by
 intro pre W W' row ⟨lv,sv,ls,vs,ss,hΦ,h⟩ hg hr;have hr':∀r,row=some r->∃o:Obj,W.heap[r]?=some o/\o.isCells=false:=fun r e=>(hr r e).2;exact⟨lv,sv,ls,vs,ss,hΦ,⟨qZ h.r0 hg hr',qZ h.r1 hg hr',qZ h.r2 hg hr',qZ h.r3 hg hr',zfs h.lrow hg hr',zfs h.srow hg hr',h.rg.keptO hg hr',h.nl,h.ns,h.lo,ownFrom_below (β:=Unit) zN hB () W W' row h.B hg hr,Nat.le_trans h.sz hg.size⟩⟩
theorem PS.appL{w W w':World}{lv lv' sv v:Value}{ls:List Ln}{vs:List Value}{ss:List Nat}{x:Ln}(h:PS w W lv sv ls vs ss)(hv:zi W v x.rng)(hrg:Rg x.rng)(hn:0<x.rng.length->∀g,v.ownBlock=some g->w.heap.size+1+1+1+1+1<=g/\some g≠lv.ownBlock/\some g≠sv.ownBlock)
  (hown:w'.ownsRow (w.heap.size+1+1+1+1+1) 38 7 lv' (ls.length+1) (qq ls vs++x8 x v)) (hg:W.grownBy w' lv.ownBlock) (hloc:lv'.ownBlock=lv.ownBlock\/lv'.ownBlock=some W.heap.size) :
  PS w (w'.setCell ⟨w.heap.size+1+1,0,none⟩ lv') lv' sv (ls++[x]) (vs++[v]) ss/\Blk w' (w.heap.size+1+1) 30 #[lv]/\Blk (w'.setCell ⟨w.heap.size+1+1,0,none⟩ lv') (w.heap.size+1+1+1) 24 #[sv]:=by
 have hne:∀b,b<w.heap.size+1+1+1+1+1->some b≠lv.ownBlock:=fun b hb e=>by have:=(h.lrow.lt b e.symm).1;omega
 have q0:=h.r0.kept hg (hne _ (by omega));have q1:=h.r1.kept hg (hne _ (by omega));have q2:=h.r2.kept hg (hne _ (by omega));have q3:=h.r3.kept hg (hne _ (by omega));have hx:0<x.rng.length->∀g,v.ownBlock=some g->some g≠lv.ownBlock:=fun h1 g h2=>(hn h1 g h2).2.1;have rg1:qu w' (ls++[x]) (vs++[v]):=(h.rg.grown hg h.nl).snoc (hv.grown hg hx) hrg;have lo1:∀k,k<w.heap.size+1+1+1+1+1->RgN (ls++[x]) (vs++[v]) (some k):=fun k hk=>(h.lo k hk).snoc h.rg.1 (fun h1 g h2 e=>by have:=(hn h1 g h2).1;cases e;omega);have srow1:=Ka h.srow hg (ZV h.srow h.lrow (by decide));have hB:zB w w':=h.B.grown hg h.B.size (fun k hk=>by have:=(h.lrow.lt k hk).1;omega);refine⟨⟨q0.other (by omega),q1.other (by omega),q2.set (i:=0),q3.other (by omega),?_,yA srow1 (by omega),rg1.set (lo1 _ (by omega)),?_,h.ns.snoc h.rg.1 (fun h1 g h2=>(hn h1 g h2).2.2),lo1,hB.setCell (p:=⟨w.heap.size+1+1,0,none⟩) (by show w.heap.size<=w.heap.size+1+1;omega) _,by simp[World.setCell];exact Nat.le_trans h.sz hg.size⟩,q2,q3.other (by omega)⟩
 ·rw[zeh _ _ _ _ h.rg.1,List.length_append];exact yA hown (by omega)
 ·rcases hloc with e|e
  ·rw[e];exact h.nl.snoc h.rg.1 hx
  ·rw[e];refine(RgN.new h.rg zN).snoc h.rg.1 (fun h1 g h2 e2=>?_);have:=hv.lt' h1 h2;cases e2;omega
theorem PS.appS{w W w':World}{lv sv sv':Value}{ls:List Ln}{vs:List Value}{ss:List Nat}{k:Nat}(h:PS w W lv sv ls vs ss)
  (hown:w'.ownsRow (w.heap.size+1+1+1+1+1) 3 1 sv' (ss.length+1) (zn (ss.map fun (k:Nat)=>(k:Int))++[.int .i64 k])) (hg:W.grownBy w' sv.ownBlock) (hloc:sv'.ownBlock=sv.ownBlock\/sv'.ownBlock=some W.heap.size) :
  PS w (w'.setCell ⟨w.heap.size+1+1+1,0,none⟩ sv') lv sv' ls vs (ss++[k])/\Blk w' (w.heap.size+1+1+1) 24 #[sv]:=by
 have hne:∀b,b<w.heap.size+1+1+1+1+1->some b≠sv.ownBlock:=fun b hb e=>by have:=(h.srow.lt b e.symm).1;omega
 have q0:=h.r0.kept hg (hne _ (by omega));have q1:=h.r1.kept hg (hne _ (by omega));have q2:=h.r2.kept hg (hne _ (by omega));have q3:=h.r3.kept hg (hne _ (by omega));have rg1:qu w' ls vs:=h.rg.grown hg h.ns;have lrow1:=Ka h.lrow hg (ZV h.lrow h.srow (by decide));have hB:zB w w':=h.B.grown hg h.B.size (fun k hk=>by have:=(h.srow.lt k hk).1;omega);refine⟨⟨q0.other (by omega),q1.other (by omega),q2.other (by omega),q3.set (i:=0),yA lrow1 (by omega),?_,rg1.set (h.lo _ (by omega)),h.nl,?_,h.lo,hB.setCell (p:=⟨w.heap.size+1+1+1,0,none⟩) (by show w.heap.size<=w.heap.size+1+1+1;omega) _,by simp[World.setCell];exact Nat.le_trans h.sz hg.size⟩,q3⟩
 ·rw[List.map_append,List.length_append];have e:zn (List.map (fun (k:Nat)=>(k:Int)) ss++List.map (fun (k:Nat)=>(k:Int)) [k])=zn (ss.map fun (k:Nat)=>(k:Int))++[.int .i64 k]:=by rw[List.map_cons,List.map_nil,QJ]
  rw[e];exact yA hown (by omega)
 ·rcases hloc with e|e
  ·rw[e];exact h.ns
  ·rw[e];exact RgN.new h.rg zN
theorem zdk{W:World}{B t k n:Nat}{v:Value}{cs:List Value}(h:W.ownsRow B t k v n cs):∀(j:Nat) (o:Obj),v.ownBlock=some j->W.heap[j]?=some o->o.isCells=true:=by
 intro j o hj ho;rcases h.2 with ⟨rfl,_⟩|⟨g,cap,cur,rfl,_,hg,_⟩
 ·simp[Value.ownBlock] at hj
 ·simp only[Value.ownBlock,Option.some.injEq] at hj;subst hj;rw[hg] at ho;cases ho;rfl
theorem zdD{bt:Nat}{W W1 W':World}{B t k n:Nat}{v:Value}{cs:List Value}(hK:Kp1 bt W W1)(h:W1.ownsRow B t k v n cs)(hg:W1.grownBy W' v.ownBlock)(h1:bt<B)(h2:2<B)(h3:bt<W1.heap.size)(h4:2<W1.heap.size):Kp1 bt W W':=by
 have hne:∀b,b<B->some b≠v.ownBlock:=fun b hb e=>by have:=(h.lt b e.symm).1;omega
 exact⟨(ZF hg h3 (hne _ h1)).trans hK.1,(ZF hg h4 (hne _ h2)).trans hK.2⟩
theorem yg.set{w:World}{b:Nat}{ls:List Ln}{vs:List Value}{its:List It}{B k i:Nat}{x:Value}(h:yg w b ls vs its B)(hk:k<B)(hn:RgN ls vs (some k)):yg (w.setCell ⟨k,i,none⟩ x) b ls vs its B:=by
 obtain⟨lv,iv,bm,h1,h2,h3,h4,h5,h6,h7,h8,h9⟩:=h;exact⟨lv,iv,bm,h1.other (by omega),h2.set hn,h3.set (fun g hg=>by have:=h8 g hg;omega),qT.set h4 (fun g hg=>by have:=h9 g hg;omega),h5.block (Below.heap_setCell _ _ _ _ (by show bm≠k;omega)),h6,h7,h8,h9⟩
theorem yg.putD{w:World}{b D:Nat}{ls:List Ln}{vs:List Value}{its:List It}{B:Nat}{o':Obj}(h:yg w b ls vs its B)(hK:∃o,w.heap[D]?=some o/\o.isCells=false/\∀es c,o≠.map es c):yg (w.putObj D o') b ls vs its B:=by
 obtain⟨lv,iv,bm,h1,h2,h3,h4,h5,h6,h7,h8,h9⟩:=h;obtain⟨o,ho,hc,hm⟩:=hK;have hbD:b≠D:=by
  rintro rfl;rw[show w.heap[b]?=_ from h1] at ho;cases ho;cases hc
 have hmD:bm≠D:=by
  rintro rfl;obtain⟨E,n,⟨es,clock,h10,_⟩,_⟩:=h5;rw[h10] at ho;cases ho;exact hm _ _ rfl
 refine⟨lv,iv,bm,h1.put hbD,h2.keptO (grownBy_putObj' _ D o') (fun r e=>by cases e;exact⟨_,ho,hc⟩),h3.put ho hc (fun h=>?_),qT.put h4 ho hc (fun h=>?_),h5.block (World.putObj_heap_other hmD),h6,h7,h8,h9⟩
 ·rw[Kq _ _ h2.1] at h;omega
 ·rw[Ql] at h;omega
end
section
open Go.RowKit Go.Deep Sv
theorem zm4(bk:Nat)(ls:List Ln)(its:List It)(w:World)(h:ya w bk ls its)(hl:its.length<=100000) :
  zC 28 #[.pointer (some ⟨bk,0,none⟩)] w fun e w'=>∃v',e=.returned v'/\w'.ownsRow w.heap.size 92 4 v' its.length (zQ its)/\zB w w':=by
 obtain⟨lv,iv,bm,h1,h2,h3,h4⟩:=h;have HI:=zH (zjc its iv w h3 hl);obtain⟨va,vc,rfl,-⟩:=h3.form;have c1:_=some (Value.slice va its.length vc):=h1.cell 1;clear h1 h2 h3 h4 hl;go_enter Tryz.func28,Tryz.ntmps28;go_wp2_with fail;refine HI.out.mono ?_;rintro e w1 ⟨v',rfl,hrow,hb1⟩;have HR:=zH hrow;have HB1:=zH hb1;clear hb1 HI hrow c1;go_wp2;go_ret;exact⟨v',rfl,HR.out,HB1.out⟩
theorem zbs(bk:Nat)(ls:List Ln)(its:List It)(w:World)(h:ya w bk ls its)(hl:ls.length<=100000) :
  zC 6 #[.pointer (some ⟨bk,0,none⟩)] w fun e w'=>∃v',e=.returned v'/\xj w' v' ls/\zB w w':=by
 obtain⟨lv,iv,bm,h1,⟨vs,h2,h2'⟩,h3,h4⟩:=h;have HI:=zH (zay ls vs h2.1 h2.one lv w h2' hl);obtain⟨va,vc,rfl,-⟩:=h2'.form;have c0:_=some (Value.slice va ls.length vc):=h1.cell 0;have HRG:=zH h2;clear h1 h2 h2' h3 h4 hl;go_enter Tryz.func6,Tryz.ntmps6;go_wp2_with fail;refine HI.out.mono ?_;rintro e w1 ⟨v',rfl,hrow,hb1⟩;have HR:Hid (xj w1 v' ls):=⟨vs,HRG.out.below hb1 zN,zD hrow⟩;have HB1:=zH hb1;clear hb1 HI hrow c0;go_wp2;go_ret;exact⟨v',rfl,HR.out,HB1.out⟩
theorem zjC(name:ByteArray):∀(l:List It) (r:Nat × Nat),yf l name=some r->r.1<r.2/\r.2<=l.length:=by
 intro l
 induction h:l.length generalizing l with
 |zero =>intro r hr;obtain rfl:l=[]:=List.eq_nil_of_length_eq_zero h;cases hr
 |succ n ih =>
  intro r hr;obtain⟨l',x,rfl⟩:∃l' x,l=l'++[x]:=by
   rcases List.eq_nil_or_concat l with e|⟨l',x,e⟩
   ·subst e;simp at h
   ·exact⟨l',x,by rw[e,List.concat_eq_append]⟩
  have hl':l'.length=n:=by simpa using h
  rw[zeY] at hr;split at hr
  ·cases hr;cases hf:yf l' name with
   |none=>simp[hl']
   |some r' =>have:=ih l' hl' r' hf;simp[hl'];omega
  ·have:=ih l' hl' r hr;omega
theorem zaI(its:List It)(name:ByteArray):(q8 its name).1<=(q8 its name).2/\(q8 its name).2<=its.length:=by
 unfold q8;cases h:yf its name with
 |none=>simp
 |some r=>have:=zjC name its r h;simp;omega
open Classical in
noncomputable def amP(its:List It)(name:ByteArray)(rng:List zh)(i:Nat):List Nat :=
 (List.range' (q8 its name).1 (i-(q8 its name).1)).filter fun i=>decide (xF rng (its.getD i default))
theorem zgd(its:List It)(name:ByteArray)(rng:List zh):amP its name rng (q8 its name).1=[]:=by unfold amP;simp
theorem zjJ(its:List It)(name:ByteArray)(rng:List zh):amP its name rng (q8 its name).2=qS its name rng:=rfl
open Classical in
theorem zkM(its:List It)(name:ByteArray)(rng:List zh){i:Nat}(hi:(q8 its name).1<=i):amP its name rng (i+1)=amP its name rng i++(if xF rng (its.getD i default) then [i] else []):=by
 unfold amP;rw[show i+1-(q8 its name).1=(i-(q8 its name).1)+1 by omega,List.range'_concat,List.filter_append,Nat.one_mul,show (q8 its name).1+(i-(q8 its name).1)=i by omega];congr 1
 by_cases h:xF rng (its.getD i default)
 ·rw[if_pos h];simp only[List.filter_cons,List.filter_nil,decide_eq_true h,if_true]
 ·rw[if_neg h];simp only[List.filter_cons,List.filter_nil,decide_eq_false h,Bool.false_eq_true,if_false]
theorem znX(its:List It)(name:ByteArray)(rng:List zh)(i:Nat):(amP its name rng i).length<=i:=by
 unfold amP;refine Nat.le_trans (List.length_filter_le _ _) ?_;rw[List.length_range'];omega
end
end Go.Proofs.YtapobpgbcbplbaaGreatDoor
