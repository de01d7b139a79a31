/- takeBack. -/
import Derived.Test.YtapobpgbcbplbaaGreatDoorClSide
set_option maxHeartbeats 4000000
set_option maxRecDepth 100000
namespace Go.Proofs.YtapobpgbcbplbaaGreatDoor
section
open Go.RowKit Go.Deep
def tvl(told:List Int):List Value:=(List.range 24).map fun i=>Value.int .i8 (tv told i)
theorem XZ(told:List Int)(i:Nat)(h:i<24):(tvl told)[i]?=some (.int .i8 (tv told i)):=by simp[tvl,h]
theorem qo(told:List Int):(tvl told).length=24:=by simp[tvl]
theorem zhj{W:World}{b:Nat}{t:TypeId}{pre post:List Value}{told:List Int}(h:Blk W b t (pre++tvl told++post).toArray):yY W ⟨b,pre.length,none⟩ told:=by
 refine⟨h.lt,fun i hi=>?_,fun i hi=>?_⟩
 ·rw[yo,h.cell,List.getElem?_toArray,List.append_assoc,List.getElem?_append_right (by omega),Nat.add_sub_cancel_left,List.getElem?_append_left (by rw[qo];exact hi),XZ _ _ hi]
 ·rw[yo];exact h.frozen _
theorem zgy{told:List Int}{x:Int}(hx:qi 24 x=true)(hn:-x∉told):(tvl told).set (qO x) (.int .i8 (yN x))=tvl (told++[x]):=by
 rw[q7] at hx;apply List.ext_getElem?;intro i;rw[List.getElem?_set,qo]
 by_cases hi:i<24
 ·rw[XZ _ _ hi,XZ _ _ hi,zaJ hn];unfold qO yN
  by_cases hp:0<x
  ·rw[if_pos hp,if_pos hp]
   by_cases e:x.toNat-1=i
   ·rw[if_pos e,if_pos (by omega),if_pos (by omega)]
   ·rw[if_neg e,if_neg (by omega),if_neg (by omega)]
  ·rw[if_neg hp,if_neg hp]
   by_cases e:(-x).toNat-1=i
   ·rw[if_pos e,if_pos (by omega),if_neg (by omega),if_pos (by omega)]
   ·rw[if_neg e,if_neg (by omega),if_neg (by omega)]
 ·rw[List.getElem?_eq_none (by rw[qo];omega),List.getElem?_eq_none (by rw[qo];omega)];have:qO x<24:=by unfold qO;split<;>omega
  rw[if_neg (by omega)]
theorem zmM{W:World}{b:Nat}{t:TypeId}{pre post:List Value}{told:List Int}{x:Int}(hx:qi 24 x=true)(hn:-x∉told)(h:Blk W b t (pre++tvl told++post).toArray) :
  Blk (W.setCell ((⟨b,pre.length,none⟩:Addr).add (qO x)) (.int .i8 (yN x))) b t (pre++tvl (told++[x])++post).toArray:=by
 have:=h.set (i:=pre.length+qO x) (v:=.int .i8 (yN x));have ht:qO x<24:=by rw[q7] at hx;unfold qO;split<;>omega
 rw[yo];rw[List.setIfInBounds_toArray,List.append_assoc,List.set_append_right _ _ (by omega),Nat.add_sub_cancel_left,List.set_append_left _ _ (by rw[qo];exact ht),zgy hx hn,<-List.append_assoc] at this;exact this
end
section
open Go.RowKit Go.Deep
def yr(told:List Int):Nat->Nat
 |0=>0
 |k+1=>if 0<tv told k then yr told k|||2^k else yr told k
theorem zbv(told:List Int):∀k,yr told k<2^k
 |0=>by simp[yr]
 |k+1=>by
  have h:=zbv told k;have h2:2^k<2^(k+1):=Nat.pow_lt_pow_right (by omega) (by omega);unfold yr;split
  ·exact Nat.or_lt_two_pow (by omega) h2
  ·omega
theorem zaE(told:List Int):∀k i,(yr told k).testBit i=(decide (i<k)&&decide (0<tv told i))
 |0,i=>by simp[yr]
 |k+1,i=>by
  have h:=zaE told k i;unfold yr;split
  ·rename_i hp;rw[Nat.testBit_or,h,Nat.testBit_two_pow]
   by_cases e:k=i
   ·subst e;simp[hp]
   ·by_cases h1:i<k
    ·simp[h1,e,show i<k+1 by omega]
    ·simp[h1,e,show ¬i<k+1 by omega]
  ·rename_i hp;rw[h]
   by_cases e:k=i
   ·subst e;simp[hp]
   ·by_cases h1:i<k
    ·simp[h1,show i<k+1 by omega]
    ·simp[h1,show ¬i<k+1 by omega]
theorem znp(o k:Nat)(ho:o<2^k)(hk:k<24):bits BinOp.or IntKind.u64 (o:Int) ((2:Int)^k)=((o|||2^k:Nat):Int):=by
 have h24:2^k<=2^24:=Nat.pow_le_pow_right (by omega) (by omega);have h63:(2:Nat)^24<18446744073709551616:=by decide
 have e:((2:Int)^k)=((2^k:Nat):Int):=by simp
 rw[e,bits_or_u64_nat o (2^k) (by omega) (by omega)]
theorem zoz{k:Nat}(hk:k<24):IntKind.u64.wrap (2^min k 64)=(2:Int)^k:=by
 have h24:2^k<=2^24:=Nat.pow_le_pow_right (by omega) (by omega);have h63:(2:Nat)^24<2^63:=by decide
 have e:((2:Int)^k)=((2^k:Nat):Int):=by simp
 rw[show min k 64=k by omega,e,IntKind.wrap_u64];exact Int.emod_eq_of_lt (Int.natCast_nonneg _) (by omega)
theorem zfB(p:Addr)(told:List Int)(w:World)(hv:yY w p told) :
  zR 108 #[.pointer (some p)] w (.int .u64 ((yr told 24:Nat):Int)):=by
 have HV:=zH hv;clear hv;go_enter Tryz.func108,Tryz.ntmps108;go_wp2_with fail;go_loopw [3,7] (fun nV kV wr=>∃k:Nat,k<=24/\kV=.int .i64 k/\nV=.int .u64 ((yr told k:Nat):Int)/\zB w wr) (fun _ kV _=>24-(intOf kV).toNat)
 case atStart=>exact⟨0,by omega,rfl,rfl,Below.refl _ _⟩
 case round =>
  obtain⟨k,hk,rfl,rfl,hbr⟩:=hrel;have HBR:=zH hbr;clear hbr
  by_cases hlt:k<24
  ·have hc:=(HV.out.below HBR.out).cell k hlt;have hi0:(0:Int)<=(k:Int):=by omega
   have hi1:(k:Int)<24:=by omega
   have hor:=znp (yr told k) k (zbv told k) hlt;have hsh:=zoz hlt;have hw2:IntKind.u64.wrap ((2:Int)^k)=(2:Int)^k:=by rw[show min k 64=k by omega] at hsh;exact hsh
   have HOR:=zH hor;have HSH:=zH hsh;have HW2:=zH hw2;have HN:Hid (yr told (k+1)=if 0<tv told k then yr told k|||2^k else yr told k):=rfl;clear hor hsh hw2;generalize tv told k=s at *;generalize yr told k=o at *;go_wp2_with fail;go_quiet (fail);have hbn:zB w (wr.drewN nq):=HBR.out.trans ⟨rfl,rfl,rfl,Nat.le_refl _,fun _ _=>rfl⟩;have HBN:=zH hbn;clear hbn
   by_cases hp:0<s
   ·have HN2:=zH (HN.out.trans (if_pos hp));go_wp2;go_roundw
    case rel=>exact⟨k+1,hlt,by go_num,congrArg (Value.int .u64) (by rw[HN2.out];first|exact HOR.out|(rw[HW2.out];exact HOR.out)|(rw[HSH.out];exact HOR.out)),HBN.out⟩
    case measure=>simp[intOf];omega
   ·have HN2:=zH (HN.out.trans (if_neg hp));go_wp2;go_roundw
    case rel=>exact⟨k+1,hlt,by go_num,by rw[HN2.out],HBN.out⟩
    case measure=>simp[intOf];omega
  ·obtain rfl:k=24:=by omega
   go_wp2;go_ret;exact⟨rfl,HBR.out⟩
theorem zh0(p:Addr)(told:List Int)(v:Nat)(hv24:v<=24)(cap:Nat)(w:World)(hv:yY w p told) :
  zC 107 #[.slice (some p) v cap,.int .i8 0] w fun e w'=>e=.returned (.int .i64 (yB v told))/\w=w':=by
 have HV:=zH hv;clear hv;go_enter Tryz.func107,Tryz.ntmps107;go_wp2_with fail;go_loop [8] (fun kV=>∃k:Nat,k<=v/\kV=.int .i64 k/\∀i,i<k->tv told i≠0) (fun kV=>v-(intOf kV).toNat)
 case atStart=>exact⟨0,by omega,rfl,fun i h=>by omega⟩
 case round =>
  obtain⟨k,hk,rfl,h1⟩:=hrel;have H1:=zH h1;clear h1
  by_cases hlt:k<v
  ·have hc:=HV.out.cell k (by omega);have HL:=zH (Qz (v:=v) (told:=told));generalize hs:tv told k=s at *;have HS:=zH hs;clear hs
   by_cases h0:s=0
   ·have HR:Hid (yB v told=(k:Int)):=by
     rcases HL.out with ⟨_,h⟩|⟨j,e,hj,h2,h3⟩
     ·exact absurd (HS.out.trans h0) (h k hlt)
     ·have:j=k:=by
       rcases Nat.lt_trichotomy j k with h|h|h
       ·exact absurd h2 (H1.out j h)
       ·exact h
       ·exact absurd (HS.out.trans h0) (h3 k h)
      rw[<-this];exact e
    subst h0;go_wp2;go_ret;exact⟨by rw[HR.out];rfl,rfl⟩
   ·have h0':(0==s)=false:=by simp;omega
    go_wp2;go_round
    case rel=>exact ⟨k + 1,hlt,by go_num,fun i hi=>(by
     rcases Nat.lt_succ_iff_lt_or_eq.1 hi with e|e
     ·exact H1.out i e
     ·rw [e,HS.out];exact h0)⟩
    case measure=>simp[intOf];omega
  ·obtain rfl:k=v:=by omega
   have HR:Hid (yB k told=-1):=by
    rcases Qz (v:=k) (told:=told) with ⟨e,_⟩|⟨j,e,hj,h2,h3⟩
    ·exact e
    ·exact absurd h2 (H1.out j hj)
   go_wp2;go_ret;exact⟨by rw[HR.out];rfl,rfl⟩
end
section
open Go.RowKit Go.Deep
def yE(d:Int × List Int):List Value:=.int .i64 d.1 :: tvl d.2
def qe(ds:List (Int × List Int)):List Value:=ds.flatMap yE
theorem Z8(d:Int × List Int):(yE d).length=25:=by simp[yE,qo]
theorem KV(ds:List (Int × List Int)):(qe ds).length=ds.length*25:=by
 induction ds with
 |nil=>rfl
 |cons d ds ih =>have:qe (d :: ds)=yE d++qe ds:=rfl;rw[this,List.length_append,Z8,ih,List.length_cons];omega
theorem Yt(ds:List (Int × List Int))(d:Int × List Int):qe (ds++[d])=qe ds++yE d:=by simp[qe]
theorem XI{ds:List (Int × List Int)}{k:Nat}{d:Int × List Int}(h:ds[k]?=some d)(j:Nat)(hj:j<25):(qe ds)[k*25+j]?=(yE d)[j]?:=by
 induction ds generalizing k with
 |nil=>simp at h
 |cons e ds ih =>
  have he:qe (e :: ds)=yE e++qe ds:=rfl;rw[he];cases k with
  |zero =>simp at h;subst h;rw[Nat.zero_mul,Nat.zero_add,List.getElem?_append_left (by rw[Z8];exact hj)]
  |succ k =>rw[List.getElem?_append_right (by rw[Z8];omega),Z8,show (k+1)*25+j-25=k*25+j by omega];exact ih (by simpa using h)
structure SAt(B:Nat)(w:World)(sb:Nat)(l:List (List Int))(s:St)(cV dV pV:Value):Prop where
 blk:Blk w sb 208 ([cV]++tvl s.told++[dV,pV]).toArray
 Bsb:B<=sb
 crow:∃cs,w.ownsRow B 202 1 cV (l++s.prf).length cs/\zX B w cs (l++s.prf)
 prow:∃ps,w.ownsRow B 202 1 pV s.prf.length ps/\zX 0 w ps s.prf
 drow:w.ownsRow B 266 25 dV s.decs.length (qe s.decs)
 apart:cV.ownBlock=none\/cV.ownBlock≠pV.ownBlock
section
variable {B sb:Nat} {w w':World} {l:List (List Int)} {s:St} {cV dV pV:Value}
theorem SAt.new(h:SAt B w sb l s cV dV pV)(hb:zB w w'):SAt B w' sb l s cV dV pV:=by
 obtain⟨cs,h1,h2⟩:=h.crow;obtain⟨ps,h3,h4⟩:=h.prow;exact⟨h.blk.below hb h.blk.lt,h.Bsb,⟨cs,zS h1 hb,h2.kp (Kp.new hb)⟩,⟨ps,zS h3 hb,h4.kp (Kp.new hb)⟩,zS h.drow hb,h.apart⟩
theorem SAt.vals(h:SAt B w sb l s cV dV pV):yY w ⟨sb,1,none⟩ s.told:=zhj (pre:=[cV]) (post:=[dV,pV]) h.blk
theorem SAt.c0(h:SAt B w sb l s cV dV pV):w.cell? ⟨sb,0,none⟩=some cV:=by rw[h.blk.cell];rfl
theorem SAt.c25(h:SAt B w sb l s cV dV pV):w.cell? ⟨sb,25,none⟩=some dV:=by
 rw[h.blk.cell,List.getElem?_toArray,List.getElem?_append_right (by simp[qo])];simp[qo]
theorem SAt.c26(h:SAt B w sb l s cV dV pV):w.cell? ⟨sb,26,none⟩=some pV:=by
 rw[h.blk.cell,List.getElem?_toArray,List.getElem?_append_right (by simp[qo])];simp[qo]
theorem SAt.fz(h:SAt B w sb l s cV dV pV)(i:Nat):w.frozen? ⟨sb,i,none⟩=false:=h.blk.frozen i
theorem SAt.rows(h:SAt B w sb l s cV dV pV)(i:Nat)(u:Value):(∃cs,(w.setCell ⟨sb,i,none⟩ u).ownsRow B 202 1 cV (l++s.prf).length cs/\zX B (w.setCell ⟨sb,i,none⟩ u) cs (l++s.prf))/\(∃ps,(w.setCell ⟨sb,i,none⟩ u).ownsRow B 202 1 pV s.prf.length ps/\zX 0 (w.setCell ⟨sb,i,none⟩ u) ps s.prf)/\(w.setCell ⟨sb,i,none⟩ u).ownsRow B 266 25 dV s.decs.length (qe s.decs):=by
 obtain⟨cs,h1,h2⟩:=h.crow;obtain⟨ps,h3,h4⟩:=h.prow;have hk:Kp B w (w.setCell ⟨sb,i,none⟩ u):=Kp.set h.Bsb h.blk (by decide);exact⟨⟨cs,ownsRow_setCell_other h1 (qC h1 h.blk (by decide)) u,h2.kp hk⟩,⟨ps,ownsRow_setCell_other h3 (qC h3 h.blk (by decide)) u,h4.kp hk.zero⟩,ownsRow_setCell_other h.drow (qC h.drow h.blk (by decide)) u⟩
theorem SAt.tell(h:SAt B w sb l s cV dV pV){x:Int}(hx:qi 24 x=true)(hn:-x∉s.told):SAt B (w.setCell ((⟨sb,1,none⟩:Addr).add (qO x)) (.int .i8 (yN x))) sb l ⟨s.told++[x],s.decs,s.prf⟩ cV dV pV:=by
 have hb:=zmM (pre:=[cV]) (post:=[dV,pV]) hx hn h.blk;have hr:=h.rows (1+qO x) (.int .i8 (yN x));rw[yo] at *;exact⟨hb,h.Bsb,hr.1,hr.2.1,hr.2.2,h.apart⟩
end
end
section
open Go.RowKit Go.Deep
theorem zk1:(Tryz.prog.info? 266).map (fun i=>(i.zero.map (·.cells.size),i.size,i.bytes))=some (some 25,25,32):=by kernel_rfl
theorem zfb:(Tryz.prog.info? 205).map (·.size)=some 24:=by kernel_rfl
theorem zhL:∃(i:TypeInfo) (z:Value),Tryz.prog.info? 266=some i/\i.zero=some z/\i.size=25/\i.bytes=32/\z.cells.size=25:=by
 obtain⟨i,hi,h⟩:=Option.map_eq_some_iff.1 zk1;simp only[Prod.mk.injEq,Option.map_eq_some_iff] at h;obtain⟨⟨z,hz,hs⟩,h1,h2⟩:=h;exact⟨i,z,hi,hz,h1,h2,hs⟩
theorem set0(cV dV pV u:Value)(told:List Int):([cV]++tvl told++[dV,pV]).toArray.setIfInBounds 0 u=([u]++tvl told++[dV,pV]).toArray:=by
 rw[List.setIfInBounds_toArray];rfl
theorem zbU(cV dV pV u:Value)(told:List Int):([cV]++tvl told++[dV,pV]).toArray.setIfInBounds 25 u=([cV]++tvl told++[u,pV]).toArray:=by
 rw[List.setIfInBounds_toArray,List.set_append_right _ _ (by simp[qo])];simp[qo]
theorem zlU(cV dV pV u:Value)(told:List Int):([cV]++tvl told++[dV,pV]).toArray.setIfInBounds 26 u=([cV]++tvl told++[dV,u]).toArray:=by
 rw[List.setIfInBounds_toArray,List.set_append_right _ _ (by simp[qo])];simp[qo]
theorem zcn{w w':World}{row:Option Nat}{b o:Nat}{cs:List Value}(h:w.rangeAt b o cs)(hg:w.grownBy w' row)(hlt:b<w.heap.size)(hne:some b≠row):w'.rangeAt b o cs:=fun j v hv=>by
 rw[hg.cell_far ⟨b,o+j,none⟩ hlt hne];exact h j v hv
theorem SAt.grow_d{B sb:Nat}{W w1:World}{l:List (List Int)}{s:St}{cV dV pV dV':Value}{ds:List (Int × List Int)}(h:SAt B W sb l s cV dV pV)(hown:w1.ownsRow B 266 25 dV' ds.length (qe ds))(hg:W.grownBy w1 dV.ownBlock)(hB:B<=W.heap.size) :
  w1.cell? ⟨sb,25,none⟩=some dV/\w1.frozen? ⟨sb,25,none⟩=false/\SAt B (w1.setCell ⟨sb,25,none⟩ dV') sb l ⟨s.told,ds,s.prf⟩ cV dV' pV/\Below B W (w1.setCell ⟨sb,25,none⟩ dV'):=by
 obtain⟨cs,h1,h2⟩:=h.crow;obtain⟨ps,h3,h4⟩:=h.prow;have hne:some sb≠dV.ownBlock:=fun e=>qC h.drow h.blk (by decide) e.symm;have hb:Blk w1 sb 208 _:=h.blk.kept hg hne;have hk:=Kp.grown h.drow hg (by decide);have h1':=h1.kept hg (ZV h1 h.drow (by decide));have h3':=h3.kept hg (ZV h3 h.drow (by decide));have hk2:Kp B w1 (w1.setCell ⟨sb,25,none⟩ dV'):=Kp.set h.Bsb hb (by decide);have hbw:Below B W w1:=zF.grown hg hB (fun k hk=>(h.drow.lt k hk).1);refine⟨by rw[hb.cell,List.getElem?_toArray,List.getElem?_append_right (by simp[qo])];simp[qo],hb.frozen _,⟨?_,h.Bsb,⟨cs,ownsRow_setCell_other h1' (qC h1' hb (by decide)) _,(h2.kp hk).kp hk2⟩,⟨ps,ownsRow_setCell_other h3' (qC h3' hb (by decide)) _,(h4.kp hk.zero).kp hk2.zero⟩,ownsRow_setCell_other hown (qC hown hb (by decide)) _,h.apart⟩,hbw.setCell h.Bsb _⟩;have:=hb.set (i:=25) (v:=dV');rw[zbU] at this;exact this
theorem zlM(B sb:Nat)(l:List (List Int))(s:St)(cV dV pV:Value)(x:Int)(hx:qi 24 x=true)(h1:-x∉s.told)(hd:s.decs.length<=24)(w:World)(h:SAt B w sb l s cV dV pV) :
  zC 109 #[.pointer (some ⟨sb,0,none⟩),.int .i64 x] w fun e w'=>e=.returned (.tuple #[])/\(∃dV',SAt B w' sb l ⟨s.told++[x],s.decs++[(x,s.told)],s.prf⟩ cV dV' pV)/\Below B w w':=by
 obtain⟨i0,z,hin,hz0,hz1,hz2,hz3⟩:=zhL;have c25:=h.c25;have S0:w.drew.cell? ⟨sb,25,none⟩=some dV/\w.drew.rangeAt sb 1 (tvl s.told):=by
  refine⟨by simpa using c25,?_⟩;rw[World.rangeAt_drew];intro j v hj;have hj24:j<24:=by have:=(List.getElem?_eq_some_iff.1 hj).1;rw[qo] at this;exact this
  have:=h.vals.cell j hj24;rw[yo] at this;rw[this,<-XZ _ _ hj24];exact hj
 have hu:=Tryz.underlying205;have hi:(Tryz.prog.info? 205).map (·.size)=some (tvl s.told).length:=by rw[qo];exact zfb
 have hl:(tvl s.told).length=24:=qo _;have ho:∀v∈tvl s.told,v.oneCell'=true:=fun v hv=>by
  unfold tvl at hv;obtain⟨i,_,rfl⟩:=List.mem_map.1 hv;rfl
 have HD:=zH h;obtain⟨V,hV⟩:∃V,V=tvl s.told:=⟨_,rfl⟩;rw[<-hV] at S0 hi hl ho;have HV:=zH hV;clear h hV
 match V,hl with
 |[v0,v1,v2,v3,v4,v5,v6,v7,v8,v9,v10,v11,v12,v13,v14,v15,v16,v17,v18,v19,v20,v21,v22,v23],hl =>
  clear hl;have cb:=HD.out.blk;have hws:=cb.lt;have S1:(w.alloc (.cells #[.int .i64 x,v0,v1,v2,v3,v4,v5,v6,v7,v8,v9,v10,v11,v12,v13,v14,v15,v16,v17,v18,v19,v20,v21,v22,v23] 266)).drew.cell? ⟨sb,25,none⟩=some dV/\(w.alloc (.cells #[.int .i64 x,v0,v1,v2,v3,v4,v5,v6,v7,v8,v9,v10,v11,v12,v13,v14,v15,v16,v17,v18,v19,v20,v21,v22,v23] 266)).drew.rangeAt sb 1 [v0,v1,v2,v3,v4,v5,v6,v7,v8,v9,v10,v11,v12,v13,v14,v15,v16,v17,v18,v19,v20,v21,v22,v23]:=by
   refine⟨?_,?_⟩
   ·rw[World.cell?_drew,World.cell?_alloc_lt _ _ ⟨sb,25,none⟩ hws];exact c25
   ·rw[World.rangeAt_drew];exact World.rangeAt_alloc ((World.rangeAt_drew _ _ _ _).1 S0.2) _
  have hsz:=HD.out.drow.lt;have hW:SAt B (w.alloc (.cells #[.int .i64 x,v0,v1,v2,v3,v4,v5,v6,v7,v8,v9,v10,v11,v12,v13,v14,v15,v16,v17,v18,v19,v20,v21,v22,v23] 266)).drew sb l s cV dV pV:=HD.out.new ((zf w _).drew);have HOW:=zH hW.drow;have hws2:=hW.blk.lt;have hnr:some sb≠dV.ownBlock:=fun e=>qC hW.drow hW.blk (by decide) e.symm;have hBw:B<=w.heap.size:=by have:=HD.out.Bsb;omega
  have hB2:B<=(w.alloc (.cells #[.int .i64 x,v0,v1,v2,v3,v4,v5,v6,v7,v8,v9,v10,v11,v12,v13,v14,v15,v16,v17,v18,v19,v20,v21,v22,v23] 266)).drew.heap.size:=by show B<=(w.alloc _).heap.size;rw[World.size_alloc];omega
  have one:∀u∈[Value.int .i64 x,v0,v1,v2,v3,v4,v5,v6,v7,v8,v9,v10,v11,v12,v13,v14,v15,v16,v17,v18,v19,v20,v21,v22,v23],u.oneCell'=true:=fun u hu=>by
   rcases List.mem_cons.1 hu with h|h
   ·rw[h];rfl
   ·exact ho u h
  have GR:Hid (∀ (g cap:Nat) (w1:World),w1.ownsRow B 266 25 (.slice (some ⟨g,0,none⟩) (s.decs.length + 1) cap) (s.decs.length + 1) (qe s.decs++[.int .i64 x,v0,v1,v2,v3,v4,v5,v6,v7,v8,v9,v10,v11,v12,v13,v14,v15,v16,v17,v18,v19,v20,v21,v22,v23])->(w.alloc (.cells #[.int .i64 x,v0,v1,v2,v3,v4,v5,v6,v7,v8,v9,v10,v11,v12,v13,v14,v15,v16,v17,v18,v19,v20,v21,v22,v23] 266)).drew.grownBy w1 dV.ownBlock ->
    w1.cell? ⟨sb,25,none⟩=some dV/\w1.frozen? ⟨sb,25,none⟩=false/\SAt B (w1.setCell ⟨sb,25,none⟩ (.slice (some ⟨g,0,none⟩) (s.decs.length + 1) cap)) sb l ⟨s.told,s.decs++[(x,s.told)],s.prf⟩ cV (.slice (some ⟨g,0,none⟩) (s.decs.length + 1) cap) pV/\Below B w (w1.setCell ⟨sb,25,none⟩ (.slice (some ⟨g,0,none⟩) (s.decs.length + 1) cap))):=fun g cap w1 hown hgrow=>by
   have e:qe s.decs++[.int .i64 x,v0,v1,v2,v3,v4,v5,v6,v7,v8,v9,v10,v11,v12,v13,v14,v15,v16,v17,v18,v19,v20,v21,v22,v23]=qe (s.decs++[(x,s.told)]):=by rw[Yt];unfold yE;rw[HV.out]
   rw[e] at hown;obtain⟨g1,g2,g3,g4⟩:=hW.grow_d (ds:=s.decs++[(x,s.told)]) (by simpa using hown) hgrow hB2;exact⟨g1,g2,g3,((zf w (.cells #[.int .i64 x,v0,v1,v2,v3,v4,v5,v6,v7,v8,v9,v10,v11,v12,v13,v14,v15,v16,v17,v18,v19,v20,v21,v22,v23] 266)).drew.mono hBw).trans g4⟩
  obtain⟨r0,S0⟩:=S0;obtain⟨r1,S1⟩:=S1;clear cb ho hsz hW HD HV;go_enter Tryz.func109,Tryz.ntmps109;go_wp2_with fail;refine wp_region_noPanic ?_;refine wp_region_held_drew (S:=(fun X=>X.rangeAt sb 1 [v0,v1,v2,v3,v4,v5,v6,v7,v8,v9,v10,v11,v12,v13,v14,v15,v16,v17,v18,v19,v20,v21,v22,v23])) (by kernel_rfl) S0 (fun hHeld=>?_);refine wpAnyH_take (i:=0) (oi:=⟨_,_,_,_,_,_⟩) (v:=?_) rfl (by as_aux_lemma=>kernel_rfl) (by as_aux_lemma=>kernel_rfl) (by as_aux_lemma=>kernel_rfl) (fun _ _ _ h=>h) (Or.inl ⟨by rfl,?_⟩) (by assumption) ?_;rotate_left
  ·(intro w hSw;(try dsimp only at hSw);first|(go_simp;done)|(go_simp;with_reducible rfl))
  try simp only[Act.put,List.setIfInBounds_toArray,List.set_cons_zero,List.set_cons_succ]
  refine wpAnyH_take (i:=1) (oi:=⟨_,_,_,_,_,_⟩) (v:=?_) rfl (by as_aux_lemma=>kernel_rfl) (by as_aux_lemma=>kernel_rfl) (by as_aux_lemma=>kernel_rfl) (fun _ _ _ h=>h) (Or.inl ⟨by rfl,?_⟩) (by assumption) ?_;rotate_left
  ·(intro w hSw;(try dsimp only at hSw);first|(go_simp;done)|(go_simp;with_reducible rfl))
  try simp only[Act.put,List.setIfInBounds_toArray,List.set_cons_zero,List.set_cons_succ]
  refine wpAnyH_take (i:=2) (oi:=⟨_,_,_,_,_,_⟩) (v:=?_) rfl (by as_aux_lemma=>kernel_rfl) (by as_aux_lemma=>kernel_rfl) (by as_aux_lemma=>kernel_rfl) (fun _ _ _ h=>h) (Or.inl ⟨by rfl,?_⟩) (by assumption) ?_;rotate_left
  ·(intro w hSw;(try dsimp only at hSw);first|(go_simp;done)|(go_simp;with_reducible rfl))
  try simp only[Act.put,List.setIfInBounds_toArray,List.set_cons_zero,List.set_cons_succ]
  refine wpAnyH_take (i:=3) (oi:=⟨_,_,_,_,_,_⟩) (v:=?_) rfl (by as_aux_lemma=>kernel_rfl) (by as_aux_lemma=>kernel_rfl) (by as_aux_lemma=>kernel_rfl) (fun _ _ _ h=>h) (Or.inl ⟨by rfl,?_⟩) (by assumption) ?_;rotate_left
  ·(intro w hSw;(try dsimp only at hSw);first|(go_simp;done)|(go_simp;with_reducible rfl))
  try simp only[Act.put,List.setIfInBounds_toArray,List.set_cons_zero,List.set_cons_succ]
  refine wpAnyH_take (i:=5) (oi:=⟨_,_,_,_,_,_⟩) (v:=?_) rfl (by as_aux_lemma=>kernel_rfl) (by as_aux_lemma=>kernel_rfl) (by as_aux_lemma=>kernel_rfl) (fun _ _ _ h=>h) (Or.inl ⟨by rfl,?_⟩) (by assumption) ?_;rotate_left
  ·(intro w hSw;(try dsimp only at hSw);first|(go_simp;done)|(go_simp;with_reducible rfl))
  try simp only[Act.put,List.setIfInBounds_toArray,List.set_cons_zero,List.set_cons_succ]
  refine wpAnyH_take (i:=6) (oi:=⟨_,_,_,_,_,_⟩) (v:=?_) rfl (by as_aux_lemma=>kernel_rfl) (by as_aux_lemma=>kernel_rfl) (by as_aux_lemma=>kernel_rfl) (fun _ _ _ h=>h) (Or.inl ⟨by rfl,?_⟩) (by assumption) ?_;rotate_left
  ·(intro w hSw;(try dsimp only at hSw);first|(go_simp;done)|(go_simp;with_reducible rfl))
  try simp only[Act.put,List.setIfInBounds_toArray,List.set_cons_zero,List.set_cons_succ]
  refine wpAnyH_take (i:=7) (oi:=⟨_,_,_,_,_,_⟩) (v:=?_) rfl (by as_aux_lemma=>kernel_rfl) (by as_aux_lemma=>kernel_rfl) (by as_aux_lemma=>kernel_rfl) (fun _ _ _ h=>h) (Or.inl ⟨by rfl,?_⟩) (by assumption) ?_;rotate_left
  ·(intro w hSw;(try dsimp only at hSw);first|(go_simp;done)|(go_simp;with_reducible rfl))
  try simp only[Act.put,List.setIfInBounds_toArray,List.set_cons_zero,List.set_cons_succ]
  refine wpAnyH_take (i:=8) (oi:=⟨_,_,_,_,_,_⟩) (v:=?_) rfl (by as_aux_lemma=>kernel_rfl) (by as_aux_lemma=>kernel_rfl) (by as_aux_lemma=>kernel_rfl) (fun _ _ _ h=>h) (Or.inl ⟨by rfl,?_⟩) (by assumption) ?_;rotate_left
  ·(intro w hSw;(try dsimp only at hSw);first|(go_simp;done)|(go_simp;with_reducible rfl))
  try simp only[Act.put,List.setIfInBounds_toArray,List.set_cons_zero,List.set_cons_succ]
  refine wpAnyH_take (i:=9) (oi:=⟨_,_,_,_,_,_⟩) (v:=.agg #[v0,v1,v2,v3,v4,v5,v6,v7,v8,v9,v10,v11,v12,v13,v14,v15,v16,v17,v18,v19,v20,v21,v22,v23]) rfl (by as_aux_lemma=>kernel_rfl) (by as_aux_lemma=>kernel_rfl) (by as_aux_lemma=>kernel_rfl) (fun _ _ _ h=>h) (yieldsIf_load_mid (by rfl) 205 _ rfl sb 1 rfl [v0,v1,v2,v3,v4,v5,v6,v7,v8,v9,v10,v11,v12,v13,v14,v15,v16,v17,v18,v19,v20,v21,v22,v23] _ (fun _ h=>h) hu rfl hi) (by assumption) ?_
  try simp only[Act.put,List.setIfInBounds_toArray,List.set_cons_zero,List.set_cons_succ]
  refine wpAnyH_take (i:=10) (oi:=⟨_,_,_,_,_,_⟩) (v:=?_) rfl (by as_aux_lemma=>kernel_rfl) (by as_aux_lemma=>kernel_rfl) (by as_aux_lemma=>kernel_rfl) (fun _ _ _ h=>h) (Or.inl ⟨by rfl,?_⟩) (by assumption) ?_;rotate_left
  ·(intro w hSw;(try dsimp only at hSw);first|(go_simp;done)|(go_simp;with_reducible rfl))
  try simp only[Act.put,List.setIfInBounds_toArray,List.set_cons_zero,List.set_cons_succ]
  refine wpAnyH_ready (rs:=[4,11]) (by as_aux_lemma=>kernel_rfl) (by simp) ?_;refine AllReadyH.cons (o:=⟨_,_,_,_,_,_⟩) rfl (fun K hK=>?_) (AllReadyH.cons (o:=⟨_,_,_,_,_,_⟩) rfl (fun K hK=>?_) AllReadyH.nil)
  ·go_simp;refine hK.out _ _ ?_ (fun hNew=>?_)
   ·exact hHeld
   clear hK K;replace hHeld:=hNew;clear hNew
   try simp only[Act.put,List.setIfInBounds_toArray,List.set_cons_zero,List.set_cons_succ]
   refine wpAnyH_ready (rs:=[11]) (by as_aux_lemma=>kernel_rfl) (by simp) ?_;refine AllReadyH.cons (o:=⟨_,_,_,_,_,_⟩) rfl (fun K hK=>?_) AllReadyH.nil;go_simp;refine hK.out _ _ ?_ (fun hNew=>?_)
   ·exact S1
   clear hK K;replace hHeld:=hNew;clear hNew
   try simp only[Act.put,List.setIfInBounds_toArray,List.set_cons_zero,List.set_cons_succ]
   refine wpAnyH_ready (rs:=[12]) (by as_aux_lemma=>kernel_rfl) (by simp) ?_;refine AllReadyH.cons (o:=⟨_,_,_,_,_,_⟩) rfl (fun K hK=>?_) AllReadyH.nil;refine step_append_lies _ (by rfl) _ _ _ (by rfl) B 266 i0 z 25 32 Tryz.underlying206 hin hz0 hz1 hz2 hz3 (by decide) dV s.decs.length (qe s.decs) (by rfl) HOW.out ⟨w.heap.size,0,none⟩ 1 1 [.int .i64 x,v0,v1,v2,v3,v4,v5,v6,v7,v8,v9,v10,v11,v12,v13,v14,v15,v16,v17,v18,v19,v20,v21,v22,v23] (by rfl) (by rfl) (World.news_of_block (heap_alloc_new w _)) one (by decide) (by unfold maxLen;omega) (by omega) hB2 _ rfl ?_;intro g cap w1 hown hgrow hat hlt;obtain⟨C2,F2,HS,HBB⟩:=GR.out g cap w1 hown hgrow;have R1:=zcn S1 hgrow hws2 hnr;have R2:=World.rangeAt_setCells_apart R1 sb 25 [.slice (some ⟨g,0,none⟩) (s.decs.length+1) cap] (Or.inr (Or.inl (by simp)));have HS2:=zH HS;have HB2:=zH HBB;clear hown hgrow hat hlt HS HBB GR HOW;refine hK.out _ _ ?_ (fun hNew=>?_)
   ·exact R1
   clear hK K;replace hHeld:=hNew;clear hNew
   try simp only[Act.put,List.setIfInBounds_toArray,List.set_cons_zero,List.set_cons_succ]
   refine wpAnyH_take (i:=13) (oi:=⟨_,_,_,_,_,_⟩) (v:=?_) rfl (by as_aux_lemma=>kernel_rfl) (by as_aux_lemma=>kernel_rfl) (by as_aux_lemma=>kernel_rfl) (fun _ _ _ h=>h) (Or.inl ⟨by rfl,?_⟩) (by assumption) ?_;rotate_left
   ·(intro w hSw;(try dsimp only at hSw);first|(go_simp;done)|(go_simp;with_reducible rfl))
   try simp only[Act.put,List.setIfInBounds_toArray,List.set_cons_zero,List.set_cons_succ]
   refine wpAnyH_take (i:=14) (oi:=⟨_,_,_,_,_,_⟩) (v:=?_) rfl (by as_aux_lemma=>kernel_rfl) (by as_aux_lemma=>kernel_rfl) (by as_aux_lemma=>kernel_rfl) (fun _ _ _ h=>h) (Or.inl ⟨by rfl,?_⟩) (by assumption) ?_;rotate_left
   ·(intro w hSw;(try dsimp only at hSw);first|(go_simp;done)|(go_simp;with_reducible rfl))
   try simp only[Act.put,List.setIfInBounds_toArray,List.set_cons_zero,List.set_cons_succ]
   refine wpAnyH_ready (rs:=[15]) (by as_aux_lemma=>kernel_rfl) (by simp) ?_;refine AllReadyH.cons (o:=⟨_,_,_,_,_,_⟩) rfl (fun K hK=>?_) AllReadyH.nil;go_simp;refine hK.out _ _ ?_ (fun hNew=>?_)
   ·exact R2
   clear hK K;replace hHeld:=hNew;clear hNew
   try simp only[Act.put,List.setIfInBounds_toArray,List.set_cons_zero,List.set_cons_succ]
   refine wpAnyH_done (by kernel_rfl) (NoPanic.normal ?_) _
   as_aux_lemma =>
    clear hHeld;clear r0 r1 C2 F2 R1 R2 S1;have HT:=zH (zaQ ⟨sb,1,none⟩ s.told x hx _ HS2.out.vals);have HS3:=zH (HS2.out.tell hx h1);have HB3:Hid (Below B w _):=HB2.out.setCell (p:=(⟨sb,1,none⟩:Addr).add (qO x)) (by rw[xm];exact HS2.out.Bsb) (.int .i8 (yN x));generalize w1.setCell ⟨sb,25,none⟩ (.slice (some ⟨g,0,none⟩) (s.decs.length+1) cap)=W3 at *;go_wp2_with fail;refine HT.out.mono ?_;rintro e w4 ⟨rfl,hw4⟩;have HS4:Hid (SAt B w4 sb l ⟨s.told++[x],s.decs++[(x,s.told)],s.prf⟩ cV (.slice (some ⟨g,0,none⟩) (s.decs.length+1) cap) pV):=by rw[hw4];exact HS3.out
    have HB4:Hid (Below B w w4):=by rw[hw4];exact HB3.out
    clear hw4 HS3 HB3 HT;go_wp2;refine bodyPost_end (v:=.tuple #[]) (by simp[results,Tryz.results109,go_sem]) rfl ?_;exact⟨rfl,⟨_,HS4.out⟩,HB4.out⟩
  ·go_simp;refine hK.out _ _ ?_ (fun hNew=>?_)
   ·exact S1
   clear hK K;replace hHeld:=hNew;clear hNew
   try simp only[Act.put,List.setIfInBounds_toArray,List.set_cons_zero,List.set_cons_succ]
   refine wpAnyH_ready (rs:=[4]) (by as_aux_lemma=>kernel_rfl) (by simp) ?_;refine AllReadyH.cons (o:=⟨_,_,_,_,_,_⟩) rfl (fun K hK=>?_) AllReadyH.nil;go_simp;refine hK.out _ _ ?_ (fun hNew=>?_)
   ·exact hHeld
   clear hK K;replace hHeld:=hNew;clear hNew
   try simp only[Act.put,List.setIfInBounds_toArray,List.set_cons_zero,List.set_cons_succ]
   refine wpAnyH_ready (rs:=[12]) (by as_aux_lemma=>kernel_rfl) (by simp) ?_;refine AllReadyH.cons (o:=⟨_,_,_,_,_,_⟩) rfl (fun K hK=>?_) AllReadyH.nil;refine step_append_lies _ (by rfl) _ _ _ (by rfl) B 266 i0 z 25 32 Tryz.underlying206 hin hz0 hz1 hz2 hz3 (by decide) dV s.decs.length (qe s.decs) (by rfl) HOW.out ⟨w.heap.size,0,none⟩ 1 1 [.int .i64 x,v0,v1,v2,v3,v4,v5,v6,v7,v8,v9,v10,v11,v12,v13,v14,v15,v16,v17,v18,v19,v20,v21,v22,v23] (by rfl) (by rfl) (World.news_of_block (heap_alloc_new w _)) one (by decide) (by unfold maxLen;omega) (by omega) hB2 _ rfl ?_;intro g cap w1 hown hgrow hat hlt;obtain⟨C2,F2,HS,HBB⟩:=GR.out g cap w1 hown hgrow;have R1:=zcn S1 hgrow hws2 hnr;have R2:=World.rangeAt_setCells_apart R1 sb 25 [.slice (some ⟨g,0,none⟩) (s.decs.length+1) cap] (Or.inr (Or.inl (by simp)));have HS2:=zH HS;have HB2:=zH HBB;clear hown hgrow hat hlt HS HBB GR HOW;refine hK.out _ _ ?_ (fun hNew=>?_)
   ·exact R1
   clear hK K;replace hHeld:=hNew;clear hNew
   try simp only[Act.put,List.setIfInBounds_toArray,List.set_cons_zero,List.set_cons_succ]
   refine wpAnyH_take (i:=13) (oi:=⟨_,_,_,_,_,_⟩) (v:=?_) rfl (by as_aux_lemma=>kernel_rfl) (by as_aux_lemma=>kernel_rfl) (by as_aux_lemma=>kernel_rfl) (fun _ _ _ h=>h) (Or.inl ⟨by rfl,?_⟩) (by assumption) ?_;rotate_left
   ·(intro w hSw;(try dsimp only at hSw);first|(go_simp;done)|(go_simp;with_reducible rfl))
   try simp only[Act.put,List.setIfInBounds_toArray,List.set_cons_zero,List.set_cons_succ]
   refine wpAnyH_take (i:=14) (oi:=⟨_,_,_,_,_,_⟩) (v:=?_) rfl (by as_aux_lemma=>kernel_rfl) (by as_aux_lemma=>kernel_rfl) (by as_aux_lemma=>kernel_rfl) (fun _ _ _ h=>h) (Or.inl ⟨by rfl,?_⟩) (by assumption) ?_;rotate_left
   ·(intro w hSw;(try dsimp only at hSw);first|(go_simp;done)|(go_simp;with_reducible rfl))
   try simp only[Act.put,List.setIfInBounds_toArray,List.set_cons_zero,List.set_cons_succ]
   refine wpAnyH_ready (rs:=[15]) (by as_aux_lemma=>kernel_rfl) (by simp) ?_;refine AllReadyH.cons (o:=⟨_,_,_,_,_,_⟩) rfl (fun K hK=>?_) AllReadyH.nil;go_simp;refine hK.out _ _ ?_ (fun hNew=>?_)
   ·exact R2
   clear hK K;replace hHeld:=hNew;clear hNew
   try simp only[Act.put,List.setIfInBounds_toArray,List.set_cons_zero,List.set_cons_succ]
   refine wpAnyH_done (by kernel_rfl) (NoPanic.normal ?_) _
   as_aux_lemma =>
    clear hHeld;clear r0 r1 C2 F2 R1 R2 S1;have HT:=zH (zaQ ⟨sb,1,none⟩ s.told x hx _ HS2.out.vals);have HS3:=zH (HS2.out.tell hx h1);have HB3:Hid (Below B w _):=HB2.out.setCell (p:=(⟨sb,1,none⟩:Addr).add (qO x)) (by rw[xm];exact HS2.out.Bsb) (.int .i8 (yN x));generalize w1.setCell ⟨sb,25,none⟩ (.slice (some ⟨g,0,none⟩) (s.decs.length+1) cap)=W3 at *;go_wp2_with fail;refine HT.out.mono ?_;rintro e w4 ⟨rfl,hw4⟩;have HS4:Hid (SAt B w4 sb l ⟨s.told++[x],s.decs++[(x,s.told)],s.prf⟩ cV (.slice (some ⟨g,0,none⟩) (s.decs.length+1) cap) pV):=by rw[hw4];exact HS3.out
    have HB4:Hid (Below B w w4):=by rw[hw4];exact HB3.out
    clear hw4 HS3 HB3 HT;go_wp2;refine bodyPost_end (v:=.tuple #[]) (by simp[results,Tryz.results109,go_sem]) rfl ?_;exact⟨rfl,⟨_,HS4.out⟩,HB4.out⟩
end
section
open Go.RowKit Go.Deep
theorem KY{W:World}{b:Nat}{t:TypeId}{cs:List Value}(h:Blk W b t cs.toArray)(vs:List Value)(o:Nat)(ho:o+vs.length<=cs.length):Blk (W.setCells b o vs) b t (cs.take o++vs++cs.drop (o+vs.length)).toArray:=by
 induction vs generalizing W o cs with
 |nil=>simpa[World.setCells] using h
 |cons v vs ih =>
  have h1:=h.set (i:=o) (v:=v);rw[List.setIfInBounds_toArray] at h1;simp only[List.length_cons] at ho;have h2:=ih h1 (o+1) (by rw[List.length_set];omega);show Blk ((W.setCell ⟨b,o,none⟩ v).setCells b (o+1) vs) b t _;have e:(cs.set o v).take (o+1)++vs++(cs.set o v).drop (o+1+vs.length)=cs.take o++v :: vs++cs.drop (o+(vs.length+1)):=by
   rw[List.take_succ_eq_append_getElem (by rw[List.length_set];omega),List.take_set_of_le zN,List.getElem_set_self,List.drop_set_of_lt (by omega)];simp[Nat.add_assoc,Nat.add_comm 1]
  rw[e] at h2;exact h2
theorem zal{B:Nat}{b:Nat}{t:TypeId}(hB:B<=b)(ht:t≠3):∀(vs:List Value) (o:Nat) (W:World) (cs:Array Value),Blk W b t cs->Kp B W (W.setCells b o vs)
 |[],_,W,_,_=>Kp.refl B W
 |_ :: vs,o,_,_,h=>(Kp.set hB h ht).trans (zal hB ht vs (o+1) _ _ h.set)
theorem YC{B:Nat}{e:TypeId}{size n b:Nat}{V:Value}{xs:List Value}(hne:V.ownBlock≠some b):∀(vs:List Value) (o:Nat) (W:World),W.ownsRow B e size V n xs->(W.setCells b o vs).ownsRow B e size V n xs
 |[],_,_,h=>h
 |v :: vs,o,_,h=>YC hne vs (o+1) _ (ownsRow_setCell_other h (a:=⟨b,o,none⟩) hne v)
theorem Ko{B b:Nat}(hB:B<=b){W0:World}:∀(vs:List Value) (o:Nat) (W:World),Below B W0 W->Below B W0 (W.setCells b o vs)
 |[],_,_,h=>h
 |v :: vs,o,_,h=>Ko hB vs (o+1) _ (h.setCell (p:=⟨b,o,none⟩) hB v)
theorem zlN{B sb:Nat}{w:World}{l:List (List Int)}{s:St}{cV dV pV:Value}(h:SAt B w sb l s cV dV pV)(t:List Int):SAt B (w.setCells sb 1 (tvl t)) sb l ⟨t,s.decs,s.prf⟩ cV dV pV/\Below B w (w.setCells sb 1 (tvl t)):=by
 obtain⟨cs,h1,h2⟩:=h.crow;obtain⟨ps,h3,h4⟩:=h.prow;have hk:Kp B w (w.setCells sb 1 (tvl t)):=zal h.Bsb (by decide) _ _ _ _ h.blk;refine⟨⟨?_,h.Bsb,⟨cs,YC (qC h1 h.blk (by decide)) _ _ _ h1,h2.kp hk⟩,⟨ps,YC (qC h3 h.blk (by decide)) _ _ _ h3,h4.kp hk.zero⟩,YC (qC h.drow h.blk (by decide)) _ _ _ h.drow,h.apart⟩,Ko h.Bsb _ _ _ zF⟩;have:=KY h.blk (tvl t) 1 (by simp[qo]);have e:([cV]++tvl s.told++[dV,pV]).take 1++tvl t++([cV]++tvl s.told++[dV,pV]).drop (1+(tvl t).length)=[cV]++tvl t++[dV,pV]:=by
  rw[qo,List.append_assoc [cV],List.take_append_of_le_length (by simp),List.drop_append,List.drop_append_of_le_length (by simp[qo])];have:(tvl s.told).drop 24=[]:=List.drop_eq_nil_of_le (by rw[qo];exact Nat.le_refl _);simp[this]
 rw[e] at this;exact this
theorem zhr(told:List Int):(Tryz.prog.info? 205).map (·.size)=some (tvl told).length:=by rw[qo];exact zfb
theorem zbu(told:List Int):∀v∈tvl told,v.oneCell'=true:=fun v hv=>by
 unfold tvl at hv;obtain⟨i,_,rfl⟩:=List.mem_map.1 hv;rfl
theorem zk7(B sb:Nat)(l:List (List Int))(s:St)(cV dV pV:Value)(ds:List (Int × List Int))(x:Int)(t:List Int)(hds:s.decs=ds++[(x,t)])(hd:s.decs.length<=24)(w:World)(h:SAt B w sb l s cV dV pV) :
  zC 106 #[.pointer (some ⟨sb,0,none⟩)] w fun e w'=>e=.returned (.tuple #[])/\(∃dV',SAt B w' sb l ⟨t,ds,s.prf⟩ cV dV' pV)/\Below B w w':=by
 have hrow:=h.drow;rw[hds,Yt] at hrow;have hlen:(ds++[(x,t)]).length=ds.length+1:=by simp
 rw[hlen] at hrow;obtain⟨g,cap,rfl,hBg,hgl⟩:=hrow.form (by omega);have hcap:ds.length+1<=cap/\cap<=9223372036854775807:=by
  rcases hrow.2 with ⟨e,_⟩|⟨g',cap',cur,e,-,-,q1,q2,-⟩
  ·cases e
  ·cases e;unfold maxLen at q2;exact⟨q1,q2⟩
 have hr:w.rangeAt g (ds.length*25+1) (tvl t):=by
  intro j v hj;have hj24:j<24:=by have:=(List.getElem?_eq_some_iff.1 hj).1;rw[qo] at this;exact this
  have:=hrow.cellAt (ds.length*25+1+j) (by omega);rw[this,List.getElem?_append_right (by rw[KV];omega),KV,show ds.length*25+1+j-ds.length*25=j+1 by omega];exact hj
 have hth:w.there sb 1 (tvl t).toArray.size:=by
  intro j hj;have hj24:j<24:=by simpa[qo] using hj
  have:=h.vals.cell j hj24;rw[yo] at this;exact⟨by rw[this];rfl,h.fz _⟩
 have c25:=h.c25;obtain⟨hm,hmb⟩:=zlN h t;have m25:=hm.c25;have mf:=hm.fz 25;have hset:=hm.blk.set (i:=25) (v:=.slice (some ⟨g,0,none⟩) ds.length cap);rw[zbU] at hset;have hrows:=hm.rows 25 (.slice (some ⟨g,0,none⟩) ds.length cap);have hpop:(((w.setCells sb 1 (tvl t)).setCell ⟨sb,25,none⟩ (.slice (some ⟨g,0,none⟩) ds.length cap))).ownsRow B 266 25 (.slice (some ⟨g,0,none⟩) ds.length cap) ds.length (qe ds):=by
  have:=hrows.2.2;simp only[hds,Yt,hlen] at this;exact ownsRow_pop (KV ds) this
 have HS:Hid (SAt B ((w.setCells sb 1 (tvl t)).setCell ⟨sb,25,none⟩ (.slice (some ⟨g,0,none⟩) ds.length cap)) sb l ⟨t,ds,s.prf⟩ cV (.slice (some ⟨g,0,none⟩) ds.length cap) pV):=⟨hset,hm.Bsb,hrows.1,hrows.2.1,hpop,hm.apart⟩;have HB:Hid (Below B w ((w.setCells sb 1 (tvl t)).setCell ⟨sb,25,none⟩ (.slice (some ⟨g,0,none⟩) ds.length cap))):=hmb.setCell hm.Bsb _;have hu:=zH Tryz.underlying205;have hi:=zH (zhr t);have ho:=zH (all_oneCell_toArray (zbu t));have HR:=zH hr;have HTH:=zH hth;rw[hds,hlen] at hd;clear h hm hmb hset hrows hpop hr hth hrow hlen hds;have e1:(ds.length:Int)+1-1=(ds.length:Int):=by omega
 generalize tvl t=V at *;generalize ds.length=n at *;go_enter Tryz.func106,Tryz.ntmps106;go_wp2_with (first
  |(refine wpList_load_mid (by rfl) 205 _ (by rfl) g (n*25+1) (by rfl) V _ HR.out hu.out (by rfl) hi.out ?_)
  |(refine wpList_store_mid (by rfl) 205 _ _ (by rfl) sb 1 V.toArray (by rfl) (by rfl) HTH.out (by simpa using hi.out) ho.out ?_)
  | fail)
 refine bodyPost_end (v:=.tuple #[]) (by simp[results,Tryz.results106,go_sem]) rfl ?_;exact⟨rfl,⟨_,HS.out⟩,HB.out⟩
end
end Go.Proofs.YtapobpgbcbplbaaGreatDoor
