/- reason: Core. -/
import Derived.Test.YtapobpgbcbplbaaGreatDoorClSolve
import Derived.Shelf.SlicesG.Delete
import Derived.Lib.OwnBridge
open Go.Proofs.YtapobpgbcbplbaaGreatDoor
set_option maxHeartbeats 4000000
set_option maxRecDepth 100000
namespace Go.Proofs.YtapobpgbcbplbaaGreatDoor
open Go.RowKit Go.Deep Sv
def inF(m:Nat)(ls:List Nat):List Bool:=(List.range m).map fun i=>decide (i∈ls)
def zu(ls:List Nat):List Int:=ls.map fun n:Nat=>(n:Int)
theorem Qu(m:Nat)(ls:List Nat):(inF m ls).length=m:=by simp[inF]
theorem QG{m i:Nat}(ls:List Nat)(h:i<m):(inF m ls).getD i false=decide (i∈ls):=by simp[inF,List.getD_eq_getElem?_getD,h]
def ZZ(W:World)(g:Nat)(bs:List Bool):Prop:=∃cur,Blk W g 4 cur/\cur.size=bs.length/\∀j,j<bs.length->cur[j]?=some (.bool (bs.getD j false))
theorem ZZ.bools{W:World}{g:Nat}{bs:List Bool}(h:ZZ W g bs):xN W (some ⟨g,0,none⟩) bs:=fun j hj=>by
 obtain⟨cur,h1,_,h3⟩:=h;exact⟨_,rfl,h1.lt,by rw[yo,Nat.zero_add,h1.cell j,h3 j hj]⟩
theorem ZZ.tell{W:World}{g m:Nat}{ls:List Nat}(h:ZZ W g (inF m ls)){n:Nat}(hn:n<m):ZZ (W.setCell ⟨g,n,none⟩ (.bool true)) g (inF m (ls++[n])):=by
 obtain⟨cur,h1,h2,h3⟩:=h;rw[Qu] at h2 h3;refine⟨_,h1.set,by rw[Array.size_setIfInBounds,Qu,h2],fun j hj=>?_⟩;rw[Qu] at hj;rw[Array.getElem?_setIfInBounds,QG _ hj]
 by_cases e:n=j
 ·subst e;rw[if_pos rfl,if_pos (by omega)];simp
 ·rw[if_neg e,h3 j hj,QG _ hj];have:(j∈ls++[n])↔j∈ls:=by simp;exact fun h=>absurd h.symm e
  simp only[this]
theorem zk6(m i:Nat)(h:i<m):(madeCells #[.bool false] m)[i]?=some (.bool false):=by
 simp[madeCells,h,Nat.mod_one]
theorem zg6{W:World}{g m:Nat}{cur:Array Value}(h1:Blk W g 4 cur)(h2:cur.size=m)(h3:cur.toList.take m=(madeCells #[.bool false] m).toList):ZZ W g (inF m []):=by
 refine⟨cur,h1,by rw[Qu,h2],fun j hj=>?_⟩;rw[Qu] at hj;rw[QG _ hj];have e:=congrArg (fun l=>l[j]?) h3;simp only[List.getElem?_take,if_pos hj] at e;rw[Array.getElem?_toList,Array.getElem?_toList,zk6 m j hj] at e;rw[e];simp
def Qx(v:Nat)(l:List (List Int))(b:Bool)(er:Value):Prop :=
 ∃r,Run v l st0 r/\((∃t,r=.sat t/\b=true/\er=.nilIface)\/(∃p,r=.unsat p/\b=false/\er=.nilIface)\/(r=.limit/\b=false/\er=.iface 64 (.int .i64 4)))
theorem zfI(v:Nat)(l:List (List Int))(a:Option Addr)(cap:Nat)(hn:a=none->cap=0)(w:World)(hI:yK w a l)(hm:l.length<=9223372036854775807)(hc:(qB v l).1=0) :
  zC 64 #[.int .i64 v,.slice a l.length cap] w fun e w'=>∃b nn pa pn pc er,e=.returned (.tuple #[.agg #[.bool b,.int .u64 nn,.slice pa pn pc],er])/\Qx v l b er/\zB w w':=by
 refine(zlI v l a cap hn w hI hm).mono ?_;rintro e w' ⟨hs,hb⟩;rcases hs with ⟨h,_⟩|⟨-,r,hr,h⟩
 ·exact absurd hc h
 ·rw[Int.toNat_natCast] at hr;rcases h with ⟨t,rfl,rfl⟩|⟨p,pa,pc,rfl,rfl,-⟩|⟨rfl,rfl⟩
  ·exact⟨_,_,_,_,_,_,rfl,⟨_,hr,Or.inl ⟨t,rfl,rfl,rfl⟩⟩,hb⟩
  ·exact⟨_,_,_,_,_,_,rfl,⟨_,hr,Or.inr (Or.inl ⟨p,rfl,rfl,rfl⟩)⟩,hb⟩
  ·exact⟨_,_,_,_,_,_,rfl,⟨_,hr,Or.inr (Or.inr ⟨rfl,rfl,rfl⟩)⟩,hb⟩
theorem zcK:(Tryz.prog.info? 4).map (fun i=>(i.zero,i.size,i.bytes))=some (some (.bool false),1,1):=by kernel_rfl
theorem zbF(B n:Nat)(P:List (Int × List Int))(cv fv:Value)(m:Nat)(ls:List Nat)(la:Option Addr)(lc:Nat)(sa:Option Addr)(sn sc:Nat)(w:World)(hr:RS B w cv fv (P.map Prod.snd) (P.map Prod.fst))(hl:qr w la (zu ls))(hlt:∀x∈ls,x<m)(hm:m<=1000)(hll:ls.length<=100000)(hP:P.length<=10000)(hc:∀x∈P,x.2.length<=1000)(hck:(qB n (qb P (inF m ls))).1=0) :
  zC 36 #[.agg #[.int .i64 n,cv,fv,.slice sa sn sc,.int .i64 m],.slice la ls.length lc] w fun e w'=>∃b er,e=.returned (.tuple #[.bool b,er])/\Qx n (qb P (inF m ls)) b er/\zB w w':=by
 obtain⟨ca,cc,rfl,-⟩:∃a c,cv=.slice a P.length c/\True:=by obtain⟨cs,h1,_⟩:=hr.crow;obtain⟨a,c,e,_⟩:=(zD h1).form;exact⟨a,c,by simpa using e,trivial⟩
 obtain⟨fa,fc,rfl,-⟩:∃a c,fv=.slice a P.length c/\True:=by obtain⟨a,c,e,_⟩:=(zD hr.frow).form;exact⟨a,c,by simpa using e,trivial⟩
 obtain⟨i0,hin,hz0,hz1,hz2⟩:=info_parts zcK;have hb1:=zf w (.cells #[.int .i64 n,.slice ca P.length cc,.slice fa P.length fc,.slice sa sn sc,.int .i64 m] 61);have kb:=Blk.new w 61 #[.int .i64 n,.slice ca P.length cc,.slice fa P.length fc,.slice sa sn sc,.int .i64 m];have HR:=zH (hr.new hb1);have HL:=zH (hl.below hb1);have HLT:=zH hlt;have HC:=zH hc;have HB1:=zH hb1;have HCK:=zH hck;have hmi:(0:Int)<=(m:Int):=by omega
 clear hr hl hb1 hlt hc hck;go_enter Tryz.func36,Tryz.ntmps36;go_upto_region 1 with fail;generalize w.alloc (.cells #[.int .i64 n,.slice ca P.length cc,.slice fa P.length fc,.slice sa sn sc,.int .i64 m] 61)=W0 at *;have c4:_=some (Value.int .i64 m):=kb.cell 4;go_wp2_with (at_make;refine wpList_make_full _ rfl _ _ 65 rfl W0.heap.size 4 i0 (.bool false) 1 Tryz.underlying65 hin hz0 hz1 .i64 .i64 _ _ m rfl rfl ?c1 ?c2 ?c3 ?c4 ?c5 ?_)
 case c1=>rfl
 case c2=>rfl
 case c3=>rw[hz2];omega
 case c4=>unfold maxLen;omega
 case c5=>omega
 intro w5 hown hgrow;have hb5:zB W0 w5:=zF.grown hgrow zN (fun k hk=>by cases hk);have hbo:ZZ w5 W0.heap.size (inF m []):=by
  rcases hown.2 with ⟨e,_⟩|⟨g,cap,cur,e,_,hg,_,_,hsz,htk⟩
  ·cases e
  ·cases e;exact zg6 hg (by omega) (by simpa using htk)
 have HBO:=zH hbo;have HB5:=zH hb5;clear hown hgrow hbo hb5 c4;generalize hg4:W0.heap.size=g at *;go_wp2_with fail;go_loopw [16] (fun iV wr=>∃(i:Nat),i<=ls.length/\iV=.int .i64 i/\ZZ wr g (inF m (ls.take i))/\Below g W0 wr) (fun iV _=>ls.length-(intOf iV).toNat)
 case atStart=>exact⟨0,Nat.zero_le _,rfl,by simpa using HBO.out,by first|exact HB5.out|exact HB5.out.mono (Nat.le_of_eq hg4.symm)⟩
 case round =>
  clear HBO HB5;obtain⟨i,hil,rfl,hbo,hbw⟩:=hrel
  by_cases hlt:i<ls.length
  ·have hii0:(0:Int)<=(i:Int):=by omega
   have hii1:(i:Int)<(ls.length:Int):=by omega
   obtain⟨ad,rfl,had,hcell⟩:=HL.out.below (hg4▸hbw) i (by simpa[zu] using hlt);have hx:=HLT.out (ls.getD i 0) (by rw[List.getD_eq_getElem?_getD,List.getElem?_eq_getElem hlt];exact List.getElem_mem hlt);have hxe:(zu ls).getD i 0=((ls.getD i 0:Nat):Int):=by simp[zu,List.getD_eq_getElem?_getD,hlt]
   rw[hxe] at hcell;have htk:ls.take (i+1)=ls.take i++[ls.getD i 0]:=by rw[List.take_add_one,List.getD_eq_getElem?_getD,List.getElem?_eq_getElem hlt];rfl
   have HBN:=zH (hbo.tell hx);rw[<-htk] at HBN;obtain⟨cur,g1,g2,g3⟩:=hbo;rw[Qu] at g2 g3;have c0:=(g1.cell (ls.getD i 0)).trans (g3 _ hx);have f0:=g1.frozen (ls.getD i 0);have HBW:Hid (Below g W0 (wr.setCell ⟨g,ls.getD i 0,none⟩ (.bool true))):=hbw.setCell (p:=⟨g,ls.getD i 0,none⟩) zN _;clear g1 g2 g3 hxe htk hbw;generalize (inF m (ls.take i)).getD (ls.getD i 0) false=bb at *;generalize ls.getD i 0=x at *;have hx0:(0:Int)<=(x:Int):=by omega
   have hx1:(x:Int)<(m:Int):=by omega
   obtain⟨ab,ao,asp⟩:=ad;go_wp2;go_roundw
   case rel=>exact⟨i+1,hlt,by go_num,HBN.out,HBW.out⟩
   case measure=>simp[intOf];omega
  ·obtain rfl:i=ls.length:=by omega
   rw[List.take_length] at hbo;have hb0:zB w wr:=HB1.out.trans (hbw.mono (by rw[<-hg4];exact HB1.out.size));have kb':=kb.below (hg4▸hbw) kb.lt;have HRS:=zH (HR.out.new (hg4▸hbw));have HBA:=zH hbo.bools;have HB0:=zH hb0;have SC:Hid (∀W,zB wr W->W.cell? ⟨w.heap.size,0,none⟩=some (.int .i64 n)/\W.cell? ⟨w.heap.size,1,none⟩=some (.slice ca P.length cc)/\W.cell? ⟨w.heap.size,2,none⟩=some (.slice fa P.length fc)):=fun W h=>⟨(kb'.below h kb'.lt).cell 0,(kb'.below h kb'.lt).cell 1,(kb'.below h kb'.lt).cell 2⟩;have HO:Hid (∀W,zB wr W->zC 65 #[.agg #[.int .i64 n,.slice ca P.length cc,.slice fa P.length fc],.slice (some ⟨g,0,none⟩) m m] W fun e w'=>∃a2 c2,e=.returned (.slice a2 (qb P (inF m ls)).length c2)/\(a2=none->c2=0)/\yK w' a2 (qb P (inF m ls))/\zB W w'):=fun W hW=>by
    have h:=zkC B (n:Int) P (.slice ca P.length cc) (.slice fa P.length fc) (inF m ls) (some ⟨g,0,none⟩) m W (HRS.out.new hW) (HBA.out.below hW zN) hP HC.out;rw[Qu] at h;refine h.mono fun e w' ⟨v',h1,h2,h3⟩=>?_;obtain⟨cs,g1,g2⟩:=h2;obtain⟨a1,c1,e1,hn1,-⟩:=(zD g1).form;subst e1;exact⟨a1,c1,h1,hn1,zX.cls (B:=0) (cap:=c1) g2 (yu g1 (Nat.zero_le _)),h3⟩
   have hkl:(qb P (inF m ls)).length<=10000:=by have h1:=zd5 P (inF m ls) P.length;unfold xA at h1;rw[List.take_length] at h1;omega
   obtain⟨KK,hKK⟩:∃KK,qb P (inF m ls)=KK:=⟨_,rfl⟩;rw[hKK] at HO hkl HCK;have HKK:=zH hKK;clear hKK;have HS:Hid (∀W a1 c1,(a1=none->c1=0)->yK W a1 KK->zC 64 #[.int .i64 n,.slice a1 KK.length c1] W fun e w'=>∃b nn pa pn pc er,e=.returned (.tuple #[.agg #[.bool b,.int .u64 nn,.slice pa pn pc],er])/\Qx n KK b er/\zB W w'):=fun W a1 c1 h0 h1=>zfI n KK a1 c1 h0 W h1 (by omega) HCK.out;have D0:zB wr wr.drew:=zF.drew;have D0a:zB wr (wr.alloc (.cells #[.bool false,.int .u64 0,.slice none 0 0] 137)).drew:=(zF.alloc zN _).drew;have k0a:Blk (wr.alloc (.cells #[.bool false,.int .u64 0,.slice none 0 0] 137)).drew wr.heap.size 137 #[.bool false,.int .u64 0,.slice none 0 0]:=Blk.new wr 137 #[.bool false,.int .u64 0,.slice none 0 0];clear HRS HBA hbo hb0 hbw kb kb' HR HL HLT HC HCK HB1;go_upto_region 7 with fail;go_region_held3 (fun W=>W.cell? ⟨w.heap.size,0,none⟩=some (.int .i64 n)/\W.cell? ⟨w.heap.size,1,none⟩=some (.slice ca P.length cc)/\W.cell? ⟨w.heap.size,2,none⟩=some (.slice fa P.length fc)) (first|exact SC.out _ D0|exact SC.out _ D0a|exact SC.out _ D1|exact SC.out _ D1a|exact SC.out _ D2|exact SC.out _ D2a|exact SC.out _ D2s)
    (first
     |((with_reducible refine(HO.out _ D0).mono ?_);rintro e x1 ⟨a1,c1,rfl,hn1,hcl1,hb1⟩;have D1:zB wr x1:=zT D0 hb1;have D1a:zB wr (x1.alloc (.cells #[.bool false,.int .u64 0,.slice none 0 0] 137)):=zL D1;have hcl1a:yK (x1.alloc (.cells #[.bool false,.int .u64 0,.slice none 0 0] 137)) a1 KK:=hcl1.below (zf _ _);have ka:=Blk.new x1 137 #[.bool false,.int .u64 0,.slice none 0 0];clear HO D0 D0a k0a hb1)
     |((with_reducible refine(HO.out _ D0a).mono ?_);rintro e x1 ⟨a1,c1,rfl,hn1,hclz,hb1⟩;have D1:zB wr x1:=zT D0a hb1;have kz:=k0a.below hb1 k0a.lt;clear HO D0 D0a k0a hb1)
     |((with_reducible refine(HS.out _ _ _ hn1 hclz).mono ?_);rintro e x2 ⟨b,nn,pa,pn,pc,er,rfl,hcan,hb2⟩;have D2:zB wr x2:=zT D1 hb2;have D2s:zB wr (((x2.setCell ⟨wr.heap.size,0,none⟩ (.bool b)).setCell ⟨wr.heap.size,1,none⟩ (.int .u64 nn)).setCell ⟨wr.heap.size,2,none⟩ (.slice pa pn pc)):=((D2.setCell (p:=⟨wr.heap.size,0,none⟩) zN _).setCell (p:=⟨wr.heap.size,1,none⟩) zN _).setCell (p:=⟨wr.heap.size,2,none⟩) zN _;obtain⟨z0,f0,z1,f1,z2,f2,r0,r1,r2⟩:=QE (kz.below hb2 kz.lt) (.bool b) (.int .u64 nn) (.slice pa pn pc);clear HS D1 hb2 hclz hn1 kz)
     |((with_reducible refine(HS.out _ _ _ hn1 hcl1).mono ?_);rintro e x2 ⟨b,nn,pa,pn,pc,er,rfl,hcan,hb2⟩;have D2:zB wr x2:=zT D1 hb2;have D2a:zB wr (x2.alloc (.cells #[.bool false,.int .u64 0,.slice none 0 0] 137)):=zL D2;have D2s:zB wr (x2.alloc (.cells #[.bool b,.int .u64 nn,.slice pa pn pc] 137)):=zL D2;have r0:=(Blk.new x2 137 #[.bool b,.int .u64 nn,.slice pa pn pc]).cell 0;clear HS D1a D1 hb2 hcl1a hcl1 hn1 ka)
     | ((with_reducible refine (HS.out _ _ _ hn1 hcl1a).mono ?_);rintro e x2 ⟨b,nn,pa,pn,pc,er,rfl,hcan,hb2⟩;have D2:zB wr x2:=zT D1a hb2;have D2s:zB wr (((x2.setCell ⟨x1.heap.size,0,none⟩ (.bool b)).setCell ⟨x1.heap.size,1,none⟩ (.int .u64 nn)).setCell ⟨x1.heap.size,2,none⟩ (.slice pa pn pc)):=((D2.setCell (p:=⟨x1.heap.size,0,none⟩) D1.size _).setCell (p:=⟨x1.heap.size,1,none⟩) D1.size _).setCell (p:=⟨x1.heap.size,2,none⟩) D1.size _;obtain ⟨z0,f0,z1,f1,z2,f2,r0,r1,r2⟩:=QE (ka.below hb2 ka.lt) (.bool b) (.int .u64 nn) (.slice pa pn pc);clear HS D1a D1 hb2 hcl1a hcl1 hn1 ka))
   all_goals
    have HFIN:=zH D2s;have HCN:=zH hcan;clear D2s hcan;go_wp2;go_ret2;exact⟨_,_,rfl,by rw[HKK.out];exact HCN.out,zT HB0.out HFIN.out⟩
end Go.Proofs.YtapobpgbcbplbaaGreatDoor
namespace Go.Proofs.YtapobpgbcbplbaaGreatDoor
open Go.RowKit Go.Deep Sv
def qd(ls:List Ln)(i:Nat):List Nat:=(List.range i).filter fun n=>(ls.getD n default).kind != 1
def zz(ls:List Ln):List Nat:=qd ls ls.length
theorem zcr(ls:List Ln)(i:Nat):qd ls (i+1)=qd ls i++(if (ls.getD i default).kind != 1 then [i] else []):=by
 unfold qd;rw[List.range_succ,List.filter_append];congr 1
 by_cases h:((ls.getD i default).kind != 1)=true
 ·rw[if_pos h,List.filter_cons,if_pos h,List.filter_nil]
 ·rw[if_neg h,List.filter_cons,if_neg h,List.filter_nil]
theorem KB(ls:List Ln)(i:Nat):(qd ls i).length<=i:=by
 unfold qd;refine Nat.le_trans (List.length_filter_le _ _) ?_;simp
theorem zdB(ls:List Ln)(i:Nat):∀x∈qd ls i,x<i:=fun x hx=>by
 unfold qd at hx;simpa using (List.mem_filter.1 hx).1
theorem xw(l:List Nat):(zu l).length=l.length:=by simp[zu]
theorem zjW(l:List Nat)(n:Nat):zu (l++[n])=zu l++[(n:Int)]:=by simp[zu]
theorem RS.setS{B b i:Nat}{W:World}{cv fv v:Value}{K:List (List Int)}{F:List Int}{cs:Array Value}(h:RS B W cv fv K F)(hb:Blk W b 61 cs)(hlt:b<B):RS B (W.setCell ⟨b,i,none⟩ v) cv fv K F:=by
 obtain⟨c,h1,h2,h3⟩:=h.crow;exact⟨⟨c,yA h1 hlt,h2.kp (Kp.set (Nat.zero_le _) hb (by decide)),h3⟩,yA h.frow hlt⟩
structure SD(W5 wr:World)(n:Int)(cv fv lv:Value)(m:Int)(l:List Nat):Prop where
 blk:Blk wr W5.heap.size 61 #[.int .i64 n,cv,fv,lv,.int .i64 m]
 row:wr.ownsRow (W5.heap.size+1) 3 1 lv (zu l).length (zn (zu l))
 B:zB W5 wr
theorem SD.new{W5 wr w':World}{n m:Int}{cv fv lv:Value}{l:List Nat}(h:SD W5 wr n cv fv lv m l)(hb:zB wr w'):SD W5 w' n cv fv lv m l :=
 ⟨h.blk.below hb h.blk.lt,zS h.row hb,zT h.B hb⟩
theorem SD.app{W5 W w7:World}{n m:Int}{cv fv lv v':Value}{l:List Nat}{x:Nat}(h:SD W5 W n cv fv lv m l)
  (hown:w7.ownsRow (W5.heap.size+1) 3 1 v' ((zu l).length+1) (zn (zu l)++[.int .i64 x])) (hg:(W.alloc (.cells #[.int .i64 x] 3)).grownBy w7 lv.ownBlock) :
  Blk w7 W5.heap.size 61 #[.int .i64 n,cv,fv,lv,.int .i64 m]/\SD W5 (w7.setCell ⟨W5.heap.size,3,none⟩ v') n cv fv v' m (l++[x]):=by
 have hbn:=zf W (.cells #[.int .i64 x] 3);have hl:=h.blk.lt;have hne:some W5.heap.size≠lv.ownBlock:=fun e=>by have:=(h.row.lt _ e.symm).1;omega
 have q5:=(h.blk.below hbn hl).kept hg hne;have hB7:zB W5 w7:=h.B.trans ((hbn.mono (by omega)).grown hg (by simp;omega) (fun k hk=>by have:=(h.row.lt k hk).1;omega));refine⟨q5,q5.set (i:=3),?_,hB7.setCell (p:=⟨W5.heap.size,3,none⟩) zN _⟩;rw[zjW,QJ,List.length_append];exact yA hown (by omega)
theorem zbD(bk:Nat)(ls:List Ln)(its:List It)(w:World)(h:ya w bk ls its)(hl:its.length<=24)(hll:ls.length<=120)(hnm:∀x∈ls,x.name.size<=100000/\x.other.size<=100000)(hP:(ofL its ls).length<=200) :
  zC 15 #[.pointer (some ⟨bk,0,none⟩)] w fun e w'=>∃cv fv lv,e=.returned (.tuple #[.agg #[.int .i64 its.length,cv,fv,lv,.int .i64 ls.length],.nilIface])/\RS w.heap.size w' cv fv ((ofL its ls).map Prod.snd) ((ofL its ls).map Prod.fst)/\w'.ownsRow w.heap.size 3 1 lv (zu (zz ls)).length (zn (zu (zz ls)))/\zB w w':=by
 obtain⟨i0,hin,hz0,hz1,hz2⟩:=info_parts Zm;have hbx:=zf w (.cells #[.int .i64 0,.slice none 0 0,.slice none 0 0,.slice none 0 0,.int .i64 0] 61);have k2:=Blk.new w 61 #[.int .i64 0,.slice none 0 0,.slice none 0 0,.slice none 0 0,.int .i64 0];have hc0:=h.below hbx zN;have HOF0:=zcA bk ls its _ hc0 hl hll hnm;have HC:=zH hc0;have hs0:(w.alloc (.cells #[.int .i64 0,.slice none 0 0,.slice none 0 0,.slice none 0 0,.int .i64 0] 61)).heap.size=w.heap.size+1:=by simp
 have HBX:=zH hbx;generalize ofL its ls=P at *;clear h hnm hbx hc0;go_enter Tryz.func15,Tryz.ntmps15;go_upto_region 1 with fail;generalize w.alloc (.cells #[.int .i64 0,.slice none 0 0,.slice none 0 0,.slice none 0 0,.int .i64 0] 61)=W0 at *;have HOF:Hid (zC 11 #[.pointer (some ⟨bk,0,none⟩)] W0 fun e w'=>∃cv fv,e=.returned (.tuple #[.agg #[.int .i64 its.length,cv,fv],.nilIface])/\RS W0.heap.size w' cv fv (P.map Prod.snd) (P.map Prod.fst)/\zB W0 w'):=HOF0.mono fun e w' hh=>by
  rcases hh with ⟨h1,_⟩|⟨-,cv,fv,h2,h3,h4⟩
  ·omega
  ·exact⟨cv,fv,h2,h3,h4⟩
 clear HOF0;go_wp2_with fail;refine HOF.out.mono ?_;rintro e w1 ⟨cv,fv,rfl,hrs,hb1⟩;obtain⟨ca,cc,rfl,-⟩:∃a c,cv=.slice a P.length c/\True:=by obtain⟨cs,h1,_⟩:=hrs.crow;obtain⟨a,c,e,_⟩:=(zD h1).form;exact⟨a,c,by simpa using e,trivial⟩
 obtain⟨fa,fc,rfl,-⟩:∃a c,fv=.slice a P.length c/\True:=by obtain⟨a,c,e,_⟩:=(zD hrs.frow).form;exact⟨a,c,by simpa using e,trivial⟩
 have hbn:=zf w1 (.cells #[.int .i64 its.length,.slice ca P.length cc,.slice fa P.length fc] 26);have kr:=Blk.new w1 26 #[.int .i64 its.length,.slice ca P.length cc,.slice fa P.length fc];have hb2:=zT hb1 hbn;have HRS:=zH (hrs.new hbn);have HB2:=zH hb2;have HLN:=zH (zbs bk ls its _ (HC.out.below hb2 zN) (by omega));have K2:=zH (k2.below hb2 k2.lt);clear hrs hb1 hbn hb2 HOF HC k2;go_upto_region 4 with fail;generalize w1.alloc (.cells #[.int .i64 its.length,.slice ca P.length cc,.slice fa P.length fc] 26)=W2 at *;generalize w1.heap.size=b4 at *;go_wp2_with fail;refine HLN.out.mono ?_;rintro e w3 ⟨lv,rfl,hlv,hb3⟩;obtain⟨la,lc,rfl⟩:∃a c,lv=.slice a ls.length c:=by obtain⟨vs',_,h2⟩:=hlv;obtain⟨a,c,e,_⟩:=h2.form;exact⟨a,c,e⟩
 have kr3:=kr.below hb3 kr.lt;have r0:_=some (Value.int .i64 its.length):=kr3.cell 0;have r1:_=some (Value.slice ca P.length cc):=kr3.cell 1;have r2:_=some (Value.slice fa P.length fc):=kr3.cell 2;have HRS3:=zH (HRS.out.new hb3);have HB3:Hid (zB W0 w3):=zT HB2.out hb3;have K3:=zH (K2.out.below hb3 K2.out.lt);have HLV:=zH hlv;have hsd:SD w3 (w3.alloc (.cells #[.int .i64 its.length,.slice ca P.length cc,.slice fa P.length fc,.slice none 0 0,.int .i64 ls.length] 61)) (its.length:Int) (.slice ca P.length cc) (.slice fa P.length fc) (.slice none 0 0) (ls.length:Int) (qd ls 0):=⟨Blk.new _ _ _,World.ownsRow_nil _ _ _ _,zf _ _⟩;have HSD:=zH hsd;clear hlv hb3 kr kr3 HRS HB2 K2 HLN hsd;go_upto_region 6 with fail;generalize w3.alloc (.cells #[.int .i64 its.length,.slice ca P.length cc,.slice fa P.length fc,.slice none 0 0,.int .i64 ls.length] 61)=W5 at *;clear r0 r1 r2;go_wp2_with fail;go_loopw [27] (fun iV wr=>∃(i:Nat) (lv:Value),i<=ls.length/\iV=.int .i64 i/\SD w3 wr (its.length:Int) (.slice ca P.length cc) (.slice fa P.length fc) lv (ls.length:Int) (qd ls i)) (fun iV _=>ls.length-(intOf iV).toNat)
 case atStart=>exact⟨0,_,Nat.zero_le _,rfl,HSD.out⟩
 case round =>
  clear HSD;obtain⟨i,lv,hil,rfl,hsd⟩:=hrel
  by_cases hlt:i<ls.length
  ·have hii0:(0:Int)<=(i:Int):=by omega
   have hii1:(i:Int)<(ls.length:Int):=by omega
   obtain⟨g,cap',rv,e,hg,hsp,hrg,c0,c1,c2,c3,c4,c5,c6⟩:=(HLV.out.below hsd.B zN).at i hlt;simp at e;obtain⟨rfl,rfl⟩:=e;have HSU:=zH (zcr ls i);have hpl:=KB ls i;obtain⟨x,hxe⟩:∃x,ls.getD i default=x:=⟨_,rfl⟩;rw[hxe] at hsp hrg c0 c1 c2 c3 c4 c5 HSU;obtain⟨ra,rc,rfl⟩:=hsp.form;have hb6:=zf wr (.cells #[.int .i64 x.kind,.string x.name,.int .i64 x.a,.int .i64 x.b,.int .i64 x.c,.string x.other,.slice ra x.rng.length rc] 38);have kx:=Blk.new wr 38 #[.int .i64 x.kind,.string x.name,.int .i64 x.a,.int .i64 x.b,.int .i64 x.c,.string x.other,.slice ra x.rng.length rc];have HSD:=zH (hsd.new hb6);obtain⟨va,vc,hve,-⟩:=(zD hsd.row).form;rw[xw] at hve;subst hve;clear hsd hb6 hsp hrg hxe;go_upto_region 9 with fail;generalize wr.alloc (.cells #[.int .i64 x.kind,.string x.name,.int .i64 x.a,.int .i64 x.b,.int .i64 x.c,.string x.other,.slice ra x.rng.length rc] 38)=W6 at *;generalize wr.heap.size=bx at *;have x0:_=some (Value.int .i64 x.kind):=kx.cell 0;clear c0 c1 c2 c3 c4 c5 c6 hg kx;cases hk:(x.kind != 1) with
   |true =>
    have hk1:(x.kind != 1)=true:=hk;have d3:_=some (Value.slice va (qd ls i).length vc):=HSD.out.blk.cell 3;have HRW:Hid (W6.ownsRow (w3.heap.size+1) 3 1 (.slice va (qd ls i).length vc) (qd ls i).length (zn (zu (qd ls i)))):=by have:=HSD.out.row;rw[xw] at this;exact this
    have HAP:=zH (fun w7 v'=>HSD.out.app (w7:=w7) (v':=v') (x:=i));rw[hk,if_pos rfl] at HSU;have hws:=HSD.out.blk.lt;clear hk HSD;go_wp2_with (at_builtin;refine wpList_append_own_at _ rfl _ _ 24 rfl (w3.heap.size+1) 3 i0 (.int .i64 0) 1 8 Tryz.underlying24 hin hz0 hz1 hz2 rfl (by decide) _ _ _ rfl (HRW.out.alloc _) ⟨W6.heap.size,0,none⟩ 1 1 [.int .i64 i] rfl rfl ?a1 ?a2 ?a3 ?a4 ?a5 ?_)
    case a1=>exact KI _ _ _
    case a2=>intro u hu;rw[List.mem_singleton] at hu;subst hu;rfl
    case a3=>unfold maxLen;omega
    case a4=>omega
    case a5=>simp;omega
    intro v7 w7 hown7 hgrow7 _ hloc7;obtain⟨kb7,hsd7⟩:=HAP.out w7 v7 (by rw[xw];exact hown7) hgrow7;rw[<-HSU.out] at hsd7;have e3:_=some (Value.slice va (qd ls i).length vc):=kb7.cell 3;have f3:=kb7.frozen 3;obtain⟨va7,vc7,hve,-⟩:=(zD hown7).form;have HSD7:=zH hsd7;clear hown7 hgrow7 hloc7 HAP HRW d3 HSU kb7 hsd7;subst hve;go_wp2;go_roundw
    case rel=>exact⟨i+1,_,hlt,by go_num,HSD7.out⟩
    case measure=>simp[intOf];omega
   |false =>
    rw[hk,if_neg (by simp),List.append_nil] at HSU;have hk1:(x.kind != 1)=false:=hk;have HSD7:Hid (SD w3 W6 (its.length:Int) (.slice ca P.length cc) (.slice fa P.length fc) (.slice va (qd ls i).length vc) (ls.length:Int) (qd ls (i+1))):=by show SD _ _ _ _ _ _ _ _;rw[HSU.out];exact HSD.out
    clear hk HSD HSU;go_wp2;go_roundw
    case rel=>exact⟨i+1,_,hlt,by go_num,HSD7.out⟩
    case measure=>simp[intOf];omega
  ·obtain rfl:i=ls.length:=by omega
   obtain⟨va,vc,hve,-⟩:=(zD hsd.row).form;rw[xw] at hve;subst hve;have hs3:=HB3.out.size;have y0:_=some (Value.int .i64 its.length):=hsd.blk.cell 0;have y1:_=some (Value.slice ca P.length cc):=hsd.blk.cell 1;have y2:_=some (Value.slice fa P.length fc):=hsd.blk.cell 2;have y3:_=some (Value.slice va (qd ls ls.length).length vc):=hsd.blk.cell 3;have y4:_=some (Value.int .i64 ls.length):=hsd.blk.cell 4;have k5:=K3.out.below hsd.B K3.out.lt;have hRS5:=(HRS3.out.new hsd.B).base (B':=w.heap.size+1) (by omega);have hRow:wr.ownsRow (w.heap.size+1) 3 1 (.slice va (qd ls ls.length).length vc) (zu (qd ls ls.length)).length (zn (zu (qd ls ls.length))):=yu hsd.row (by omega);have hB5:zB w wr:=HBX.out.trans ((HB3.out.trans (hsd.B.mono hs3)).mono (by omega));have q0:=k5;have q1:=q0.set (i:=0) (v:=.int .i64 its.length);have q2:=q1.set (i:=1) (v:=.slice ca P.length cc);have q3:=q2.set (i:=2) (v:=.slice fa P.length fc);have q4:=q3.set (i:=3) (v:=.slice va (qd ls ls.length).length vc);have q5:=q4.set (i:=4) (v:=.int .i64 ls.length);have hR:=((((hRS5.setS (i:=0) (v:=.int .i64 its.length) q0 (by omega)).setS (i:=1) (v:=.slice ca P.length cc) q1 (by omega)).setS (i:=2) (v:=.slice fa P.length fc) q2 (by omega)).setS (i:=3) (v:=.slice va (qd ls ls.length).length vc) q3 (by omega)).setS (i:=4) (v:=.int .i64 ls.length) q4 (by omega);have hRw:=yA (b:=w.heap.size) (i:=4) (x:=.int .i64 ls.length) (yA (b:=w.heap.size) (i:=3) (x:=.slice va (qd ls ls.length).length vc) (yA (b:=w.heap.size) (i:=2) (x:=.slice fa P.length fc) (yA (b:=w.heap.size) (i:=1) (x:=.slice ca P.length cc) (yA (b:=w.heap.size) (i:=0) (x:=.int .i64 its.length) hRow (by omega)) (by omega)) (by omega)) (by omega)) (by omega);have hBB:=(((((hB5.setCell (p:=⟨w.heap.size,0,none⟩) zN (.int .i64 its.length)).setCell (p:=⟨w.heap.size,1,none⟩) zN (.slice ca P.length cc)).setCell (p:=⟨w.heap.size,2,none⟩) zN (.slice fa P.length fc)).setCell (p:=⟨w.heap.size,3,none⟩) zN (.slice va (qd ls ls.length).length vc)).setCell (p:=⟨w.heap.size,4,none⟩) zN (.int .i64 ls.length));have Q5:Hid (Blk (((((wr.setCell ⟨w.heap.size,0,none⟩ (.int .i64 its.length)).setCell ⟨w.heap.size,1,none⟩ (.slice ca P.length cc)).setCell ⟨w.heap.size,2,none⟩ (.slice fa P.length fc)).setCell ⟨w.heap.size,3,none⟩ (.slice va (qd ls ls.length).length vc)).setCell ⟨w.heap.size,4,none⟩ (.int .i64 ls.length)) w.heap.size 61 #[.int .i64 its.length,.slice ca P.length cc,.slice fa P.length fc,.slice va (qd ls ls.length).length vc,.int .i64 ls.length]):=q5;have e0:_=some (Value.int .i64 0):=q0.cell 0;have g0:=q0.frozen 0;have e1:(wr.setCell ⟨w.heap.size,0,none⟩ (.int .i64 its.length)).cell? ⟨w.heap.size,1,none⟩=some (.slice none 0 0):=q1.cell 1;have g1:(wr.setCell ⟨w.heap.size,0,none⟩ (.int .i64 its.length)).frozen? ⟨w.heap.size,1,none⟩=false:=q1.frozen 1;have e2:((wr.setCell ⟨w.heap.size,0,none⟩ (.int .i64 its.length)).setCell ⟨w.heap.size,1,none⟩ (.slice ca P.length cc)).cell? ⟨w.heap.size,2,none⟩=some (.slice none 0 0):=q2.cell 2;have g2:((wr.setCell ⟨w.heap.size,0,none⟩ (.int .i64 its.length)).setCell ⟨w.heap.size,1,none⟩ (.slice ca P.length cc)).frozen? ⟨w.heap.size,2,none⟩=false:=q2.frozen 2;have e3:(((wr.setCell ⟨w.heap.size,0,none⟩ (.int .i64 its.length)).setCell ⟨w.heap.size,1,none⟩ (.slice ca P.length cc)).setCell ⟨w.heap.size,2,none⟩ (.slice fa P.length fc)).cell? ⟨w.heap.size,3,none⟩=some (.slice none 0 0):=q3.cell 3;have g3:(((wr.setCell ⟨w.heap.size,0,none⟩ (.int .i64 its.length)).setCell ⟨w.heap.size,1,none⟩ (.slice ca P.length cc)).setCell ⟨w.heap.size,2,none⟩ (.slice fa P.length fc)).frozen? ⟨w.heap.size,3,none⟩=false:=q3.frozen 3;have e4:((((wr.setCell ⟨w.heap.size,0,none⟩ (.int .i64 its.length)).setCell ⟨w.heap.size,1,none⟩ (.slice ca P.length cc)).setCell ⟨w.heap.size,2,none⟩ (.slice fa P.length fc)).setCell ⟨w.heap.size,3,none⟩ (.slice va (qd ls ls.length).length vc)).cell? ⟨w.heap.size,4,none⟩=some (.int .i64 0):=q4.cell 4;have g4:((((wr.setCell ⟨w.heap.size,0,none⟩ (.int .i64 its.length)).setCell ⟨w.heap.size,1,none⟩ (.slice ca P.length cc)).setCell ⟨w.heap.size,2,none⟩ (.slice fa P.length fc)).setCell ⟨w.heap.size,3,none⟩ (.slice va (qd ls ls.length).length vc)).frozen? ⟨w.heap.size,4,none⟩=false:=q4.frozen 4;have HR5:=zH (hR.base (B':=w.heap.size) (by omega));have HRW5:=zH (yu hRw (Nat.le_succ _));have HBB:=zH hBB;clear q0 q1 q2 q3 q4 q5 hR hRw hBB hRS5 hRow hB5 k5 hsd HLV HRS3 HB3 K3 HBX;go_wp2;generalize ((((wr.setCell ⟨w.heap.size,0,none⟩ (.int .i64 its.length)).setCell ⟨w.heap.size,1,none⟩ (.slice ca P.length cc)).setCell ⟨w.heap.size,2,none⟩ (.slice fa P.length fc)).setCell ⟨w.heap.size,3,none⟩ (.slice va (qd ls ls.length).length vc)).setCell ⟨w.heap.size,4,none⟩ (.int .i64 ls.length)=WG at *;have z0:=Q5.out.cell 0;have z1:=Q5.out.cell 1;have z2:=Q5.out.cell 2;have z3:=Q5.out.cell 3;have z4:=Q5.out.cell 4;refine bodyPost_ret (v:=.tuple #[.agg #[.int .i64 its.length,.slice ca P.length cc,.slice fa P.length fc,.slice va (qd ls ls.length).length vc,.int .i64 ls.length],.nilIface]) (by simp[results,Tryz.f15,go_sem,z0,z1,z2,z3,z4]) rfl ?_;exact⟨_,_,_,rfl,HR5.out,HRW5.out,HBB.out⟩
end Go.Proofs.YtapobpgbcbplbaaGreatDoor
namespace Go.Proofs
open Go.Shelf
def Tryz.clnInts_ren:Go.Shelf.Ren:=⟨fun|41=>35|n=>n,fun|22=>24|23=>3|4=>4|n=>n,fun|n=>n⟩
theorem Tryz.clnInts:Go.Proofs.SlLaysE0.n41 Tryz.prog Tryz.clnInts_ren:={
 mixed:=by kernel_rfl
 f41:=⟨Tryz.f35.name,by decide,zK Tryz.func35 (by kernel_rfl)⟩
 t4:=Tryz.underlying4
 a4:=Tryz.isAgg4
 z4:=Tryz.sizeOf4
 v4:=Tryz.zeroValue4
 t22:=Tryz.underlying24
 a22:=Tryz.isAgg24
 z22:=Tryz.sizeOf24
 v22:=Tryz.zeroValue24 }
def Tryz.delInt_ren:Go.Shelf.Ren:=⟨fun|45=>37|n=>n,fun|22=>24|23=>3|3=>3|4=>4|0=>0|n=>n,fun|n=>n⟩
theorem Tryz.delInt:Go.Proofs.SlLaysN.n45 Tryz.prog Tryz.delInt_ren:={
 mixed:=by kernel_rfl
 f45:=⟨Tryz.f37.name,by decide,zK Tryz.func37 (by kernel_rfl)⟩
 t0:=Tryz.underlying0
 a0:=Tryz.isAgg0
 z0:=Tryz.sizeOf0
 v0:=Tryz.zeroValue0
 t3:=Tryz.underlying3
 a3:=Tryz.isAgg3
 z3:=Tryz.sizeOf3
 v3:=Tryz.zeroValue3
 t4:=Tryz.underlying4
 a4:=Tryz.isAgg4
 z4:=Tryz.sizeOf4
 v4:=Tryz.zeroValue4
 t22:=Tryz.underlying24
 a22:=Tryz.isAgg24
 z22:=Tryz.sizeOf24
 v22:=Tryz.zeroValue24
 t23:=Tryz.underlying3
 a23:=Tryz.isAgg3
 z23:=Tryz.sizeOf3
 v23:=Tryz.zeroValue3
 i23:=by kernel_rfl }
end Go.Proofs
namespace Go.Proofs.YtapobpgbcbplbaaGreatDoor
open Go.RowKit Go.Deep Sv
theorem zbB(c:List Int)(a:Option Addr)(cap:Nat)(w:World)(hp:PlA a)(hi:qr w a c)(hl:c.length<=100000)(h0:a=none->c=[]) :
  zC 35 #[.slice a c.length cap] w fun e w'=>∃v',e=.returned v'/\w'.ownsRow w.heap.size 3 1 v' c.length (zn c)/\zB w w':=by
 obtain⟨i0,hin,hz0,hz1,hz2⟩:=info_parts Zm;cases a with
 |none =>obtain rfl:=h0 rfl;exact(AnyE.slices_Clone_nil Tryz.clnInts 0 cap w).mono fun e w' ⟨he,hw⟩=>⟨_,he,World.ownsRow_nil _ _ _ _,by rw[hw];exact Below.refl _ _⟩
 |some ad =>
  obtain⟨b,o,sp⟩:=ad;obtain rfl:sp=none:=hp _ rfl;refine(AnyE.slices_Clone Tryz.clnInts i0 _ 1 8 hin hz0 hz1 hz2 rfl (by decide) Tryz.sizeOf3 b o c.length cap (zn c) w (by rw[xu];omega) (by unfold maxLen;omega) (by omega) (fun j u hu=>?_) (fun u hu=>by obtain⟨y,_,rfl⟩:=List.mem_map.1 hu;rfl)).mono fun e w' ⟨v',he,h1,_,h3⟩=>⟨v',he,h1,h3⟩;have hj:j<c.length:=by have:=(List.getElem?_eq_some_iff.1 hu).1;rwa [xu] at this
  rw[xU c j hj] at hu;obtain⟨ad,h1,_,h4⟩:=hi j hj;cases h1;rw[<-hu]
  rwa [yo] at h4
theorem zjx(c:List Int)(i:Nat)(v:Value)(B:Nat)(w:World)(hv:w.ownsRow B 3 1 v c.length (zn c))(hi:i<c.length) :
  zC 37 #[v,.int .i64 i,.int .i64 ((i+1:Nat):Int)] w fun e w'=>∃v',e=.returned v'/\w'.ownsRow B 3 1 v' (c.eraseIdx i).length (zn (c.eraseIdx i))/\Below B w w':=by
 have hv':w.ownsRow B 3 1 v c.length (c.map (Value.int .i64)):=hv;obtain ⟨g,cap,rfl,hb,hlt,hn,hm,hl',hH⟩:=Lib.holds_of_ownsRow hv' (fun e=>by
  rcases hv.2 with ⟨_,h⟩|⟨g,cap,cur,e',_⟩
  ·omega
  ·rw [e] at e';cases e')
 refine(AnyG.slices_Delete_int Tryz.delInt g 0 cap i (i+1) c w hH hn (by unfold maxLen at hm;omega) (by omega) (by omega)).mono ?_;rintro e w' ⟨rfl,q,rfl⟩;have e1:i+1-i=1:=by omega
 rw[e1];have e2:(c.take i++c.drop (i+1)++List.replicate 1 0).take (c.length-1)=c.eraseIdx i:=by
  rw[List.eraseIdx_eq_take_drop_succ,List.take_append_of_le_length (by simp;omega),List.take_of_length_le (by simp;omega)]
 have hlen:(c.eraseIdx i).length=c.length-1:=List.length_eraseIdx_of_lt hi;have h:=Lib.ownsRow_putRow (q:=q) (k:=c.length-1) (ys:=c.take i++c.drop (i+1)++List.replicate 1 0) hv' (by simp;omega) (by omega);rw[e2] at h;rw[hlen];exact⟨_,rfl,h,Lib.below_putRow zF hb⟩
end Go.Proofs.YtapobpgbcbplbaaGreatDoor
namespace Go.Proofs.YtapobpgbcbplbaaGreatDoor
open Go.RowKit Go.Deep Sv
def xo(can:List Nat->Bool):Nat->List Nat->List Nat
 |0,left=>left
 |i+1,left=>xo can i (if can (left.eraseIdx i) then left else left.eraseIdx i)
theorem zfE(l:List Nat)(i:Nat):zu (l.eraseIdx i)=(zu l).eraseIdx i:=by
 unfold zu;rw[List.eraseIdx_eq_take_drop_succ,List.eraseIdx_eq_take_drop_succ,List.map_append,List.map_take,List.map_drop]
theorem zgE(can:List Nat->Bool)(bk:Nat)(ls:List Ln)(its:List It)(w:World)(h:ya w bk ls its)(hl:its.length<=24)(hll:ls.length<=120)(hnm:∀x∈ls,x.name.size<=100000/\x.other.size<=100000)(hP:(ofL its ls).length<=200)(hc:∀x∈ofL its ls,x.2.length<=1000)
  (hck:∀l,(qB (its.length:Nat) (qb (ofL its ls) (inF ls.length l))).1=0) (hE:∀l b er,Qx its.length (qb (ofL its ls) (inF ls.length l)) b er->b=can l/\er=.nilIface) :
  zC 12 #[.pointer (some ⟨bk,0,none⟩)] w fun e w'=>((can (zz ls)=true/\e=.returned (.tuple #[.slice none 0 0,.iface 64 (.int .i64 8)]))\/(can (zz ls)=false/\∃a c,e=.returned (.tuple #[.slice a (xo can (zz ls).length (zz ls)).length c,.nilIface])/\qr w' a (zu (xo can (zz ls).length (zz ls)))))/\zB w w':=by
 have HSA:=zH (zbD bk ls its w h hl hll hnm hP);have HLT:Hid (∀x∈zz ls,x<ls.length):=zdB ls ls.length;have hsl:(zz ls).length<=ls.length:=KB ls ls.length;have HCC:Hid (∀ (W:World) (cv fv:Value) (l:List Nat) (la:Option Addr) (lc:Nat) (sa:Option Addr) (sn sc:Nat),RS w.heap.size W cv fv ((ofL its ls).map Prod.snd) ((ofL its ls).map Prod.fst)->qr W la (zu l)->(∀ x ∈ l,x<ls.length)->l.length<=100000 ->
   zR 36 #[.agg #[.int .i64 its.length,cv,fv,.slice sa sn sc,.int .i64 ls.length],.slice la l.length lc] W (.tuple #[.bool (can l),.nilIface])):=fun W cv fv l la lc sa sn sc h1 h2 h3 h4=>by
  refine(zbF w.heap.size its.length (ofL its ls) cv fv ls.length l la lc sa sn sc W h1 h2 h3 (by omega) h4 (by omega) hc (hck l)).mono ?_;rintro e w' ⟨b,er,rfl,hcan,hb⟩;obtain⟨rfl,rfl⟩:=hE l b er hcan;exact⟨rfl,hb⟩
 clear h hnm hc hck hE;generalize ofL its ls=P at *;go_enter Tryz.func12,Tryz.ntmps12;go_wp2_with fail;refine HSA.out.mono ?_;rintro e w1 ⟨cv,fv,lv,rfl,hrs,hrow,hb1⟩;obtain⟨ca,cc,rfl,-⟩:∃a c,cv=.slice a P.length c/\True:=by obtain⟨cs,h1,_⟩:=hrs.crow;obtain⟨a,c,e,_⟩:=(zD h1).form;exact⟨a,c,by simpa using e,trivial⟩
 obtain⟨fa,fc,rfl,-⟩:∃a c,fv=.slice a P.length c/\True:=by obtain⟨a,c,e,_⟩:=(zD hrs.frow).form;exact⟨a,c,by simpa using e,trivial⟩
 obtain⟨sa,sc,hv,hq1,hq2,hq3,hq4⟩:=Z3 hrow;rw[xw] at hv;subst hv;have hbn:=zf w1 (.cells #[.int .i64 its.length,.slice ca P.length cc,.slice fa P.length fc,.slice sa (zz ls).length sc,.int .i64 ls.length] 61);have kr:=Blk.new w1 61 #[.int .i64 its.length,.slice ca P.length cc,.slice fa P.length fc,.slice sa (zz ls).length sc,.int .i64 ls.length];have HRS:=zH (hrs.new hbn);have HIN:=zH (hq3.ints.below hbn);have HB2:=zH (zT hb1 hbn);have hns:sa=none->zu (zz ls)=[]:=fun e=>by
  cases hx:zu (zz ls) with
  |nil=>rfl
  |cons y c=>rw[hx] at hq3;obtain⟨ad,h,_⟩:=hq3 0 (by simp);rw[e] at h;cases h
 have hnl:=xw (zz ls);have HCL:=zH (fun W hi=>zbB (zu (zz ls)) sa sc W hq4 hi (by omega) hns);clear hrs hrow hb1 hbn hq1 hq2 hq3 hq4 hns HSA;rw[hnl] at HCL;go_upto_region 4 with fail;generalize w1.alloc (.cells #[.int .i64 its.length,.slice ca P.length cc,.slice fa P.length fc,.slice sa (zz ls).length sc,.int .i64 ls.length] 61)=W2 at *;generalize w1.heap.size=b4 at *;have y3:_=some (Value.slice sa (zz ls).length sc):=kr.cell 3;have HCL2:=zH (HCL.out W2 HIN.out);clear HCL HIN;go_wp2_with fail;refine HCL2.out.mono ?_;rintro e w3 ⟨v3,rfl,hrow3,hb3⟩;rw[<-xw (zz ls)] at hrow3;obtain⟨la,lc,hv,-,-,hi3,hp3⟩:=Z3 hrow3;rw[xw] at hv;subst hv;have kr3:=kr.below hb3 kr.lt;have e0:_=some (Value.int .i64 its.length):=kr3.cell 0;have e1:_=some (Value.slice ca P.length cc):=kr3.cell 1;have e2:_=some (Value.slice fa P.length fc):=kr3.cell 2;have e3:_=some (Value.slice sa (zz ls).length sc):=kr3.cell 3;have e4:_=some (Value.int .i64 ls.length):=kr3.cell 4;have HCA:=zH (HCC.out w3 _ _ (zz ls) la lc sa (zz ls).length sc (HRS.out.new hb3) hi3.ints HLT.out (by omega));have HB3:Hid (zB w w3):=zT HB2.out hb3;have HR3:Hid (w3.ownsRow w.heap.size 3 1 (.slice la (zz ls).length lc) (zu (zz ls)).length (zn (zu (zz ls)))):=yu hrow3 HB2.out.size;have KR:=zH kr3;have HRS3:=zH (HRS.out.new hb3);clear hrow3 hb3 hi3 hp3 kr kr3 HRS HB2 HCL2 y3;cases hcan:can (zz ls) with
 |true =>rw[hcan] at HCA;go_wp2_with fail;refine HCA.out.mono ?_;rintro e w4 ⟨rfl,hb4⟩;have HB4:=zH (zT HB3.out hb4);clear hb4 HCA e0 e1 e2 e3 e4;go_wp2;go_ret2;exact⟨Or.inl ⟨hcan,rfl⟩,HB4.out⟩
 |false =>
  rw[hcan] at HCA;go_wp2_with fail;refine HCA.out.mono ?_;rintro e w4 ⟨rfl,hb4⟩;have HB4:=zH (zT HB3.out hb4);have HR4:=zH (zS HR3.out hb4);have KR4:=zH (KR.out.below hb4 KR.out.lt);have HRS4:=zH (HRS3.out.new hb4);clear hb4 HCA e0 e1 e2 e3 e4 HB3 HR3 KR HRS3;go_wp2_with fail;go_loopw [6,8] (fun lV iV wr=>∃(k:Nat) (left:List Nat) (la:Option Addr) (lc:Nat),lV=.slice la left.length lc/\k<=left.length/\iV=.int .i64 ((k:Int)-1)/\xo can k left=xo can (zz ls).length (zz ls)/\(∀x∈left,x<ls.length)/\left.length<=ls.length/\wr.ownsRow w.heap.size 3 1 (.slice la left.length lc) (zu left).length (zn (zu left))/\zB w4 wr) (fun _ iV _=>(intOf iV+1).toNat)
  case atStart=>exact⟨(zz ls).length,zz ls,la,lc,rfl,Nat.le_refl _,by go_num,rfl,HLT.out,hsl,HR4.out,Below.refl _ _⟩
  case round =>
   clear HR4;obtain⟨k,left,la,lc,rfl,hk,rfl,hgo,hlt,hll2,hrow,hbr⟩:=hrel;cases k with
   |zero =>
    obtain⟨a',c',hv,-,-,hi5,-⟩:=Z3 hrow;rw[xw] at hv;simp at hv;obtain⟨rfl,rfl⟩:=hv;have HIN:=zH hi5.ints;have HB5:=zH (zT HB4.out hbr);have HGO:=zH hgo;clear hi5 hbr hrow hgo;go_wp2;go_ret2;refine⟨Or.inr ⟨hcan,la,lc,?_,?_⟩,HB5.out⟩
    ·rw[<-HGO.out];rfl
    ·rw[<-HGO.out];exact HIN.out
   |succ j =>
    have hj1:((j+1:Nat):Int)-1=(j:Int):=by omega
    rw[hj1];have hj0:(0:Int)<=(j:Int):=by omega
    have hj2:IntKind.i64.wrap ((j:Int)+1)=((j+1:Nat):Int):=by rw[IntKind.wrap_i64];omega
    obtain⟨a',c',hv,-,-,hi5,hp5⟩:=Z3 hrow;rw[xw] at hv;simp at hv;obtain⟨rfl,rfl⟩:=hv;have hns:la=none->zu left=[]:=fun e=>by
     cases hx:zu left with
     |nil=>rfl
     |cons y c=>rw[hx] at hi5;obtain⟨ad,h,_⟩:=hi5 0 (by simp);rw[e] at h;cases h
    have hnl2:=xw left;have HCL:=zH (zbB (zu left) la lc wr hp5 hi5.ints (by omega) hns);rw[hnl2] at HCL;have HBR:=zH hbr;have HROW:=zH hrow;have HLT2:=zH hlt;have HGO:=zH hgo;clear hns hi5 hp5 hj1 hbr hrow hlt hgo;go_wp2_with fail;refine HCL.out.mono ?_;rintro e w6 ⟨v6,rfl,hrow6,hb6⟩;rw[<-xw left] at hrow6;have HDE:=zH (zjx (zu left) j v6 wr.heap.size w6 hrow6 (by omega));have HB6:Hid (zB wr w6):=hb6;clear HCL hrow6 hb6;go_wp2_with fail;refine HDE.out.mono ?_;rintro e w7 ⟨v7,rfl,hrow7,hb7⟩;rw[<-zfE] at hrow7;obtain⟨oa,oc,hv,-,-,hi7,-⟩:=Z3 hrow7;rw[xw] at hv;subst hv;have hb8:zB wr w7:=HB6.out.trans hb7;have hb9:zB w4 w7:=zT HBR.out hb8;have kr7:=KR4.out.below hb9 KR4.out.lt;have e0:_=some (Value.int .i64 its.length):=kr7.cell 0;have e1:_=some (Value.slice ca P.length cc):=kr7.cell 1;have e2:_=some (Value.slice fa P.length fc):=kr7.cell 2;have e3:_=some (Value.slice sa (zz ls).length sc):=kr7.cell 3;have e4:_=some (Value.int .i64 ls.length):=kr7.cell 4;have hel:(left.eraseIdx j).length=left.length-1:=List.length_eraseIdx_of_lt (by omega);have hlt7:∀x∈left.eraseIdx j,x<ls.length:=fun x hx=>HLT2.out x (List.mem_of_mem_eraseIdx hx);have HCA:=zH (HCC.out w7 _ _ (left.eraseIdx j) oa oc sa (zz ls).length sc (HRS4.out.new hb9) hi7.ints hlt7 (by omega));have HLT7:=zH hlt7;have HEL:=zH hel;have hj3:IntKind.i64.wrap ((j:Int)-1)=(j:Int)-1:=by rw[IntKind.wrap_i64];omega
    have HR7:Hid (w7.ownsRow w.heap.size 3 1 (.slice oa (left.eraseIdx j).length oc) (zu (left.eraseIdx j)).length (zn (zu (left.eraseIdx j)))):=yu hrow7 (Nat.le_trans HB4.out.size HBR.out.size);have HRL:=zH (zS HROW.out hb8);have HB9:=zH hb9;clear hrow7 hb7 hi7 hb8 hb9 kr7 hlt7 HDE HB6 HBR HROW hel;cases hcn:can (left.eraseIdx j) with
    |true =>
     rw[hcn] at HCA;have HG2:Hid (xo can j left=xo can (zz ls).length (zz ls)):=by show _=_;rw[<-HGO.out];show _=xo can j _;rw[hcn];rfl
     clear hcn HGO;go_wp2_with fail;refine HCA.out.mono ?_;rintro e w8 ⟨rfl,hb8⟩;have HR8:=zH (zS HRL.out hb8);have HB10:=zH (zT HB9.out hb8);clear hb8 HCA e0 e1 e2 e3 e4 HRL HR7 HB9;go_wp2;go_roundw
     case rel=>exact⟨j,left,la,lc,rfl,by omega,by go_num,HG2.out,HLT2.out,hll2,HR8.out,HB10.out⟩
     case measure=>simp[intOf]
    |false =>
     rw[hcn] at HCA;have HG2:Hid (xo can j (left.eraseIdx j)=xo can (zz ls).length (zz ls)):=by show _=_;rw[<-HGO.out];show _=xo can j _;rw[hcn];rfl
     clear hcn HGO;go_wp2_with fail;refine HCA.out.mono ?_;rintro e w8 ⟨rfl,hb8⟩;have HR8:=zH (zS HR7.out hb8);have HB10:=zH (zT HB9.out hb8);clear hb8 HCA e0 e1 e2 e3 e4 HRL HR7 HB9;go_wp2;go_roundw
     case rel=>exact⟨j,left.eraseIdx j,oa,oc,rfl,by rw[HEL.out];omega,by go_num,HG2.out,HLT7.out,by rw[HEL.out];omega,HR8.out,HB10.out⟩
     case measure=>simp[intOf]
end Go.Proofs.YtapobpgbcbplbaaGreatDoor
