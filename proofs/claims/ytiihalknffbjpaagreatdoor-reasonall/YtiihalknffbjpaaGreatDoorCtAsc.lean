/- Items in order: each once; the reference's insertion. Plain. -/
import Derived.Test.YtiihalknffbjpaaGreatDoorClSolve
set_option maxHeartbeats 4000000
set_option maxRecDepth 100000
namespace Go.Proofs.YtiihalknffbjpaaGreatDoor
section
open Go.RowKit Go.Deep Sv
def inF(m:Nat)(ls:List Nat):List Bool:=(List.range m).map fun i=>decide (i∈ls)
def zq(ls:List Nat):List Int:=ls.map fun n:Nat=>(n:Int)
theorem Zp(m:Nat)(ls:List Nat):(inF m ls).length=m:=by simp[inF]
theorem XC{m i:Nat}(ls:List Nat)(h:i<m):(inF m ls).getD i false=decide (i∈ls):=by simp[inF,List.getD_eq_getElem?_getD,h]
def xM(W:World)(g:Nat)(bs:List Bool):Prop:=∃cur,Blk W g 4 cur/\cur.size=bs.length/\∀j,j<bs.length->cur[j]?=some (.bool (bs.getD j false))
theorem xM.bools{W:World}{g:Nat}{bs:List Bool}(h:xM W g bs):xU W (some ⟨g,0,none⟩) bs:=fun j hj=>by
 obtain⟨cur,h1,_,h3⟩:=h;exact⟨_,rfl,h1.lt,by rw[yd,Nat.zero_add,h1.cell j,h3 j hj]⟩
theorem xM.tell{W:World}{g m:Nat}{ls:List Nat}(h:xM W g (inF m ls)){n:Nat}(hn:n<m):xM (W.setCell ⟨g,n,none⟩ (.bool true)) g (inF m (ls++[n])):=by
 obtain⟨cur,h1,h2,h3⟩:=h;rw[Zp] at h2 h3;refine⟨_,h1.set,by rw[Array.size_setIfInBounds,Zp,h2],fun j hj=>?_⟩;rw[Zp] at hj;rw[Array.getElem?_setIfInBounds,XC _ hj]
 by_cases e:n=j
 ·subst e;rw[if_pos rfl,if_pos (by omega)];simp
 ·rw[if_neg e,h3 j hj,XC _ hj];have:(j∈ls++[n])↔j∈ls:=by simp;exact fun h=>absurd h.symm e
  simp only[this]
theorem zdy(m i:Nat)(h:i<m):(madeCells #[.bool false] m)[i]?=some (.bool false):=by
 simp[madeCells,h,Nat.mod_one]
theorem zae{W:World}{g m:Nat}{cur:Array Value}(h1:Blk W g 4 cur)(h2:cur.size=m)(h3:cur.toList.take m=(madeCells #[.bool false] m).toList):xM W g (inF m []):=by
 refine⟨cur,h1,by rw[Zp,h2],fun j hj=>?_⟩;rw[Zp] at hj;rw[XC _ hj];have e:=congrArg (fun l=>l[j]?) h3;simp only[List.getElem?_take,if_pos hj] at e;rw[Array.getElem?_toList,Array.getElem?_toList,zdy m j hj] at e;rw[e];simp
def Qm(v:Nat)(l:List (List Int))(b:Bool)(er:Value):Prop :=
 ∃r,Run v l st0 r/\((∃t,r=.sat t/\b=true/\er=.nilIface)\/(∃p,r=.unsat p/\b=false/\er=.nilIface)\/(r=.limit/\b=false/\er=.iface 57 (.int .i64 4)))
theorem zdO(v:Nat)(l:List (List Int))(a:Option Addr)(cap:Nat)(hn:a=none->cap=0)(w:World)(hI:qn w a l)(hm:l.length<=9223372036854775807)(hc:(qM v l).1=0) :
  zC 36 #[.int .i64 v,.slice a l.length cap] w fun e w'=>∃b nn pa pn pc er,e=.returned (.tuple #[.agg #[.bool b,.int .u64 nn,.slice pa pn pc],er])/\Qm v l b er/\zB w w':=by
 refine(zit v l a cap hn w hI hm).mono ?_;rintro e w' ⟨hs,hb⟩;rcases hs with ⟨h,_⟩|⟨-,r,hr,h⟩
 ·exact absurd hc h
 ·rw[Int.toNat_natCast] at hr;rcases h with ⟨t,rfl,rfl⟩|⟨p,pa,pc,rfl,rfl,-⟩|⟨rfl,rfl⟩
  ·exact⟨_,_,_,_,_,_,rfl,⟨_,hr,Or.inl ⟨t,rfl,rfl,rfl⟩⟩,hb⟩
  ·exact⟨_,_,_,_,_,_,rfl,⟨_,hr,Or.inr (Or.inl ⟨p,rfl,rfl,rfl⟩)⟩,hb⟩
  ·exact⟨_,_,_,_,_,_,rfl,⟨_,hr,Or.inr (Or.inr ⟨rfl,rfl,rfl⟩)⟩,hb⟩
theorem Ks:(Tryz.prog.info? 4).map (fun i=>(i.zero,i.size,i.bytes))=some (some (.bool false),1,1):=by kernel_rfl
theorem zfM(B n:Nat)(P:List (Int × List Int))(cv fv:Value)(m:Nat)(ls:List Nat)(la:Option Addr)(lc:Nat)(sa:Option Addr)(sn sc:Nat)(w:World)(hr:RS B w cv fv (P.map Prod.snd) (P.map Prod.fst))(hl:qh w la (zq ls))(hlt:∀x∈ls,x<m)(hm:m<=1000)(hll:ls.length<=100000)(hP:P.length<=10000)(hc:∀x∈P,x.2.length<=1000)(hck:(qM n (zS P (inF m ls))).1=0) :
  zC 110 #[.agg #[.int .i64 n,cv,fv,.slice sa sn sc,.int .i64 m],.slice la ls.length lc] w fun e w'=>∃b er,e=.returned (.tuple #[.bool b,er])/\Qm n (zS P (inF m ls)) b er/\zB w w':=by
 obtain⟨ca,cc,rfl,-⟩:∃a c,cv=.slice a P.length c/\True:=by obtain⟨cs,h1,_⟩:=hr.crow;obtain⟨a,c,e,_⟩:=(zj h1).form;exact⟨a,c,by simpa using e,trivial⟩
 obtain⟨fa,fc,rfl,-⟩:∃a c,fv=.slice a P.length c/\True:=by obtain⟨a,c,e,_⟩:=(zj hr.frow).form;exact⟨a,c,by simpa using e,trivial⟩
 obtain⟨i0,hin,hz0,hz1,hz2⟩:=info_parts Ks;have hb1:=zo w (.cells #[.int .i64 n,.slice ca P.length cc,.slice fa P.length fc,.slice sa sn sc,.int .i64 m] 202);have kb:=Blk.new w 202 #[.int .i64 n,.slice ca P.length cc,.slice fa P.length fc,.slice sa sn sc,.int .i64 m];have HR:=zH (hr.new hb1);have HL:=zH (hl.below hb1);have HLT:=zH hlt;have HC:=zH hc;have HB1:=zH hb1;have HCK:=zH hck;have hmi:(0:Int)<=(m:Int):=by omega
 clear hr hl hb1 hlt hc hck;go_enter Tryz.func110,Tryz.ntmps110;go_upto_region 1 with fail;generalize w.alloc (.cells #[.int .i64 n,.slice ca P.length cc,.slice fa P.length fc,.slice sa sn sc,.int .i64 m] 202)=W0 at *;have c4:_=some (Value.int .i64 m):=kb.cell 4;go_wp2_with (at_make;refine wpList_make_full _ rfl _ _ 219 rfl W0.heap.size 4 i0 (.bool false) 1 Tryz.underlying219 hin hz0 hz1 .i64 .i64 _ _ m rfl rfl ?c1 ?c2 ?c3 ?c4 ?c5 ?_)
 case c1=>rfl
 case c2=>rfl
 case c3=>rw[hz2];omega
 case c4=>unfold maxLen;omega
 case c5=>omega
 intro w5 hown hgrow;have hb5:zB W0 w5:=zF.grown hgrow zN (fun k hk=>by cases hk);have hbo:xM w5 W0.heap.size (inF m []):=by
  rcases hown.2 with ⟨e,_⟩|⟨g,cap,cur,e,_,hg,_,_,hsz,htk⟩
  ·cases e
  ·cases e;exact zae hg (by omega) (by simpa using htk)
 have HBO:=zH hbo;have HB5:=zH hb5;clear hown hgrow hbo hb5 c4;generalize hg4:W0.heap.size=g at *;go_wp2_with fail;go_loopw [16] (fun iV wr=>∃(i:Nat),i<=ls.length/\iV=.int .i64 i/\xM wr g (inF m (ls.take i))/\Below g W0 wr) (fun iV _=>ls.length-(intOf iV).toNat)
 case atStart=>exact⟨0,Nat.zero_le _,rfl,by simpa using HBO.out,HB5.out.mono (Nat.le_of_eq hg4.symm)⟩
 case round =>
  clear HBO HB5;obtain⟨i,hil,rfl,hbo,hbw⟩:=hrel
  by_cases hlt:i<ls.length
  ·have hii0:(0:Int)<=(i:Int):=by omega
   have hii1:(i:Int)<(ls.length:Int):=by omega
   obtain⟨ad,rfl,had,hcell⟩:=HL.out.below (hg4▸hbw) i (by simpa[zq] using hlt);have hx:=HLT.out (ls.getD i 0) (by rw[List.getD_eq_getElem?_getD,List.getElem?_eq_getElem hlt];exact List.getElem_mem hlt);have hxe:(zq ls).getD i 0=((ls.getD i 0:Nat):Int):=by simp[zq,List.getD_eq_getElem?_getD,hlt]
   rw[hxe] at hcell;have htk:ls.take (i+1)=ls.take i++[ls.getD i 0]:=by rw[List.take_add_one,List.getD_eq_getElem?_getD,List.getElem?_eq_getElem hlt];rfl
   have HBN:=zH (hbo.tell hx);rw[<-htk] at HBN;obtain⟨cur,g1,g2,g3⟩:=hbo;rw[Zp] at g2 g3;have c0:=(g1.cell (ls.getD i 0)).trans (g3 _ hx);have f0:=g1.frozen (ls.getD i 0);have HBW:Hid (Below g W0 (wr.setCell ⟨g,ls.getD i 0,none⟩ (.bool true))):=hbw.setCell (p:=⟨g,ls.getD i 0,none⟩) zN _;clear g1 g2 g3 hxe htk hbw;generalize (inF m (ls.take i)).getD (ls.getD i 0) false=bb at *;generalize ls.getD i 0=x at *;have hx0:(0:Int)<=(x:Int):=by omega
   have hx1:(x:Int)<(m:Int):=by omega
   obtain⟨ab,ao,asp⟩:=ad;go_wp2;go_roundw
   case rel=>exact⟨i+1,hlt,by go_num,HBN.out,HBW.out⟩
   case measure=>simp[intOf];omega
  ·obtain rfl:i=ls.length:=by omega
   rw[List.take_length] at hbo;have hb0:zB w wr:=HB1.out.trans (hbw.mono (by rw[<-hg4];exact HB1.out.size));have kb':=kb.below (hg4▸hbw) kb.lt;have HRS:=zH (HR.out.new (hg4▸hbw));have HBA:=zH hbo.bools;have HB0:=zH hb0;have SC:Hid (∀W,zB wr W->W.cell? ⟨w.heap.size,0,none⟩=some (.int .i64 n)/\W.cell? ⟨w.heap.size,1,none⟩=some (.slice ca P.length cc)/\W.cell? ⟨w.heap.size,2,none⟩=some (.slice fa P.length fc)):=fun W h=>⟨(kb'.below h kb'.lt).cell 0,(kb'.below h kb'.lt).cell 1,(kb'.below h kb'.lt).cell 2⟩;have HO:Hid (∀W,zB wr W->zC 186 #[.agg #[.int .i64 n,.slice ca P.length cc,.slice fa P.length fc],.slice (some ⟨g,0,none⟩) m m] W fun e w'=>∃a2 c2,e=.returned (.slice a2 (zS P (inF m ls)).length c2)/\(a2=none->c2=0)/\qn w' a2 (zS P (inF m ls))/\zB W w'):=fun W hW=>by
    have h:=zfS B (n:Int) P (.slice ca P.length cc) (.slice fa P.length fc) (inF m ls) (some ⟨g,0,none⟩) m W (HRS.out.new hW) (HBA.out.below hW zN) hP HC.out;rw[Zp] at h;refine h.mono fun e w' ⟨v',h1,h2,h3⟩=>?_;obtain⟨cs,g1,g2⟩:=h2;obtain⟨a1,c1,e1,hn1,-⟩:=(zj g1).form;subst e1;exact⟨a1,c1,h1,hn1,zE.cls (B:=0) (cap:=c1) g2 (yn g1 (Nat.zero_le _)),h3⟩
   have hkl:(zS P (inF m ls)).length<=10000:=by have h1:=Jm P (inF m ls) P.length;unfold ym at h1;rw[List.take_length] at h1;omega
   obtain⟨KK,hKK⟩:∃KK,zS P (inF m ls)=KK:=⟨_,rfl⟩;rw[hKK] at HO hkl HCK;have HKK:=zH hKK;clear hKK;have HS:Hid (∀W a1 c1,(a1=none->c1=0)->qn W a1 KK->zC 36 #[.int .i64 n,.slice a1 KK.length c1] W fun e w'=>∃b nn pa pn pc er,e=.returned (.tuple #[.agg #[.bool b,.int .u64 nn,.slice pa pn pc],er])/\Qm n KK b er/\zB W w'):=fun W a1 c1 h0 h1=>zdO n KK a1 c1 h0 W h1 (by omega) HCK.out;have D0:zB wr wr.drew:=zF.drew;have D0a:zB wr (wr.alloc (.cells #[.bool false,.int .u64 0,.slice none 0 0] 72)).drew:=(zF.alloc zN _).drew;have k0a:Blk (wr.alloc (.cells #[.bool false,.int .u64 0,.slice none 0 0] 72)).drew wr.heap.size 72 #[.bool false,.int .u64 0,.slice none 0 0]:=Blk.new wr 72 #[.bool false,.int .u64 0,.slice none 0 0];clear HRS HBA hbo hb0 hbw kb kb' HR HL HLT HC HCK HB1;go_upto_region 7 with fail;go_region_held3 (fun W=>W.cell? ⟨w.heap.size,0,none⟩=some (.int .i64 n)/\W.cell? ⟨w.heap.size,1,none⟩=some (.slice ca P.length cc)/\W.cell? ⟨w.heap.size,2,none⟩=some (.slice fa P.length fc)) (first|exact SC.out _ D0|exact SC.out _ D0a|exact SC.out _ D1|exact SC.out _ D1a|exact SC.out _ D2|exact SC.out _ D2a|exact SC.out _ D2s)
    (first
     |((with_reducible refine(HO.out _ D0).mono ?_);rintro e x1 ⟨a1,c1,rfl,hn1,hcl1,hb1⟩;have D1:zB wr x1:=zT D0 hb1;have D1a:zB wr (x1.alloc (.cells #[.bool false,.int .u64 0,.slice none 0 0] 72)):=zL D1;have hcl1a:qn (x1.alloc (.cells #[.bool false,.int .u64 0,.slice none 0 0] 72)) a1 KK:=hcl1.below (zo _ _);have ka:=Blk.new x1 72 #[.bool false,.int .u64 0,.slice none 0 0];clear HO D0 D0a k0a hb1)
     |((with_reducible refine(HO.out _ D0a).mono ?_);rintro e x1 ⟨a1,c1,rfl,hn1,hclz,hb1⟩;have D1:zB wr x1:=zT D0a hb1;have kz:=k0a.below hb1 k0a.lt;clear HO D0 D0a k0a hb1)
     |((with_reducible refine(HS.out _ _ _ hn1 hclz).mono ?_);rintro e x2 ⟨b,nn,pa,pn,pc,er,rfl,hcan,hb2⟩;have D2:zB wr x2:=zT D1 hb2;have D2s:zB wr (((x2.setCell ⟨wr.heap.size,0,none⟩ (.bool b)).setCell ⟨wr.heap.size,1,none⟩ (.int .u64 nn)).setCell ⟨wr.heap.size,2,none⟩ (.slice pa pn pc)):=((D2.setCell (p:=⟨wr.heap.size,0,none⟩) zN _).setCell (p:=⟨wr.heap.size,1,none⟩) zN _).setCell (p:=⟨wr.heap.size,2,none⟩) zN _;obtain⟨z0,f0,z1,f1,z2,f2,r0,r1,r2⟩:=QO (kz.below hb2 kz.lt) (.bool b) (.int .u64 nn) (.slice pa pn pc);clear HS D1 hb2 hclz hn1 kz)
     |((with_reducible refine(HS.out _ _ _ hn1 hcl1).mono ?_);rintro e x2 ⟨b,nn,pa,pn,pc,er,rfl,hcan,hb2⟩;have D2:zB wr x2:=zT D1 hb2;have D2a:zB wr (x2.alloc (.cells #[.bool false,.int .u64 0,.slice none 0 0] 72)):=zL D2;have D2s:zB wr (x2.alloc (.cells #[.bool b,.int .u64 nn,.slice pa pn pc] 72)):=zL D2;have r0:=(Blk.new x2 72 #[.bool b,.int .u64 nn,.slice pa pn pc]).cell 0;clear HS D1a D1 hb2 hcl1a hcl1 hn1 ka)
     | ((with_reducible refine (HS.out _ _ _ hn1 hcl1a).mono ?_);rintro e x2 ⟨b,nn,pa,pn,pc,er,rfl,hcan,hb2⟩;have D2:zB wr x2:=zT D1a hb2;have D2s:zB wr (((x2.setCell ⟨x1.heap.size,0,none⟩ (.bool b)).setCell ⟨x1.heap.size,1,none⟩ (.int .u64 nn)).setCell ⟨x1.heap.size,2,none⟩ (.slice pa pn pc)):=((D2.setCell (p:=⟨x1.heap.size,0,none⟩) D1.size _).setCell (p:=⟨x1.heap.size,1,none⟩) D1.size _).setCell (p:=⟨x1.heap.size,2,none⟩) D1.size _;obtain ⟨z0,f0,z1,f1,z2,f2,r0,r1,r2⟩:=QO (ka.below hb2 ka.lt) (.bool b) (.int .u64 nn) (.slice pa pn pc);clear HS D1a D1 hb2 hcl1a hcl1 hn1 ka))
   all_goals
    have HFIN:=zH D2s;have HCN:=zH hcan;clear D2s hcan;go_wp2;go_ret2;exact⟨_,_,rfl,by rw[HKK.out];exact HCN.out,zT HB0.out HFIN.out⟩
end
section
open Go.RowKit Go.Deep Sv
def zD(ls:List Ln)(i:Nat):List Nat:=(List.range i).filter fun n=>(ls.getD n default).kind != 1
def qA(ls:List Ln):List Nat:=zD ls ls.length
theorem KZ(ls:List Ln)(i:Nat):zD ls (i+1)=zD ls i++(if (ls.getD i default).kind != 1 then [i] else []):=by
 unfold zD;rw[List.range_succ,List.filter_append];congr 1
 by_cases h:((ls.getD i default).kind != 1)=true
 ·rw[if_pos h,List.filter_cons,if_pos h,List.filter_nil]
 ·rw[if_neg h,List.filter_cons,if_neg h,List.filter_nil]
theorem Kg(ls:List Ln)(i:Nat):(zD ls i).length<=i:=by
 unfold zD;refine Nat.le_trans (List.length_filter_le _ _) ?_;simp
theorem zbV(ls:List Ln)(i:Nat):∀x∈zD ls i,x<i:=fun x hx=>by
 unfold zD at hx;simpa using (List.mem_filter.1 hx).1
theorem ZR(l:List Nat):(zq l).length=l.length:=by simp[zq]
theorem zj2(l:List Nat)(n:Nat):zq (l++[n])=zq l++[(n:Int)]:=by simp[zq]
theorem RS.setS{B b i:Nat}{W:World}{cv fv v:Value}{K:List (List Int)}{F:List Int}{cs:Array Value}(h:RS B W cv fv K F)(hb:Blk W b 202 cs)(hlt:b<B):RS B (W.setCell ⟨b,i,none⟩ v) cv fv K F:=by
 obtain⟨c,h1,h2,h3⟩:=h.crow;exact⟨⟨c,yq h1 hlt,h2.kp (Kp.set (Nat.zero_le _) hb (by decide)),h3⟩,yq h.frow hlt⟩
structure SD(W5 wr:World)(n:Int)(cv fv lv:Value)(m:Int)(l:List Nat):Prop where
 blk:Blk wr W5.heap.size 202 #[.int .i64 n,cv,fv,lv,.int .i64 m]
 row:wr.ownsRow (W5.heap.size+1) 3 1 lv (zq l).length (zd (zq l))
 B:zB W5 wr
theorem SD.new{W5 wr w':World}{n m:Int}{cv fv lv:Value}{l:List Nat}(h:SD W5 wr n cv fv lv m l)(hb:zB wr w'):SD W5 w' n cv fv lv m l :=
 ⟨h.blk.below hb h.blk.lt,zm h.row hb,zT h.B hb⟩
theorem SD.app{W5 W w7:World}{n m:Int}{cv fv lv v':Value}{l:List Nat}{x:Nat}(h:SD W5 W n cv fv lv m l)
  (hown:w7.ownsRow (W5.heap.size+1) 3 1 v' ((zq l).length+1) (zd (zq l)++[.int .i64 x])) (hg:(W.alloc (.cells #[.int .i64 x] 3)).grownBy w7 lv.ownBlock) :
  Blk w7 W5.heap.size 202 #[.int .i64 n,cv,fv,lv,.int .i64 m]/\SD W5 (w7.setCell ⟨W5.heap.size,3,none⟩ v') n cv fv v' m (l++[x]):=by
 have hbn:=zo W (.cells #[.int .i64 x] 3);have hl:=h.blk.lt;have hne:some W5.heap.size≠lv.ownBlock:=fun e=>by have:=(h.row.lt _ e.symm).1;omega
 have q5:=(h.blk.below hbn hl).kept hg hne;have hB7:zB W5 w7:=h.B.trans ((hbn.mono (by omega)).grown hg (by simp;omega) (fun k hk=>by have:=(h.row.lt k hk).1;omega));refine⟨q5,q5.set (i:=3),?_,hB7.setCell (p:=⟨W5.heap.size,3,none⟩) zN _⟩;rw[zj2,yO,List.length_append];exact yq hown (by omega)
theorem zcC(bk:Nat)(ls:List Ln)(its:List It)(w:World)(h:xA w bk ls its)(hl:its.length<=24)(hll:ls.length<=120)(hnm:∀x∈ls,x.name.size<=100000/\x.other.size<=100000)(hP:(ofL its ls).length<=200) :
  zC 108 #[.pointer (some ⟨bk,0,none⟩)] w fun e w'=>∃cv fv lv,e=.returned (.tuple #[.agg #[.int .i64 its.length,cv,fv,lv,.int .i64 ls.length],.nilIface])/\RS w.heap.size w' cv fv ((ofL its ls).map Prod.snd) ((ofL its ls).map Prod.fst)/\w'.ownsRow w.heap.size 3 1 lv (zq (qA ls)).length (zd (zq (qA ls)))/\zB w w':=by
 obtain⟨i0,hin,hz0,hz1,hz2⟩:=info_parts yY;have hbx:=zo w (.cells #[.int .i64 0,.slice none 0 0,.slice none 0 0,.slice none 0 0,.int .i64 0] 202);have k2:=Blk.new w 202 #[.int .i64 0,.slice none 0 0,.slice none 0 0,.slice none 0 0,.int .i64 0];have hc0:=h.below hbx zN;have HOF0:=zdC bk ls its _ hc0 hl hll hnm;have HC:=zH hc0;have hs0:(w.alloc (.cells #[.int .i64 0,.slice none 0 0,.slice none 0 0,.slice none 0 0,.int .i64 0] 202)).heap.size=w.heap.size+1:=by simp
 have HBX:=zH hbx;generalize ofL its ls=P at *;clear h hnm hbx hc0;go_enter Tryz.func108,Tryz.ntmps108;go_upto_region 1 with fail;generalize w.alloc (.cells #[.int .i64 0,.slice none 0 0,.slice none 0 0,.slice none 0 0,.int .i64 0] 202)=W0 at *;have HOF:Hid (zC 73 #[.pointer (some ⟨bk,0,none⟩)] W0 fun e w'=>∃cv fv,e=.returned (.tuple #[.agg #[.int .i64 its.length,cv,fv],.nilIface])/\RS W0.heap.size w' cv fv (P.map Prod.snd) (P.map Prod.fst)/\zB W0 w'):=HOF0.mono fun e w' hh=>by
  rcases hh with ⟨h1,_⟩|⟨-,cv,fv,h2,h3,h4⟩
  ·omega
  ·exact⟨cv,fv,h2,h3,h4⟩
 clear HOF0;go_wp2_with fail;refine HOF.out.mono ?_;rintro e w1 ⟨cv,fv,rfl,hrs,hb1⟩;obtain⟨ca,cc,rfl,-⟩:∃a c,cv=.slice a P.length c/\True:=by obtain⟨cs,h1,_⟩:=hrs.crow;obtain⟨a,c,e,_⟩:=(zj h1).form;exact⟨a,c,by simpa using e,trivial⟩
 obtain⟨fa,fc,rfl,-⟩:∃a c,fv=.slice a P.length c/\True:=by obtain⟨a,c,e,_⟩:=(zj hrs.frow).form;exact⟨a,c,by simpa using e,trivial⟩
 have hbn:=zo w1 (.cells #[.int .i64 its.length,.slice ca P.length cc,.slice fa P.length fc] 65);have kr:=Blk.new w1 65 #[.int .i64 its.length,.slice ca P.length cc,.slice fa P.length fc];have hb2:=zT hb1 hbn;have HRS:=zH (hrs.new hbn);have HB2:=zH hb2;have HLN:=zH (zkA bk ls its _ (HC.out.below hb2 zN) (by omega));have K2:=zH (k2.below hb2 k2.lt);clear hrs hb1 hbn hb2 HOF HC k2;go_upto_region 4 with fail;generalize w1.alloc (.cells #[.int .i64 its.length,.slice ca P.length cc,.slice fa P.length fc] 65)=W2 at *;generalize w1.heap.size=b4 at *;go_wp2_with fail;refine HLN.out.mono ?_;rintro e w3 ⟨lv,rfl,hlv,hb3⟩;obtain⟨la,lc,rfl⟩:∃a c,lv=.slice a ls.length c:=by obtain⟨vs',_,h2⟩:=hlv;obtain⟨a,c,e,_⟩:=h2.form;exact⟨a,c,e⟩
 have kr3:=kr.below hb3 kr.lt;have r0:_=some (Value.int .i64 its.length):=kr3.cell 0;have r1:_=some (Value.slice ca P.length cc):=kr3.cell 1;have r2:_=some (Value.slice fa P.length fc):=kr3.cell 2;have HRS3:=zH (HRS.out.new hb3);have HB3:Hid (zB W0 w3):=zT HB2.out hb3;have K3:=zH (K2.out.below hb3 K2.out.lt);have HLV:=zH hlv;have hsd:SD w3 (w3.alloc (.cells #[.int .i64 its.length,.slice ca P.length cc,.slice fa P.length fc,.slice none 0 0,.int .i64 ls.length] 202)) (its.length:Int) (.slice ca P.length cc) (.slice fa P.length fc) (.slice none 0 0) (ls.length:Int) (zD ls 0):=⟨Blk.new _ _ _,World.ownsRow_nil _ _ _ _,zo _ _⟩;have HSD:=zH hsd;clear hlv hb3 kr kr3 HRS HB2 K2 HLN hsd;go_upto_region 6 with fail;generalize w3.alloc (.cells #[.int .i64 its.length,.slice ca P.length cc,.slice fa P.length fc,.slice none 0 0,.int .i64 ls.length] 202)=W5 at *;clear r0 r1 r2;go_wp2_with fail;go_loopw [27] (fun iV wr=>∃(i:Nat) (lv:Value),i<=ls.length/\iV=.int .i64 i/\SD w3 wr (its.length:Int) (.slice ca P.length cc) (.slice fa P.length fc) lv (ls.length:Int) (zD ls i)) (fun iV _=>ls.length-(intOf iV).toNat)
 case atStart=>exact⟨0,_,Nat.zero_le _,rfl,HSD.out⟩
 case round =>
  clear HSD;obtain⟨i,lv,hil,rfl,hsd⟩:=hrel
  by_cases hlt:i<ls.length
  ·have hii0:(0:Int)<=(i:Int):=by omega
   have hii1:(i:Int)<(ls.length:Int):=by omega
   obtain⟨g,cap',rv,e,hg,hsp,hrg,c0,c1,c2,c3,c4,c5,c6⟩:=(HLV.out.below hsd.B zN).at i hlt;simp at e;obtain⟨rfl,rfl⟩:=e;have HSU:=zH (KZ ls i);have hpl:=Kg ls i;obtain⟨x,hxe⟩:∃x,ls.getD i default=x:=⟨_,rfl⟩;rw[hxe] at hsp hrg c0 c1 c2 c3 c4 c5 HSU;obtain⟨ra,rc,rfl⟩:=hsp.form;have hb6:=zo wr (.cells #[.int .i64 x.kind,.string x.name,.int .i64 x.a,.int .i64 x.b,.int .i64 x.c,.string x.other,.slice ra x.rng.length rc] 130);have kx:=Blk.new wr 130 #[.int .i64 x.kind,.string x.name,.int .i64 x.a,.int .i64 x.b,.int .i64 x.c,.string x.other,.slice ra x.rng.length rc];have HSD:=zH (hsd.new hb6);obtain⟨va,vc,hve,-⟩:=(zj hsd.row).form;rw[ZR] at hve;subst hve;clear hsd hb6 hsp hrg hxe;go_upto_region 9 with fail;generalize wr.alloc (.cells #[.int .i64 x.kind,.string x.name,.int .i64 x.a,.int .i64 x.b,.int .i64 x.c,.string x.other,.slice ra x.rng.length rc] 130)=W6 at *;generalize wr.heap.size=bx at *;have x0:_=some (Value.int .i64 x.kind):=kx.cell 0;clear c0 c1 c2 c3 c4 c5 c6 hg kx;cases hk:(x.kind != 1) with
   |true =>
    have hk1:(x.kind != 1)=true:=hk;have d3:_=some (Value.slice va (zD ls i).length vc):=HSD.out.blk.cell 3;have HRW:Hid (W6.ownsRow (w3.heap.size+1) 3 1 (.slice va (zD ls i).length vc) (zD ls i).length (zd (zq (zD ls i)))):=by have:=HSD.out.row;rw[ZR] at this;exact this
    have HAP:=zH (fun w7 v'=>HSD.out.app (w7:=w7) (v':=v') (x:=i));rw[hk,if_pos rfl] at HSU;have hws:=HSD.out.blk.lt;clear hk HSD;go_wp2_with (at_builtin;refine wpList_append_own_at _ rfl _ _ 47 rfl (w3.heap.size+1) 3 i0 (.int .i64 0) 1 8 Tryz.underlying47 hin hz0 hz1 hz2 rfl (by decide) _ _ _ rfl (HRW.out.alloc _) ⟨W6.heap.size,0,none⟩ 1 1 [.int .i64 i] rfl rfl ?a1 ?a2 ?a3 ?a4 ?a5 ?_)
    case a1=>exact ZS _ _ _
    case a2=>intro u hu;rw[List.mem_singleton] at hu;subst hu;rfl
    case a3=>unfold maxLen;omega
    case a4=>omega
    case a5=>simp;omega
    intro v7 w7 hown7 hgrow7 _ hloc7;obtain⟨kb7,hsd7⟩:=HAP.out w7 v7 (by rw[ZR];exact hown7) hgrow7;rw[<-HSU.out] at hsd7;have e3:_=some (Value.slice va (zD ls i).length vc):=kb7.cell 3;have f3:=kb7.frozen 3;obtain⟨va7,vc7,hve,-⟩:=(zj hown7).form;have HSD7:=zH hsd7;clear hown7 hgrow7 hloc7 HAP HRW d3 HSU kb7 hsd7;subst hve;go_wp2;go_roundw
    case rel=>exact⟨i+1,_,hlt,by go_num,HSD7.out⟩
    case measure=>simp[intOf];omega
   |false =>
    rw[hk,if_neg (by simp),List.append_nil] at HSU;have hk1:(x.kind != 1)=false:=hk;have HSD7:Hid (SD w3 W6 (its.length:Int) (.slice ca P.length cc) (.slice fa P.length fc) (.slice va (zD ls i).length vc) (ls.length:Int) (zD ls (i+1))):=by show SD _ _ _ _ _ _ _ _;rw[HSU.out];exact HSD.out
    clear hk HSD HSU;go_wp2;go_roundw
    case rel=>exact⟨i+1,_,hlt,by go_num,HSD7.out⟩
    case measure=>simp[intOf];omega
  ·obtain rfl:i=ls.length:=by omega
   obtain⟨va,vc,hve,-⟩:=(zj hsd.row).form;rw[ZR] at hve;subst hve;have hs3:=HB3.out.size;have y0:_=some (Value.int .i64 its.length):=hsd.blk.cell 0;have y1:_=some (Value.slice ca P.length cc):=hsd.blk.cell 1;have y2:_=some (Value.slice fa P.length fc):=hsd.blk.cell 2;have y3:_=some (Value.slice va (zD ls ls.length).length vc):=hsd.blk.cell 3;have y4:_=some (Value.int .i64 ls.length):=hsd.blk.cell 4;have k5:=K3.out.below hsd.B K3.out.lt;have hRS5:=(HRS3.out.new hsd.B).base (B':=w.heap.size+1) (by omega);have hRow:wr.ownsRow (w.heap.size+1) 3 1 (.slice va (zD ls ls.length).length vc) (zq (zD ls ls.length)).length (zd (zq (zD ls ls.length))):=yn hsd.row (by omega);have hB5:zB w wr:=HBX.out.trans ((HB3.out.trans (hsd.B.mono hs3)).mono (by omega));have q0:=k5;have q1:=q0.set (i:=0) (v:=.int .i64 its.length);have q2:=q1.set (i:=1) (v:=.slice ca P.length cc);have q3:=q2.set (i:=2) (v:=.slice fa P.length fc);have q4:=q3.set (i:=3) (v:=.slice va (zD ls ls.length).length vc);have q5:=q4.set (i:=4) (v:=.int .i64 ls.length);have hR:=((((hRS5.setS (i:=0) (v:=.int .i64 its.length) q0 (by omega)).setS (i:=1) (v:=.slice ca P.length cc) q1 (by omega)).setS (i:=2) (v:=.slice fa P.length fc) q2 (by omega)).setS (i:=3) (v:=.slice va (zD ls ls.length).length vc) q3 (by omega)).setS (i:=4) (v:=.int .i64 ls.length) q4 (by omega);have hRw:=yq (b:=w.heap.size) (i:=4) (x:=.int .i64 ls.length) (yq (b:=w.heap.size) (i:=3) (x:=.slice va (zD ls ls.length).length vc) (yq (b:=w.heap.size) (i:=2) (x:=.slice fa P.length fc) (yq (b:=w.heap.size) (i:=1) (x:=.slice ca P.length cc) (yq (b:=w.heap.size) (i:=0) (x:=.int .i64 its.length) hRow (by omega)) (by omega)) (by omega)) (by omega)) (by omega);have hBB:=(((((hB5.setCell (p:=⟨w.heap.size,0,none⟩) zN (.int .i64 its.length)).setCell (p:=⟨w.heap.size,1,none⟩) zN (.slice ca P.length cc)).setCell (p:=⟨w.heap.size,2,none⟩) zN (.slice fa P.length fc)).setCell (p:=⟨w.heap.size,3,none⟩) zN (.slice va (zD ls ls.length).length vc)).setCell (p:=⟨w.heap.size,4,none⟩) zN (.int .i64 ls.length));have Q5:Hid (Blk (((((wr.setCell ⟨w.heap.size,0,none⟩ (.int .i64 its.length)).setCell ⟨w.heap.size,1,none⟩ (.slice ca P.length cc)).setCell ⟨w.heap.size,2,none⟩ (.slice fa P.length fc)).setCell ⟨w.heap.size,3,none⟩ (.slice va (zD ls ls.length).length vc)).setCell ⟨w.heap.size,4,none⟩ (.int .i64 ls.length)) w.heap.size 202 #[.int .i64 its.length,.slice ca P.length cc,.slice fa P.length fc,.slice va (zD ls ls.length).length vc,.int .i64 ls.length]):=q5;have e0:_=some (Value.int .i64 0):=q0.cell 0;have g0:=q0.frozen 0;have e1:(wr.setCell ⟨w.heap.size,0,none⟩ (.int .i64 its.length)).cell? ⟨w.heap.size,1,none⟩=some (.slice none 0 0):=q1.cell 1;have g1:(wr.setCell ⟨w.heap.size,0,none⟩ (.int .i64 its.length)).frozen? ⟨w.heap.size,1,none⟩=false:=q1.frozen 1;have e2:((wr.setCell ⟨w.heap.size,0,none⟩ (.int .i64 its.length)).setCell ⟨w.heap.size,1,none⟩ (.slice ca P.length cc)).cell? ⟨w.heap.size,2,none⟩=some (.slice none 0 0):=q2.cell 2;have g2:((wr.setCell ⟨w.heap.size,0,none⟩ (.int .i64 its.length)).setCell ⟨w.heap.size,1,none⟩ (.slice ca P.length cc)).frozen? ⟨w.heap.size,2,none⟩=false:=q2.frozen 2;have e3:(((wr.setCell ⟨w.heap.size,0,none⟩ (.int .i64 its.length)).setCell ⟨w.heap.size,1,none⟩ (.slice ca P.length cc)).setCell ⟨w.heap.size,2,none⟩ (.slice fa P.length fc)).cell? ⟨w.heap.size,3,none⟩=some (.slice none 0 0):=q3.cell 3;have g3:(((wr.setCell ⟨w.heap.size,0,none⟩ (.int .i64 its.length)).setCell ⟨w.heap.size,1,none⟩ (.slice ca P.length cc)).setCell ⟨w.heap.size,2,none⟩ (.slice fa P.length fc)).frozen? ⟨w.heap.size,3,none⟩=false:=q3.frozen 3;have e4:((((wr.setCell ⟨w.heap.size,0,none⟩ (.int .i64 its.length)).setCell ⟨w.heap.size,1,none⟩ (.slice ca P.length cc)).setCell ⟨w.heap.size,2,none⟩ (.slice fa P.length fc)).setCell ⟨w.heap.size,3,none⟩ (.slice va (zD ls ls.length).length vc)).cell? ⟨w.heap.size,4,none⟩=some (.int .i64 0):=q4.cell 4;have g4:((((wr.setCell ⟨w.heap.size,0,none⟩ (.int .i64 its.length)).setCell ⟨w.heap.size,1,none⟩ (.slice ca P.length cc)).setCell ⟨w.heap.size,2,none⟩ (.slice fa P.length fc)).setCell ⟨w.heap.size,3,none⟩ (.slice va (zD ls ls.length).length vc)).frozen? ⟨w.heap.size,4,none⟩=false:=q4.frozen 4;have HR5:=zH (hR.base (B':=w.heap.size) (by omega));have HRW5:=zH (yn hRw (Nat.le_succ _));have HBB:=zH hBB;clear q0 q1 q2 q3 q4 q5 hR hRw hBB hRS5 hRow hB5 k5 hsd HLV HRS3 HB3 K3 HBX;go_wp2;generalize ((((wr.setCell ⟨w.heap.size,0,none⟩ (.int .i64 its.length)).setCell ⟨w.heap.size,1,none⟩ (.slice ca P.length cc)).setCell ⟨w.heap.size,2,none⟩ (.slice fa P.length fc)).setCell ⟨w.heap.size,3,none⟩ (.slice va (zD ls ls.length).length vc)).setCell ⟨w.heap.size,4,none⟩ (.int .i64 ls.length)=WG at *;have z0:=Q5.out.cell 0;have z1:=Q5.out.cell 1;have z2:=Q5.out.cell 2;have z3:=Q5.out.cell 3;have z4:=Q5.out.cell 4;refine bodyPost_ret (v:=.tuple #[.agg #[.int .i64 its.length,.slice ca P.length cc,.slice fa P.length fc,.slice va (zD ls ls.length).length vc,.int .i64 ls.length],.nilIface]) (by simp[results,Tryz.f108,go_sem,z0,z1,z2,z3,z4]) rfl ?_;exact⟨_,_,_,rfl,HR5.out,HRW5.out,HBB.out⟩
end
section
open Sv
def Asc(l:List It):Prop:=l.Pairwise fun x y=>zO x y<0
theorem XX:∀(ls:List Ln) (i:Nat) (its out:List It),its.Nodup->zU ls i its=.ok out->out.Nodup
 |[],i,its,out,h0,h=>by cases h;exact h0
 |x :: r,i,its,out,h0,h=>by
  rw[zU] at h;split at h
  ·cases h
  ·split at h
   ·split at h
    ·cases h
    ·rename_i hx;split at h
     ·cases h
     ·refine XX r (i+1) _ out ?_ h;rw[List.nodup_append];exact ⟨h0,by simp,fun a ha b hb=>by
       have:b=x.it:=by simpa using hb
       subst this;exact fun e=>hx (e ▸ ha)⟩
   ·exact XX r (i+1) its out h0 h
def yt(ls:List Ln):List It:=(ls.filter fun x=>decide (x.kind=1)).map Ln.it
theorem K5:∀(ls:List Ln) (i:Nat) (its out:List It),zU ls i its=.ok out->out=its++yt ls
 |[],i,its,out,h=>by cases h;simp[yt]
 |x :: r,i,its,out,h=>by
  rw[zU] at h;split at h
  ·cases h
  ·split at h
   ·rename_i hk;split at h
    ·cases h
    ·split at h
     ·cases h
     ·have:=K5 r (i+1) _ out h;rw[this];simp[yt,hk]
   ·rename_i hk;have:=K5 r (i+1) its out h;rw[this];simp[yt,hk]
theorem zeV{l:List It}(h:l.Nodup):Asc (qR l):=by
 have hs:(qR l).Pairwise fun x y=>(!decide (zO y x<0))=true:=by
  unfold qR;refine List.pairwise_mergeSort ?_ ?_ l
  ·intro a b c h1 h2;simp only[Bool.not_eq_true',decide_eq_false_iff_not] at h1 h2 ⊢;intro h3;rcases Int.lt_trichotomy (zO b a) 0 with q|q|q
   ·exact h1 q
   ·have e:=QZ _ _ q;subst e;exact h2 h3
   ·have q':zO a b<0:=by rw[Qr];omega
    exact h2 (KR _ _ _ h3 q')
  ·intro a b;simp only[Bool.or_eq_true,Bool.not_eq_true',decide_eq_false_iff_not];have:=Qr a b;omega
 have hn:(qR l).Nodup:=(Qo l).nodup_iff.2 h;refine(hs.and hn).imp fun {a b} hab=>?_;obtain⟨h1,h2⟩:=hab;simp only[Bool.not_eq_true',decide_eq_false_iff_not] at h1;have h3:=Qr a b;rcases Int.lt_trichotomy (zO a b) 0 with q|q|q
 ·exact q
 ·exact absurd (QZ _ _ q) h2
 ·omega
theorem zji{a b:List It}(ha:Asc a)(hb:Asc b)(h:a.Perm b):a=b:=by
 refine List.Perm.eq_of_pairwise (le:=fun x y=>zO x y<0) ?_ ha hb h;intro x y _ _ h1 h2;have:=Qr x y;omega
def yi(l:List It)(x:It):Nat->Nat
 |0=>0
 |i+1=>if zO x (l.getD i default)<0 then yi l x i else i+1
def xu(l:List It)(x:It)(i:Nat):List It:=l.take i++x :: l.drop i
def qc:List Ln->List It->List It
 |[],acc=>acc
 |x :: r,acc=>if x.kind=1 then qc r (xu acc x.it (yi acc x.it acc.length)) else qc r acc
theorem zbw(l:List It)(x:It):∀n,yi l x n<=n
 |0=>Nat.le_refl _
 |n+1=>by
  unfold yi;split
  ·have:=zbw l x n;omega
  ·exact Nat.le_refl _
theorem JS(l:List It)(x:It):∀n j,yi l x n<=j->j<n->zO x (l.getD j default)<0
 |0,j,_,h=>by omega
 |n+1,j,h1,h2=>by
  unfold yi at h1;split at h1
  ·rename_i hc;rcases Nat.lt_or_ge j n with h|h
   ·exact JS l x n j h1 h
   ·obtain rfl:j=n:=by omega
    exact hc
  ·omega
theorem zaa(l:List It)(x:It):∀n k,yi l x n=k+1->¬zO x (l.getD k default)<0
 |0,k,h=>by simp[yi] at h
 |n+1,k,h=>by
  unfold yi at h;split at h
  ·exact zaa l x n k h
  ·rename_i hc;obtain rfl:n=k:=by omega
   exact hc
theorem K1(l:List It)(x:It)(i:Nat):(xu l x i).Perm (x :: l):=by
 unfold xu;have h:=List.perm_middle (a:=x) (l₁:=l.take i) (l₂:=l.drop i)
 rwa [List.take_append_drop] at h
theorem KD(l:List It)(x:It)(i:Nat):(xu l x i).length=l.length+1:=by rw[(K1 l x i).length_eq];rfl
theorem zex{l:List It}{x:It}(hl:Asc l)(hx:x∉l):Asc (xu l x (yi l x l.length)):=by
 obtain⟨p,hp⟩:∃p,yi l x l.length=p:=⟨_,rfl⟩;rw[hp];have hple:p<=l.length:=by rw[<-hp];exact zbw l x _
 have gd:∀j (hj:j<l.length),l.getD j default=l[j]:=fun j hj=>by rw[List.getD_eq_getElem?_getD,List.getElem?_eq_getElem hj];rfl
 have habove:∀y∈l.drop p,zO x y<0:=fun y hy=>by
  obtain⟨j,hj,rfl⟩:=List.getElem_of_mem hy;simp only[List.length_drop] at hj;rw[List.getElem_drop,<-gd (p+j) (by omega)];exact JS l x l.length (p+j) (by omega) (by omega)
 have hsplit:Asc (l.take p++l.drop p):=by rw[List.take_append_drop];exact hl
 obtain⟨h1,h2,h3⟩:=List.pairwise_append.1 hsplit;have hbelow:∀y∈l.take p,zO y x<0:=fun y hy=>by
  cases p with
  |zero=>simp at hy
  |succ k =>
   have hk:k<l.length:=by omega
   have hs:=zaa l x l.length k hp;rw[gd k hk] at hs;have hne:zO x l[k]≠0:=fun e=>hx (QZ _ _ e▸List.getElem_mem hk);have hkx:zO l[k] x<0:=by rw[Qr];omega
   obtain⟨j,hj,rfl⟩:=List.getElem_of_mem hy;simp only[List.length_take] at hj;rw[List.getElem_take];rcases Nat.lt_or_ge j k with h|h
   ·exact KR _ _ _ ((List.pairwise_iff_getElem.1 hl) j k (by omega) hk h) hkx
   ·obtain rfl:j=k:=by omega
    exact hkx
 unfold xu;refine List.pairwise_append.2 ⟨h1,List.pairwise_cons.2 ⟨habove,h2⟩,fun a ha b hb=>?_⟩;rcases List.mem_cons.1 hb with rfl|hb
 ·exact hbelow a ha
 ·exact h3 a ha b hb
theorem Y2:∀(ls:List Ln) (acc:List It),(qc ls acc).Perm (acc++yt ls)
 |[],acc=>by simp[qc,yt]
 |x :: r,acc=>by
  unfold qc;split
  ·rename_i hk;refine(Y2 r _).trans ?_;have e:yt (x :: r)=x.it :: yt r:=by simp[yt,hk]
   rw[e];exact((K1 acc x.it _).append_right _).trans List.perm_middle.symm
  ·rename_i hk;have e:yt (x :: r)=yt r:=by simp[yt,hk]
   rw[e];exact Y2 r acc
theorem JA:∀(ls:List Ln) (acc:List It),Asc acc->(acc++yt ls).Nodup->Asc (qc ls acc)
 |[],acc,h,_=>by simpa[qc] using h
 |x :: r,acc,h,hn=>by
  unfold qc;split
  ·rename_i hk;have e:yt (x :: r)=x.it :: yt r:=by simp[yt,hk]
   rw[e] at hn;have hx:x.it∉acc:=fun ha=>(List.nodup_append.1 hn).2.2 _ ha _ (by simp) rfl;refine JA r _ (zex h hx) ?_;refine(List.Perm.nodup_iff ?_).2 hn;exact((K1 acc x.it _).append_right _).trans List.perm_middle.symm
  ·rename_i hk;have e:yt (x :: r)=yt r:=by simp[yt,hk]
   rw[e] at hn;exact JA r acc h hn
theorem KV{ls:List Ln}{its:List It}(h:zQ ls=.ok its):Asc its/\qc ls []=its:=by
 unfold zQ at h;split at h
 ·cases h
 ·split at h
  ·cases h
  ·rename_i g hg;split at h
   ·cases h
   ·cases h;have hn:=XX ls 0 [] g (by simp) hg;have hi:=K5 ls 0 [] g hg;simp only[List.nil_append] at hi;have ha:=zeV hn;refine⟨ha,zji (JA ls [] List.Pairwise.nil (by simpa[<-hi] using hn)) ha ?_⟩;refine(Y2 ls []).trans ?_;simp only[List.nil_append,<-hi];exact(Qo g).symm
def zdP(l:List It)(name:ByteArray)(k:Nat):Option (Nat × Nat)->Prop
 |none=>∀i,i<k->(l.getD i default).name≠name
 |some (lo,hi)=>lo<hi/\hi<=k/\(l.getD lo default).name=name/\(l.getD (hi-1) default).name=name/\∀i,i<k->(l.getD i default).name=name->lo<=i/\i<hi
theorem Kn(l:List It)(name:ByteArray):∀k,k<=l.length->zdP l name k (qX (l.take k) name)
 |0,_=>by
  simp only[List.take_zero];exact fun i h=>by omega
 |k+1,hk=>by
  have ih:=Kn l name k (by omega);have e:l.take (k+1)=l.take k++[l.getD k default]:=by
   rw[List.take_add_one,List.getD_eq_getElem?_getD,List.getElem?_eq_getElem (by omega)];rfl
  have hlen:(l.take k).length=k:=by rw[List.length_take];omega
  rw[e,XM,hlen];cases hr:qX (l.take k) name with
  |none =>
   rw[hr] at ih;split
   ·rename_i hx;refine⟨by simp,by simp,by simpa using hx,by simpa using hx,fun i hi hn=>?_⟩;rcases Nat.lt_or_ge i k with h|h
    ·exact absurd hn (ih i h)
    ·simp;omega
   ·rename_i hx;intro i hi;rcases Nat.lt_or_ge i k with h|h
    ·exact ih i h
    ·obtain rfl:i=k:=by omega
     exact hx
  |some p =>
   obtain⟨lo,hi⟩:=p;rw[hr] at ih;obtain⟨h1,h2,h3,h4,h5⟩:=ih;split
   ·rename_i hx;show lo<k+1/\_;refine⟨by omega,Nat.le_refl _,h3,by simpa using hx,fun i hi hn=>?_⟩;rcases Nat.lt_or_ge i k with h|h
    ·have:=h5 i h hn;exact⟨this.1,by omega⟩
    ·exact⟨show lo<=i by omega,by omega⟩
   ·rename_i hx;refine⟨h1,by omega,h3,h4,fun i hi hn=>?_⟩;rcases Nat.lt_or_ge i k with h|h
    ·exact h5 i h hn
    ·obtain rfl:i=k:=by omega
     exact absurd hn hx
theorem YV{l:List It}(h:Asc l){i j:Nat}(hj:j<l.length)(hij:i<j):zO (l.getD i default) (l.getD j default)<0:=by
 have gd:∀j (hj:j<l.length),l.getD j default=l[j]:=fun j hj=>by rw[List.getD_eq_getElem?_getD,List.getElem?_eq_getElem hj];rfl
 rw[gd i (by omega),gd j hj];exact List.pairwise_iff_getElem.1 h i j (by omega) hj hij
theorem YU{x y:It}(h:zO x y<0):x.name=y.name\/Lib.compareBytes x.name.data.toList y.name.data.toList<0:=by
 unfold zO at h;split at h
 ·rename_i e;exact Or.inl (xH e)
 ·exact Or.inr h
theorem zfr{l:List It}(h:Asc l)(name:ByteArray)(i:Nat)(hi:i<l.length):(l.getD i default).name=name↔(qQ l name).1<=i/\i<(qQ l name).2:=by
 have hk:=Kn l name l.length zN;rw[List.take_length] at hk;unfold qQ;cases hr:qX l name with
 |none =>rw[hr] at hk;exact⟨fun e=>absurd e (hk i hi),fun e=>by simp at e⟩
 |some p =>
  obtain⟨lo,hi'⟩:=p;rw[hr] at hk;obtain⟨h1,h2,h3,h4,h5⟩:=hk;simp only[Option.getD_some];refine⟨h5 i hi,fun⟨g1,g2⟩=>?_⟩;apply Classical.byContradiction;intro hne;have n1:lo≠i:=fun e=>hne (e▸h3);have n2:hi'-1≠i:=fun e=>hne (e▸h4);have c1:=YU (YV h hi (show lo<i by omega));have c2:=YU (YV h (show hi'-1<l.length by omega) (show i<hi'-1 by omega));rw[h3] at c1;rw[h4] at c2;rcases c1 with c1|c1
  ·exact hne c1.symm
  ·rcases c2 with c2|c2
   ·exact hne c2
   ·have:=Qq name.data.toList (l.getD i default).name.data.toList;omega
theorem zj4{p q:Nat->Bool}(n lo hi:Nat)(h2:hi<=n)(h:∀i,i<n->(q i=true↔(lo<=i/\i<hi)/\p i=true)):(List.range n).filter q=(List.range' lo (hi-lo)).filter p:=by
 rcases Nat.lt_or_ge hi lo with hlh|hlh
 ·rw[show hi-lo=0 by omega];simp only[List.range'_zero,List.filter_nil,List.filter_eq_nil_iff];intro i hi';rw[List.mem_range] at hi';intro e;have:=(h i hi').1 e;omega
 ·have e:List.range n=List.range' 0 lo++(List.range' lo (hi-lo)++List.range' hi (n-hi)):=by
   rw[List.range_eq_range'];have a1:=List.range'_append_1 (s:=lo) (m:=hi-lo) (n:=n-hi);have a2:=List.range'_append_1 (s:=0) (m:=lo) (n:=(hi-lo)+(n-hi));rw[show lo+(hi-lo)=hi by omega] at a1;rw[Nat.zero_add] at a2;rw[a1,a2];congr 1;omega
  rw[e,List.filter_append,List.filter_append];have f1:(List.range' 0 lo).filter q=[]:=by
   rw[List.filter_eq_nil_iff];intro i hi';have:=List.mem_range'_1.1 hi';intro e;have:=(h i (by omega)).1 e;omega
  have f3:(List.range' hi (n-hi)).filter q=[]:=by
   rw[List.filter_eq_nil_iff];intro i hi';have:=List.mem_range'_1.1 hi';intro e;have:=(h i (by omega)).1 e;omega
  have f2:(List.range' lo (hi-lo)).filter q=(List.range' lo (hi-lo)).filter p:=by
   refine List.filter_congr fun i hi'=>?_;have:=List.mem_range'_1.1 hi';rw[Bool.eq_iff_iff,h i (by omega)];constructor
   ·exact fun e=>e.2
   ·exact fun e=>⟨by omega,e⟩
  rw[f1,f2,f3];simp
theorem zjZ(l:List It)(name:ByteArray):(qQ l name).2<=l.length:=by
 have hk:=Kn l name l.length zN;rw[List.take_length] at hk;unfold qQ;cases hr:qX l name with
 |none=>simp
 |some p =>obtain⟨lo,hi'⟩:=p;rw[hr] at hk;exact hk.2.1
end
end Go.Proofs.YtiihalknffbjpaaGreatDoor
