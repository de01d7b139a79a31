/- plan: needed. -/
import Derived.Test.YtlamemjfaogjmaaGreatDoorPlRFits
set_option maxHeartbeats 4000000
set_option maxRecDepth 100000
namespace Go.Proofs.YtlamemjfaogjmaaGreatDoor
section
open Go.RowKit Go.Deep Sv
theorem zcX(xs:List Int)(k:Nat)(h:k<xs.length):xs.getD k 0∈xs:=by
  rw[List.getD_eq_getElem?_getD,List.getElem?_eq_getElem h];exact List.getElem_mem h
theorem K7(xs:List Int)(x:Int)(a:Option Addr)(cap:Nat)(w:World)(hI:zW w a xs)(hm:xs.length<=9223372036854775807) :
    zC 18 #[.slice a xs.length cap,.int .i64 x] w fun e w'=>e=.returned (.bool (decide (x∈xs)))/\w=w':=by
  have HI:=zH hI;clear hI;go_enter Tryz.func18,Tryz.ntmps18;go_wp2_with fail;go_loop [9] (fun kV=>∃k:Nat,k<=xs.length/\kV=.int .i64 k/\∀j,j<k->xs.getD j 0≠x) (fun kV=>xs.length-(intOf kV).toNat)
  case atStart=>exact⟨0,Nat.zero_le _,rfl,fun j h=>by omega⟩
  case round =>
    obtain⟨k,hk,rfl,h1⟩:=hrel;have H1:=zH h1;clear h1
    by_cases hlt:k<xs.length
    · obtain⟨ad,rfl,hl,hc⟩:=HI.out k hlt
      have hmem:=zcX xs k hlt;generalize hy:xs.getD k 0=y at *;have HY:=zH hy;clear hy
      by_cases he:x=y
      · subst he
        have HM:Hid (decide (x∈xs)=true):=decide_eq_true hmem;clear hmem;go_wp2;go_ret;exact⟨by rw[HM.out];rfl,rfl⟩
      · have he':(x==y)=false:=by simpa using he
        clear hmem;go_wp2;go_round
        case rel=>exact ⟨k + 1,hlt,by go_num,fun j hj=>(by
          rcases Nat.lt_succ_iff_lt_or_eq.1 hj with e|e
          · exact H1.out j e
          · rw [e,HY.out];exact fun h=>he h.symm)⟩
        case measure=>simp[intOf];omega
    · obtain rfl:k=xs.length:=by omega
      have HM:Hid (decide (x∈xs)=false):=decide_eq_false fun hm=>by
        obtain⟨j,hj,e⟩:=List.getElem_of_mem hm;refine H1.out j hj ?_;rw[List.getD_eq_getElem?_getD,List.getElem?_eq_getElem hj];exact e
      go_wp2;go_ret;exact⟨by rw[HM.out];rfl,rfl⟩
noncomputable def yt(its:List It)(x:Ln)(i k:Nat):Bool:=decide (x.kind=2)&&(decide (i≠k)&&(decide (zJ its x.it=(i:Int))&&decide (k∈zO its x.other x.rng)))
noncomputable def yB(its:List It)(ls:List Ln)(i k:Nat):Bool:=ls.any fun x=>yt its x i k
theorem zap(A:List Nat)(k:Nat):decide ((k:Int)∈zq A)=decide (k∈A):=by
  congr 1;unfold zq;rw[List.mem_map];exact propext ⟨fun ⟨a,h,e⟩=>by
   obtain rfl:a=k:=by omega
   exact h,fun h=>⟨k,h,rfl⟩⟩
theorem zct(ls:List Ln)(its:List It)(hN:zk ls=.ok its)(b2 b8 i k:Nat)(la:Option Addr)(lc:Nat)(ia:Option Addr)(ic:Nat)(w:World)(hb8:b8<w.heap.size)(c2:w.cell? ⟨b2,0,none⟩=some (.slice la ls.length lc))(c8:w.cell? ⟨b8,0,none⟩=some (.slice ia its.length ic))(hL:RLs w (.slice la ls.length lc) ls)(hI:zS w (.slice ia its.length ic) its) :
    zR 16 #[.int .i64 i,.int .i64 k,.pointer (some ⟨b2,0,none⟩),.pointer (some ⟨b8,0,none⟩)] w (.bool (yB its ls i k)):=by
  obtain⟨hl,hll,-⟩:=ya hN;have HRA:Hid (∀name rng,ye its name rng its.length=zO its name rng):=fun name rng=>zal (ZF hN).1 name rng;have HL:=zH hL;have HI:=zH hI;have C8:Hid (∀W,zB w W->W.cell? ⟨b8,0,none⟩=some (.slice ia its.length ic)):=fun W hb=>(hb.cell (p:=⟨b8,0,none⟩) hb8).trans c8;clear hL hI hN;go_enter Tryz.func16,Tryz.ntmps16;go_wp2_with fail;go_loopw [11] (fun qV wr=>∃q:Nat,q<=ls.length/\qV=.int .i64 q/\(∀j,j<q->yt its (ls.getD j default) i k=false)/\zB w wr) (fun qV _=>ls.length-(intOf qV).toNat)
  case atStart=>exact⟨0,Nat.zero_le _,rfl,fun j h=>by omega,Below.refl _ _⟩
  case round =>
    obtain⟨q,hql,rfl,hall,hbr⟩:=hrel;have HALL:=zH hall;clear hall
    by_cases hlt:q<ls.length
    · have hq0:(0:Int)<=(q:Int):=by omega
      have hq1:(q:Int)<(ls.length:Int):=by omega
      obtain⟨g,cap',ra,rc,e,hg,hns,hrg,c0,c1,d2,c3,c4,c5,c6⟩:=(HL.out.below hbr zN).at q hlt;simp at e;obtain⟨rfl,rfl⟩:=e;obtain⟨x,hxe⟩:∃x,ls.getD q default=x:=⟨_,rfl⟩;rw[hxe] at hns hrg c0 c1 d2 c3 c4 c5 c6;have HXE:=zH hxe;have hb6:=qE wr (.cells #[.int .i64 x.kind,.string x.name,.int .i64 x.a,.int .i64 x.b,.int .i64 x.c,.string x.other,.slice ra (tp x.rng).length rc] 59);have kx:=Blk.new wr 59 #[.int .i64 x.kind,.string x.name,.int .i64 x.a,.int .i64 x.b,.int .i64 x.c,.string x.other,.slice ra (tp x.rng).length rc];have HB6:Hid (zB w (wr.alloc (.cells #[.int .i64 x.kind,.string x.name,.int .i64 x.a,.int .i64 x.b,.int .i64 x.c,.string x.other,.slice ra (tp x.rng).length rc] 59))):=zT hbr hb6;have HNS:=zH (hns.below hb6 zN);clear hns hxe hb6 hbr;go_upto_region 4 with fail;generalize wr.alloc (.cells #[.int .i64 x.kind,.string x.name,.int .i64 x.a,.int .i64 x.b,.int .i64 x.c,.string x.other,.slice ra (tp x.rng).length rc] 59)=W6 at *;generalize wr.heap.size=bx at *;clear c0 c1 d2 c3 c4 c5 c6 hg;have x0:_=some (Value.int .i64 x.kind):=kx.cell 0;have x1:_=some (Value.string x.name):=kx.cell 1;have x2:_=some (Value.int .i64 x.a):=kx.cell 2;have x3:_=some (Value.int .i64 x.b):=kx.cell 3;have x4:_=some (Value.int .i64 x.c):=kx.cell 4;have z8:=C8.out W6 HB6.out;have HNX:Hid (yt its x i k=false->∀j,j<q+1->yt its (ls.getD j default) i k=false):=fun h j hj=>by
        rcases Nat.lt_succ_iff_lt_or_eq.1 hj with e|e
        · exact HALL.out j e
        · rw[e,HXE.out];exact h
      by_cases hk2:x.kind=2
      · by_cases hik:i=k
        · have HND:Hid (yt its x i k=false):=by show _=_;unfold yt;rw[decide_eq_false (p:=i≠k) (by simpa using hik)];simp
          have hd:((i:Int) != (k:Int))=false:=by simp[hik]
          rw[hk2] at x0;clear hik hk2 kx;go_wp2;go_roundw
          case rel=>exact⟨q+1,hlt,by go_num,HNX.out HND.out,HB6.out⟩
          case measure=>simp[intOf];omega
        · have hd:((i:Int) != (k:Int))=true:=by simp;omega
          have HNU:=zH (ZG its x.it (.slice ia its.length ic) W6 (HI.out.below HB6.out zN) (by omega));rw[hk2] at x0;have KX:=zH kx;have HK2:=zH hk2;have HIK:=zH hik;clear hk2 hik kx;go_wp2_with fail;refine HNU.out.mono ?_;rintro e w7 ⟨rfl,hb7⟩;have HB7:Hid (zB w w7):=zT HB6.out hb7;have k7:=KX.out.below hb7 KX.out.lt;have y5:_=some (Value.string x.other):=k7.cell 5;have y6:_=some (Value.slice ra (tp x.rng).length rc):=k7.cell 6;have z7:=C8.out w7 HB7.out;have HNS7:=zH (HNS.out.below hb7 zN);clear hb7 HNU KX k7 HNS x0 x1 x2 x3 x4 z8
          by_cases hnm:zJ its x.it=(i:Int)
          · have HAM0:=ZS its x.other x.rng hrg (.slice ia its.length ic) (.slice ra (tp x.rng).length rc) w7 (HI.out.below HB7.out zN) (by omega) HNS7.out
            rw[HRA.out] at HAM0;have hal:=Zl its x.other x.rng;have HNL:Hid (yt its x i k=decide (k∈zO its x.other x.rng)):=by show _=_;unfold yt;rw[decide_eq_true HK2.out,decide_eq_true (p:=i≠k) HIK.out,decide_eq_true hnm];rfl
            obtain⟨A,hA⟩:∃A,zO its x.other x.rng=A:=⟨_,rfl⟩;rw[hA] at HAM0 hal HNL;have HAM:=zH HAM0;rw[hnm];clear hA HAM0 hnm;go_wp2_with fail;refine HAM.out.mono ?_;rintro e w8 ⟨v8,rfl,hown,hb8'⟩;obtain⟨aa,ac,rfl,-⟩:=qm hown;have HHA0:=K7 (zq A) (k:Int) aa ac w8 (yd (B:=w7.heap.size) (c:=ac) (by rw[zz];exact hown)) (by rw[zz];omega);rw[zz,zap,<-HNL.out] at HHA0;have HHA:=zH HHA0;have HB8:Hid (zB w w8):=zT HB7.out hb8';clear hown hb8' HAM HHA0 HB7 y5 y6 z7;go_wp2_with fail;refine HHA.out.mono ?_;rintro e w9 ⟨rfl,rfl⟩;cases hnl:yt its x i k with
            |true =>
              have HNB:Hid (yB its ls i k=true):=by
                show _=_;unfold yB;rw[List.any_eq_true];exact⟨x,HXE.out▸Zh ls q hlt,hnl⟩
              clear hnl HHA;go_wp2;go_ret;exact⟨by rw[HNB.out];rfl,HB8.out⟩
            |false =>
              have HND:=zH hnl;clear hnl HHA;go_wp2;go_roundw
              case rel=>exact⟨q+1,hlt,by go_num,HNX.out HND.out,HB8.out⟩
              case measure=>simp[intOf];omega
          · have HND:Hid (yt its x i k=false):=by show _=_;unfold yt;rw[decide_eq_false hnm];simp
            have hnb:(zJ its x.it==(i:Int))=false:=by simpa using hnm
            clear y5 y6 z7;generalize zJ its x.it=NN at *;go_wp2;go_roundw
            case rel=>exact⟨q+1,hlt,by go_num,HNX.out HND.out,HB7.out⟩
            case measure=>simp[intOf];omega
      · have HND:Hid (yt its x i k=false):=by show _=_;unfold yt;rw[decide_eq_false hk2];simp
        have hd:(x.kind==2)=false:=by simpa using hk2
        clear kx;go_wp2;go_roundw
        case rel=>exact⟨q+1,hlt,by go_num,HNX.out HND.out,HB6.out⟩
        case measure=>simp[intOf];omega
    · obtain rfl:q=ls.length:=by omega
      have HNB:Hid (yB its ls i k=false):=by
        show _=_;unfold yB;rw[List.any_eq_false];intro y hy;obtain⟨j,hj,rfl⟩:=List.getElem_of_mem hy;have:=HALL.out j hj;rw[List.getD_eq_getElem?_getD,List.getElem?_eq_getElem hj] at this;simpa using this
      have HBR:=zH hbr;clear hbr;go_wp2;go_ret;exact⟨by rw[HNB.out];rfl,HBR.out⟩
end
section
open Go.RowKit Go.Deep Sv
def NdB(W:World)(g:Nat)(l:List Nat):Prop:=∃cur,Blk W g 22 cur/\cur.size=l.length/\∀j,j<l.length->cur[j]?=some (.int .u64 ((l.getD j 0:Nat):Int))
theorem NdB.below{W W':World}{g:Nat}{l:List Nat}(h:NdB W g l)(hb:zB W W'):NdB W' g l:=by
  obtain⟨cur,h1,h2⟩:=h;exact⟨cur,h1.below hb h1.lt,h2⟩
theorem NdB.lt{W:World}{g:Nat}{l:List Nat}(h:NdB W g l):g<W.heap.size:=by obtain⟨cur,h1,_⟩:=h;exact h1.lt
theorem NdB.cell{W:World}{g:Nat}{l:List Nat}(h:NdB W g l){n:Nat}(hn:n<l.length):W.cell? ⟨g,n,none⟩=some (.int .u64 ((l.getD n 0:Nat):Int)):=by
  obtain⟨cur,h1,_,h3⟩:=h;exact(h1.cell n).trans (h3 n hn)
theorem NdB.frozen{W:World}{g:Nat}{l:List Nat}(h:NdB W g l)(n:Nat):W.frozen? ⟨g,n,none⟩=false:=by
  obtain⟨cur,h1,_⟩:=h;exact h1.frozen n
theorem NdB.set{W:World}{g:Nat}{l:List Nat}(h:NdB W g l)(n x:Nat):NdB (W.setCell ⟨g,n,none⟩ (.int .u64 x)) g (l.set n x):=by
  obtain⟨cur,h1,h2,h3⟩:=h;refine⟨_,h1.set,by rw[Array.size_setIfInBounds,List.length_set,h2],fun j hj=>?_⟩;rw[List.length_set] at hj;rw[Array.getElem?_setIfInBounds,List.getD_eq_getElem?_getD,List.getElem?_set]
  by_cases e:n=j
  · subst e
    rw[if_pos rfl,if_pos (by omega),if_pos rfl,if_pos (by omega)];simp
  · rw[if_neg e,if_neg e,h3 j hj,List.getD_eq_getElem?_getD]
theorem zgc(m i:Nat)(h:i<m):(madeCells #[.int .u64 0] m)[i]?=some (.int .u64 0):=by
  simp[madeCells,h,Nat.mod_one]
theorem zde{W:World}{g m:Nat}{cur:Array Value}(h1:Blk W g 22 cur)(h2:cur.size=m)(h3:cur.toList.take m=(madeCells #[.int .u64 0] m).toList):NdB W g (List.replicate m 0):=by
  refine⟨cur,h1,by simpa using h2,fun j hj=>?_⟩;simp only[List.length_replicate] at hj;have e:=congrArg (fun l=>l[j]?) h3;simp only[List.getElem?_take,if_pos hj] at e;rw[Array.getElem?_toList,Array.getElem?_toList,zgc m j hj] at e;rw[e];simp[List.getD_eq_getElem?_getD,hj]
theorem zfg:(Tryz.prog.info? 22).map (fun i=>(i.zero,i.size,i.bytes))=some (some (.int .u64 0),1,8):=by kernel_rfl
theorem Xy(its:List It)(ls:List Ln)(hl:its.length<=24):∀n,∀k,(qi its ls n).getD k 0<16777216
  |0,k=>by
    unfold qi;rw[List.getD_eq_getElem?_getD,List.getElem?_replicate];split<;>simp
  |n+1,k=>by
    unfold qi;have ih:=Xy its ls hl n;split
    · rw[List.getD_eq_getElem?_getD,List.getElem?_set]
      split
      · split
        · have a1:=ih (zi its (ls.getD n default))
          have a2:=ZE its (ls.getD n default).other (ls.getD n default).rng hl;have a3:=Nat.lt_of_le_of_lt (Nat.and_le_left (n:=amS its (ls.getD n default).other (ls.getD n default).rng) (m:=18446744073709551615-2^zi its (ls.getD n default))) a2;exact Nat.or_lt_two_pow (n:=24) a1 a3
        · simp
      · rw[<-List.getD_eq_getElem?_getD];exact ih k
    · exact ih k
theorem zbV(bk:Nat)(ls:List Ln)(its:List It)(hN:zk ls=.ok its)(w:World)(h:zV w bk ls its) :
    zC 21 #[.pointer (some ⟨bk,0,none⟩)] w fun e w'=>∃g,e=.returned (.slice (some ⟨g,0,none⟩) its.length its.length)/\w.heap.size<=g/\NdB w' g (q7 its ls)/\zB w w':=by
  obtain⟨hl,hll,hck⟩:=ya hN;obtain⟨i0,hin,hz0,hz1,hz2⟩:=info_parts zfg;have HI:=zH (XC bk ls its w h (by omega));have HCAT:=zH h;obtain⟨lv0,iv0,bm,hk0,⟨vs,hvs,hlv0⟩,hit0,hmp0⟩:=h;have HVS:=zH hvs;have HL0:Hid (∀W,zB w W->zC 41 #[.pointer (some ⟨bk,0,none⟩)] W fun e w'=>∃v',e=.returned v'/\w'.ownsRow W.heap.size 92 7 v' ls.length (zG ls vs)/\zB W w'):=fun W hb=>zhn bk bm lv0 iv0 ls vs W (hk0.below hb hk0.lt) (hvs.below hb zN) (hlv0.below hb zN) (by omega);have HN:=zH hN;have HCK:=zH hck;clear hN hck hk0 hvs hlv0 hit0 hmp0;go_enter Tryz.func21,Tryz.ntmps21;go_wp2_with fail;refine HI.out.mono ?_;rintro e w1 ⟨v',rfl,hown,hb1⟩;obtain⟨ia,ic,rfl,-⟩:∃a c,v'=.slice a its.length c/\True:=by obtain⟨a,c,e,_⟩:=(zD hown).form;exact⟨a,c,e,trivial⟩
  have HB1:=zH hb1;clear hown hb1 HI;have hmi:(0:Int)<=(its.length:Int):=by omega
  go_wp2_with (at_make;refine wpList_make_full _ rfl _ _ 67 rfl w1.heap.size 22 i0 (.int .u64 0) 1 Tryz.underlying67 hin hz0 hz1 .i64 .i64 _ _ its.length rfl rfl ?c1 ?c2 ?c3 ?c4 ?c5 ?_)
  case c1=>rfl
  case c2=>rfl
  case c3=>rw[hz2];omega
  case c4=>unfold maxLen;omega
  case c5=>omega
  intro w5 hown hgrow;have hb5:zB w1 w5:=zF.grown hgrow zN (fun k hk=>by cases hk);have hbo:NdB w5 w1.heap.size (qi its ls 0):=by
    rcases hown.2 with ⟨e,_⟩|⟨g,cap,cur,e,_,hg,_,_,hsz,htk⟩
    · cases e
    · cases e
      exact zde hg (by omega) (by simpa using htk)
  have HBO:=zH hbo;have HB5:Hid (zB w w5):=zT HB1.out hb5;have HLN:=zH (HL0.out w5 HB5.out);have hg0:=HB1.out.size;have hg5:=HBO.out.lt;clear hown hgrow hbo hb5;generalize w1.heap.size=g at *;go_wp2_with fail;refine HLN.out.mono ?_;rintro e w6 ⟨lv,rfl,hlv,hb6⟩;obtain⟨la,lc,rfl⟩:∃a c,lv=.slice a ls.length c:=by obtain⟨a,c,e,_⟩:=(zD hlv).form;exact⟨a,c,e⟩
  have HLV:=zH hlv;have HNB:=zH (HBO.out.below hb6);have HB6:Hid (zB w w6):=zT HB5.out hb6;clear hlv hb6 HLN HBO HB5 HL0;generalize w5.heap.size=B5 at *;go_wp2_with fail;go_loopw [13] (fun iV wr=>∃i:Nat,i<=ls.length/\iV=.int .i64 i/\NdB wr g (qi its ls i)/\wr.ownsRow B5 92 7 (.slice la ls.length lc) ls.length (zG ls vs)/\zB w wr) (fun iV _=>ls.length-(intOf iV).toNat)
  case atStart=>exact⟨0,Nat.zero_le _,rfl,HNB.out,HLV.out,HB6.out⟩
  case round =>
    clear HNB HLV HB6;obtain⟨i,hil,rfl,hnb,hrow,hbr⟩:=hrel
    by_cases hlt:i<ls.length
    · have hii0:(0:Int)<=(i:Int):=by omega
      have hii1:(i:Int)<(ls.length:Int):=by omega
      have hlns:yI wr (.slice la ls.length lc) ls:=⟨vs,HVS.out.below hbr zN,zD hrow⟩;obtain⟨gg,cap',rv,e,hg,hsp,hrg,c0,c1,c2,c3,c4,c5,c6⟩:=hlns.at i hlt;simp at e;obtain⟨rfl,rfl⟩:=e;have HXM:=zH (Zh ls i hlt);have HNS:Hid (qi its ls (i+1)=if (ls.getD i default).kind=2 then (qi its ls i).set (zi its (ls.getD i default)) ((qi its ls i).getD (zi its (ls.getD i default)) 0|||(amS its (ls.getD i default).other (ls.getD i default).rng&&&(18446744073709551615-2^zi its (ls.getD i default)))) else qi its ls i):=rfl;have hnl:=Z8 its ls i;have HNLT:=zH (Xy its ls hl i);obtain⟨x,hxe⟩:∃x,ls.getD i default=x:=⟨_,rfl⟩;rw[hxe] at hsp hrg c0 c1 c2 c3 c4 c5 HXM HNS;obtain⟨ra,rc,rfl⟩:=hsp.form;have hb6:=qE wr (.cells #[.int .i64 x.kind,.string x.name,.int .i64 x.a,.int .i64 x.b,.int .i64 x.c,.string x.other,.slice ra x.rng.length rc] 92);have kx:=Blk.new wr 92 #[.int .i64 x.kind,.string x.name,.int .i64 x.a,.int .i64 x.b,.int .i64 x.c,.string x.other,.slice ra x.rng.length rc];have HB6:Hid (zB w (wr.alloc (.cells #[.int .i64 x.kind,.string x.name,.int .i64 x.a,.int .i64 x.b,.int .i64 x.c,.string x.other,.slice ra x.rng.length rc] 92))):=zT hbr hb6;have HSP:=zH (hsp.below hb6 zN);have HNB:=zH (hnb.below hb6);have hgb:=hnb.lt;have HROW:=zH (qK hrow hb6);clear hsp hxe hb6 hbr hnb hrow hlns;go_upto_region 5 with fail;generalize wr.alloc (.cells #[.int .i64 x.kind,.string x.name,.int .i64 x.a,.int .i64 x.b,.int .i64 x.c,.string x.other,.slice ra x.rng.length rc] 92)=W6 at *;generalize wr.heap.size=bx at *;clear c0 c1 c2 c3 c4 c5 c6 hg;have x0:_=some (Value.int .i64 x.kind):=kx.cell 0
      by_cases hk:x.kind=2
      · rw[if_pos hk] at HNS
        obtain⟨ho1,ho2,-⟩:=xk HN.out HXM.out (Or.inl hk);obtain⟨hn1,hn2⟩:=YY (HCK.out x HXM.out);have HNU:Hid (∀W,zB W6 W->zR 44 #[.pointer (some ⟨bk,0,none⟩),.string x.name,.agg #[.int .i64 x.a,.int .i64 x.b,.int .i64 x.c]] W (.int .i64 (zi its x))):=fun W hb=>by
          have:=YD bk ls its x.name x.a x.b x.c W (HCAT.out.below (zT HB6.out hb) zN) (by omega);rw[show (⟨x.name,x.a,x.b,x.c⟩:It)=x.it from rfl,ho1] at this;exact this
        have HAM:Hid (∀W,zB W6 W->zR 45 #[.pointer (some ⟨bk,0,none⟩),.string x.other,.agg #[.slice ra x.rng.length rc]] W (.int .u64 (amS its x.other x.rng))):=fun W hb =>
          Z6 bk ls its x.other x.rng hrg (.slice ra x.rng.length rc) W (HCAT.out.below (zT HB6.out hb) zN) hl hn2 (HSP.out.below hb zN)
        have HOW:Hid (∀W,zB W6 W->zR 46 #[.pointer (some ⟨bk,0,none⟩),.agg #[.int .i64 2,.string x.name,.int .i64 x.a,.int .i64 x.b,.int .i64 x.c,.string x.other,.slice ra x.rng.length rc]] W (.int .u64 ((2^zi its x:Nat):Int))):=fun W hb=>by
          have:=Xk bk ls its x ra rc W (HCAT.out.below (zT HB6.out hb) zN) hl ho1 ho2;rw[hk] at this;exact this
        have ham:=ZE its x.other x.rng hl;have hpw:=xu (zi its x) (by omega);have han:=u64_andNot_nat (amS its x.other x.rng) (2^zi its x) (by omega) hpw;have hnd:=HNLT.out (zi its x);have ha3:=Nat.lt_of_le_of_lt (Nat.and_le_left (n:=amS its x.other x.rng) (m:=18446744073709551615-2^zi its x)) ham;have hor:=JX ((qi its ls i).getD (zi its x) 0) (amS its x.other x.rng&&&(18446744073709551615-2^zi its x)) (by omega) (by omega);have hxl:=kx.lt;have SC:Hid (∀W,zB W6 W->W.cell? ⟨bx,0,none⟩=some (.int .i64 2)/\W.cell? ⟨bx,1,none⟩=some (.string x.name)/\W.cell? ⟨bx,2,none⟩=some (.int .i64 x.a)/\W.cell? ⟨bx,3,none⟩=some (.int .i64 x.b)/\W.cell? ⟨bx,4,none⟩=some (.int .i64 x.c)/\W.cell? ⟨bx,5,none⟩=some (.string x.other)/\W.cell? ⟨bx,6,none⟩=some (.slice ra x.rng.length rc)):=fun W hb=>⟨by rw[<-hk];exact(kx.below hb hxl).cell 0,(kx.below hb hxl).cell 1,(kx.below hb hxl).cell 2,(kx.below hb hxl).cell 3,(kx.below hb hxl).cell 4,(kx.below hb hxl).cell 5,(kx.below hb hxl).cell 6⟩;have HCY:Hid (∀W,zB W6 W->W.cell? ⟨g,zi its x,none⟩=some (.int .u64 (((qi its ls i).getD (zi its x) 0:Nat):Int))):=fun W hb=>(HNB.out.below hb).cell (by omega);have HSE:Hid (∀W o v,zB W6 W->(W.setCell ⟨g,o,none⟩ v).cell? ⟨bx,0,none⟩=some (.int .i64 2)/\(W.setCell ⟨g,o,none⟩ v).cell? ⟨bx,1,none⟩=some (.string x.name)/\(W.setCell ⟨g,o,none⟩ v).cell? ⟨bx,2,none⟩=some (.int .i64 x.a)/\(W.setCell ⟨g,o,none⟩ v).cell? ⟨bx,3,none⟩=some (.int .i64 x.b)/\(W.setCell ⟨g,o,none⟩ v).cell? ⟨bx,4,none⟩=some (.int .i64 x.c)/\(W.setCell ⟨g,o,none⟩ v).cell? ⟨bx,5,none⟩=some (.string x.other)/\(W.setCell ⟨g,o,none⟩ v).cell? ⟨bx,6,none⟩=some (.slice ra x.rng.length rc)):=fun W o v hb=>by
          obtain⟨q0,q1,q2,q3,q4,q5,q6⟩:=SC.out W hb;have hne:bx≠g:=by omega
          exact⟨(cell_set_other hne).trans q0,(cell_set_other hne).trans q1,(cell_set_other hne).trans q2,(cell_set_other hne).trans q3,(cell_set_other hne).trans q4,(cell_set_other hne).trans q5,(cell_set_other hne).trans q6⟩
        have HFZ:Hid (∀W,zB W6 W->W.frozen? ⟨g,zi its x,none⟩=false):=fun W hb=>(HNB.out.below hb).frozen _;have HEND:Hid (∀W,zB W6 W->NdB (W.setCell ⟨g,zi its x,none⟩ (.int .u64 (((qi its ls i).getD (zi its x) 0|||(amS its x.other x.rng&&&(18446744073709551615-2^zi its x)):Nat):Int))) g (qi its ls (i+1))/\(W.setCell ⟨g,zi its x,none⟩ (.int .u64 (((qi its ls i).getD (zi its x) 0|||(amS its x.other x.rng&&&(18446744073709551615-2^zi its x)):Nat):Int))).ownsRow B5 92 7 (.slice (some ⟨gg,0,none⟩) ls.length lc) ls.length (zG ls vs)/\zB w (W.setCell ⟨g,zi its x,none⟩ (.int .u64 (((qi its ls i).getD (zi its x) 0|||(amS its x.other x.rng&&&(18446744073709551615-2^zi its x)):Nat):Int)))):=fun W hb=>by
          rw[HNS.out];exact⟨(HNB.out.below hb).set _ _,xj (qK HROW.out hb) hg5,(zT HB6.out hb).setCell (p:=⟨g,zi its x,none⟩) hg0 _⟩
        have D0:zB W6 W6.drew:=zF.drew;have ho3:(zi its x:Int)<(its.length:Int):=by omega
        have ho0:(0:Int)<=(zi its x:Int):=by omega
        rw[hk] at x0;clear hk kx HNS hnd ha3 hpw ho1 ho2 hn1 hn2 HNLT;generalize (qi its ls i).getD (zi its x) 0=N0 at *;generalize (2^zi its x:Nat)=P2 at *;generalize amS its x.other x.rng=AM at *;generalize AM&&&(18446744073709551615-P2)=AN at *;generalize N0|||AN=NO at *;generalize zi its x=o at *;go_upto_region 6 with fail;clear x0;refine wp_region_noPanic ?_;refine wp_region_held_drew (S:=(fun W=>W.cell? ⟨bx,0,none⟩=some (.int .i64 2)/\W.cell? ⟨bx,1,none⟩=some (.string x.name)/\W.cell? ⟨bx,2,none⟩=some (.int .i64 x.a)/\W.cell? ⟨bx,3,none⟩=some (.int .i64 x.b)/\W.cell? ⟨bx,4,none⟩=some (.int .i64 x.c)/\W.cell? ⟨bx,5,none⟩=some (.string x.other)/\W.cell? ⟨bx,6,none⟩=some (.slice ra x.rng.length rc))) (by kernel_rfl) (SC.out _ D0) (fun hHeld=>?_);refine wpAnyH_take (i:=0) (oi:=⟨_,_,_,_,_,_⟩) (v:=?_) rfl (by as_aux_lemma=>kernel_rfl) (by as_aux_lemma=>kernel_rfl) (by as_aux_lemma=>kernel_rfl) (fun _ _ _ h=>h) (Or.inl ⟨by rfl,?_⟩) (by assumption) ?_;rotate_left
        · (intro w hSw;(try dsimp only at hSw);first|(go_simp;done)|(go_simp;with_reducible rfl))
        try simp only[Act.put,List.setIfInBounds_toArray,List.set_cons_zero,List.set_cons_succ]
        refine wpAnyH_take (i:=1) (oi:=⟨_,_,_,_,_,_⟩) (v:=?_) rfl (by as_aux_lemma=>kernel_rfl) (by as_aux_lemma=>kernel_rfl) (by as_aux_lemma=>kernel_rfl) (fun _ _ _ h=>h) (Or.inl ⟨by rfl,?_⟩) (by assumption) ?_;rotate_left
        · (intro w hSw;(try dsimp only at hSw);first|(go_simp;done)|(go_simp;with_reducible rfl))
        try simp only[Act.put,List.setIfInBounds_toArray,List.set_cons_zero,List.set_cons_succ]
        refine wpAnyH_take (i:=2) (oi:=⟨_,_,_,_,_,_⟩) (v:=?_) rfl (by as_aux_lemma=>kernel_rfl) (by as_aux_lemma=>kernel_rfl) (by as_aux_lemma=>kernel_rfl) (fun _ _ _ h=>h) (Or.inl ⟨by rfl,?_⟩) (by assumption) ?_;rotate_left
        · (intro w hSw;(try dsimp only at hSw);first|(go_simp;done)|(go_simp;with_reducible rfl))
        try simp only[Act.put,List.setIfInBounds_toArray,List.set_cons_zero,List.set_cons_succ]
        refine wpAnyH_take (i:=3) (oi:=⟨_,_,_,_,_,_⟩) (v:=?_) rfl (by as_aux_lemma=>kernel_rfl) (by as_aux_lemma=>kernel_rfl) (by as_aux_lemma=>kernel_rfl) (fun _ _ _ h=>h) (Or.inl ⟨by rfl,?_⟩) (by assumption) ?_;rotate_left
        · (intro w hSw;(try dsimp only at hSw);first|(go_simp;done)|(go_simp;with_reducible rfl))
        try simp only[Act.put,List.setIfInBounds_toArray,List.set_cons_zero,List.set_cons_succ]
        refine wpAnyH_take (i:=4) (oi:=⟨_,_,_,_,_,_⟩) (v:=?_) rfl (by as_aux_lemma=>kernel_rfl) (by as_aux_lemma=>kernel_rfl) (by as_aux_lemma=>kernel_rfl) (fun _ _ _ h=>h) (Or.inl ⟨by rfl,?_⟩) (by assumption) ?_;rotate_left
        · (intro w hSw;(try dsimp only at hSw);first|(go_simp;done)|(go_simp;with_reducible rfl))
        try simp only[Act.put,List.setIfInBounds_toArray,List.set_cons_zero,List.set_cons_succ]
        refine wpAnyH_take (i:=5) (oi:=⟨_,_,_,_,_,_⟩) (v:=?_) rfl (by as_aux_lemma=>kernel_rfl) (by as_aux_lemma=>kernel_rfl) (by as_aux_lemma=>kernel_rfl) (fun _ _ _ h=>h) (Or.inl ⟨by rfl,?_⟩) (by assumption) ?_;rotate_left
        · (intro w hSw;(try dsimp only at hSw);first|(go_simp;done)|(go_simp;with_reducible rfl))
        try simp only[Act.put,List.setIfInBounds_toArray,List.set_cons_zero,List.set_cons_succ]
        refine wpAnyH_take (i:=9) (oi:=⟨_,_,_,_,_,_⟩) (v:=?_) rfl (by as_aux_lemma=>kernel_rfl) (by as_aux_lemma=>kernel_rfl) (by as_aux_lemma=>kernel_rfl) (fun _ _ _ h=>h) (Or.inl ⟨by rfl,?_⟩) (by assumption) ?_;rotate_left
        · (intro w hSw;(try dsimp only at hSw);first|(go_simp;done)|(go_simp;with_reducible rfl))
        try simp only[Act.put,List.setIfInBounds_toArray,List.set_cons_zero,List.set_cons_succ]
        refine wpAnyH_take (i:=10) (oi:=⟨_,_,_,_,_,_⟩) (v:=?_) rfl (by as_aux_lemma=>kernel_rfl) (by as_aux_lemma=>kernel_rfl) (by as_aux_lemma=>kernel_rfl) (fun _ _ _ h=>h) (Or.inl ⟨by rfl,?_⟩) (by assumption) ?_;rotate_left
        · (intro w hSw;(try dsimp only at hSw);first|(go_simp;done)|(go_simp;with_reducible rfl))
        try simp only[Act.put,List.setIfInBounds_toArray,List.set_cons_zero,List.set_cons_succ]
        refine wpAnyH_take (i:=11) (oi:=⟨_,_,_,_,_,_⟩) (v:=?_) rfl (by as_aux_lemma=>kernel_rfl) (by as_aux_lemma=>kernel_rfl) (by as_aux_lemma=>kernel_rfl) (fun _ _ _ h=>h) (Or.inl ⟨by rfl,?_⟩) (by assumption) ?_;rotate_left
        · (intro w hSw;(try dsimp only at hSw);first|(go_simp;done)|(go_simp;with_reducible rfl))
        try simp only[Act.put,List.setIfInBounds_toArray,List.set_cons_zero,List.set_cons_succ]
        refine wpAnyH_take (i:=12) (oi:=⟨_,_,_,_,_,_⟩) (v:=?_) rfl (by as_aux_lemma=>kernel_rfl) (by as_aux_lemma=>kernel_rfl) (by as_aux_lemma=>kernel_rfl) (fun _ _ _ h=>h) (Or.inl ⟨by rfl,?_⟩) (by assumption) ?_;rotate_left
        · (intro w hSw;(try dsimp only at hSw);first|(go_simp;done)|(go_simp;with_reducible rfl))
        try simp only[Act.put,List.setIfInBounds_toArray,List.set_cons_zero,List.set_cons_succ]
        refine wpAnyH_take (i:=13) (oi:=⟨_,_,_,_,_,_⟩) (v:=?_) rfl (by as_aux_lemma=>kernel_rfl) (by as_aux_lemma=>kernel_rfl) (by as_aux_lemma=>kernel_rfl) (fun _ _ _ h=>h) (Or.inl ⟨by rfl,?_⟩) (by assumption) ?_;rotate_left
        · (intro w hSw;(try dsimp only at hSw);first|(go_simp;done)|(go_simp;with_reducible rfl))
        try simp only[Act.put,List.setIfInBounds_toArray,List.set_cons_zero,List.set_cons_succ]
        refine wpAnyH_take (i:=15) (oi:=⟨_,_,_,_,_,_⟩) (v:=?_) rfl (by as_aux_lemma=>kernel_rfl) (by as_aux_lemma=>kernel_rfl) (by as_aux_lemma=>kernel_rfl) (fun _ _ _ h=>h) (Or.inl ⟨by rfl,?_⟩) (by assumption) ?_;rotate_left
        · (intro w hSw;(try dsimp only at hSw);first|(go_simp;done)|(go_simp;with_reducible rfl))
        try simp only[Act.put,List.setIfInBounds_toArray,List.set_cons_zero,List.set_cons_succ]
        refine wpAnyH_take (i:=16) (oi:=⟨_,_,_,_,_,_⟩) (v:=?_) rfl (by as_aux_lemma=>kernel_rfl) (by as_aux_lemma=>kernel_rfl) (by as_aux_lemma=>kernel_rfl) (fun _ _ _ h=>h) (Or.inl ⟨by rfl,?_⟩) (by assumption) ?_;rotate_left
        · (intro w hSw;(try dsimp only at hSw);first|(go_simp;done)|(go_simp;with_reducible rfl))
        try simp only[Act.put,List.setIfInBounds_toArray,List.set_cons_zero,List.set_cons_succ]
        refine wpAnyH_ready (rs:=[6]) (by as_aux_lemma=>kernel_rfl) (by simp) ?_;refine AllReadyH.cons (o:=⟨_,_,_,_,_,_⟩) rfl (fun K hK=>?_) AllReadyH.nil;go_simp;refine(HNU.out _ D0).mono ?_;rintro e y1 ⟨rfl,hbq⟩;have D1:zB W6 y1:=zT D0 hbq;have cy1:=HCY.out _ D1;clear HNU D0 hbq
        try simp only
        refine hK.out _ _ ?_ (fun hNew=>?_)
        · exact SC.out _ D1
        clear hK K;replace hHeld:=hNew;clear hNew
        try simp only[Act.put,List.setIfInBounds_toArray,List.set_cons_zero,List.set_cons_succ]
        refine wpAnyH_take (i:=7) (oi:=⟨_,_,_,_,_,_⟩) (v:=?_) rfl (by as_aux_lemma=>kernel_rfl) (by as_aux_lemma=>kernel_rfl) (by as_aux_lemma=>kernel_rfl) (fun _ _ _ h=>h) (Or.inl ⟨by rfl,?_⟩) (by assumption) ?_;rotate_left
        · (intro w hSw;(try dsimp only at hSw);first|(go_simp;done)|(go_simp;with_reducible rfl))
        try simp only[Act.put,List.setIfInBounds_toArray,List.set_cons_zero,List.set_cons_succ]
        refine wpAnyH_ready (rs:=[8,14]) (by as_aux_lemma=>kernel_rfl) (by simp) ?_;refine AllReadyH.cons (o:=⟨_,_,_,_,_,_⟩) rfl (fun K hK=>?_) (AllReadyH.cons (o:=⟨_,_,_,_,_,_⟩) rfl (fun K hK=>?_) AllReadyH.nil)
        · go_simp
          refine hK.out _ _ ?_ (fun hNew=>?_)
          · exact hHeld
          clear hK K;replace hHeld:=hNew;clear hNew
          try simp only[Act.put,List.setIfInBounds_toArray,List.set_cons_zero,List.set_cons_succ]
          refine wpAnyH_ready (rs:=[14]) (by as_aux_lemma=>kernel_rfl) (by simp) ?_;refine AllReadyH.cons (o:=⟨_,_,_,_,_,_⟩) rfl (fun K hK=>?_) AllReadyH.nil;go_simp;refine(HAM.out _ D1).mono ?_;rintro e y2 ⟨rfl,hbq⟩;have D2:zB W6 y2:=zT D1 hbq;have cy2:=HCY.out _ D2;clear HAM D1 hbq
          try simp only
          refine hK.out _ _ ?_ (fun hNew=>?_)
          · exact SC.out _ D2
          clear hK K;replace hHeld:=hNew;clear hNew
          try simp only[Act.put,List.setIfInBounds_toArray,List.set_cons_zero,List.set_cons_succ]
          refine wpAnyH_ready (rs:=[17]) (by as_aux_lemma=>kernel_rfl) (by simp) ?_;refine AllReadyH.cons (o:=⟨_,_,_,_,_,_⟩) rfl (fun K hK=>?_) AllReadyH.nil;go_simp;refine(HOW.out _ D2).mono ?_;rintro e y3 ⟨rfl,hbq⟩;have D3:zB W6 y3:=zT D2 hbq;have cy3:=HCY.out _ D3;have fz:=HFZ.out _ D3;clear HOW D2 hbq
          try simp only
          refine hK.out _ _ ?_ (fun hNew=>?_)
          · exact SC.out _ D3
          clear hK K;replace hHeld:=hNew;clear hNew
          try simp only[Act.put,List.setIfInBounds_toArray,List.set_cons_zero,List.set_cons_succ]
          refine wpAnyH_take (i:=18) (oi:=⟨_,_,_,_,_,_⟩) (v:=?_) rfl (by as_aux_lemma=>kernel_rfl) (by as_aux_lemma=>kernel_rfl) (by as_aux_lemma=>kernel_rfl) (fun _ _ _ h=>h) (Or.inl ⟨by rfl,?_⟩) (by assumption) ?_;rotate_left
          · (intro w hSw;(try dsimp only at hSw);first|(go_simp;done)|(go_simp;with_reducible rfl))
          try simp only[Act.put,List.setIfInBounds_toArray,List.set_cons_zero,List.set_cons_succ]
          refine wpAnyH_take (i:=19) (oi:=⟨_,_,_,_,_,_⟩) (v:=?_) rfl (by as_aux_lemma=>kernel_rfl) (by as_aux_lemma=>kernel_rfl) (by as_aux_lemma=>kernel_rfl) (fun _ _ _ h=>h) (Or.inl ⟨by rfl,?_⟩) (by assumption) ?_;rotate_left
          · (intro w hSw;(try dsimp only at hSw);first|(go_simp;done)|(go_simp;with_reducible rfl))
          try simp only[Act.put,List.setIfInBounds_toArray,List.set_cons_zero,List.set_cons_succ]
          refine wpAnyH_take (i:=20) (oi:=⟨_,_,_,_,_,_⟩) (v:=?_) rfl (by as_aux_lemma=>kernel_rfl) (by as_aux_lemma=>kernel_rfl) (by as_aux_lemma=>kernel_rfl) (fun _ _ _ h=>h) (Or.inl ⟨by rfl,?_⟩) (by assumption) ?_;rotate_left
          · (intro w hSw;(try dsimp only at hSw);first|(go_simp;done)|(go_simp;with_reducible rfl))
          try simp only[Act.put,List.setIfInBounds_toArray,List.set_cons_zero,List.set_cons_succ]
          refine wpAnyH_ready (rs:=[21]) (by as_aux_lemma=>kernel_rfl) (by simp) ?_;refine AllReadyH.cons (o:=⟨_,_,_,_,_,_⟩) rfl (fun K hK=>?_) AllReadyH.nil;go_simp;refine hK.out _ _ ?_ (fun hNew=>?_)
          · exact HSE.out _ _ _ D3
          clear hK K;replace hHeld:=hNew;clear hNew
          try simp only[Act.put,List.setIfInBounds_toArray,List.set_cons_zero,List.set_cons_succ]
          refine wpAnyH_done (by kernel_rfl) (NoPanic.normal ?_) _
          as_aux_lemma =>
            clear hHeld;have HE:=zH (HEND.out _ D3);clear cy3 fz D3 HEND HSE HFZ HCY SC;go_wp2;go_roundw
            case rel=>exact⟨i+1,hlt,by go_num,HE.out⟩
            case measure=>simp[intOf];omega
        · go_simp
          refine(HAM.out _ D1).mono ?_;rintro e y2 ⟨rfl,hbq⟩;have D2:zB W6 y2:=zT D1 hbq;have cy2:=HCY.out _ D2;clear HAM D1 hbq
          try simp only
          refine hK.out _ _ ?_ (fun hNew=>?_)
          · exact SC.out _ D2
          clear hK K;replace hHeld:=hNew;clear hNew
          try simp only[Act.put,List.setIfInBounds_toArray,List.set_cons_zero,List.set_cons_succ]
          refine wpAnyH_ready (rs:=[8,17]) (by as_aux_lemma=>kernel_rfl) (by simp) ?_;refine AllReadyH.cons (o:=⟨_,_,_,_,_,_⟩) rfl (fun K hK=>?_) (AllReadyH.cons (o:=⟨_,_,_,_,_,_⟩) rfl (fun K hK=>?_) AllReadyH.nil)
          · go_simp
            refine hK.out _ _ ?_ (fun hNew=>?_)
            · exact hHeld
            clear hK K;replace hHeld:=hNew;clear hNew
            try simp only[Act.put,List.setIfInBounds_toArray,List.set_cons_zero,List.set_cons_succ]
            refine wpAnyH_ready (rs:=[17]) (by as_aux_lemma=>kernel_rfl) (by simp) ?_;refine AllReadyH.cons (o:=⟨_,_,_,_,_,_⟩) rfl (fun K hK=>?_) AllReadyH.nil;go_simp;refine(HOW.out _ D2).mono ?_;rintro e y3 ⟨rfl,hbq⟩;have D3:zB W6 y3:=zT D2 hbq;have cy3:=HCY.out _ D3;have fz:=HFZ.out _ D3;clear HOW D2 hbq
            try simp only
            refine hK.out _ _ ?_ (fun hNew=>?_)
            · exact SC.out _ D3
            clear hK K;replace hHeld:=hNew;clear hNew
            try simp only[Act.put,List.setIfInBounds_toArray,List.set_cons_zero,List.set_cons_succ]
            refine wpAnyH_take (i:=18) (oi:=⟨_,_,_,_,_,_⟩) (v:=?_) rfl (by as_aux_lemma=>kernel_rfl) (by as_aux_lemma=>kernel_rfl) (by as_aux_lemma=>kernel_rfl) (fun _ _ _ h=>h) (Or.inl ⟨by rfl,?_⟩) (by assumption) ?_;rotate_left
            · (intro w hSw;(try dsimp only at hSw);first|(go_simp;done)|(go_simp;with_reducible rfl))
            try simp only[Act.put,List.setIfInBounds_toArray,List.set_cons_zero,List.set_cons_succ]
            refine wpAnyH_take (i:=19) (oi:=⟨_,_,_,_,_,_⟩) (v:=?_) rfl (by as_aux_lemma=>kernel_rfl) (by as_aux_lemma=>kernel_rfl) (by as_aux_lemma=>kernel_rfl) (fun _ _ _ h=>h) (Or.inl ⟨by rfl,?_⟩) (by assumption) ?_;rotate_left
            · (intro w hSw;(try dsimp only at hSw);first|(go_simp;done)|(go_simp;with_reducible rfl))
            try simp only[Act.put,List.setIfInBounds_toArray,List.set_cons_zero,List.set_cons_succ]
            refine wpAnyH_take (i:=20) (oi:=⟨_,_,_,_,_,_⟩) (v:=?_) rfl (by as_aux_lemma=>kernel_rfl) (by as_aux_lemma=>kernel_rfl) (by as_aux_lemma=>kernel_rfl) (fun _ _ _ h=>h) (Or.inl ⟨by rfl,?_⟩) (by assumption) ?_;rotate_left
            · (intro w hSw;(try dsimp only at hSw);first|(go_simp;done)|(go_simp;with_reducible rfl))
            try simp only[Act.put,List.setIfInBounds_toArray,List.set_cons_zero,List.set_cons_succ]
            refine wpAnyH_ready (rs:=[21]) (by as_aux_lemma=>kernel_rfl) (by simp) ?_;refine AllReadyH.cons (o:=⟨_,_,_,_,_,_⟩) rfl (fun K hK=>?_) AllReadyH.nil;go_simp;refine hK.out _ _ ?_ (fun hNew=>?_)
            · exact HSE.out _ _ _ D3
            clear hK K;replace hHeld:=hNew;clear hNew
            try simp only[Act.put,List.setIfInBounds_toArray,List.set_cons_zero,List.set_cons_succ]
            refine wpAnyH_done (by kernel_rfl) (NoPanic.normal ?_) _
            as_aux_lemma =>
              clear hHeld;have HE:=zH (HEND.out _ D3);clear cy3 fz D3 HEND HSE HFZ HCY SC;go_wp2;go_roundw
              case rel=>exact⟨i+1,hlt,by go_num,HE.out⟩
              case measure=>simp[intOf];omega
          · go_simp
            refine(HOW.out _ D2).mono ?_;rintro e y3 ⟨rfl,hbq⟩;have D3:zB W6 y3:=zT D2 hbq;have cy3:=HCY.out _ D3;have fz:=HFZ.out _ D3;clear HOW D2 hbq
            try simp only
            refine hK.out _ _ ?_ (fun hNew=>?_)
            · exact SC.out _ D3
            clear hK K;replace hHeld:=hNew;clear hNew
            try simp only[Act.put,List.setIfInBounds_toArray,List.set_cons_zero,List.set_cons_succ]
            refine wpAnyH_take (i:=18) (oi:=⟨_,_,_,_,_,_⟩) (v:=?_) rfl (by as_aux_lemma=>kernel_rfl) (by as_aux_lemma=>kernel_rfl) (by as_aux_lemma=>kernel_rfl) (fun _ _ _ h=>h) (Or.inl ⟨by rfl,?_⟩) (by assumption) ?_;rotate_left
            · (intro w hSw;(try dsimp only at hSw);first|(go_simp;done)|(go_simp;with_reducible rfl))
            try simp only[Act.put,List.setIfInBounds_toArray,List.set_cons_zero,List.set_cons_succ]
            refine wpAnyH_ready (rs:=[8]) (by as_aux_lemma=>kernel_rfl) (by simp) ?_;refine AllReadyH.cons (o:=⟨_,_,_,_,_,_⟩) rfl (fun K hK=>?_) AllReadyH.nil;go_simp;refine hK.out _ _ ?_ (fun hNew=>?_)
            · exact hHeld
            clear hK K;replace hHeld:=hNew;clear hNew
            try simp only[Act.put,List.setIfInBounds_toArray,List.set_cons_zero,List.set_cons_succ]
            refine wpAnyH_take (i:=19) (oi:=⟨_,_,_,_,_,_⟩) (v:=?_) rfl (by as_aux_lemma=>kernel_rfl) (by as_aux_lemma=>kernel_rfl) (by as_aux_lemma=>kernel_rfl) (fun _ _ _ h=>h) (Or.inl ⟨by rfl,?_⟩) (by assumption) ?_;rotate_left
            · (intro w hSw;(try dsimp only at hSw);first|(go_simp;done)|(go_simp;with_reducible rfl))
            try simp only[Act.put,List.setIfInBounds_toArray,List.set_cons_zero,List.set_cons_succ]
            refine wpAnyH_take (i:=20) (oi:=⟨_,_,_,_,_,_⟩) (v:=?_) rfl (by as_aux_lemma=>kernel_rfl) (by as_aux_lemma=>kernel_rfl) (by as_aux_lemma=>kernel_rfl) (fun _ _ _ h=>h) (Or.inl ⟨by rfl,?_⟩) (by assumption) ?_;rotate_left
            · (intro w hSw;(try dsimp only at hSw);first|(go_simp;done)|(go_simp;with_reducible rfl))
            try simp only[Act.put,List.setIfInBounds_toArray,List.set_cons_zero,List.set_cons_succ]
            refine wpAnyH_ready (rs:=[21]) (by as_aux_lemma=>kernel_rfl) (by simp) ?_;refine AllReadyH.cons (o:=⟨_,_,_,_,_,_⟩) rfl (fun K hK=>?_) AllReadyH.nil;go_simp;refine hK.out _ _ ?_ (fun hNew=>?_)
            · exact HSE.out _ _ _ D3
            clear hK K;replace hHeld:=hNew;clear hNew
            try simp only[Act.put,List.setIfInBounds_toArray,List.set_cons_zero,List.set_cons_succ]
            refine wpAnyH_done (by kernel_rfl) (NoPanic.normal ?_) _
            as_aux_lemma =>
              clear hHeld;have HE:=zH (HEND.out _ D3);clear cy3 fz D3 HEND HSE HFZ HCY SC;go_wp2;go_roundw
              case rel=>exact⟨i+1,hlt,by go_num,HE.out⟩
              case measure=>simp[intOf];omega
      · rw[if_neg hk] at HNS
        have HNB2:Hid (NdB W6 g (qi its ls (i+1))):=by show NdB _ _ _;rw[HNS.out];exact HNB.out
        clear HNS kx;go_wp2;go_roundw
        case rel=>exact⟨i+1,hlt,by go_num,HNB2.out,HROW.out,HB6.out⟩
        case measure=>simp[intOf];omega
    · obtain rfl:i=ls.length:=by omega
      have HNB:=zH hnb;have HBR:=zH hbr;clear hnb hrow hbr;go_wp2;go_ret;exact⟨g,rfl,hg0,HNB.out,HBR.out⟩
end
end Go.Proofs.YtlamemjfaogjmaaGreatDoor
