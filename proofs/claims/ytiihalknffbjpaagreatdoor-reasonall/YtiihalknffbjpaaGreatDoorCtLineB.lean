/- ParseLine. -/
import Derived.Test.YtiihalknffbjpaaGreatDoorSvNs
set_option maxHeartbeats 4000000
set_option maxRecDepth 100000
namespace Go.Proofs.YtiihalknffbjpaaGreatDoor
section
open Go.RowKit Go.Shelf Sv
attribute [local go_sem] Oper.semAt_some
theorem zjz(s:ByteArray)(w:World) :
  CallsIn Fence.wide 3 Tryz.prog 147 #[.string s] w fun e w'=>e=.returned (.func (.func 216) #[] #[.pointer (some ⟨w.heap.size,0,none⟩)])/\w'=w.alloc (.cells #[.string s] 9):=by
 refine callsIn_of_wp Tryz.func147 rfl trivial ?_ rfl;simp only[Tryz.ntmps147,List.size_toArray,List.length_cons,List.length_nil,Nat.reduceAdd,Nat.reduceSub,Array.replicate_succ,Array.replicate_zero,List.push_toArray,List.append_toArray,List.nil_append,List.cons_append]
 gi_wp2
 go_ret;exact⟨rfl,rfl⟩
theorem Ju{s:ByteArray}{k:Nat}(h:s.size<=k):∀f,qV s f k=[]
 |0=>rfl
 |f+1=>by rw[qV,if_pos h]
theorem zcI{s:ByteArray}{k:Nat}(h:k<s.size)(f:Nat):qV s (f+1) k=(if (za (s.extract k s.size) 10).1.size=0 then [] else [(k,(za (s.extract k s.size) 10).1)])++qV s f (k+(za (s.extract k s.size) 10).1.size+1):=by
 rw[qV,if_neg (by omega)]
theorem JT(s:ByteArray):∀(f k:Nat),(qV s f k).length<=f
 |0,_=>by simp[qV]
 |f+1,k=>by
  rw[qV];split
  ·simp
  ·have:=JT s f (k+(za (s.extract k s.size) 10).1.size+1);rw[List.length_append];split<;>simp<;>omega
def Kp1(bt:Nat)(W W':World):Prop:=W'.cell? ⟨bt,0,none⟩=W.cell? ⟨bt,0,none⟩/\W'.cell? ⟨5,0,none⟩=W.cell? ⟨5,0,none⟩
theorem zlr(s:ByteArray)(m:Int)(W:World)(hs:s.size<=100000)(hm:W.cell? ⟨5,0,none⟩=some (.int .i64 m)) :
  zC 132 #[.string s,.string ⟨#[10]⟩] W fun e w'=>∃b,e=.returned (.tuple #[.string (za s 10).1,.string (za s 10).2,.bool b])/\∃n,w'=W.drewN n :=
 (Tryz.strings_Cut s ⟨#[10]⟩ m W (by omega) hm).mono fun e w' ⟨he,n,hn⟩=>⟨_,he,n,hn⟩
theorem ziD(l bt:Nat)(s:ByteArray)(hs:s.size<=20000)(J Jx:List Pc->World->Prop)
  (hJd:∀pre W n,J pre W->J pre (W.drewN n))
  (hY:∀ pre x W,J pre W->pre.length<(qV s s.size 0).length->YieldAt Fence.wide (3 - 1) Tryz.prog l #[.int .i64 x.1.1,.string x.1.2] W fun e W' =>
   (e=.returned (.bool true)/\J (pre++[x]) W'/\Kp1 bt W W')\/(e=.returned (.bool false)/\Jx (pre++[x]) W'))
  (W:World) (h0:W.cell? ⟨bt,0,none⟩=some (.string s)) (n:Int) (hn0:W.cell? ⟨5,0,none⟩=some (.int .i64 n)) (hJ:J [] W) :
  CallsIn Fence.wide 3 Tryz.prog 216 #[.func (.yield l) #[] #[],.pointer (some ⟨bt,0,none⟩)] W fun e W'=>(∃v,e=.returned v)/\((∃ys,zM ys=qV s s.size 0/\J ys W')\/(∃pre,zM pre <+: qV s s.size 0/\Jx pre W')):=by
 have HY:=zH hY;have HJD:=zH hJd;clear hY hJd;refine callsIn_of_wp Tryz.func216 rfl trivial ?_ rfl;simp only[Tryz.ntmps216,List.size_toArray,List.length_cons,List.length_nil,Nat.reduceAdd,Nat.reduceSub,Array.replicate_succ,Array.replicate_zero,List.push_toArray,List.append_toArray,List.nil_append,List.cons_append]
 gi_wp2
 gi_loopw [3] (fun p wr=>∃(pre:List Pc) (k f:Nat),p=.int .i64 k/\k<=s.size+1/\s.size<=k+f/\zM pre++qV s f k=qV s s.size 0/\wr.cell? ⟨bt,0,none⟩=some (.string s)/\wr.cell? ⟨5,0,none⟩=some (.int .i64 n)/\J pre wr)
  (fun p _=>s.size+1-(intOf p).toNat)
 case atStart=>exact⟨[],0,s.size,rfl,Nat.zero_le _,by omega,rfl,h0,hn0,hJ⟩
 case round =>
  obtain⟨pre,k,f,rfl,hk,hf,hcut,c0,hn,hJs⟩:=hrel;have HJ:=zH hJs;have HC:=zH hcut;clear hJs hcut;have HN:=zH hn;clear hn
  by_cases hlt:k<s.size
  ·obtain⟨f',rfl⟩:∃f',f=f'+1:=⟨f-1,by omega⟩;have hx:(s.extract k s.size).size=s.size-k:=by rw[ByteArray.size_extract];omega
   have hsz:=(qe (s.extract k s.size) 10).1;have hcut:=HC.out;rw[zcI hlt] at hcut;have HCall:=zH (zlr (s.extract k s.size) n wr (by omega) HN.out);have i0:(0:Int)<=(k:Int):=by omega
   have i1:(k:Int)<=(s.size:Int):=by omega
   have hsl:=fun W'=>run_slice_string (P:=Tryz.prog) W' 9 s .i64 .i64 (k:Int) (s.size:Int) Tryz.underlying9 i0 i1 (Int.le_refl _);simp only[Int.toNat_natCast] at hsl;generalize (za (s.extract k s.size) 10).1=ln at *;generalize (za (s.extract k s.size) 10).2=rs at *;have hl2:ln.size<=100000:=by omega
   have hk2:k<=100000:=by omega
   have HX:=zH hcut;clear hcut HC
   gi_wp2_with fail
   refine⟨trivial,?_⟩;refine(callsIn_wide.2 HCall.out).mono ?_;rintro e w1 ⟨b,rfl,nq,rfl⟩;have e0:(wr.drewN nq).cell? ⟨bt,0,none⟩=some (.string s):=c0;have HN1:Hid ((wr.drewN nq).cell? ⟨5,0,none⟩=some (.int .i64 n)):=HN.out;have HJ1:Hid (J pre (wr.drewN nq)):=HJD.out _ _ nq HJ.out;clear HCall hsl i0 i1 c0 HN HJ
   by_cases hz:ln.size=0
   ·have HX2:Hid (zM pre++qV s f' (k+0+1)=qV s s.size 0):=by have h:=HX.out;rw[if_pos hz,hz] at h;exact h
    obtain rfl:=ZL hz;clear HX hz hl2 hsz
    gi_wp2
    refine⟨(fun f h=>by cases h),?_⟩
    gi_wp2
    go_roundw
    case rel=>exact⟨pre,k+1,f',by go_num,by omega,by omega,HX2.out,e0,HN1.out,HJ1.out⟩
    case measure=>simp[intOf];omega
   ·have he1:ln.toList.isEmpty=false:=ZG (by omega);have he2:(ln.toList==[])=false:=by rw[beq_eq_false_iff_ne];intro h;rw[h] at he1;cases he1
    have HX2:Hid (zM (pre++[⟨(k,ln),hk2,hl2⟩])++qV s f' (k+ln.size+1)=qV s s.size 0):=by
     have h:=HX.out;rw[if_neg hz] at h;show _=_;rw[zM,List.map_append,List.append_assoc];exact h
    have hlen:pre.length<(qV s s.size 0).length:=by
     have h:=congrArg List.length HX2.out;rw[List.length_append,zM,List.length_map,List.length_append,List.length_cons] at h;omega
    clear HX;obtain⟨fn,tmps,assign,body,hy,hR⟩:=HY.out pre ⟨(k,ln),hk2,hl2⟩ (wr.drewN nq) HJ1.out hlen;dsimp only at hy;have HLEN:=zH hlen;clear hlen
    gi_wp2
    refine hR.mono ?_;rintro e W3 (⟨rfl,hJ3,hk3⟩|⟨rfl,hJx3⟩)
    ·have d0:W3.cell? ⟨bt,0,none⟩=some (.string s):=hk3.1.trans e0;have d2:Hid (W3.cell? ⟨5,0,none⟩=some (.int .i64 n)):=hk3.2.trans HN1.out;have HJ3:=zH hJ3;clear hJ3 hk3
     gi_wp2
     go_roundw
     case rel=>exact⟨pre++[⟨(k,ln),hk2,hl2⟩],k+ln.size+1,f',by go_num,by omega,by omega,HX2.out,d0,d2.out,HJ3.out⟩
     case measure=>simp[intOf];omega
    ·gi_wp2
     refine bodyPost_ret (results_none rfl _ _ _) rfl ?_;exact⟨⟨_,rfl⟩,.inr ⟨_,⟨_,HX2.out⟩,hJx3⟩⟩
  ·have hcut:=HC.out;rw[Ju (by omega),List.append_nil] at hcut;have HX:=zH hcut;clear hcut HC
   gi_wp2
   refine bodyPost_end (results_none rfl _ _ _) rfl ?_;exact⟨⟨_,rfl⟩,.inl ⟨pre,HX.out,HJ.out⟩⟩
theorem zj1(W:World)(n:Nat):W.grownBy (W.drewN n) none:=⟨rfl,rfl,rfl,Nat.le_refl _,fun _ _ _=>rfl⟩
theorem zfe(bt:Nat)(s:ByteArray)(hs:s.size<=20000)(w:World)(hbt:bt<w.heap.size)(h1:5<w.heap.size)(c0:w.cell? ⟨bt,0,none⟩=some (.string s))(n:Int)(c2:w.cell? ⟨5,0,none⟩=some (.int .i64 n)) :
  SeqStopsK Fence.wide 3 Tryz.prog 216 #[.pointer (some ⟨bt,0,none⟩)] zcb (Kp1 bt) (fun ys=>zM ys=qV s s.size 0) (fun pre=>zM pre <+: qV s s.size 0) (qV s s.size 0).length w:=fun l J Jx W hW hJ _ hY h0 =>
 ziD l bt s hs J Jx (fun pre W n h=>hJ pre W _ none h (zj1 W n) (fun r e=>by cases e)) hY W ((hW.cell (p:=⟨bt,0,none⟩) hbt).trans c0) n ((hW.cell (p:=⟨5,0,none⟩) h1).trans c2) h0
theorem Kf{bt:Nat}{A B C:World}(h:Kp1 bt A B)(k:Kp1 bt B C):Kp1 bt A C:=⟨k.1.trans h.1,k.2.trans h.2⟩
theorem zfE{bt:Nat}{w:World}(hbt:bt<w.heap.size)(h1:5<w.heap.size)(W:World)(l:Nat)(o o':Obj)(hl:w.heap.size<=l)(_:W.heap[l]?=some o)(_:o.isCells=false)(_:o.isWalk=false):Kp1 bt W (W.putObj l o') :=
 ⟨QX (by omega),QX (by omega)⟩
theorem Jq{bt B:Nat}{W W':World}(h:Below B W W')(h1:bt<B)(h3:5<B):Kp1 bt W W':=⟨h.cell (p:=⟨bt,0,none⟩) h1,h.cell (p:=⟨5,0,none⟩) h3⟩
theorem zcR{bt b i:Nat}{W W':World}{v:Value}(h:Kp1 bt W W')(h1:bt≠b)(h3:5≠b):Kp1 bt W (W'.setCell ⟨b,i,none⟩ v):=⟨(zY h1).trans h.1,(zY h3).trans h.2⟩
end
section
open Go.RowKit Go.Shelf Sv
theorem zlD(s:ByteArray)(w:World)(hs:s.size<=100000)(hw:Lw w)(hk:zw (za s 32).1=0) :
  zC 57 #[.string s] w (Q6 w (.error (3,none))):=by
 have k0:=Blk.new w 130 z7;have hb0:zB w (w.alloc (.cells z7 130)):=(Below.refl _ w).alloc zN _;have HC:=zH (Zt s 32 (w.alloc (.cells z7 130)) hs (hw.below hb0).lb);have HW:=zH (hw.below hb0);have HK:Hid (∀W,Zz W->zC 133 #[.string (za s 32).1] W fun e w'=>e=.returned (.int .i64 0)/\w'=W):=fun W h=>by have:=Xb (za s 32).1 W h;rw[hk] at this;exact this
 have hs2:=(qe s 32).2;generalize (za s 32).1=s1 at *;generalize (za s 32).2=s2 at *;have hs2':s2.size<=100000:=by omega
 clear hk hs hs2;go_enter Tryz.func57,Tryz.ntmps57;go_wp2_with fail;generalize w.alloc (.cells z7 130)=W0 at *;refine HC.out.mono ?_;rintro e wC ⟨b,rfl,hb⟩;have HKC:=zH (HK.out wC (HW.out.below hb).wd);have k1:=k0.below hb k0.lt;have hB:zB w wC:=zT hb0 hb;have hlt:=k1.lt;have HW1:=zH (HW.out.below hb);clear HC HK k0 hb0 hb HW;go_wp2_with fail;refine HKC.out.mono ?_;rintro e w2 ⟨rfl,rfl⟩;clear HKC;have h1:LS w (w2.alloc (.cells #[.int .i64 0,.string ⟨#[]⟩,.int .i64 0,.int .i64 0,.int .i64 0,.string ⟨#[]⟩,.slice none 0 0] 130)) w2.heap.size #[.int .i64 0,.string ⟨#[]⟩,.int .i64 0,.int .i64 0,.int .i64 0,.string ⟨#[]⟩,.slice none 0 0]:=⟨k1.alloc _,Blk.new _ _ _,hlt,zL hB⟩;clear k1 hB;go_upto_region 3 with fail;generalize w2.alloc (.cells #[.int .i64 0,.string ⟨#[]⟩,.int .i64 0,.int .i64 0,.int .i64 0,.string ⟨#[]⟩,.slice none 0 0] 130)=W3 at *;obtain⟨zc0,zf0,zc1,zf1,zc2,zf2,zc3,zf3,zc4,zf4,zc5,zf5,zc6,zf6⟩:=zcf h1.z;obtain⟨xc0,xf0,xc1,xf1,xc2,xf2,xc3,xf3,xc4,xf4,xc5,xf5,xc6,xf6⟩:=zcf h1.x;have HZ:Hid (Blk (((((((W3.setCell ⟨w.heap.size,0,none⟩ (.int .i64 0)).setCell ⟨w.heap.size,1,none⟩ (.string ⟨#[]⟩)).setCell ⟨w.heap.size,2,none⟩ (.int .i64 0)).setCell ⟨w.heap.size,3,none⟩ (.int .i64 0)).setCell ⟨w.heap.size,4,none⟩ (.int .i64 0)).setCell ⟨w.heap.size,5,none⟩ (.string ⟨#[]⟩)).setCell ⟨w.heap.size,6,none⟩ (.slice none 0 0)) w.heap.size 130 #[.int .i64 0,.string ⟨#[]⟩,.int .i64 0,.int .i64 0,.int .i64 0,.string ⟨#[]⟩,.slice none 0 0]):=by
  have h:=h1.z;exact(((((((h.set (i:=0) (v:=.int .i64 0)).set (i:=1) (v:=.string ⟨#[]⟩)).set (i:=2) (v:=.int .i64 0)).set (i:=3) (v:=.int .i64 0)).set (i:=4) (v:=.int .i64 0)).set (i:=5) (v:=.string ⟨#[]⟩)).set (i:=6) (v:=.slice none 0 0))
 have HB:Hid (zB w (((((((W3.setCell ⟨w.heap.size,0,none⟩ (.int .i64 0)).setCell ⟨w.heap.size,1,none⟩ (.string ⟨#[]⟩)).setCell ⟨w.heap.size,2,none⟩ (.int .i64 0)).setCell ⟨w.heap.size,3,none⟩ (.int .i64 0)).setCell ⟨w.heap.size,4,none⟩ (.int .i64 0)).setCell ⟨w.heap.size,5,none⟩ (.string ⟨#[]⟩)).setCell ⟨w.heap.size,6,none⟩ (.slice none 0 0))):=(((((((h1.B.setCell (p:=⟨w.heap.size,0,none⟩) zN _).setCell (p:=⟨w.heap.size,1,none⟩) zN _).setCell (p:=⟨w.heap.size,2,none⟩) zN _).setCell (p:=⟨w.heap.size,3,none⟩) zN _).setCell (p:=⟨w.heap.size,4,none⟩) zN _).setCell (p:=⟨w.heap.size,5,none⟩) zN _).setCell (p:=⟨w.heap.size,6,none⟩) zN _);clear h1;go_wp2;generalize (((((((W3.setCell ⟨w.heap.size,0,none⟩ (.int .i64 0)).setCell ⟨w.heap.size,1,none⟩ (.string ⟨#[]⟩)).setCell ⟨w.heap.size,2,none⟩ (.int .i64 0)).setCell ⟨w.heap.size,3,none⟩ (.int .i64 0)).setCell ⟨w.heap.size,4,none⟩ (.int .i64 0)).setCell ⟨w.heap.size,5,none⟩ (.string ⟨#[]⟩)).setCell ⟨w.heap.size,6,none⟩ (.slice none 0 0))=WF at *;have r0:_=some (Value.int .i64 0):=HZ.out.cell 0;have r1:_=some (Value.string ⟨#[]⟩):=HZ.out.cell 1;have r2:_=some (Value.int .i64 0):=HZ.out.cell 2;have r3:_=some (Value.int .i64 0):=HZ.out.cell 3;have r4:_=some (Value.int .i64 0):=HZ.out.cell 4;have r5:_=some (Value.string ⟨#[]⟩):=HZ.out.cell 5;have r6:_=some (Value.slice none 0 0):=HZ.out.cell 6;refine bodyPost_ret (v:=.tuple #[.agg #[.int .i64 0,.string ⟨#[]⟩,.int .i64 0,.int .i64 0,.int .i64 0,.string ⟨#[]⟩,.slice none 0 0],.iface 57 (.int .i64 3)]) (by simp[results,Tryz.f57,go_sem,r0,r1,r2,r3,r4,r5,r6]) rfl ?_;exact⟨_,rfl,rfl,HB.out⟩
theorem zhd(s:ByteArray)(w:World)(hs:s.size<=100000)(hw:Lw w)(hk:zw (za s 32).1=4) :
  zC 57 #[.string s] w (Q6 w (yS 4 (za (za s 32).2 32).1 [] ⟨#[]⟩ (za (za s 32).2 32).2)):=by
 have k0:=Blk.new w 130 z7;have hb0:zB w (w.alloc (.cells z7 130)):=(Below.refl _ w).alloc zN _;have HC:=zH (Zt s 32 (w.alloc (.cells z7 130)) hs (hw.below hb0).lb);have HW:=zH (hw.below hb0);have HK:Hid (∀W,Zz W->zC 133 #[.string (za s 32).1] W fun e w'=>e=.returned (.int .i64 4)/\w'=W):=fun W h=>by have:=Xb (za s 32).1 W h;rw[hk] at this;exact this
 have hs2:=(qe s 32).2;generalize (za s 32).1=s1 at *;generalize (za s 32).2=s2 at *;have hs2':s2.size<=100000:=by omega
 have HW0:=zH hw;clear hk hs hs2 hw;go_enter Tryz.func57,Tryz.ntmps57;go_wp2_with fail;generalize w.alloc (.cells z7 130)=W0 at *;refine HC.out.mono ?_;rintro e wC ⟨b,rfl,hb⟩;have HKC:=zH (HK.out wC (HW.out.below hb).wd);have k1:=k0.below hb k0.lt;have hB:zB w wC:=zT hb0 hb;have hlt:=k1.lt;have HW1:=zH (HW.out.below hb);clear HC HK k0 hb0 hb HW;go_wp2_with fail;refine HKC.out.mono ?_;rintro e w2 ⟨rfl,rfl⟩;clear HKC;have h1:LS w (w2.alloc (.cells #[.int .i64 4,.string ⟨#[]⟩,.int .i64 0,.int .i64 0,.int .i64 0,.string ⟨#[]⟩,.slice none 0 0] 130)) w2.heap.size #[.int .i64 4,.string ⟨#[]⟩,.int .i64 0,.int .i64 0,.int .i64 0,.string ⟨#[]⟩,.slice none 0 0]:=⟨k1.alloc _,Blk.new _ _ _,hlt,zL hB⟩;clear k1 hB;go_upto_region 3 with fail;generalize w2.alloc (.cells #[.int .i64 4,.string ⟨#[]⟩,.int .i64 0,.int .i64 0,.int .i64 0,.string ⟨#[]⟩,.slice none 0 0] 130)=W3 at *;generalize w2.heap.size=b1 at *;clear HW1;obtain⟨zc0,zf0,zc1,zf1,zc2,zf2,zc3,zf3,zc4,zf4,zc5,zf5,zc6,zf6⟩:=zcf h1.z;obtain⟨xc0,xf0,xc1,xf1,xc2,xf2,xc3,xf3,xc4,xf4,xc5,xf5,xc6,xf6⟩:=zcf h1.x;go_wp2_with fail;clear zc0 zf0 zc1 zf1 zc2 zf2 zc3 zf3 zc4 zf4 zc5 zf5 zc6 zf6 xc0 xf0 xc1 xf1 xc2 xf2 xc3 xf3 xc4 xf4 xc5 xf5 xc6 xf6;have HC:=zH (Zt s2 32 W3 (by omega) (HW0.out.below h1.B).lb);have hsz:=qe s2 32;generalize (za s2 32).1=n1 at *;generalize (za s2 32).2=n2 at *;obtain⟨hsz1,hsz2⟩:=hsz;refine HC.out.mono ?_;rintro e w4 ⟨bb4,rfl,hb4⟩;have h4:=h1.step hb4;clear HC hb4;have h5:LS w (w4.setCell ⟨b1,1,none⟩ (.string n1)) b1 #[.int .i64 4,.string n1,.int .i64 0,.int .i64 0,.int .i64 0,.string ⟨#[]⟩,.slice none 0 0]:=(h4.set 1 (.string n1));obtain⟨xc0,xf0,xc1,xf1,xc2,xf2,xc3,xf3,xc4,xf4,xc5,xf5,xc6,xf6⟩:=zcf h4.x;have H5:=zH h5;clear h5;go_upto_region 7 with fail;have h5:=H5.out;clear h4 H5 xc0 xf0 xc1 xf1 xc2 xf2 xc3 xf3 xc4 xf4 xc5 xf5 xc6 xf6;generalize (w4.setCell ⟨b1,1,none⟩ (.string n1))=W5 at *;obtain⟨xc0,xf0,xc1,xf1,xc2,xf2,xc3,xf3,xc4,xf4,xc5,xf5,xc6,xf6⟩:=zcf h5.x;go_wp2_with fail;clear xc0 xf0 xc1 xf1 xc2 xf2 xc3 xf3 xc4 xf4 xc5 xf5 xc6 xf6;have HP:Hid (zC 135 #[.agg #[.int .i64 4,.string n1,.int .i64 0,.int .i64 0,.int .i64 0,.string ⟨#[]⟩,.slice none 0 0]] W5 fun e w'=>e=.returned (.bool false)/\w'=W5.alloc (.cells #[.int .i64 4,.string n1,.int .i64 0,.int .i64 0,.int .i64 0,.string ⟨#[]⟩,.slice none 0 0] 130)):=yk ⟨4,n1,0,0,0,⟨#[]⟩,[]⟩ (.slice none 0 0) W5;refine HP.out.mono ?_;rintro e w6 ⟨rfl,hw6⟩;have hb6:zB W5 w6:=by rw[hw6];exact zF.alloc zN _
 have h6:=h5.step hb6;clear HP hw6 hb6 h5;go_wp2_with fail;have HR:=zH (zaT n2 w6 (by omega) (HW0.out.below h6.B).lb);refine HR.out.mono ?_;rintro e w7 ⟨ra,rn,rc,er,rfl,hres,hown,hb7⟩;have h7:=h6.step hb7;have hwn:=h6.B.size;have hxl:=h6.x.lt;have hzl:=h6.z.lt;have HNX:Hid ((Value.slice ra rn rc).ownBlock≠some b1):=fun h=>by have:=hown _ h;omega
 have HNZ:Hid ((Value.slice ra rn rc).ownBlock≠some w.heap.size):=fun h=>by have:=hown _ h;omega
 have hown2:Hid (∀g,(Value.slice ra rn rc).ownBlock=some g->w.heap.size<=g):=fun g hg=>Nat.le_trans hwn (hown g hg);clear HR hb7 hown hwn hxl hzl;cases hx:xe n2 with
 |error e2 =>
  obtain⟨k2,p2⟩:=e2;rw[hx] at hres;obtain⟨hsl,herr⟩:=hres;cases hsl;obtain⟨et,ev,rfl⟩:=herr.form;have hS:LS w (w7.setCell ⟨b1,6,none⟩ (.slice none 0 0)) b1 #[.int .i64 4,.string n1,.int .i64 0,.int .i64 0,.int .i64 0,.string ⟨#[]⟩,.slice none 0 0]:=(h7.set 6 (.slice none 0 0));have HERR:=zH herr;clear herr;obtain⟨xc0,xf0,xc1,xf1,xc2,xf2,xc3,xf3,xc4,xf4,xc5,xf5,xc6,xf6⟩:=zcf h7.x;have HS:=zH hS;clear hS;go_upto_region 20 with fail;have hS:=HS.out;have HER2:Hid (qS (w7.setCell ⟨b1,6,none⟩ (.slice none 0 0)) (.iface et ev) k2 p2):=HERR.out.setx h7;clear h7 xc0 xf0 xc1 xf1 xc2 xf2 xc3 xf3 xc4 xf4 xc5 xf5 xc6 xf6;generalize (w7.setCell ⟨b1,6,none⟩ (.slice none 0 0))=W9 at *;obtain⟨zc0,zf0,zc1,zf1,zc2,zf2,zc3,zf3,zc4,zf4,zc5,zf5,zc6,zf6⟩:=zcf hS.z;have HE:Hid (qS (((((((W9.setCell ⟨w.heap.size,0,none⟩ (.int .i64 0)).setCell ⟨w.heap.size,1,none⟩ (.string ⟨#[]⟩)).setCell ⟨w.heap.size,2,none⟩ (.int .i64 0)).setCell ⟨w.heap.size,3,none⟩ (.int .i64 0)).setCell ⟨w.heap.size,4,none⟩ (.int .i64 0)).setCell ⟨w.heap.size,5,none⟩ (.string ⟨#[]⟩)).setCell ⟨w.heap.size,6,none⟩ (.slice none 0 0)) (.iface et ev) k2 p2):=HER2.out.setz hS;have HZ:Hid (Blk (((((((W9.setCell ⟨w.heap.size,0,none⟩ (.int .i64 0)).setCell ⟨w.heap.size,1,none⟩ (.string ⟨#[]⟩)).setCell ⟨w.heap.size,2,none⟩ (.int .i64 0)).setCell ⟨w.heap.size,3,none⟩ (.int .i64 0)).setCell ⟨w.heap.size,4,none⟩ (.int .i64 0)).setCell ⟨w.heap.size,5,none⟩ (.string ⟨#[]⟩)).setCell ⟨w.heap.size,6,none⟩ (.slice none 0 0)) w.heap.size 130 #[.int .i64 0,.string ⟨#[]⟩,.int .i64 0,.int .i64 0,.int .i64 0,.string ⟨#[]⟩,.slice none 0 0]):=by
   have h:=hS.z;exact(((((((h.set (i:=0) (v:=.int .i64 0)).set (i:=1) (v:=.string ⟨#[]⟩)).set (i:=2) (v:=.int .i64 0)).set (i:=3) (v:=.int .i64 0)).set (i:=4) (v:=.int .i64 0)).set (i:=5) (v:=.string ⟨#[]⟩)).set (i:=6) (v:=.slice none 0 0))
  have HB:Hid (zB w (((((((W9.setCell ⟨w.heap.size,0,none⟩ (.int .i64 0)).setCell ⟨w.heap.size,1,none⟩ (.string ⟨#[]⟩)).setCell ⟨w.heap.size,2,none⟩ (.int .i64 0)).setCell ⟨w.heap.size,3,none⟩ (.int .i64 0)).setCell ⟨w.heap.size,4,none⟩ (.int .i64 0)).setCell ⟨w.heap.size,5,none⟩ (.string ⟨#[]⟩)).setCell ⟨w.heap.size,6,none⟩ (.slice none 0 0))):=(((((((hS.B.setCell (p:=⟨w.heap.size,0,none⟩) zN _).setCell (p:=⟨w.heap.size,1,none⟩) zN _).setCell (p:=⟨w.heap.size,2,none⟩) zN _).setCell (p:=⟨w.heap.size,3,none⟩) zN _).setCell (p:=⟨w.heap.size,4,none⟩) zN _).setCell (p:=⟨w.heap.size,5,none⟩) zN _).setCell (p:=⟨w.heap.size,6,none⟩) zN _);clear hS;go_wp2;generalize (((((((W9.setCell ⟨w.heap.size,0,none⟩ (.int .i64 0)).setCell ⟨w.heap.size,1,none⟩ (.string ⟨#[]⟩)).setCell ⟨w.heap.size,2,none⟩ (.int .i64 0)).setCell ⟨w.heap.size,3,none⟩ (.int .i64 0)).setCell ⟨w.heap.size,4,none⟩ (.int .i64 0)).setCell ⟨w.heap.size,5,none⟩ (.string ⟨#[]⟩)).setCell ⟨w.heap.size,6,none⟩ (.slice none 0 0))=WF at *;have r0:_=some (Value.int .i64 0):=HZ.out.cell 0;have r1:_=some (Value.string ⟨#[]⟩):=HZ.out.cell 1;have r2:_=some (Value.int .i64 0):=HZ.out.cell 2;have r3:_=some (Value.int .i64 0):=HZ.out.cell 3;have r4:_=some (Value.int .i64 0):=HZ.out.cell 4;have r5:_=some (Value.string ⟨#[]⟩):=HZ.out.cell 5;have r6:_=some (Value.slice none 0 0):=HZ.out.cell 6;refine bodyPost_ret (v:=.tuple #[.agg #[.int .i64 0,.string ⟨#[]⟩,.int .i64 0,.int .i64 0,.int .i64 0,.string ⟨#[]⟩,.slice none 0 0],.iface et ev]) (by simp[results,Tryz.f57,go_sem,r0,r1,r2,r3,r4,r5,r6]) rfl ?_;have ht:yS 4 n1 [] ⟨#[]⟩ n2=.error (k2,p2):=by unfold yS;rw[hx]
  rw[ht];exact⟨_,rfl,HE.out,HB.out⟩
 |ok l =>
  rw[hx] at hres;obtain⟨rfl,hsp,hrg⟩:=hres;have hS:LS w (w7.setCell ⟨b1,6,none⟩ (.slice ra rn rc)) b1 #[.int .i64 4,.string n1,.int .i64 0,.int .i64 0,.int .i64 0,.string ⟨#[]⟩,.slice ra rn rc]:=(h7.set 6 (.slice ra rn rc));obtain⟨xc0,xf0,xc1,xf1,xc2,xf2,xc3,xf3,xc4,xf4,xc5,xf5,xc6,xf6⟩:=zcf h7.x;have HS:=zH hS;have HSP:Hid (zg (w7.setCell ⟨b1,6,none⟩ (.slice ra rn rc)) (.slice ra rn rc) l):=hsp.one HNX.out;have HRG:=zH hrg;clear hS hsp hrg;go_upto_region 21 with fail;have hS:=HS.out;clear h7 xc0 xf0 xc1 xf1 xc2 xf2 xc3 xf3 xc4 xf4 xc5 xf5 xc6 xf6;generalize (w7.setCell ⟨b1,6,none⟩ (.slice ra rn rc))=W9 at *;obtain⟨zc0,zf0,zc1,zf1,zc2,zf2,zc3,zf3,zc4,zf4,zc5,zf5,zc6,zf6⟩:=zcf hS.z;obtain⟨xc0,xf0,xc1,xf1,xc2,xf2,xc3,xf3,xc4,xf4,xc5,xf5,xc6,xf6⟩:=zcf hS.x;have HSP2:Hid (zg (((((((W9.setCell ⟨w.heap.size,0,none⟩ (.int .i64 4)).setCell ⟨w.heap.size,1,none⟩ (.string n1)).setCell ⟨w.heap.size,2,none⟩ (.int .i64 0)).setCell ⟨w.heap.size,3,none⟩ (.int .i64 0)).setCell ⟨w.heap.size,4,none⟩ (.int .i64 0)).setCell ⟨w.heap.size,5,none⟩ (.string ⟨#[]⟩)).setCell ⟨w.heap.size,6,none⟩ (.slice ra rn rc)) (.slice ra rn rc) l):=HSP.out.all7 HNZ.out;have hbz:=hS.ne;have HZ:Hid (Blk (((((((W9.setCell ⟨w.heap.size,0,none⟩ (.int .i64 4)).setCell ⟨w.heap.size,1,none⟩ (.string n1)).setCell ⟨w.heap.size,2,none⟩ (.int .i64 0)).setCell ⟨w.heap.size,3,none⟩ (.int .i64 0)).setCell ⟨w.heap.size,4,none⟩ (.int .i64 0)).setCell ⟨w.heap.size,5,none⟩ (.string ⟨#[]⟩)).setCell ⟨w.heap.size,6,none⟩ (.slice ra rn rc)) w.heap.size 130 #[.int .i64 4,.string n1,.int .i64 0,.int .i64 0,.int .i64 0,.string ⟨#[]⟩,.slice ra rn rc]):=by
   have h:=hS.z;exact(((((((h.set (i:=0) (v:=.int .i64 4)).set (i:=1) (v:=.string n1)).set (i:=2) (v:=.int .i64 0)).set (i:=3) (v:=.int .i64 0)).set (i:=4) (v:=.int .i64 0)).set (i:=5) (v:=.string ⟨#[]⟩)).set (i:=6) (v:=.slice ra rn rc))
  have HB:Hid (zB w (((((((W9.setCell ⟨w.heap.size,0,none⟩ (.int .i64 4)).setCell ⟨w.heap.size,1,none⟩ (.string n1)).setCell ⟨w.heap.size,2,none⟩ (.int .i64 0)).setCell ⟨w.heap.size,3,none⟩ (.int .i64 0)).setCell ⟨w.heap.size,4,none⟩ (.int .i64 0)).setCell ⟨w.heap.size,5,none⟩ (.string ⟨#[]⟩)).setCell ⟨w.heap.size,6,none⟩ (.slice ra rn rc))):=(((((((hS.B.setCell (p:=⟨w.heap.size,0,none⟩) zN _).setCell (p:=⟨w.heap.size,1,none⟩) zN _).setCell (p:=⟨w.heap.size,2,none⟩) zN _).setCell (p:=⟨w.heap.size,3,none⟩) zN _).setCell (p:=⟨w.heap.size,4,none⟩) zN _).setCell (p:=⟨w.heap.size,5,none⟩) zN _).setCell (p:=⟨w.heap.size,6,none⟩) zN _);clear hS;go_wp2;generalize (((((((W9.setCell ⟨w.heap.size,0,none⟩ (.int .i64 4)).setCell ⟨w.heap.size,1,none⟩ (.string n1)).setCell ⟨w.heap.size,2,none⟩ (.int .i64 0)).setCell ⟨w.heap.size,3,none⟩ (.int .i64 0)).setCell ⟨w.heap.size,4,none⟩ (.int .i64 0)).setCell ⟨w.heap.size,5,none⟩ (.string ⟨#[]⟩)).setCell ⟨w.heap.size,6,none⟩ (.slice ra rn rc))=WF at *;have r0:_=some (Value.int .i64 4):=HZ.out.cell 0;have r1:_=some (Value.string n1):=HZ.out.cell 1;have r2:_=some (Value.int .i64 0):=HZ.out.cell 2;have r3:_=some (Value.int .i64 0):=HZ.out.cell 3;have r4:_=some (Value.int .i64 0):=HZ.out.cell 4;have r5:_=some (Value.string ⟨#[]⟩):=HZ.out.cell 5;have r6:_=some (Value.slice ra rn rc):=HZ.out.cell 6;refine bodyPost_ret (v:=.tuple #[.agg #[.int .i64 4,.string n1,.int .i64 0,.int .i64 0,.int .i64 0,.string ⟨#[]⟩,.slice ra rn rc],.nilIface]) (by simp[results,Tryz.f57,go_sem,r0,r1,r2,r3,r4,r5,r6]) rfl ?_;have ht:yS 4 n1 [] ⟨#[]⟩ n2=.ok ⟨4,n1,0,0,0,⟨#[]⟩,l⟩:=by unfold yS;rw[hx];rfl
  rw[ht];exact⟨_,rfl,HSP2.out,HRG.out,hown2.out,HB.out⟩
end
end Go.Proofs.YtiihalknffbjpaaGreatDoor
