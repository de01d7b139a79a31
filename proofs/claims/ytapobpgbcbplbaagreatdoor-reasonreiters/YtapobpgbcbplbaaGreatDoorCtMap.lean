/- Maps by names. -/
import Derived.Test.YtapobpgbcbplbaaGreatDoorCtLineC
set_option maxHeartbeats 2000000
set_option maxRecDepth 100000
namespace Go.Proofs.YtapobpgbcbplbaaGreatDoor
section
open Go.RowKit Go.Shelf Sv
theorem zbg(K:Nat)(hK:K=2\/K=3)(s:ByteArray)(w:World)(hs:s.size<=100000)(hw:Lw w)(hk:qI (zg s 32).1=K)(R:Except (Int × Option Nat) Ln)(hR:R=match xC (zg (zg (zg s 32).2 32).2 32).1 with|.error e=>.error (e,none)|.ok ns=>xI K (zg (zg s 32).2 32).1 ns (zg (zg (zg (zg s 32).2 32).2 32).2 32).1 (zg (zg (zg (zg s 32).2 32).2 32).2 32).2) :
  zC 25 #[.string s] w (Y0 w R):=by
 have hK1:((K:Int)==1)=false:=by rw[beq_eq_false_iff_ne];omega
 have hK4:((K:Int)==4)=false:=by rw[beq_eq_false_iff_ne];omega
 have hK0:((K:Int)==0)=false:=by rw[beq_eq_false_iff_ne];omega
 have HKK:=zH hK;clear hK;have k0:=Blk.new w 38 z7;have hb0:zB w (w.alloc (.cells z7 38)):=(Below.refl _ w).alloc zN _;have HC:=zH (Ze s 32 (w.alloc (.cells z7 38)) hs (hw.below hb0).lb);have HW:=zH (hw.below hb0);have HK:Hid (∀W,Zq W->zC 51 #[.string (zg s 32).1] W fun e w'=>e=.returned (.int .i64 K)/\w'=W):=fun W h=>by have:=XE (zg s 32).1 W h;rw[hk] at this;exact this
 have hs2:=(Za s 32).2;generalize (zg s 32).1=s1 at *;generalize (zg s 32).2=s2 at *;have hs2':s2.size<=100000:=by omega
 have HW0:=zH hw;clear hk hs hs2 hw;have HR0:=zH hR;clear hR;go_enter Tryz.func25,Tryz.ntmps25;go_wp2_with fail;generalize w.alloc (.cells z7 38)=W0 at *;refine HC.out.mono ?_;rintro e wC ⟨b,rfl,hb⟩;have HKC:=zH (HK.out wC (HW.out.below hb).wd);have k1:=k0.below hb k0.lt;have hB:zB w wC:=zT hb0 hb;have hlt:=k1.lt;have HW1:=zH (HW.out.below hb);clear HC HK k0 hb0 hb HW;go_wp2_with fail;refine HKC.out.mono ?_;rintro e w2 ⟨rfl,rfl⟩;clear HKC;have h1:LS w (w2.alloc (.cells #[.int .i64 K,.string ⟨#[]⟩,.int .i64 0,.int .i64 0,.int .i64 0,.string ⟨#[]⟩,.slice none 0 0] 38)) w2.heap.size #[.int .i64 K,.string ⟨#[]⟩,.int .i64 0,.int .i64 0,.int .i64 0,.string ⟨#[]⟩,.slice none 0 0]:=⟨k1.alloc _,Blk.new _ _ _,hlt,zL hB⟩;clear k1 hB;go_upto_region 3 with fail;generalize w2.alloc (.cells #[.int .i64 K,.string ⟨#[]⟩,.int .i64 0,.int .i64 0,.int .i64 0,.string ⟨#[]⟩,.slice none 0 0] 38)=W3 at *;generalize w2.heap.size=b1 at *;clear HW1;obtain⟨zc0,zf0,zc1,zf1,zc2,zf2,zc3,zf3,zc4,zf4,zc5,zf5,zc6,zf6⟩:=zcf h1.z;obtain⟨xc0,xf0,xc1,xf1,xc2,xf2,xc3,xf3,xc4,xf4,xc5,xf5,xc6,xf6⟩:=zcf h1.x;go_wp2_with fail;clear zc0 zf0 zc1 zf1 zc2 zf2 zc3 zf3 zc4 zf4 zc5 zf5 zc6 zf6 xc0 xf0 xc1 xf1 xc2 xf2 xc3 xf3 xc4 xf4 xc5 xf5 xc6 xf6;have HC:=zH (Ze s2 32 W3 (by omega) (HW0.out.below h1.B).lb);have hsz:=Za s2 32;generalize (zg s2 32).1=n1 at *;generalize (zg s2 32).2=n2 at *;obtain⟨hsz1,hsz2⟩:=hsz;refine HC.out.mono ?_;rintro e w4 ⟨bb4,rfl,hb4⟩;have h4:=h1.step hb4;clear HC hb4;have h5:LS w (w4.setCell ⟨b1,1,none⟩ (.string n1)) b1 #[.int .i64 K,.string n1,.int .i64 0,.int .i64 0,.int .i64 0,.string ⟨#[]⟩,.slice none 0 0]:=(h4.set 1 (.string n1));obtain⟨xc0,xf0,xc1,xf1,xc2,xf2,xc3,xf3,xc4,xf4,xc5,xf5,xc6,xf6⟩:=zcf h4.x;have H5:=zH h5;clear h5;go_upto_region 7 with fail;have h5:=H5.out;clear h4 H5;clear xc0 xf0 xc1 xf1 xc2 xf2 xc3 xf3 xc4 xf4 xc5 xf5 xc6 xf6;generalize (w4.setCell ⟨b1,1,none⟩ (.string n1))=W5 at *;obtain⟨xc0,xf0,xc1,xf1,xc2,xf2,xc3,xf3,xc4,xf4,xc5,xf5,xc6,xf6⟩:=zcf h5.x;go_wp2_with fail;clear xc0 xf0 xc1 xf1 xc2 xf2 xc3 xf3 xc4 xf4 xc5 xf5 xc6 xf6;have HC:=zH (Ze n2 32 W5 (by omega) (HW0.out.below h5.B).lb);have hsz:=Za n2 32;generalize (zg n2 32).1=v1 at *;generalize (zg n2 32).2=v2 at *;obtain⟨hsz1,hsz2⟩:=hsz;refine HC.out.mono ?_;rintro e w6 ⟨bb6,rfl,hb6⟩;have h6:=h5.step hb6;clear HC hb6;clear h5;have HV:=zH (Km v1 w6 (by omega) (HW0.out.below h6.B).lb);go_wp2_with fail;cases hv:xC v1 with
 |error k2 =>
  have HV2:Hid (zR 52 #[.string v1] w6 (.tuple #[.agg #[.int .i64 0,.int .i64 0,.int .i64 0],.iface 64 (.int .i64 k2)])):=by have h:=HV.out;rw[hv] at h;exact h
  have HVV:=zH hv;clear HV hv;refine HV2.out.mono ?_;rintro e w7 ⟨rfl,hb7⟩;have h7:=h6.step hb7;clear h6 hb7 HV2;have hS:LS w (((w7.setCell ⟨b1,2,none⟩ (.int .i64 0)).setCell ⟨b1,3,none⟩ (.int .i64 0)).setCell ⟨b1,4,none⟩ (.int .i64 0)) b1 #[.int .i64 K,.string n1,.int .i64 0,.int .i64 0,.int .i64 0,.string ⟨#[]⟩,.slice none 0 0]:=(((h7.set 2 (.int .i64 0)).set 3 (.int .i64 0)).set 4 (.int .i64 0));obtain⟨xc0,xf0,xc1,xf1,xc2,xf2,xc3,xf3,xc4,xf4,xc5,xf5,xc6,xf6⟩:=zcf h7.x;have HS:=zH hS;clear hS;go_upto_region 11 with fail;have hS:=HS.out;clear h7;clear xc0 xf0 xc1 xf1 xc2 xf2 xc3 xf3 xc4 xf4 xc5 xf5 xc6 xf6;generalize (((w7.setCell ⟨b1,2,none⟩ (.int .i64 0)).setCell ⟨b1,3,none⟩ (.int .i64 0)).setCell ⟨b1,4,none⟩ (.int .i64 0))=W9 at *;obtain⟨zc0,zf0,zc1,zf1,zc2,zf2,zc3,zf3,zc4,zf4,zc5,zf5,zc6,zf6⟩:=zcf hS.z;have HZ:Hid (Blk (((((((W9.setCell ⟨w.heap.size,0,none⟩ (.int .i64 0)).setCell ⟨w.heap.size,1,none⟩ (.string ⟨#[]⟩)).setCell ⟨w.heap.size,2,none⟩ (.int .i64 0)).setCell ⟨w.heap.size,3,none⟩ (.int .i64 0)).setCell ⟨w.heap.size,4,none⟩ (.int .i64 0)).setCell ⟨w.heap.size,5,none⟩ (.string ⟨#[]⟩)).setCell ⟨w.heap.size,6,none⟩ (.slice none 0 0)) w.heap.size 38 #[.int .i64 0,.string ⟨#[]⟩,.int .i64 0,.int .i64 0,.int .i64 0,.string ⟨#[]⟩,.slice none 0 0]):=by
   have h:=hS.z;exact(((((((h.set (i:=0) (v:=.int .i64 0)).set (i:=1) (v:=.string ⟨#[]⟩)).set (i:=2) (v:=.int .i64 0)).set (i:=3) (v:=.int .i64 0)).set (i:=4) (v:=.int .i64 0)).set (i:=5) (v:=.string ⟨#[]⟩)).set (i:=6) (v:=.slice none 0 0))
  have HB:Hid (zB w (((((((W9.setCell ⟨w.heap.size,0,none⟩ (.int .i64 0)).setCell ⟨w.heap.size,1,none⟩ (.string ⟨#[]⟩)).setCell ⟨w.heap.size,2,none⟩ (.int .i64 0)).setCell ⟨w.heap.size,3,none⟩ (.int .i64 0)).setCell ⟨w.heap.size,4,none⟩ (.int .i64 0)).setCell ⟨w.heap.size,5,none⟩ (.string ⟨#[]⟩)).setCell ⟨w.heap.size,6,none⟩ (.slice none 0 0))):=(((((((hS.B.setCell (p:=⟨w.heap.size,0,none⟩) zN _).setCell (p:=⟨w.heap.size,1,none⟩) zN _).setCell (p:=⟨w.heap.size,2,none⟩) zN _).setCell (p:=⟨w.heap.size,3,none⟩) zN _).setCell (p:=⟨w.heap.size,4,none⟩) zN _).setCell (p:=⟨w.heap.size,5,none⟩) zN _).setCell (p:=⟨w.heap.size,6,none⟩) zN _);clear hS;go_wp2;generalize (((((((W9.setCell ⟨w.heap.size,0,none⟩ (.int .i64 0)).setCell ⟨w.heap.size,1,none⟩ (.string ⟨#[]⟩)).setCell ⟨w.heap.size,2,none⟩ (.int .i64 0)).setCell ⟨w.heap.size,3,none⟩ (.int .i64 0)).setCell ⟨w.heap.size,4,none⟩ (.int .i64 0)).setCell ⟨w.heap.size,5,none⟩ (.string ⟨#[]⟩)).setCell ⟨w.heap.size,6,none⟩ (.slice none 0 0))=WF at *;have r0:_=some (Value.int .i64 0):=HZ.out.cell 0;have r1:_=some (Value.string ⟨#[]⟩):=HZ.out.cell 1;have r2:_=some (Value.int .i64 0):=HZ.out.cell 2;have r3:_=some (Value.int .i64 0):=HZ.out.cell 3;have r4:_=some (Value.int .i64 0):=HZ.out.cell 4;have r5:_=some (Value.string ⟨#[]⟩):=HZ.out.cell 5;have r6:_=some (Value.slice none 0 0):=HZ.out.cell 6;refine bodyPost_ret (v:=.tuple #[.agg #[.int .i64 0,.string ⟨#[]⟩,.int .i64 0,.int .i64 0,.int .i64 0,.string ⟨#[]⟩,.slice none 0 0],.iface 64 (.int .i64 k2)]) (by simp[results,Tryz.f25,go_sem,r0,r1,r2,r3,r4,r5,r6]) rfl ?_;have ht:R=.error (k2,none):=by rw[HR0.out,HVV.out]
  rw[ht];exact⟨_,rfl,rfl,HB.out⟩
 |ok ns =>
  obtain⟨a0,ha0⟩:∃a0:Int,((ns.getD 0 0:Nat):Int)=a0:=⟨_,rfl⟩;obtain⟨a1,ha1⟩:∃a1:Int,((ns.getD 1 0:Nat):Int)=a1:=⟨_,rfl⟩;obtain⟨a2,ha2⟩:∃a2:Int,((ns.getD 2 0:Nat):Int)=a2:=⟨_,rfl⟩;have HV2:Hid (zR 52 #[.string v1] w6 (.tuple #[.agg #[.int .i64 a0,.int .i64 a1,.int .i64 a2],.nilIface])):=by have h:=HV.out;rw[hv] at h;subst ha0 ha1 ha2;exact h
  have HA0:=zH ha0;have HA1:=zH ha1;have HA2:=zH ha2;have HVV:=zH hv;clear HV ha0 ha1 ha2 hv;refine HV2.out.mono ?_;rintro e w7 ⟨rfl,hb7⟩;have h7:=h6.step hb7;clear h6 hb7 HV2;have h8:LS w (((w7.setCell ⟨b1,2,none⟩ (.int .i64 a0)).setCell ⟨b1,3,none⟩ (.int .i64 a1)).setCell ⟨b1,4,none⟩ (.int .i64 a2)) b1 #[.int .i64 K,.string n1,.int .i64 a0,.int .i64 a1,.int .i64 a2,.string ⟨#[]⟩,.slice none 0 0]:=(((h7.set 2 (.int .i64 a0)).set 3 (.int .i64 a1)).set 4 (.int .i64 a2));obtain⟨xc0,xf0,xc1,xf1,xc2,xf2,xc3,xf3,xc4,xf4,xc5,xf5,xc6,xf6⟩:=zcf h7.x;have H8:=zH h8;clear h8;go_upto_region 12 with fail;have h8:=H8.out;clear h7 H8;clear xc0 xf0 xc1 xf1 xc2 xf2 xc3 xf3 xc4 xf4 xc5 xf5 xc6 xf6;generalize (((w7.setCell ⟨b1,2,none⟩ (.int .i64 a0)).setCell ⟨b1,3,none⟩ (.int .i64 a1)).setCell ⟨b1,4,none⟩ (.int .i64 a2))=W8 at *;obtain⟨xc0,xf0,xc1,xf1,xc2,xf2,xc3,xf3,xc4,xf4,xc5,xf5,xc6,xf6⟩:=zcf h8.x;go_wp2_with fail;clear xc0 xf0 xc1 xf1 xc2 xf2 xc3 xf3 xc4 xf4 xc5 xf5 xc6 xf6;have HP:Hid (zC 53 #[.agg #[.int .i64 K,.string n1,.int .i64 a0,.int .i64 a1,.int .i64 a2,.string ⟨#[]⟩,.slice none 0 0]] W8 fun e w'=>e=.returned (.bool true)/\w'=W8.alloc (.cells #[.int .i64 K,.string n1,.int .i64 a0,.int .i64 a1,.int .i64 a2,.string ⟨#[]⟩,.slice none 0 0] 38)):=(ye ⟨(K:Int),n1,a0,a1,a2,⟨#[]⟩,[]⟩ (.slice none 0 0) W8).mono fun e w' ⟨he,hw'⟩=>⟨by rw[he,decide_eq_true (show Ln.pair ⟨(K:Int),n1,a0,a1,a2,⟨#[]⟩,[]⟩ by rcases HKK.out with h|h<;>simp[Ln.pair,h])],hw'⟩
  refine HP.out.mono ?_;rintro e w9 ⟨rfl,hw9⟩;have hb9:zB W8 w9:=by rw[hw9];exact zF.alloc zN _
  have h9:=h8.step hb9;clear HP hw9 hb9 h8;go_wp2_with fail;have HC:=zH (Ze v2 32 w9 (by omega) (HW0.out.below h9.B).lb);have hsz:=Za v2 32;generalize (zg v2 32).1=o1 at *;generalize (zg v2 32).2=o2 at *;obtain⟨hsz1,hsz2⟩:=hsz;refine HC.out.mono ?_;rintro e w10 ⟨bb10,rfl,hb10⟩;have h10:=h9.step hb10;clear HC hb10;have h11:LS w (w10.setCell ⟨b1,5,none⟩ (.string o1)) b1 #[.int .i64 K,.string n1,.int .i64 a0,.int .i64 a1,.int .i64 a2,.string o1,.slice none 0 0]:=(h10.set 5 (.string o1));obtain⟨xc0,xf0,xc1,xf1,xc2,xf2,xc3,xf3,xc4,xf4,xc5,xf5,xc6,xf6⟩:=zcf h10.x;have H11:=zH h11;clear h11 h9;go_upto_region 18 with fail;have h11:=H11.out;clear h10 H11;clear xc0 xf0 xc1 xf1 xc2 xf2 xc3 xf3 xc4 xf4 xc5 xf5 xc6 xf6;generalize (w10.setCell ⟨b1,5,none⟩ (.string o1))=W11 at *;go_wp2_with fail;have HR:=zH (zfc o2 W11 (by omega) (HW0.out.below h11.B).lb);refine HR.out.mono ?_;rintro e w12 ⟨ra,rn,rc,er,rfl,hres,hown,hb12⟩;have h12:=h11.step hb12;have hwn:=h11.B.size;have hxl:=h11.x.lt;have hzl:=h11.z.lt;have HNX:Hid ((Value.slice ra rn rc).ownBlock≠some b1):=fun h=>by have:=hown _ h;omega
  have HNZ:Hid ((Value.slice ra rn rc).ownBlock≠some w.heap.size):=fun h=>by have:=hown _ h;omega
  have hown2:Hid (∀g,(Value.slice ra rn rc).ownBlock=some g->w.heap.size<=g):=fun g hg=>Nat.le_trans hwn (hown g hg);clear HR hb12 hown hwn hxl hzl;cases hx:Yy o2 with
  |error e2 =>
   obtain⟨k2,p2⟩:=e2;rw[hx] at hres;obtain⟨hsl,herr⟩:=hres;cases hsl;obtain⟨et,ev,rfl⟩:=herr.form;have hS:LS w (w12.setCell ⟨b1,6,none⟩ (.slice none 0 0)) b1 #[.int .i64 K,.string n1,.int .i64 a0,.int .i64 a1,.int .i64 a2,.string o1,.slice none 0 0]:=(h12.set 6 (.slice none 0 0));have HERR:=zH herr;clear herr;obtain⟨xc0,xf0,xc1,xf1,xc2,xf2,xc3,xf3,xc4,xf4,xc5,xf5,xc6,xf6⟩:=zcf h12.x;have HS:=zH hS;clear hS;go_upto_region 20 with fail;have hS:=HS.out;have HER2:Hid (qF (w12.setCell ⟨b1,6,none⟩ (.slice none 0 0)) (.iface et ev) k2 p2):=HERR.out.setx h12;clear h12 xc0 xf0 xc1 xf1 xc2 xf2 xc3 xf3 xc4 xf4 xc5 xf5 xc6 xf6;generalize (w12.setCell ⟨b1,6,none⟩ (.slice none 0 0))=W9 at *;obtain⟨zc0,zf0,zc1,zf1,zc2,zf2,zc3,zf3,zc4,zf4,zc5,zf5,zc6,zf6⟩:=zcf hS.z;have HE:Hid (qF (((((((W9.setCell ⟨w.heap.size,0,none⟩ (.int .i64 0)).setCell ⟨w.heap.size,1,none⟩ (.string ⟨#[]⟩)).setCell ⟨w.heap.size,2,none⟩ (.int .i64 0)).setCell ⟨w.heap.size,3,none⟩ (.int .i64 0)).setCell ⟨w.heap.size,4,none⟩ (.int .i64 0)).setCell ⟨w.heap.size,5,none⟩ (.string ⟨#[]⟩)).setCell ⟨w.heap.size,6,none⟩ (.slice none 0 0)) (.iface et ev) k2 p2):=HER2.out.setz hS;have HZ:Hid (Blk (((((((W9.setCell ⟨w.heap.size,0,none⟩ (.int .i64 0)).setCell ⟨w.heap.size,1,none⟩ (.string ⟨#[]⟩)).setCell ⟨w.heap.size,2,none⟩ (.int .i64 0)).setCell ⟨w.heap.size,3,none⟩ (.int .i64 0)).setCell ⟨w.heap.size,4,none⟩ (.int .i64 0)).setCell ⟨w.heap.size,5,none⟩ (.string ⟨#[]⟩)).setCell ⟨w.heap.size,6,none⟩ (.slice none 0 0)) w.heap.size 38 #[.int .i64 0,.string ⟨#[]⟩,.int .i64 0,.int .i64 0,.int .i64 0,.string ⟨#[]⟩,.slice none 0 0]):=by
    have h:=hS.z;exact(((((((h.set (i:=0) (v:=.int .i64 0)).set (i:=1) (v:=.string ⟨#[]⟩)).set (i:=2) (v:=.int .i64 0)).set (i:=3) (v:=.int .i64 0)).set (i:=4) (v:=.int .i64 0)).set (i:=5) (v:=.string ⟨#[]⟩)).set (i:=6) (v:=.slice none 0 0))
   have HB:Hid (zB w (((((((W9.setCell ⟨w.heap.size,0,none⟩ (.int .i64 0)).setCell ⟨w.heap.size,1,none⟩ (.string ⟨#[]⟩)).setCell ⟨w.heap.size,2,none⟩ (.int .i64 0)).setCell ⟨w.heap.size,3,none⟩ (.int .i64 0)).setCell ⟨w.heap.size,4,none⟩ (.int .i64 0)).setCell ⟨w.heap.size,5,none⟩ (.string ⟨#[]⟩)).setCell ⟨w.heap.size,6,none⟩ (.slice none 0 0))):=(((((((hS.B.setCell (p:=⟨w.heap.size,0,none⟩) zN _).setCell (p:=⟨w.heap.size,1,none⟩) zN _).setCell (p:=⟨w.heap.size,2,none⟩) zN _).setCell (p:=⟨w.heap.size,3,none⟩) zN _).setCell (p:=⟨w.heap.size,4,none⟩) zN _).setCell (p:=⟨w.heap.size,5,none⟩) zN _).setCell (p:=⟨w.heap.size,6,none⟩) zN _);clear hS;go_wp2;generalize (((((((W9.setCell ⟨w.heap.size,0,none⟩ (.int .i64 0)).setCell ⟨w.heap.size,1,none⟩ (.string ⟨#[]⟩)).setCell ⟨w.heap.size,2,none⟩ (.int .i64 0)).setCell ⟨w.heap.size,3,none⟩ (.int .i64 0)).setCell ⟨w.heap.size,4,none⟩ (.int .i64 0)).setCell ⟨w.heap.size,5,none⟩ (.string ⟨#[]⟩)).setCell ⟨w.heap.size,6,none⟩ (.slice none 0 0))=WF at *;have r0:_=some (Value.int .i64 0):=HZ.out.cell 0;have r1:_=some (Value.string ⟨#[]⟩):=HZ.out.cell 1;have r2:_=some (Value.int .i64 0):=HZ.out.cell 2;have r3:_=some (Value.int .i64 0):=HZ.out.cell 3;have r4:_=some (Value.int .i64 0):=HZ.out.cell 4;have r5:_=some (Value.string ⟨#[]⟩):=HZ.out.cell 5;have r6:_=some (Value.slice none 0 0):=HZ.out.cell 6;refine bodyPost_ret (v:=.tuple #[.agg #[.int .i64 0,.string ⟨#[]⟩,.int .i64 0,.int .i64 0,.int .i64 0,.string ⟨#[]⟩,.slice none 0 0],.iface et ev]) (by simp[results,Tryz.f25,go_sem,r0,r1,r2,r3,r4,r5,r6]) rfl ?_;have ht:R=.error (k2,p2):=by rw[HR0.out,HVV.out];show xI K n1 ns o1 o2=_;unfold xI;rw[hx]
   rw[ht];exact⟨_,rfl,HE.out,HB.out⟩
  |ok l =>
   rw[hx] at hres;obtain⟨rfl,hsp,hrg⟩:=hres;have hS:LS w (w12.setCell ⟨b1,6,none⟩ (.slice ra rn rc)) b1 #[.int .i64 K,.string n1,.int .i64 a0,.int .i64 a1,.int .i64 a2,.string o1,.slice ra rn rc]:=(h12.set 6 (.slice ra rn rc));obtain⟨xc0,xf0,xc1,xf1,xc2,xf2,xc3,xf3,xc4,xf4,xc5,xf5,xc6,xf6⟩:=zcf h12.x;have HS:=zH hS;have HSP:Hid (zi (w12.setCell ⟨b1,6,none⟩ (.slice ra rn rc)) (.slice ra rn rc) l):=hsp.one HNX.out;have HRG:=zH hrg;clear hS hsp hrg;go_upto_region 21 with fail;have hS:=HS.out;clear h12 xc0 xf0 xc1 xf1 xc2 xf2 xc3 xf3 xc4 xf4 xc5 xf5 xc6 xf6;generalize (w12.setCell ⟨b1,6,none⟩ (.slice ra rn rc))=W9 at *;obtain⟨zc0,zf0,zc1,zf1,zc2,zf2,zc3,zf3,zc4,zf4,zc5,zf5,zc6,zf6⟩:=zcf hS.z;obtain⟨xc0,xf0,xc1,xf1,xc2,xf2,xc3,xf3,xc4,xf4,xc5,xf5,xc6,xf6⟩:=zcf hS.x;have HSP2:Hid (zi (((((((W9.setCell ⟨w.heap.size,0,none⟩ (.int .i64 K)).setCell ⟨w.heap.size,1,none⟩ (.string n1)).setCell ⟨w.heap.size,2,none⟩ (.int .i64 a0)).setCell ⟨w.heap.size,3,none⟩ (.int .i64 a1)).setCell ⟨w.heap.size,4,none⟩ (.int .i64 a2)).setCell ⟨w.heap.size,5,none⟩ (.string o1)).setCell ⟨w.heap.size,6,none⟩ (.slice ra rn rc)) (.slice ra rn rc) l):=HSP.out.all7 HNZ.out;have hbz:=hS.ne;have HZ:Hid (Blk (((((((W9.setCell ⟨w.heap.size,0,none⟩ (.int .i64 K)).setCell ⟨w.heap.size,1,none⟩ (.string n1)).setCell ⟨w.heap.size,2,none⟩ (.int .i64 a0)).setCell ⟨w.heap.size,3,none⟩ (.int .i64 a1)).setCell ⟨w.heap.size,4,none⟩ (.int .i64 a2)).setCell ⟨w.heap.size,5,none⟩ (.string o1)).setCell ⟨w.heap.size,6,none⟩ (.slice ra rn rc)) w.heap.size 38 #[.int .i64 K,.string n1,.int .i64 a0,.int .i64 a1,.int .i64 a2,.string o1,.slice ra rn rc]):=by
    have h:=hS.z;exact(((((((h.set (i:=0) (v:=.int .i64 K)).set (i:=1) (v:=.string n1)).set (i:=2) (v:=.int .i64 a0)).set (i:=3) (v:=.int .i64 a1)).set (i:=4) (v:=.int .i64 a2)).set (i:=5) (v:=.string o1)).set (i:=6) (v:=.slice ra rn rc))
   have HB:Hid (zB w (((((((W9.setCell ⟨w.heap.size,0,none⟩ (.int .i64 K)).setCell ⟨w.heap.size,1,none⟩ (.string n1)).setCell ⟨w.heap.size,2,none⟩ (.int .i64 a0)).setCell ⟨w.heap.size,3,none⟩ (.int .i64 a1)).setCell ⟨w.heap.size,4,none⟩ (.int .i64 a2)).setCell ⟨w.heap.size,5,none⟩ (.string o1)).setCell ⟨w.heap.size,6,none⟩ (.slice ra rn rc))):=(((((((hS.B.setCell (p:=⟨w.heap.size,0,none⟩) zN _).setCell (p:=⟨w.heap.size,1,none⟩) zN _).setCell (p:=⟨w.heap.size,2,none⟩) zN _).setCell (p:=⟨w.heap.size,3,none⟩) zN _).setCell (p:=⟨w.heap.size,4,none⟩) zN _).setCell (p:=⟨w.heap.size,5,none⟩) zN _).setCell (p:=⟨w.heap.size,6,none⟩) zN _);clear hS;go_wp2;generalize (((((((W9.setCell ⟨w.heap.size,0,none⟩ (.int .i64 K)).setCell ⟨w.heap.size,1,none⟩ (.string n1)).setCell ⟨w.heap.size,2,none⟩ (.int .i64 a0)).setCell ⟨w.heap.size,3,none⟩ (.int .i64 a1)).setCell ⟨w.heap.size,4,none⟩ (.int .i64 a2)).setCell ⟨w.heap.size,5,none⟩ (.string o1)).setCell ⟨w.heap.size,6,none⟩ (.slice ra rn rc))=WF at *;have r0:_=some (Value.int .i64 K):=HZ.out.cell 0;have r1:_=some (Value.string n1):=HZ.out.cell 1;have r2:_=some (Value.int .i64 a0):=HZ.out.cell 2;have r3:_=some (Value.int .i64 a1):=HZ.out.cell 3;have r4:_=some (Value.int .i64 a2):=HZ.out.cell 4;have r5:_=some (Value.string o1):=HZ.out.cell 5;have r6:_=some (Value.slice ra rn rc):=HZ.out.cell 6;refine bodyPost_ret (v:=.tuple #[.agg #[.int .i64 K,.string n1,.int .i64 a0,.int .i64 a1,.int .i64 a2,.string o1,.slice ra rn rc],.nilIface]) (by simp[results,Tryz.f25,go_sem,r0,r1,r2,r3,r4,r5,r6]) rfl ?_;have ht:R=.ok ⟨(K:Int),n1,a0,a1,a2,o1,l⟩:=by rw[HR0.out,HVV.out];show xI K n1 ns o1 o2=_;unfold xI;rw[hx,<-HA0.out,<-HA1.out,<-HA2.out]
   rw[ht];exact⟨_,rfl,HSP2.out,HRG.out,hown2.out,HB.out⟩
end
section
open Go.RowKit Sv
theorem zgm(s:ByteArray)(w:World)(hs:s.size<=100000)(hw:Lw w):zC 25 #[.string s] w (Y0 w (Qp s)):=by
 have h4:=znM (zg s 32).1;have h:qI (zg s 32).1=0\/qI (zg s 32).1=1\/qI (zg s 32).1=2\/qI (zg s 32).1=3\/qI (zg s 32).1=4:=by omega
 unfold Qp;rcases h with h|h|h|h|h
 ·rw[if_pos h];exact zkz s w hs hw h
 ·rw[h,if_neg (by omega),if_neg (by omega)];exact zjt s w hs hw h _ rfl
 ·rw[h,if_neg (by omega),if_neg (by omega)];exact zbg 2 (Or.inl rfl) s w hs hw h _ rfl
 ·rw[h,if_neg (by omega),if_neg (by omega)];exact zbg 3 (Or.inr rfl) s w hs hw h _ rfl
 ·rw[h,if_neg (by omega),if_pos rfl];exact zgV s w hs hw h
end
section
open Go.RowKit Go.Maps
theorem Ky{x:Int}(h:I64 x):(Lit.int .i64 x).wf=true:=by
 obtain⟨h0,h1⟩:=h;simp[Lit.wf,IntKind.min,IntKind.max,IntKind.signed,IntKind.bits];omega
structure Rep{α β:Type}(ok:α->Prop)(kl:α->Lit)(el:β->DataW Unit)(D:DataW Unit)(L:List (α × β)):Prop where
 tidy:Tidy D
 size:Maps.size D=L.length
 oks:∀p∈L,ok p.1
 has:∀a,ok a->(Maps.has D (kl a)=true↔a∈L.map Prod.fst)
 all:∀x,Maps.has D x=true->∃p∈L,x=kl p.1
 at':∀p∈L,∀z,D.atKey (kl p.1) z=el p.2
 nodup:(L.map Prod.fst).Nodup
section
variable {α β:Type} {ok:α->Prop} {kl:α->Lit} {el:β->DataW Unit} {D:DataW Unit} {L:List (α × β)}
theorem Rep.empty:Rep ok kl el (.map []) ([]:List (α × β)) :=
 ⟨tidy_empty,rfl,fun p h=>(by cases h),fun a _=>(by simp[Maps.has]),fun x h=>(by simp[Maps.has] at h),fun p h=>(by cases h),List.nodup_nil⟩
theorem Rep.not(h:Rep ok kl el D L){a:α}(ha:ok a)(hn:a∉L.map Prod.fst):Maps.has D (kl a)=false:=by
 cases e:Maps.has D (kl a) with
 |false=>rfl
 |true=>exact absurd ((h.has a ha).1 e) hn
theorem Rep.put(h:Rep ok kl el D L)(inj:∀a b,ok a->ok b->kl a=kl b->a=b)(key:∀a,WideAt.IsKeyLit (kl a)){a:α}(ha:ok a)(hn:a∉L.map Prod.fst)(b:β) :
  Rep ok kl el (D.put (kl a) (el b)) (L++[(a,b)]):=by
 have hne:∀c,ok c->c≠a->kl c≠kl a:=fun c hc hca e=>hca (inj c a hc ha e);refine⟨h.tidy.put (key a) _,?_,?_,?_,?_,?_,?_⟩
 ·rw[size_put h.tidy,h.not ha hn];simp[h.size]
 ·intro p hp;rcases List.mem_append.1 hp with hp|hp
  ·exact h.oks p hp
  ·rw[List.mem_singleton] at hp;subst hp;exact ha
 ·intro c hc;rw[List.map_append,List.mem_append]
  by_cases e:c=a
  ·subst e;simp[has_put_same h.tidy.isMap (key c)]
  ·rw[has_put_other (hne c hc e)];simp[h.has c hc,e]
 ·intro x hx
  by_cases e:x=kl a
  ·exact⟨(a,b),by simp,e⟩
  ·rw[has_put_other e] at hx;obtain⟨p,hp,hx⟩:=h.all x hx;exact⟨p,by simp[hp],hx⟩
 ·intro p hp z;rcases List.mem_append.1 hp with hp|hp
  ·rw[atKey_put_other (hne p.1 (h.oks p hp) (fun e=>hn (e▸List.mem_map_of_mem hp)))];exact h.at' p hp z
  ·rw[List.mem_singleton] at hp;subst hp;exact atKey_put_same h.tidy.isMap (key a) _ _
 ·rw[List.map_append,List.nodup_append];refine⟨h.nodup,by simp,fun x hx y hy=>?_⟩;simp at hy;subst hy;exact fun e=>hn (e▸hx)
end
theorem Qt{P:Program}{k:TypeId}{R:Value->Option (DataW Unit × List MemPlace)}{w:World}{b n:Nat}{D:DataW Unit}(h:w.ownsMap P k R b n D):w.ownsMap P k R b (Maps.size D) D:=by
 obtain⟨es,clock,h1,h2,h3,rfl⟩:=h;exact⟨es,clock,h1,h2,by simp[Maps.size,length_sorted],rfl⟩
theorem zd4{P:Program}{k:TypeId}{R:Value->Option (DataW Unit × List MemPlace)}{w w':World}{bm n:Nat}{D:DataW Unit}(h:w.ownsMap P k R bm n D)(hb:zB w w'):w'.ownsMap P k R bm n D:=by
 have hlt:=h.lt;obtain⟨es,clock,h1,h2⟩:=h;exact⟨es,clock,(hb.block bm hlt).trans h1,h2⟩
end
section
open Go.RowKit Go.Maps
theorem Xo:Keyed Tryz.prog 9:=string_keyed Tryz.underlying9
theorem Xz{s:ByteArray}(h:s.size<=100000):keyOf Tryz.prog 9 (.string s)=some (.string s.data.toList):=WideMaps.keyOf_string_mk Tryz.underlying9 (by unfold maxLen;omega)
def Qf(s:ByteArray):Lit:=.string s.data.toList
theorem K7(s:ByteArray):WideAt.IsKeyLit (Qf s):=trivial
theorem zez{a b:ByteArray}(h:Qf a=Qf b):a=b:=by
 unfold Qf at h;injection h with h;exact ByteArray.ext (Array.toList_inj.1 h)
structure ZD{β:Type}(el:β->DataW Unit)(D:DataW Unit)(f:ByteArray->Option β)(n:Nat):Prop where
 tidy:Tidy D
 size:Maps.size D=n
 has:∀a,Maps.has D (Qf a)=(f a).isSome
 at':∀a b,f a=some b->∀z,D.atKey (Qf a) z=el b
section
variable {β:Type} {el:β->DataW Unit} {D:DataW Unit} {f:ByteArray->Option β} {n:Nat}
theorem ZD.empty:ZD el (.map []) (fun _=>(none:Option β)) 0:=⟨tidy_empty,rfl,fun a=>by simp[Maps.has],fun a b h=>by cases h⟩
theorem ZD.put(h:ZD el D f n)(a:ByteArray)(b:β):ZD el (D.put (Qf a) (el b)) (fun c=>if c=a then some b else f c) (if (f a).isSome then n else n+1):=by
 refine⟨h.tidy.put (K7 a) _,?_,fun c=>?_,fun c d hd z=>?_⟩
 ·rw[size_put h.tidy,h.has,h.size]
 ·by_cases e:c=a
  ·subst e;rw[has_put_same h.tidy.isMap (K7 c)];simp
  ·rw[has_put_other (fun e'=>e (zez e')),h.has,if_neg e]
 ·by_cases e:c=a
  ·subst e;rw[if_pos rfl] at hd;cases hd;exact atKey_put_same h.tidy.isMap (K7 c) _ _
  ·rw[if_neg e] at hd;rw[atKey_put_other (fun e'=>e (zez e'))];exact h.at' c d hd z
end
def Qy(r:Nat × Nat):DataW Unit:=.agg [.lit (.int .i64 r.1),.lit (.int .i64 r.2)]
def Qg(r:Nat × Nat):Value:=.agg #[.int .i64 r.1,.int .i64 r.2]
def zbK:List Value->Option (DataW Unit × List MemPlace)
 |[.int .i64 a,.int .i64 b]=>some (.agg [.lit (.int .i64 a),.lit (.int .i64 b)],[])
 |_=>none
def YR:Value->Option (DataW Unit × List MemPlace)
 |.agg cs=>zbK cs.toList
 |_=>none
theorem zaZ(r:Nat × Nat):YR (Qg r)=some (Qy r,[]):=rfl
theorem zbx{v:Value}{r:Nat × Nat}{ps:List MemPlace}(h:YR v=some (Qy r,ps)):v=Qg r:=by
 unfold YR at h;split at h
 ·rename_i cs;unfold zbK at h;split at h
  ·rename_i a b e;simp only[Option.some.injEq,Prod.mk.injEq,Qy,DataW.agg.injEq,List.cons.injEq,DataW.lit.injEq,Lit.int.injEq,true_and,and_true] at h;obtain⟨⟨h1,h2⟩,-⟩:=h;rw[show cs=#[.int .i64 a,.int .i64 b] from Array.toList_inj.1 e,h1,h2];rfl
  ·cases h
 ·cases h
theorem zcU(w:World):(zeroValue 132).run Tryz.prog w=.ok (.agg #[.int .i64 0,.int .i64 0]) w:=by kernel_rfl
def qv(w:World)(bm:Nat)(f:ByteArray->Option (Nat × Nat))(N:Nat):Prop:=∃D n,w.ownsMap Tryz.prog 9 YR bm n D/\ZD Qy D f n/\n<=N
theorem qv.below{B:Nat}{w w':World}{bm N:Nat}{f:ByteArray->Option (Nat × Nat)}(h:qv w bm f N)(hb:Below B w w')(hB:w.heap.size<=B):qv w' bm f N:=by
 obtain⟨D,n,h1,h2,h3⟩:=h;exact⟨D,n,zd4 h1 (hb.mono hB),h2,h3⟩
theorem qv.lt{w:World}{bm N:Nat}{f:ByteArray->Option (Nat × Nat)}(h:qv w bm f N):bm<w.heap.size:=by obtain⟨D,n,h1,_⟩:=h;exact h1.lt
theorem qv.block{w w':World}{bm N:Nat}{f:ByteArray->Option (Nat × Nat)}(h:qv w bm f N)(hb:w'.heap[bm]?=w.heap[bm]?):qv w' bm f N:=by
 obtain⟨D,n,⟨es,clock,h1,h2⟩,hR⟩:=h;exact⟨D,n,⟨es,clock,hb.trans h1,h2⟩,hR⟩
theorem qv.made(w:World):qv (w.alloc (.map #[] 0)) w.heap.size (fun _=>none) 0:=⟨.map [],0,World.ownsMap_made w _ _ _,ZD.empty,Nat.le_refl _⟩
theorem qv.ne{w:World}{bm N b:Nat}{f:ByteArray->Option (Nat × Nat)}{t:TypeId}{cs:Array Value}(h:qv w bm f N)(hb:Blk w b t cs):bm≠b:=by
 rintro rfl;obtain⟨D,n,⟨es,clock,h1,_⟩,_⟩:=h;have:=h1.symm.trans hb;cases this
theorem qv.look{w:World}{bm N:Nat}{f:ByteArray->Option (Nat × Nat)}(h:qv w bm f N){s:ByteArray}(hs:s.size<=100000) :
  (Instr.lookup 57 (.map (some bm)) (.string s) true).run Tryz.prog w=.ok (.tuple #[Qg ((f s).getD (0,0)),.bool (f s).isSome]) w/\(Instr.lookup 57 (.map (some bm)) (.string s) false).run Tryz.prog w=.ok (Qg ((f s).getD (0,0))) w:=by
 obtain⟨D,n,hD,hR,-⟩:=h;have key:∀v ps,YR v=some (D.atKey (.string s.data.toList) (Qy (0,0)),ps)->v=Qg ((f s).getD (0,0)):=fun v ps hv=>by
  cases hf:f s with
  |none =>have hh:=hR.has s;rw[hf] at hh;rw[atKey_of_not_has (show Maps.has D (.string s.data.toList)=false from hh)] at hv;exact zbx hv
  |some r =>rw[show D.atKey (.string s.data.toList) (Qy (0,0))=Qy r from hR.at' s r hf _] at hv;exact zbx hv
 constructor
 ·obtain⟨v,ps,hrun,hv⟩:=hD.look_ok Xo Tryz.underlying57 (zcU w) (zaZ (0,0)) (Xz hs);rw[key v ps hv,show Maps.has D (.string s.data.toList)=(f s).isSome from hR.has s] at hrun;exact hrun
 ·obtain⟨v,ps,hrun,hv⟩:=hD.lookup Xo Tryz.underlying57 (zcU w) (zaZ (0,0)) (Xz hs);rw[key v ps hv] at hrun;exact hrun
theorem qv.put{w:World}{bm N:Nat}{f:ByteArray->Option (Nat × Nat)}(h:qv w bm f N){s:ByteArray}(hs:s.size<=100000)(r:Nat × Nat)(hN:N<1000000) :
  ∃w',(Instr.mapUpdate 57 (.map (some bm)) (.string s) (Qg r)).run Tryz.prog w=.ok () w'/\qv w' bm (fun c=>if c=s then some r else f c) (N+1)/\w.grownBy w' (some bm):=by
 obtain⟨D,n,hD,hR,hn⟩:=h;obtain⟨w',hrun,g1,k1⟩:=hD.update Xo Tryz.underlying57 (by unfold maxLen;omega) (Xz hs) (zaZ r);have hR1:=hR.put s r;exact⟨w',hrun,⟨_,_,hR1.size▸Qt g1,hR1,by split<;>omega⟩,k1⟩
theorem znl(l:List It)(x:It):qX (l++[x])=if x.name∈l.map It.name then qX l else qX l+1:=by
 unfold qX;rw[List.map_append,List.eraseDups_append,List.length_append,List.map_cons,List.map_nil]
 by_cases h:x.name∈l.map It.name
 ·rw[if_pos h,show [x.name].removeAll (l.map It.name)=[] by simp only[List.removeAll,List.filter_cons,List.filter_nil,List.elem_eq_mem,h,decide_true,Bool.not_true,Bool.false_eq_true,if_false]];rfl
 ·rw[if_neg h,show [x.name].removeAll (l.map It.name)=[x.name] by simp only[List.removeAll,List.filter_cons,List.filter_nil,List.elem_eq_mem,h,decide_false,Bool.not_false,if_true]];rfl
theorem znu(l:List It):qX l<=l.length:=by
 unfold qX;have:∀m:List ByteArray,m.eraseDups.length<=m.length:=by
  intro m
  induction h:m.length using Nat.strongRecOn generalizing m with
  |_ n ih =>
   cases m with
   |nil=>simp
   |cons a m =>rw[List.eraseDups_cons];have h1:=List.length_filter_le (fun b=>!(b==a)) m;have:=ih (m.filter fun b=>!(b==a)).length (by rw[<-h];simp only[List.length_cons];omega) _ rfl;simp only[List.length_cons] at h ⊢;omega
 simpa using this (l.map It.name)
def QT(l:List It)(c:ByteArray):Option Unit:=if c∈l.map It.name then some () else none
def yD(w:World)(bm:Nat)(l:List It):Prop:=∃D,w.ownsMap Tryz.prog 9 unitElem bm (qX l) D/\ZD (fun _:Unit=>.agg []) D (QT l) (qX l)
theorem yD.made(w:World):yD (w.alloc (.map #[] 0)) w.heap.size []:=⟨.map [],World.ownsMap_made w _ _ _,ZD.empty⟩
theorem yD.below{B:Nat}{w w':World}{bm:Nat}{l:List It}(h:yD w bm l)(hb:Below B w w')(hB:w.heap.size<=B):yD w' bm l:=by
 obtain⟨D,h1,h2⟩:=h;exact⟨D,zd4 h1 (hb.mono hB),h2⟩
theorem yD.lt{w:World}{bm:Nat}{l:List It}(h:yD w bm l):bm<w.heap.size:=by obtain⟨D,h1,_⟩:=h;exact h1.lt
theorem yD.block{w w':World}{bm:Nat}{l:List It}(h:yD w bm l)(hb:w'.heap[bm]?=w.heap[bm]?):yD w' bm l:=by
 obtain⟨D,⟨es,clock,h1,h2⟩,hR⟩:=h;exact⟨D,⟨es,clock,hb.trans h1,h2⟩,hR⟩
theorem yD.put{w:World}{bm:Nat}{l:List It}(h:yD w bm l)(hl:l.length<1000000){x:It}(hs:x.name.size<=100000) :
  ∃w',(Instr.mapUpdate 188 (.map (some bm)) (.string x.name) (.agg #[])).run Tryz.prog w=.ok () w'/\yD w' bm (l++[x])/\w.grownBy w' (some bm):=by
 obtain⟨D,hD,hR⟩:=h;have hle:=znu l;obtain⟨w',hrun,g1,k1⟩:=hD.update Xo Tryz.underlying188 (by unfold maxLen;omega) (Xz hs) unitElem_mk;have hR1:=hR.put x.name ();have e1:(fun c=>if c=x.name then some () else QT l c)=QT (l++[x]):=by
  funext c;unfold QT
  by_cases h:c=x.name
  ·simp[h]
  ·simp[h]
 have e2:(if (QT l x.name).isSome then qX l else qX l+1)=qX (l++[x]):=by
  rw[znl];unfold QT
  by_cases h:x.name∈l.map It.name
  ·rw[if_pos h,if_pos h];rfl
  ·rw[if_neg h,if_neg h];rfl
 rw[e1,e2] at hR1;exact⟨w',hrun,⟨_,hR1.size▸Qt g1,hR1⟩,k1⟩
theorem yD.len{w:World}{bm:Nat}{l:List It}(h:yD w bm l)(ty:TypeId):(Builtin.len_ #[188] ty #[.map (some bm)]).run Tryz.prog w=.ok (.int .i64 (qX l)) w:=by
 obtain⟨D,hD,hR⟩:=h;rw[hD.len Tryz.underlying188 ty,hR.size]
end
end Go.Proofs.YtapobpgbcbplbaaGreatDoor
