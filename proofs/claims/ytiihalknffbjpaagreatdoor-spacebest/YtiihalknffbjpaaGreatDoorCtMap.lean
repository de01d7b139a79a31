/- Maps by names. -/
import Derived.Test.YtiihalknffbjpaaGreatDoorCtLineB
set_option maxHeartbeats 2000000
set_option maxRecDepth 100000
namespace Go.Proofs.YtiihalknffbjpaaGreatDoor
section
open Go.RowKit Go.Shelf Sv
theorem zps(s:ByteArray)(w:World)(hs:s.size<=100000)(hw:Lw w)(hk:za8 (zas s 32).1=1)(R:Except (Int × Option Nat) Ln)(hR:R=match zce (zas (zas (zas s 32).2 32).2 32).1 with|.error e=>.error (e,none)|.ok ns=>if (zas (zas (zas s 32).2 32).2 32).2.size=0 then .ok ⟨1,(zas (zas s 32).2 32).1,((ns.getD 0 0:Nat):Int),((ns.getD 1 0:Nat):Int),((ns.getD 2 0:Nat):Int),⟨#[]⟩,[]⟩ else .error (3,none)) :
  zC 57 #[.string s] w (zqW w R):=by
 have k0:=Blk.new w 130 z7;have hb0:zB w (w.alloc (.cells z7 130)):=(Below.refl _ w).alloc zN _;have HC:=zH (zfn s 32 (w.alloc (.cells z7 130)) hs (hw.below hb0).lb);have HW:=zH (hw.below hb0);have HK:Hid (∀W,zds W->zC 133 #[.string (zas s 32).1] W fun e w'=>e=.returned (.int .i64 1)/\w'=W):=fun W h=>by have:=ziz (zas s 32).1 W h;rw[hk] at this;exact this
 have hs2:=(zaJ s 32).2;generalize (zas s 32).1=s1 at *;generalize (zas s 32).2=s2 at *;have hs2':s2.size<=100000:=by omega
 have HW0:=zH hw;clear hk hs hs2 hw;have HR0:=zH hR;clear hR;go_enter Tryz.func57,Tryz.ntmps57;go_wp2_with fail;generalize w.alloc (.cells z7 130)=W0 at *;refine HC.out.mono ?_;rintro e wC ⟨b,rfl,hb⟩;have HKC:=zH (HK.out wC (HW.out.below hb).wd);have k1:=k0.below hb k0.lt;have hB:zB w wC:=zT hb0 hb;have hlt:=k1.lt;have HW1:=zH (HW.out.below hb);clear HC HK k0 hb0 hb HW;go_wp2_with fail;refine HKC.out.mono ?_;rintro e w2 ⟨rfl,rfl⟩;clear HKC;have h1:LS w (w2.alloc (.cells #[.int .i64 1,.string ⟨#[]⟩,.int .i64 0,.int .i64 0,.int .i64 0,.string ⟨#[]⟩,.slice none 0 0] 130)) w2.heap.size #[.int .i64 1,.string ⟨#[]⟩,.int .i64 0,.int .i64 0,.int .i64 0,.string ⟨#[]⟩,.slice none 0 0]:=⟨k1.alloc _,Blk.new _ _ _,hlt,zL hB⟩;clear k1 hB;go_upto_region 3 with fail;generalize w2.alloc (.cells #[.int .i64 1,.string ⟨#[]⟩,.int .i64 0,.int .i64 0,.int .i64 0,.string ⟨#[]⟩,.slice none 0 0] 130)=W3 at *;generalize w2.heap.size=b1 at *;clear HW1;obtain⟨zc0,zf0,zc1,zf1,zc2,zf2,zc3,zf3,zc4,zf4,zc5,zf5,zc6,zf6⟩:=zcf h1.z;obtain⟨xc0,xf0,xc1,xf1,xc2,xf2,xc3,xf3,xc4,xf4,xc5,xf5,xc6,xf6⟩:=zcf h1.x;go_wp2_with fail;clear zc0 zf0 zc1 zf1 zc2 zf2 zc3 zf3 zc4 zf4 zc5 zf5 zc6 zf6 xc0 xf0 xc1 xf1 xc2 xf2 xc3 xf3 xc4 xf4 xc5 xf5 xc6 xf6;have HC:=zH (zfn s2 32 W3 (by omega) (HW0.out.below h1.B).lb);have hsz:=zaJ s2 32;generalize (zas s2 32).1=n1 at *;generalize (zas s2 32).2=n2 at *;obtain⟨hsz1,hsz2⟩:=hsz;refine HC.out.mono ?_;rintro e w4 ⟨bb4,rfl,hb4⟩;have h4:=h1.step hb4;clear HC hb4;have h5:LS w (w4.setCell ⟨b1,1,none⟩ (.string n1)) b1 #[.int .i64 1,.string n1,.int .i64 0,.int .i64 0,.int .i64 0,.string ⟨#[]⟩,.slice none 0 0]:=(h4.set 1 (.string n1));obtain⟨xc0,xf0,xc1,xf1,xc2,xf2,xc3,xf3,xc4,xf4,xc5,xf5,xc6,xf6⟩:=zcf h4.x;have H5:=zH h5;clear h5;go_upto_region 7 with fail;have h5:=H5.out;clear h4 H5;clear xc0 xf0 xc1 xf1 xc2 xf2 xc3 xf3 xc4 xf4 xc5 xf5 xc6 xf6;generalize (w4.setCell ⟨b1,1,none⟩ (.string n1))=W5 at *;obtain⟨xc0,xf0,xc1,xf1,xc2,xf2,xc3,xf3,xc4,xf4,xc5,xf5,xc6,xf6⟩:=zcf h5.x;go_wp2_with fail;clear xc0 xf0 xc1 xf1 xc2 xf2 xc3 xf3 xc4 xf4 xc5 xf5 xc6 xf6;have HC:=zH (zfn n2 32 W5 (by omega) (HW0.out.below h5.B).lb);have hsz:=zaJ n2 32;generalize (zas n2 32).1=v1 at *;generalize (zas n2 32).2=v2 at *;obtain⟨hsz1,hsz2⟩:=hsz;refine HC.out.mono ?_;rintro e w6 ⟨bb6,rfl,hb6⟩;have h6:=h5.step hb6;clear HC hb6;clear h5;have HV:=zH (zgd v1 w6 (by omega) (HW0.out.below h6.B).lb);go_wp2_with fail;cases hv:zce v1 with
 |error k2 =>
  have HV2:Hid (zR 134 #[.string v1] w6 (.tuple #[.agg #[.int .i64 0,.int .i64 0,.int .i64 0],.iface 57 (.int .i64 k2)])):=by have h:=HV.out;rw[hv] at h;exact h
  have HVV:=zH hv;clear HV hv;refine HV2.out.mono ?_;rintro e w7 ⟨rfl,hb7⟩;have h7:=h6.step hb7;clear h6 hb7 HV2;have hS:LS w (((w7.setCell ⟨b1,2,none⟩ (.int .i64 0)).setCell ⟨b1,3,none⟩ (.int .i64 0)).setCell ⟨b1,4,none⟩ (.int .i64 0)) b1 #[.int .i64 1,.string n1,.int .i64 0,.int .i64 0,.int .i64 0,.string ⟨#[]⟩,.slice none 0 0]:=(((h7.set 2 (.int .i64 0)).set 3 (.int .i64 0)).set 4 (.int .i64 0));obtain⟨xc0,xf0,xc1,xf1,xc2,xf2,xc3,xf3,xc4,xf4,xc5,xf5,xc6,xf6⟩:=zcf h7.x;have HS:=zH hS;clear hS;go_upto_region 11 with fail;have hS:=HS.out;clear h7;clear xc0 xf0 xc1 xf1 xc2 xf2 xc3 xf3 xc4 xf4 xc5 xf5 xc6 xf6;generalize (((w7.setCell ⟨b1,2,none⟩ (.int .i64 0)).setCell ⟨b1,3,none⟩ (.int .i64 0)).setCell ⟨b1,4,none⟩ (.int .i64 0))=W9 at *;obtain⟨zc0,zf0,zc1,zf1,zc2,zf2,zc3,zf3,zc4,zf4,zc5,zf5,zc6,zf6⟩:=zcf hS.z;have HZ:Hid (Blk (((((((W9.setCell ⟨w.heap.size,0,none⟩ (.int .i64 0)).setCell ⟨w.heap.size,1,none⟩ (.string ⟨#[]⟩)).setCell ⟨w.heap.size,2,none⟩ (.int .i64 0)).setCell ⟨w.heap.size,3,none⟩ (.int .i64 0)).setCell ⟨w.heap.size,4,none⟩ (.int .i64 0)).setCell ⟨w.heap.size,5,none⟩ (.string ⟨#[]⟩)).setCell ⟨w.heap.size,6,none⟩ (.slice none 0 0)) w.heap.size 130 #[.int .i64 0,.string ⟨#[]⟩,.int .i64 0,.int .i64 0,.int .i64 0,.string ⟨#[]⟩,.slice none 0 0]):=by
   have h:=hS.z;exact(((((((h.set (i:=0) (v:=.int .i64 0)).set (i:=1) (v:=.string ⟨#[]⟩)).set (i:=2) (v:=.int .i64 0)).set (i:=3) (v:=.int .i64 0)).set (i:=4) (v:=.int .i64 0)).set (i:=5) (v:=.string ⟨#[]⟩)).set (i:=6) (v:=.slice none 0 0))
  have HB:Hid (zB w (((((((W9.setCell ⟨w.heap.size,0,none⟩ (.int .i64 0)).setCell ⟨w.heap.size,1,none⟩ (.string ⟨#[]⟩)).setCell ⟨w.heap.size,2,none⟩ (.int .i64 0)).setCell ⟨w.heap.size,3,none⟩ (.int .i64 0)).setCell ⟨w.heap.size,4,none⟩ (.int .i64 0)).setCell ⟨w.heap.size,5,none⟩ (.string ⟨#[]⟩)).setCell ⟨w.heap.size,6,none⟩ (.slice none 0 0))):=(((((((hS.B.setCell (p:=⟨w.heap.size,0,none⟩) zN _).setCell (p:=⟨w.heap.size,1,none⟩) zN _).setCell (p:=⟨w.heap.size,2,none⟩) zN _).setCell (p:=⟨w.heap.size,3,none⟩) zN _).setCell (p:=⟨w.heap.size,4,none⟩) zN _).setCell (p:=⟨w.heap.size,5,none⟩) zN _).setCell (p:=⟨w.heap.size,6,none⟩) zN _);clear hS;go_wp2;generalize (((((((W9.setCell ⟨w.heap.size,0,none⟩ (.int .i64 0)).setCell ⟨w.heap.size,1,none⟩ (.string ⟨#[]⟩)).setCell ⟨w.heap.size,2,none⟩ (.int .i64 0)).setCell ⟨w.heap.size,3,none⟩ (.int .i64 0)).setCell ⟨w.heap.size,4,none⟩ (.int .i64 0)).setCell ⟨w.heap.size,5,none⟩ (.string ⟨#[]⟩)).setCell ⟨w.heap.size,6,none⟩ (.slice none 0 0))=WF at *;have r0:_=some (Value.int .i64 0):=HZ.out.cell 0;have r1:_=some (Value.string ⟨#[]⟩):=HZ.out.cell 1;have r2:_=some (Value.int .i64 0):=HZ.out.cell 2;have r3:_=some (Value.int .i64 0):=HZ.out.cell 3;have r4:_=some (Value.int .i64 0):=HZ.out.cell 4;have r5:_=some (Value.string ⟨#[]⟩):=HZ.out.cell 5;have r6:_=some (Value.slice none 0 0):=HZ.out.cell 6;refine bodyPost_ret (v:=.tuple #[.agg #[.int .i64 0,.string ⟨#[]⟩,.int .i64 0,.int .i64 0,.int .i64 0,.string ⟨#[]⟩,.slice none 0 0],.iface 57 (.int .i64 k2)]) (by simp[results,Tryz.f57,go_sem,r0,r1,r2,r3,r4,r5,r6]) rfl ?_;have ht:R=.error (k2,none):=by rw[HR0.out,HVV.out]
  rw[ht];exact⟨_,rfl,rfl,HB.out⟩
 |ok ns =>
  obtain⟨a0,ha0⟩:∃a0:Int,((ns.getD 0 0:Nat):Int)=a0:=⟨_,rfl⟩;obtain⟨a1,ha1⟩:∃a1:Int,((ns.getD 1 0:Nat):Int)=a1:=⟨_,rfl⟩;obtain⟨a2,ha2⟩:∃a2:Int,((ns.getD 2 0:Nat):Int)=a2:=⟨_,rfl⟩;have HV2:Hid (zR 134 #[.string v1] w6 (.tuple #[.agg #[.int .i64 a0,.int .i64 a1,.int .i64 a2],.nilIface])):=by have h:=HV.out;rw[hv] at h;subst ha0 ha1 ha2;exact h
  have HA0:=zH ha0;have HA1:=zH ha1;have HA2:=zH ha2;have HVV:=zH hv;clear HV ha0 ha1 ha2 hv;refine HV2.out.mono ?_;rintro e w7 ⟨rfl,hb7⟩;have h7:=h6.step hb7;clear h6 hb7 HV2;have h8:LS w (((w7.setCell ⟨b1,2,none⟩ (.int .i64 a0)).setCell ⟨b1,3,none⟩ (.int .i64 a1)).setCell ⟨b1,4,none⟩ (.int .i64 a2)) b1 #[.int .i64 1,.string n1,.int .i64 a0,.int .i64 a1,.int .i64 a2,.string ⟨#[]⟩,.slice none 0 0]:=(((h7.set 2 (.int .i64 a0)).set 3 (.int .i64 a1)).set 4 (.int .i64 a2));obtain⟨xc0,xf0,xc1,xf1,xc2,xf2,xc3,xf3,xc4,xf4,xc5,xf5,xc6,xf6⟩:=zcf h7.x;have H8:=zH h8;clear h8;go_upto_region 12 with fail;have h8:=H8.out;clear h7 H8;clear xc0 xf0 xc1 xf1 xc2 xf2 xc3 xf3 xc4 xf4 xc5 xf5 xc6 xf6;generalize (((w7.setCell ⟨b1,2,none⟩ (.int .i64 a0)).setCell ⟨b1,3,none⟩ (.int .i64 a1)).setCell ⟨b1,4,none⟩ (.int .i64 a2))=W8 at *
  by_cases hz:v2.size=0
  ·have hv2:v2=⟨#[]⟩:=zbh hz;subst hv2;obtain⟨zc0,zf0,zc1,zf1,zc2,zf2,zc3,zf3,zc4,zf4,zc5,zf5,zc6,zf6⟩:=zcf h8.z;obtain⟨xc0,xf0,xc1,xf1,xc2,xf2,xc3,xf3,xc4,xf4,xc5,xf5,xc6,xf6⟩:=zcf h8.x;have HZ:Hid (Blk (((((((W8.setCell ⟨w.heap.size,0,none⟩ (.int .i64 1)).setCell ⟨w.heap.size,1,none⟩ (.string n1)).setCell ⟨w.heap.size,2,none⟩ (.int .i64 a0)).setCell ⟨w.heap.size,3,none⟩ (.int .i64 a1)).setCell ⟨w.heap.size,4,none⟩ (.int .i64 a2)).setCell ⟨w.heap.size,5,none⟩ (.string ⟨#[]⟩)).setCell ⟨w.heap.size,6,none⟩ (.slice none 0 0)) w.heap.size 130 #[.int .i64 1,.string n1,.int .i64 a0,.int .i64 a1,.int .i64 a2,.string ⟨#[]⟩,.slice none 0 0]):=by
    have h:=h8.z;exact(((((((h.set (i:=0) (v:=.int .i64 1)).set (i:=1) (v:=.string n1)).set (i:=2) (v:=.int .i64 a0)).set (i:=3) (v:=.int .i64 a1)).set (i:=4) (v:=.int .i64 a2)).set (i:=5) (v:=.string ⟨#[]⟩)).set (i:=6) (v:=.slice none 0 0))
   have HB:Hid (zB w (((((((W8.setCell ⟨w.heap.size,0,none⟩ (.int .i64 1)).setCell ⟨w.heap.size,1,none⟩ (.string n1)).setCell ⟨w.heap.size,2,none⟩ (.int .i64 a0)).setCell ⟨w.heap.size,3,none⟩ (.int .i64 a1)).setCell ⟨w.heap.size,4,none⟩ (.int .i64 a2)).setCell ⟨w.heap.size,5,none⟩ (.string ⟨#[]⟩)).setCell ⟨w.heap.size,6,none⟩ (.slice none 0 0))):=(((((((h8.B.setCell (p:=⟨w.heap.size,0,none⟩) zN _).setCell (p:=⟨w.heap.size,1,none⟩) zN _).setCell (p:=⟨w.heap.size,2,none⟩) zN _).setCell (p:=⟨w.heap.size,3,none⟩) zN _).setCell (p:=⟨w.heap.size,4,none⟩) zN _).setCell (p:=⟨w.heap.size,5,none⟩) zN _).setCell (p:=⟨w.heap.size,6,none⟩) zN _);clear h8;go_wp2;generalize (((((((W8.setCell ⟨w.heap.size,0,none⟩ (.int .i64 1)).setCell ⟨w.heap.size,1,none⟩ (.string n1)).setCell ⟨w.heap.size,2,none⟩ (.int .i64 a0)).setCell ⟨w.heap.size,3,none⟩ (.int .i64 a1)).setCell ⟨w.heap.size,4,none⟩ (.int .i64 a2)).setCell ⟨w.heap.size,5,none⟩ (.string ⟨#[]⟩)).setCell ⟨w.heap.size,6,none⟩ (.slice none 0 0))=WF at *;have r0:_=some (Value.int .i64 1):=HZ.out.cell 0;have r1:_=some (Value.string n1):=HZ.out.cell 1;have r2:_=some (Value.int .i64 a0):=HZ.out.cell 2;have r3:_=some (Value.int .i64 a1):=HZ.out.cell 3;have r4:_=some (Value.int .i64 a2):=HZ.out.cell 4;have r5:_=some (Value.string ⟨#[]⟩):=HZ.out.cell 5;have r6:_=some (Value.slice none 0 0):=HZ.out.cell 6;refine bodyPost_ret (v:=.tuple #[.agg #[.int .i64 1,.string n1,.int .i64 a0,.int .i64 a1,.int .i64 a2,.string ⟨#[]⟩,.slice none 0 0],.nilIface]) (by simp[results,Tryz.f57,go_sem,r0,r1,r2,r3,r4,r5,r6]) rfl ?_;have ht:R=.ok ⟨1,n1,a0,a1,a2,⟨#[]⟩,[]⟩:=by rw[HR0.out,HVV.out,<-HA0.out,<-HA1.out,<-HA2.out];rfl
   rw[ht];exact⟨_,rfl,zfS _,zdJ,(fun g hg=>by simp[Value.ownBlock] at hg),HB.out⟩
  ·have he1:v2.toList.isEmpty=false:=zaE (by omega);have he2:(v2.toList==[])=false:=by rw[beq_eq_false_iff_ne];intro h;rw[h] at he1;cases he1
   obtain⟨zc0,zf0,zc1,zf1,zc2,zf2,zc3,zf3,zc4,zf4,zc5,zf5,zc6,zf6⟩:=zcf h8.z;obtain⟨xc0,xf0,xc1,xf1,xc2,xf2,xc3,xf3,xc4,xf4,xc5,xf5,xc6,xf6⟩:=zcf h8.x;have HZ:Hid (Blk (((((((W8.setCell ⟨w.heap.size,0,none⟩ (.int .i64 0)).setCell ⟨w.heap.size,1,none⟩ (.string ⟨#[]⟩)).setCell ⟨w.heap.size,2,none⟩ (.int .i64 0)).setCell ⟨w.heap.size,3,none⟩ (.int .i64 0)).setCell ⟨w.heap.size,4,none⟩ (.int .i64 0)).setCell ⟨w.heap.size,5,none⟩ (.string ⟨#[]⟩)).setCell ⟨w.heap.size,6,none⟩ (.slice none 0 0)) w.heap.size 130 #[.int .i64 0,.string ⟨#[]⟩,.int .i64 0,.int .i64 0,.int .i64 0,.string ⟨#[]⟩,.slice none 0 0]):=by
    have h:=h8.z;exact(((((((h.set (i:=0) (v:=.int .i64 0)).set (i:=1) (v:=.string ⟨#[]⟩)).set (i:=2) (v:=.int .i64 0)).set (i:=3) (v:=.int .i64 0)).set (i:=4) (v:=.int .i64 0)).set (i:=5) (v:=.string ⟨#[]⟩)).set (i:=6) (v:=.slice none 0 0))
   have HB:Hid (zB w (((((((W8.setCell ⟨w.heap.size,0,none⟩ (.int .i64 0)).setCell ⟨w.heap.size,1,none⟩ (.string ⟨#[]⟩)).setCell ⟨w.heap.size,2,none⟩ (.int .i64 0)).setCell ⟨w.heap.size,3,none⟩ (.int .i64 0)).setCell ⟨w.heap.size,4,none⟩ (.int .i64 0)).setCell ⟨w.heap.size,5,none⟩ (.string ⟨#[]⟩)).setCell ⟨w.heap.size,6,none⟩ (.slice none 0 0))):=(((((((h8.B.setCell (p:=⟨w.heap.size,0,none⟩) zN _).setCell (p:=⟨w.heap.size,1,none⟩) zN _).setCell (p:=⟨w.heap.size,2,none⟩) zN _).setCell (p:=⟨w.heap.size,3,none⟩) zN _).setCell (p:=⟨w.heap.size,4,none⟩) zN _).setCell (p:=⟨w.heap.size,5,none⟩) zN _).setCell (p:=⟨w.heap.size,6,none⟩) zN _);clear h8;go_wp2;generalize (((((((W8.setCell ⟨w.heap.size,0,none⟩ (.int .i64 0)).setCell ⟨w.heap.size,1,none⟩ (.string ⟨#[]⟩)).setCell ⟨w.heap.size,2,none⟩ (.int .i64 0)).setCell ⟨w.heap.size,3,none⟩ (.int .i64 0)).setCell ⟨w.heap.size,4,none⟩ (.int .i64 0)).setCell ⟨w.heap.size,5,none⟩ (.string ⟨#[]⟩)).setCell ⟨w.heap.size,6,none⟩ (.slice none 0 0))=WF at *;have r0:_=some (Value.int .i64 0):=HZ.out.cell 0;have r1:_=some (Value.string ⟨#[]⟩):=HZ.out.cell 1;have r2:_=some (Value.int .i64 0):=HZ.out.cell 2;have r3:_=some (Value.int .i64 0):=HZ.out.cell 3;have r4:_=some (Value.int .i64 0):=HZ.out.cell 4;have r5:_=some (Value.string ⟨#[]⟩):=HZ.out.cell 5;have r6:_=some (Value.slice none 0 0):=HZ.out.cell 6;refine bodyPost_ret (v:=.tuple #[.agg #[.int .i64 0,.string ⟨#[]⟩,.int .i64 0,.int .i64 0,.int .i64 0,.string ⟨#[]⟩,.slice none 0 0],.iface 57 (.int .i64 3)]) (by simp[results,Tryz.f57,go_sem,r0,r1,r2,r3,r4,r5,r6]) rfl ?_;have ht:R=.error (3,none):=by rw[HR0.out,HVV.out];exact if_neg hz
   rw[ht];exact⟨_,rfl,rfl,HB.out⟩
end
section
open Go.RowKit Sv
theorem zr1(s:ByteArray)(w:World)(hs:s.size<=100000)(hw:Lw w):zC 57 #[.string s] w (zqW w (zgv s)):=by
 have h4:=zlK (zas s 32).1;have h:za8 (zas s 32).1=0\/za8 (zas s 32).1=1\/za8 (zas s 32).1=2\/za8 (zas s 32).1=3\/za8 (zas s 32).1=4:=by omega
 unfold zgv;rcases h with h|h|h|h|h
 ·rw[if_pos h];exact zpb s w hs hw h
 ·rw[h,if_neg (by omega),if_neg (by omega)];exact zps s w hs hw h _ rfl
 ·rw[h,if_neg (by omega),if_neg (by omega)];exact line_prs 2 (Or.inl rfl) s w hs hw h _ rfl
 ·rw[h,if_neg (by omega),if_neg (by omega)];exact line_prs 3 (Or.inr rfl) s w hs hw h _ rfl
 ·rw[h,if_neg (by omega),if_pos rfl];exact zqg s w hs hw h
end
section
open Go.RowKit Go.Maps
structure Rep{α β:Type}(ok:α->Prop)(kl:α->Lit)(el:β->DataW Unit)(D:DataW Unit)(L:List (α × β)):Prop where
 tidy:Tidy D
 size:Maps.size D=L.length
 oks:∀p∈L,ok p.1
 has:∀a,ok a->(Maps.has D (kl a)=true↔a∈L.map Prod.fst)
 all:∀x,Maps.has D x=true->∃p∈L,x=kl p.1
 at':∀p∈L,∀z,D.atKey (kl p.1) z=el p.2
 nodup:(L.map Prod.fst).Nodup
section
variable {α β:Type} {ok:α->Prop} {kl:α->Lit} {el:β->DataW Unit} {D:DataW Unit} {L:List (α × β)}
theorem Rep.empty:Rep ok kl el (.map []) ([]:List (α × β)) :=
 ⟨tidy_empty,rfl,fun p h=>(by cases h),fun a _=>(by simp[Maps.has]),fun x h=>(by simp[Maps.has] at h),fun p h=>(by cases h),List.nodup_nil⟩
theorem Rep.not(h:Rep ok kl el D L){a:α}(ha:ok a)(hn:a∉L.map Prod.fst):Maps.has D (kl a)=false:=by
 cases e:Maps.has D (kl a) with
 |false=>rfl
 |true=>exact absurd ((h.has a ha).1 e) hn
theorem Rep.put(h:Rep ok kl el D L)(inj:∀a b,ok a->ok b->kl a=kl b->a=b)(key:∀a,WideAt.IsKeyLit (kl a)){a:α}(ha:ok a)(hn:a∉L.map Prod.fst)(b:β) :
  Rep ok kl el (D.put (kl a) (el b)) (L++[(a,b)]):=by
 have hne:∀c,ok c->c≠a->kl c≠kl a:=fun c hc hca e=>hca (inj c a hc ha e);refine⟨h.tidy.put (key a) _,?_,?_,?_,?_,?_,?_⟩
 ·rw[size_put h.tidy,h.not ha hn];simp[h.size]
 ·intro p hp;rcases List.mem_append.1 hp with hp|hp
  ·exact h.oks p hp
  ·rw[List.mem_singleton] at hp;subst hp;exact ha
 ·intro c hc;rw[List.map_append,List.mem_append]
  by_cases e:c=a
  ·subst e;simp[has_put_same h.tidy.isMap (key c)]
  ·rw[has_put_other (hne c hc e)];simp[h.has c hc,e]
 ·intro x hx
  by_cases e:x=kl a
  ·exact⟨(a,b),by simp,e⟩
  ·rw[has_put_other e] at hx;obtain⟨p,hp,hx⟩:=h.all x hx;exact⟨p,by simp[hp],hx⟩
 ·intro p hp z;rcases List.mem_append.1 hp with hp|hp
  ·rw[atKey_put_other (hne p.1 (h.oks p hp) (fun e=>hn (e▸List.mem_map_of_mem hp)))];exact h.at' p hp z
  ·rw[List.mem_singleton] at hp;subst hp;exact atKey_put_same h.tidy.isMap (key a) _ _
 ·rw[List.map_append,List.nodup_append];refine⟨h.nodup,by simp,fun x hx y hy=>?_⟩;simp at hy;subst hy;exact fun e=>hn (e▸hx)
end
theorem za5{P:Program}{k:TypeId}{R:Value->Option (DataW Unit × List MemPlace)}{w:World}{b n:Nat}{D:DataW Unit}(h:w.ownsMap P k R b n D):w.ownsMap P k R b (Maps.size D) D:=by
 obtain⟨es,clock,h1,h2,h3,rfl⟩:=h;exact⟨es,clock,h1,h2,by simp[Maps.size,length_sorted],rfl⟩
theorem zcu{P:Program}{k:TypeId}{R:Value->Option (DataW Unit × List MemPlace)}{w w':World}{bm n:Nat}{D:DataW Unit}(h:w.ownsMap P k R bm n D)(hb:zB w w'):w'.ownsMap P k R bm n D:=by
 have hlt:=h.lt;obtain⟨es,clock,h1,h2⟩:=h;exact⟨es,clock,(hb.block bm hlt).trans h1,h2⟩
end
section
open Go.RowKit Go.Maps
theorem ziT:Keyed Tryz.prog 9:=string_keyed Tryz.underlying9
theorem zi5{s:ByteArray}(h:s.size<=100000):keyOf Tryz.prog 9 (.string s)=some (.string s.data.toList):=WideMaps.keyOf_string_mk Tryz.underlying9 (by unfold maxLen;omega)
def zuo(s:ByteArray):Lit:=.string s.data.toList
theorem ziB(s:ByteArray):WideAt.IsKeyLit (zuo s):=trivial
theorem zmc{a b:ByteArray}(h:zuo a=zuo b):a=b:=by
 unfold zuo at h;injection h with h;exact ByteArray.ext (Array.toList_inj.1 h)
structure znV{β:Type}(el:β->DataW Unit)(D:DataW Unit)(f:ByteArray->Option β)(n:Nat):Prop where
 tidy:Tidy D
 size:Maps.size D=n
 has:∀a,Maps.has D (zuo a)=(f a).isSome
 at':∀a b,f a=some b->∀z,D.atKey (zuo a) z=el b
section
variable {β:Type} {el:β->DataW Unit} {D:DataW Unit} {f:ByteArray->Option β} {n:Nat}
theorem znV.empty:znV el (.map []) (fun _=>(none:Option β)) 0:=⟨tidy_empty,rfl,fun a=>by simp[Maps.has],fun a b h=>by cases h⟩
theorem znV.put(h:znV el D f n)(a:ByteArray)(b:β):znV el (D.put (zuo a) (el b)) (fun c=>if c=a then some b else f c) (if (f a).isSome then n else n+1):=by
 refine⟨h.tidy.put (ziB a) _,?_,fun c=>?_,fun c d hd z=>?_⟩
 ·rw[size_put h.tidy,h.has,h.size]
 ·by_cases e:c=a
  ·subst e;rw[has_put_same h.tidy.isMap (ziB c)];simp
  ·rw[has_put_other (fun e'=>e (zmc e')),h.has,if_neg e]
 ·by_cases e:c=a
  ·subst e;rw[if_pos rfl] at hd;cases hd;exact atKey_put_same h.tidy.isMap (ziB c) _ _
  ·rw[if_neg e] at hd;rw[atKey_put_other (fun e'=>e (zmc e'))];exact h.at' c d hd z
end
def zgu(r:Nat × Nat):DataW Unit:=.agg [.lit (.int .i64 r.1),.lit (.int .i64 r.2)]
def zus(r:Nat × Nat):Value:=.agg #[.int .i64 r.1,.int .i64 r.2]
def zs4:List Value->Option (DataW Unit × List MemPlace)
 |[.int .i64 a,.int .i64 b]=>some (.agg [.lit (.int .i64 a),.lit (.int .i64 b)],[])
 |_=>none
def zgw:Value->Option (DataW Unit × List MemPlace)
 |.agg cs=>zs4 cs.toList
 |_=>none
theorem zfb(r:Nat × Nat):zgw (zus r)=some (zgu r,[]):=rfl
theorem zgz{v:Value}{r:Nat × Nat}{ps:List MemPlace}(h:zgw v=some (zgu r,ps)):v=zus r:=by
 unfold zgw at h;split at h
 ·rename_i cs;unfold zs4 at h;split at h
  ·rename_i a b e;simp only[Option.some.injEq,Prod.mk.injEq,zgu,DataW.agg.injEq,List.cons.injEq,DataW.lit.injEq,Lit.int.injEq,true_and,and_true] at h;obtain⟨⟨h1,h2⟩,-⟩:=h;rw[show cs=#[.int .i64 a,.int .i64 b] from Array.toList_inj.1 e,h1,h2];rfl
  ·cases h
 ·cases h
theorem znR(w:World):(zeroValue 341).run Tryz.prog w=.ok (.agg #[.int .i64 0,.int .i64 0]) w:=by kernel_rfl
def zbc(w:World)(bm:Nat)(f:ByteArray->Option (Nat × Nat))(N:Nat):Prop:=∃D n,w.ownsMap Tryz.prog 9 zgw bm n D/\znV zgu D f n/\n<=N
theorem zbc.below{B:Nat}{w w':World}{bm N:Nat}{f:ByteArray->Option (Nat × Nat)}(h:zbc w bm f N)(hb:Below B w w')(hB:w.heap.size<=B):zbc w' bm f N:=by
 obtain⟨D,n,h1,h2,h3⟩:=h;exact⟨D,n,zcu h1 (hb.mono hB),h2,h3⟩
theorem zbc.block{w w':World}{bm N:Nat}{f:ByteArray->Option (Nat × Nat)}(h:zbc w bm f N)(hb:w'.heap[bm]?=w.heap[bm]?):zbc w' bm f N:=by
 obtain⟨D,n,⟨es,clock,h1,h2⟩,hR⟩:=h;exact⟨D,n,⟨es,clock,hb.trans h1,h2⟩,hR⟩
theorem zbc.made(w:World):zbc (w.alloc (.map #[] 0)) w.heap.size (fun _=>none) 0:=⟨.map [],0,World.ownsMap_made w _ _ _,znV.empty,Nat.le_refl _⟩
theorem zbc.ne{w:World}{bm N b:Nat}{f:ByteArray->Option (Nat × Nat)}{t:TypeId}{cs:Array Value}(h:zbc w bm f N)(hb:Blk w b t cs):bm≠b:=by
 rintro rfl;obtain⟨D,n,⟨es,clock,h1,_⟩,_⟩:=h;have:=h1.symm.trans hb;cases this
theorem zbc.look{w:World}{bm N:Nat}{f:ByteArray->Option (Nat × Nat)}(h:zbc w bm f N){s:ByteArray}(hs:s.size<=100000) :
  (Instr.lookup 226 (.map (some bm)) (.string s) true).run Tryz.prog w=.ok (.tuple #[zus ((f s).getD (0,0)),.bool (f s).isSome]) w/\(Instr.lookup 226 (.map (some bm)) (.string s) false).run Tryz.prog w=.ok (zus ((f s).getD (0,0))) w:=by
 obtain⟨D,n,hD,hR,-⟩:=h;have key:∀v ps,zgw v=some (D.atKey (.string s.data.toList) (zgu (0,0)),ps)->v=zus ((f s).getD (0,0)):=fun v ps hv=>by
  cases hf:f s with
  |none =>have hh:=hR.has s;rw[hf] at hh;rw[atKey_of_not_has (show Maps.has D (.string s.data.toList)=false from hh)] at hv;exact zgz hv
  |some r =>rw[show D.atKey (.string s.data.toList) (zgu (0,0))=zgu r from hR.at' s r hf _] at hv;exact zgz hv
 constructor
 ·obtain⟨v,ps,hrun,hv⟩:=hD.look_ok ziT Tryz.underlying226 (znR w) (zfb (0,0)) (zi5 hs);rw[key v ps hv,show Maps.has D (.string s.data.toList)=(f s).isSome from hR.has s] at hrun;exact hrun
 ·obtain⟨v,ps,hrun,hv⟩:=hD.lookup ziT Tryz.underlying226 (znR w) (zfb (0,0)) (zi5 hs);rw[key v ps hv] at hrun;exact hrun
theorem zbc.put{w:World}{bm N:Nat}{f:ByteArray->Option (Nat × Nat)}(h:zbc w bm f N){s:ByteArray}(hs:s.size<=100000)(r:Nat × Nat)(hN:N<1000000) :
  ∃w',(Instr.mapUpdate 226 (.map (some bm)) (.string s) (zus r)).run Tryz.prog w=.ok () w'/\zbc w' bm (fun c=>if c=s then some r else f c) (N+1)/\w.grownBy w' (some bm):=by
 obtain⟨D,n,hD,hR,hn⟩:=h;obtain⟨w',hrun,g1,k1⟩:=hD.update ziT Tryz.underlying226 (by unfold maxLen;omega) (zi5 hs) (zfb r);have hR1:=hR.put s r;exact⟨w',hrun,⟨_,_,hR1.size▸za5 g1,hR1,by split<;>omega⟩,k1⟩
theorem zgj(l:List It)(x:It):zbk (l++[x])=if x.name∈l.map It.name then zbk l else zbk l+1:=by
 unfold zbk;rw[List.map_append,List.eraseDups_append,List.length_append,List.map_cons,List.map_nil]
 by_cases h:x.name∈l.map It.name
 ·rw[if_pos h,show [x.name].removeAll (l.map It.name)=[] by simp only[List.removeAll,List.filter_cons,List.filter_nil,List.elem_eq_mem,h,decide_true,Bool.not_true,Bool.false_eq_true,if_false]];rfl
 ·rw[if_neg h,show [x.name].removeAll (l.map It.name)=[x.name] by simp only[List.removeAll,List.filter_cons,List.filter_nil,List.elem_eq_mem,h,decide_false,Bool.not_false,if_true]];rfl
theorem ziP(l:List It):zbk l<=l.length:=by
 unfold zbk;have:∀m:List ByteArray,m.eraseDups.length<=m.length:=by
  intro m
  induction h:m.length using Nat.strongRecOn generalizing m with
  |_ n ih =>
   cases m with
   |nil=>simp
   |cons a m =>rw[List.eraseDups_cons];have h1:=List.length_filter_le (fun b=>!(b==a)) m;have:=ih (m.filter fun b=>!(b==a)).length (by rw[<-h];simp only[List.length_cons];omega) _ rfl;simp only[List.length_cons] at h ⊢;omega
 simpa using this (l.map It.name)
def zdu(l:List It)(c:ByteArray):Option Unit:=if c∈l.map It.name then some () else none
def zbn(w:World)(bm:Nat)(l:List It):Prop:=∃D,w.ownsMap Tryz.prog 9 unitElem bm (zbk l) D/\znV (fun _:Unit=>.agg []) D (zdu l) (zbk l)
theorem zbn.made(w:World):zbn (w.alloc (.map #[] 0)) w.heap.size []:=⟨.map [],World.ownsMap_made w _ _ _,znV.empty⟩
theorem zbn.below{B:Nat}{w w':World}{bm:Nat}{l:List It}(h:zbn w bm l)(hb:Below B w w')(hB:w.heap.size<=B):zbn w' bm l:=by
 obtain⟨D,h1,h2⟩:=h;exact⟨D,zcu h1 (hb.mono hB),h2⟩
theorem zbn.lt{w:World}{bm:Nat}{l:List It}(h:zbn w bm l):bm<w.heap.size:=by obtain⟨D,h1,_⟩:=h;exact h1.lt
theorem zbn.block{w w':World}{bm:Nat}{l:List It}(h:zbn w bm l)(hb:w'.heap[bm]?=w.heap[bm]?):zbn w' bm l:=by
 obtain⟨D,⟨es,clock,h1,h2⟩,hR⟩:=h;exact⟨D,⟨es,clock,hb.trans h1,h2⟩,hR⟩
theorem zbn.put{w:World}{bm:Nat}{l:List It}(h:zbn w bm l)(hl:l.length<1000000){x:It}(hs:x.name.size<=100000) :
  ∃w',(Instr.mapUpdate 390 (.map (some bm)) (.string x.name) (.agg #[])).run Tryz.prog w=.ok () w'/\zbn w' bm (l++[x])/\w.grownBy w' (some bm):=by
 obtain⟨D,hD,hR⟩:=h;have hle:=ziP l;obtain⟨w',hrun,g1,k1⟩:=hD.update ziT Tryz.underlying390 (by unfold maxLen;omega) (zi5 hs) unitElem_mk;have hR1:=hR.put x.name ();have e1:(fun c=>if c=x.name then some () else zdu l c)=zdu (l++[x]):=by
  funext c;unfold zdu
  by_cases h:c=x.name
  ·simp[h]
  ·simp[h]
 have e2:(if (zdu l x.name).isSome then zbk l else zbk l+1)=zbk (l++[x]):=by
  rw[zgj];unfold zdu
  by_cases h:x.name∈l.map It.name
  ·rw[if_pos h,if_pos h];rfl
  ·rw[if_neg h,if_neg h];rfl
 rw[e1,e2] at hR1;exact⟨w',hrun,⟨_,hR1.size▸za5 g1,hR1⟩,k1⟩
theorem zbn.len{w:World}{bm:Nat}{l:List It}(h:zbn w bm l)(ty:TypeId):(Builtin.len_ #[390] ty #[.map (some bm)]).run Tryz.prog w=.ok (.int .i64 (zbk l)) w:=by
 obtain⟨D,hD,hR⟩:=h;rw[hD.len Tryz.underlying390 ty,hR.size]
end
end Go.Proofs.YtiihalknffbjpaaGreatDoor
