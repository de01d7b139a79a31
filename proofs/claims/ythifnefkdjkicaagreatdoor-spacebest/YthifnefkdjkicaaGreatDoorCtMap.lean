import Derived.Test.YthifnefkdjkicaaGreatDoorCtLineC
set_option maxHeartbeats 2000000
set_option maxRecDepth 100000
namespace Go.Proofs.YthifnefkdjkicaaGreatDoor
section
open Go.RowKit Go.Shelf Sv
theorem zcY(K:Nat)(hK:K=2\/K=3)(s:ByteArray)(w:World)(hs:s.size<=100000)(hw:Lw w)(hk:zO (zb s 32).1=K)(R:Except (Int × Option Nat) Ln)(hR:R=match zS (zb (zb (zb s 32).2 32).2 32).1 with|.error e=>.error (e,none)|.ok ns=>xm K (zb (zb s 32).2 32).1 ns (zb (zb (zb (zb s 32).2 32).2 32).2 32).1 (zb (zb (zb (zb s 32).2 32).2 32).2 32).2) :
  zC 39 #[s] w (X3 w R):=by
 have be:((K:Int)==1)=false:=by rw[beq_eq_false_iff_ne];omega
 have bf:((K:Int)==4)=false:=by rw[beq_eq_false_iff_ne];omega
 have bd:((K:Int)==0)=false:=by rw[beq_eq_false_iff_ne];omega
 have aX:=zH hK;clear hK;have k0:=Blk.new w 97 z7;have ak:zB w (w.alloc (.cells z7 97)):=(Below.refl _ w).alloc zN _;have HC:=zH (Qc s 32 (w.alloc (.cells z7 97)) hs (hw.below ak).lb);have HW:=zH (hw.below ak);have HK:Hid (∀W,Z9 W->zC 74 #[.string (zb s 32).1] W fun e w'=>e=.returned (.int .i64 K)/\w'=W):=fun W h=>by have:=Jy (zb s 32).1 W h;rw[hk] at this;exact this
 have b6:=(qD s 32).2;generalize (zb s 32).1=s1 at *;generalize (zb s 32).2=s2 at *;have hs2':s2.size<=100000:=by omega
 have ab:=zH hw;clear hk hs b6 hw;have aE:=zH hR;clear hR;go_enter Tryz.func39,Tryz.ntmps39;go_wp2_with fail;generalize w.alloc (.cells z7 97)=W0 at *;refine HC.out.mono ?_;rintro e wC ⟨b,rfl,hb⟩;have aL:=zH (HK.out wC (HW.out.below hb).wd);have k1:=k0.below hb k0.lt;have hB:zB w wC:=zT ak hb;have b5:=k1.lt;have b3:=zH (HW.out.below hb);clear HC HK k0 ak hb HW;go_wp2_with fail;refine aL.out.mono ?_;rintro e w2 ⟨rfl,rfl⟩;clear aL;have h1:LS w (w2.alloc (.cells #[K,.string ⟨#[]⟩,(0:Int),(0:Int),(0:Int),.string ⟨#[]⟩,.slice none 0 0] 97)) w2.heap.size #[K,.string ⟨#[]⟩,(0:Int),(0:Int),(0:Int),.string ⟨#[]⟩,.slice none 0 0]:=⟨k1.alloc _,Blk.new _ _ _,b5,zL hB⟩;clear k1 hB;go_upto_region 3 with fail;generalize w2.alloc (.cells #[K,.string ⟨#[]⟩,(0:Int),(0:Int),(0:Int),.string ⟨#[]⟩,.slice none 0 0] 97)=W3 at *;generalize w2.heap.size=b1 at *;clear b3;obtain⟨am,av,an,aw,ao,ax,ap,ay,aq,az,ar,aA,au,aB⟩:=zcf h1.z;obtain⟨j,M,o,U,q,V,u,X,y,Y,C,Z,J,a3⟩:=zcf h1.x;go_wp2_with fail;clear am av an aw ao ax ap ay aq az ar aA au aB j M o U q V u X y Y C Z J a3;have HC:=zH (Qc s2 32 W3 (by omega) (ab.out.below h1.B).lb);have ag:=qD s2 32;generalize (zb s2 32).1=n1 at *;generalize (zb s2 32).2=n2 at *;obtain⟨ah,ai⟩:=ag;refine HC.out.mono ?_;rintro e w4 ⟨bb,rfl,aM⟩;have h4:=h1.step aM;clear HC aM;have h5:LS w (w4.setCell ⟨b1,1,none⟩ (.string n1)) b1 #[K,n1,(0:Int),(0:Int),(0:Int),.string ⟨#[]⟩,.slice none 0 0]:=(h4.set 1 (.string n1));obtain⟨j,M,o,U,q,V,u,X,y,Y,C,Z,J,a3⟩:=zcf h4.x;have H5:=zH h5;clear h5;go_upto_region 7 with fail;have h5:=H5.out;clear h4 H5;clear j M o U q V u X y Y C Z J a3;generalize (w4.setCell ⟨b1,1,none⟩ (.string n1))=W5 at *;obtain⟨j,M,o,U,q,V,u,X,y,Y,C,Z,J,a3⟩:=zcf h5.x;go_wp2_with fail;clear j M o U q V u X y Y C Z J a3;have HC:=zH (Qc n2 32 W5 (by omega) (ab.out.below h5.B).lb);have ag:=qD n2 32;generalize (zb n2 32).1=v1 at *;generalize (zb n2 32).2=v2 at *;obtain⟨ah,ai⟩:=ag;refine HC.out.mono ?_;rintro e w6 ⟨bc,rfl,aN⟩;have h6:=h5.step aN;clear HC aN;clear h5;have HV:=zH (JA v1 w6 (by omega) (ab.out.below h6.B).lb);go_wp2_with fail;cases hv:zS v1 with
 |error k2 =>
  have aa:Hid (zR 75 #[v1] w6 (.tuple #[.agg #[(0:Int),(0:Int),(0:Int)],.iface 42 (.int .i64 k2)])):=by have h:=HV.out;rw[hv] at h;exact h
  have aj:=zH hv;clear HV hv;refine aa.out.mono ?_;rintro e w7 ⟨rfl,ae⟩;have h7:=h6.step ae;clear h6 ae aa;have hS:LS w (((w7.setCell ⟨b1,2,none⟩ (.int .i64 0)).setCell ⟨b1,3,none⟩ (.int .i64 0)).setCell ⟨b1,4,none⟩ (.int .i64 0)) b1 #[K,n1,(0:Int),(0:Int),(0:Int),.string ⟨#[]⟩,.slice none 0 0]:=(((h7.set 2 (.int .i64 0)).set 3 (.int .i64 0)).set 4 (.int .i64 0));obtain⟨j,M,o,U,q,V,u,X,y,Y,C,Z,J,a3⟩:=zcf h7.x;have HS:=zH hS;clear hS;go_upto_region 11 with fail;have hS:=HS.out;clear h7;clear j M o U q V u X y Y C Z J a3;generalize (((w7.setCell ⟨b1,2,none⟩ (.int .i64 0)).setCell ⟨b1,3,none⟩ (.int .i64 0)).setCell ⟨b1,4,none⟩ (.int .i64 0))=W9 at *;obtain⟨am,av,an,aw,ao,ax,ap,ay,aq,az,ar,aA,au,aB⟩:=zcf hS.z;have HZ:Hid (Blk (((((((W9.setCell w.heap.size (.int .i64 0)).setCell ⟨w.heap.size,1,none⟩ (.string ⟨#[]⟩)).setCell ⟨w.heap.size,2,none⟩ (.int .i64 0)).setCell ⟨w.heap.size,3,none⟩ (.int .i64 0)).setCell ⟨w.heap.size,4,none⟩ (.int .i64 0)).setCell ⟨w.heap.size,5,none⟩ (.string ⟨#[]⟩)).setCell ⟨w.heap.size,6,none⟩ (.slice none 0 0)) w.heap.size 97 #[(0:Int),.string ⟨#[]⟩,(0:Int),(0:Int),(0:Int),.string ⟨#[]⟩,.slice none 0 0]):=by
   have h:=hS.z;exact(((((((h.set (i:=0) (v:=.int .i64 0)).set (i:=1) (v:=.string ⟨#[]⟩)).set (i:=2) (v:=.int .i64 0)).set (i:=3) (v:=.int .i64 0)).set (i:=4) (v:=.int .i64 0)).set (i:=5) (v:=.string ⟨#[]⟩)).set (i:=6) (v:=.slice none 0 0))
  have HB:Hid (zB w (((((((W9.setCell w.heap.size (.int .i64 0)).setCell ⟨w.heap.size,1,none⟩ (.string ⟨#[]⟩)).setCell ⟨w.heap.size,2,none⟩ (.int .i64 0)).setCell ⟨w.heap.size,3,none⟩ (.int .i64 0)).setCell ⟨w.heap.size,4,none⟩ (.int .i64 0)).setCell ⟨w.heap.size,5,none⟩ (.string ⟨#[]⟩)).setCell ⟨w.heap.size,6,none⟩ (.slice none 0 0))):=(((((((hS.B.setCell (p:=w.heap.size) zN _).setCell (p:=⟨w.heap.size,1,none⟩) zN _).setCell (p:=⟨w.heap.size,2,none⟩) zN _).setCell (p:=⟨w.heap.size,3,none⟩) zN _).setCell (p:=⟨w.heap.size,4,none⟩) zN _).setCell (p:=⟨w.heap.size,5,none⟩) zN _).setCell (p:=⟨w.heap.size,6,none⟩) zN _);clear hS;go_wp2;generalize (((((((W9.setCell w.heap.size (.int .i64 0)).setCell ⟨w.heap.size,1,none⟩ (.string ⟨#[]⟩)).setCell ⟨w.heap.size,2,none⟩ (.int .i64 0)).setCell ⟨w.heap.size,3,none⟩ (.int .i64 0)).setCell ⟨w.heap.size,4,none⟩ (.int .i64 0)).setCell ⟨w.heap.size,5,none⟩ (.string ⟨#[]⟩)).setCell ⟨w.heap.size,6,none⟩ (.slice none 0 0))=WF at *;have r0:_=some (Value.int .i64 0):=HZ.out.cell 0;have r1:_=some (Value.string ⟨#[]⟩):=HZ.out.cell 1;have r2:_=some (Value.int .i64 0):=HZ.out.cell 2;have r3:_=some (Value.int .i64 0):=HZ.out.cell 3;have r4:_=some (Value.int .i64 0):=HZ.out.cell 4;have r5:_=some (Value.string ⟨#[]⟩):=HZ.out.cell 5;have r6:_=some (Value.slice none 0 0):=HZ.out.cell 6;refine bodyPost_ret (v:=.tuple #[.agg #[(0:Int),.string ⟨#[]⟩,(0:Int),(0:Int),(0:Int),.string ⟨#[]⟩,.slice none 0 0],.iface 42 (.int .i64 k2)]) (by simp[results,Tryz.f39,go_sem,r0,r1,r2,r3,r4,r5,r6]) rfl ?_;have ht:R=.error (k2,none):=by rw[aE.out,aj.out]
  rw[ht];exact⟨_,rfl,rfl,HB.out⟩
 |ok ns =>
  obtain⟨a0,aH⟩:∃a0:Int,((ns.getD 0 0:Nat):Int)=a0:=⟨_,rfl⟩;obtain⟨a1,aI⟩:∃a1:Int,((ns.getD 1 0:Nat):Int)=a1:=⟨_,rfl⟩;obtain⟨a2,aJ⟩:∃a2:Int,((ns.getD 2 0:Nat):Int)=a2:=⟨_,rfl⟩;have aa:Hid (zR 75 #[v1] w6 (.tuple #[.agg #[a0,a1,a2],.nilIface])):=by have h:=HV.out;rw[hv] at h;subst aH aI aJ;exact h
  have aU:=zH aH;have aV:=zH aI;have aW:=zH aJ;have aj:=zH hv;clear HV aH aI aJ hv;refine aa.out.mono ?_;rintro e w7 ⟨rfl,ae⟩;have h7:=h6.step ae;clear h6 ae aa;have h8:LS w (((w7.setCell ⟨b1,2,none⟩ (.int .i64 a0)).setCell ⟨b1,3,none⟩ (.int .i64 a1)).setCell ⟨b1,4,none⟩ (.int .i64 a2)) b1 #[K,n1,a0,a1,a2,.string ⟨#[]⟩,.slice none 0 0]:=(((h7.set 2 (.int .i64 a0)).set 3 (.int .i64 a1)).set 4 (.int .i64 a2));obtain⟨j,M,o,U,q,V,u,X,y,Y,C,Z,J,a3⟩:=zcf h7.x;have H8:=zH h8;clear h8;go_upto_region 12 with fail;have h8:=H8.out;clear h7 H8;clear j M o U q V u X y Y C Z J a3;generalize (((w7.setCell ⟨b1,2,none⟩ (.int .i64 a0)).setCell ⟨b1,3,none⟩ (.int .i64 a1)).setCell ⟨b1,4,none⟩ (.int .i64 a2))=W8 at *;obtain⟨j,M,o,U,q,V,u,X,y,Y,C,Z,J,a3⟩:=zcf h8.x;go_wp2_with fail;clear j M o U q V u X y Y C Z J a3;have HP:Hid (zC 76 #[.agg #[K,n1,a0,a1,a2,.string ⟨#[]⟩,.slice none 0 0]] W8 fun e w'=>e=.returned (.bool true)/\w'=W8.alloc (.cells #[K,n1,a0,a1,a2,.string ⟨#[]⟩,.slice none 0 0] 97)):=(yw ⟨(K:Int),n1,a0,a1,a2,⟨#[]⟩,[]⟩ (.slice none 0 0) W8).mono fun e w' ⟨he,b8⟩=>⟨by rw[he,decide_eq_true (show Ln.pair ⟨(K:Int),n1,a0,a1,a2,⟨#[]⟩,[]⟩ by rcases aX.out with h|h<;>simp[Ln.pair,h])],b8⟩
  refine HP.out.mono ?_;rintro e w9 ⟨rfl,aR⟩;have aO:zB W8 w9:=by rw[aR];exact zF.alloc zN _
  have h9:=h8.step aO;clear HP aR aO h8;go_wp2_with fail;have HC:=zH (Qc v2 32 w9 (by omega) (ab.out.below h9.B).lb);have ag:=qD v2 32;generalize (zb v2 32).1=o1 at *;generalize (zb v2 32).2=o2 at *;obtain⟨ah,ai⟩:=ag;refine HC.out.mono ?_;rintro e aT ⟨b4,rfl,ac⟩;have aG:=h9.step ac;clear HC ac;have a6:LS w (aT.setCell ⟨b1,5,none⟩ (.string o1)) b1 #[K,n1,a0,a1,a2,o1,.slice none 0 0]:=(aG.set 5 (.string o1));obtain⟨j,M,o,U,q,V,u,X,y,Y,C,Z,J,a3⟩:=zcf aG.x;have aK:=zH a6;clear a6 h9;go_upto_region 18 with fail;have a6:=aK.out;clear aG aK;clear j M o U q V u X y Y C Z J a3;generalize (aT.setCell ⟨b1,5,none⟩ (.string o1))=W11 at *;go_wp2_with fail;have HR:=zH (zew o2 W11 (by omega) (ab.out.below a6.B).lb);refine HR.out.mono ?_;rintro e a9 ⟨ra,rn,rc,er,rfl,a5,a4,ad⟩;have a7:=a6.step ad;have aS:=a6.B.size;have b9:=a6.x.lt;have ba:=a6.z.lt;have aY:Hid ((Value.slice ra rn rc).ownBlock≠some b1):=fun h=>by have:=a4 _ h;omega
  have aZ:Hid ((Value.slice ra rn rc).ownBlock≠some w.heap.size):=fun h=>by have:=a4 _ h;omega
  have af:Hid (∀g,(Value.slice ra rn rc).ownBlock=some g->w.heap.size<=g):=fun g hg=>Nat.le_trans aS (a4 g hg);clear HR ad a4 aS b9 ba;cases hx:xq o2 with
  |error e2 =>
   obtain⟨k2,p2⟩:=e2;rw[hx] at a5;obtain⟨b7,a8⟩:=a5;cases b7;obtain⟨et,ev,rfl⟩:=a8.form;have hS:LS w (a9.setCell ⟨b1,6,none⟩ (.slice none 0 0)) b1 #[K,n1,a0,a1,a2,o1,.slice none 0 0]:=(a7.set 6 (.slice none 0 0));have aD:=zH a8;clear a8;obtain⟨j,M,o,U,q,V,u,X,y,Y,C,Z,J,a3⟩:=zcf a7.x;have HS:=zH hS;clear hS;go_upto_region 20 with fail;have hS:=HS.out;have aC:Hid (yb (a9.setCell ⟨b1,6,none⟩ (.slice none 0 0)) (.iface et ev) k2 p2):=aD.out.setx a7;clear a7 j M o U q V u X y Y C Z J a3;generalize (a9.setCell ⟨b1,6,none⟩ (.slice none 0 0))=W9 at *;obtain⟨am,av,an,aw,ao,ax,ap,ay,aq,az,ar,aA,au,aB⟩:=zcf hS.z;have HE:Hid (yb (((((((W9.setCell w.heap.size (.int .i64 0)).setCell ⟨w.heap.size,1,none⟩ (.string ⟨#[]⟩)).setCell ⟨w.heap.size,2,none⟩ (.int .i64 0)).setCell ⟨w.heap.size,3,none⟩ (.int .i64 0)).setCell ⟨w.heap.size,4,none⟩ (.int .i64 0)).setCell ⟨w.heap.size,5,none⟩ (.string ⟨#[]⟩)).setCell ⟨w.heap.size,6,none⟩ (.slice none 0 0)) (.iface et ev) k2 p2):=aC.out.setz hS;have HZ:Hid (Blk (((((((W9.setCell w.heap.size (.int .i64 0)).setCell ⟨w.heap.size,1,none⟩ (.string ⟨#[]⟩)).setCell ⟨w.heap.size,2,none⟩ (.int .i64 0)).setCell ⟨w.heap.size,3,none⟩ (.int .i64 0)).setCell ⟨w.heap.size,4,none⟩ (.int .i64 0)).setCell ⟨w.heap.size,5,none⟩ (.string ⟨#[]⟩)).setCell ⟨w.heap.size,6,none⟩ (.slice none 0 0)) w.heap.size 97 #[(0:Int),.string ⟨#[]⟩,(0:Int),(0:Int),(0:Int),.string ⟨#[]⟩,.slice none 0 0]):=by
    have h:=hS.z;exact(((((((h.set (i:=0) (v:=.int .i64 0)).set (i:=1) (v:=.string ⟨#[]⟩)).set (i:=2) (v:=.int .i64 0)).set (i:=3) (v:=.int .i64 0)).set (i:=4) (v:=.int .i64 0)).set (i:=5) (v:=.string ⟨#[]⟩)).set (i:=6) (v:=.slice none 0 0))
   have HB:Hid (zB w (((((((W9.setCell w.heap.size (.int .i64 0)).setCell ⟨w.heap.size,1,none⟩ (.string ⟨#[]⟩)).setCell ⟨w.heap.size,2,none⟩ (.int .i64 0)).setCell ⟨w.heap.size,3,none⟩ (.int .i64 0)).setCell ⟨w.heap.size,4,none⟩ (.int .i64 0)).setCell ⟨w.heap.size,5,none⟩ (.string ⟨#[]⟩)).setCell ⟨w.heap.size,6,none⟩ (.slice none 0 0))):=(((((((hS.B.setCell (p:=w.heap.size) zN _).setCell (p:=⟨w.heap.size,1,none⟩) zN _).setCell (p:=⟨w.heap.size,2,none⟩) zN _).setCell (p:=⟨w.heap.size,3,none⟩) zN _).setCell (p:=⟨w.heap.size,4,none⟩) zN _).setCell (p:=⟨w.heap.size,5,none⟩) zN _).setCell (p:=⟨w.heap.size,6,none⟩) zN _);clear hS;go_wp2;generalize (((((((W9.setCell w.heap.size (.int .i64 0)).setCell ⟨w.heap.size,1,none⟩ (.string ⟨#[]⟩)).setCell ⟨w.heap.size,2,none⟩ (.int .i64 0)).setCell ⟨w.heap.size,3,none⟩ (.int .i64 0)).setCell ⟨w.heap.size,4,none⟩ (.int .i64 0)).setCell ⟨w.heap.size,5,none⟩ (.string ⟨#[]⟩)).setCell ⟨w.heap.size,6,none⟩ (.slice none 0 0))=WF at *;have r0:_=some (Value.int .i64 0):=HZ.out.cell 0;have r1:_=some (Value.string ⟨#[]⟩):=HZ.out.cell 1;have r2:_=some (Value.int .i64 0):=HZ.out.cell 2;have r3:_=some (Value.int .i64 0):=HZ.out.cell 3;have r4:_=some (Value.int .i64 0):=HZ.out.cell 4;have r5:_=some (Value.string ⟨#[]⟩):=HZ.out.cell 5;have r6:_=some (Value.slice none 0 0):=HZ.out.cell 6;refine bodyPost_ret (v:=.tuple #[.agg #[(0:Int),.string ⟨#[]⟩,(0:Int),(0:Int),(0:Int),.string ⟨#[]⟩,.slice none 0 0],.iface et ev]) (by simp[results,Tryz.f39,go_sem,r0,r1,r2,r3,r4,r5,r6]) rfl ?_;have ht:R=.error (k2,p2):=by rw[aE.out,aj.out];show xm K n1 ns o1 o2=_;unfold xm;rw[hx]
   rw[ht];exact⟨_,rfl,HE.out,HB.out⟩
  |ok l =>
   rw[hx] at a5;obtain⟨rfl,aQ,aP⟩:=a5;have hS:LS w (a9.setCell ⟨b1,6,none⟩ (.slice ra rn rc)) b1 #[K,n1,a0,a1,a2,o1,.slice ra rn rc]:=(a7.set 6 (.slice ra rn rc));obtain⟨j,M,o,U,q,V,u,X,y,Y,C,Z,J,a3⟩:=zcf a7.x;have HS:=zH hS;have b2:Hid (zk (a9.setCell ⟨b1,6,none⟩ (.slice ra rn rc)) (.slice ra rn rc) l):=aQ.one aY.out;have b0:=zH aP;clear hS aQ aP;go_upto_region 21 with fail;have hS:=HS.out;clear a7 j M o U q V u X y Y C Z J a3;generalize (a9.setCell ⟨b1,6,none⟩ (.slice ra rn rc))=W9 at *;obtain⟨am,av,an,aw,ao,ax,ap,ay,aq,az,ar,aA,au,aB⟩:=zcf hS.z;obtain⟨j,M,o,U,q,V,u,X,y,Y,C,Z,J,a3⟩:=zcf hS.x;have aF:Hid (zk (((((((W9.setCell w.heap.size (.int .i64 K)).setCell ⟨w.heap.size,1,none⟩ (.string n1)).setCell ⟨w.heap.size,2,none⟩ (.int .i64 a0)).setCell ⟨w.heap.size,3,none⟩ (.int .i64 a1)).setCell ⟨w.heap.size,4,none⟩ (.int .i64 a2)).setCell ⟨w.heap.size,5,none⟩ (.string o1)).setCell ⟨w.heap.size,6,none⟩ (.slice ra rn rc)) (.slice ra rn rc) l):=b2.out.all7 aZ.out;have bg:=hS.ne;have HZ:Hid (Blk (((((((W9.setCell w.heap.size (.int .i64 K)).setCell ⟨w.heap.size,1,none⟩ (.string n1)).setCell ⟨w.heap.size,2,none⟩ (.int .i64 a0)).setCell ⟨w.heap.size,3,none⟩ (.int .i64 a1)).setCell ⟨w.heap.size,4,none⟩ (.int .i64 a2)).setCell ⟨w.heap.size,5,none⟩ (.string o1)).setCell ⟨w.heap.size,6,none⟩ (.slice ra rn rc)) w.heap.size 97 #[K,n1,a0,a1,a2,o1,.slice ra rn rc]):=by
    have h:=hS.z;exact(((((((h.set (i:=0) (v:=.int .i64 K)).set (i:=1) (v:=.string n1)).set (i:=2) (v:=.int .i64 a0)).set (i:=3) (v:=.int .i64 a1)).set (i:=4) (v:=.int .i64 a2)).set (i:=5) (v:=.string o1)).set (i:=6) (v:=.slice ra rn rc))
   have HB:Hid (zB w (((((((W9.setCell w.heap.size (.int .i64 K)).setCell ⟨w.heap.size,1,none⟩ (.string n1)).setCell ⟨w.heap.size,2,none⟩ (.int .i64 a0)).setCell ⟨w.heap.size,3,none⟩ (.int .i64 a1)).setCell ⟨w.heap.size,4,none⟩ (.int .i64 a2)).setCell ⟨w.heap.size,5,none⟩ (.string o1)).setCell ⟨w.heap.size,6,none⟩ (.slice ra rn rc))):=(((((((hS.B.setCell (p:=w.heap.size) zN _).setCell (p:=⟨w.heap.size,1,none⟩) zN _).setCell (p:=⟨w.heap.size,2,none⟩) zN _).setCell (p:=⟨w.heap.size,3,none⟩) zN _).setCell (p:=⟨w.heap.size,4,none⟩) zN _).setCell (p:=⟨w.heap.size,5,none⟩) zN _).setCell (p:=⟨w.heap.size,6,none⟩) zN _);clear hS;go_wp2;generalize (((((((W9.setCell w.heap.size (.int .i64 K)).setCell ⟨w.heap.size,1,none⟩ (.string n1)).setCell ⟨w.heap.size,2,none⟩ (.int .i64 a0)).setCell ⟨w.heap.size,3,none⟩ (.int .i64 a1)).setCell ⟨w.heap.size,4,none⟩ (.int .i64 a2)).setCell ⟨w.heap.size,5,none⟩ (.string o1)).setCell ⟨w.heap.size,6,none⟩ (.slice ra rn rc))=WF at *;have r0:_=some (Value.int .i64 K):=HZ.out.cell 0;have r1:_=some (Value.string n1):=HZ.out.cell 1;have r2:_=some (Value.int .i64 a0):=HZ.out.cell 2;have r3:_=some (Value.int .i64 a1):=HZ.out.cell 3;have r4:_=some (Value.int .i64 a2):=HZ.out.cell 4;have r5:_=some (Value.string o1):=HZ.out.cell 5;have r6:_=some (Value.slice ra rn rc):=HZ.out.cell 6;refine bodyPost_ret (v:=.tuple #[.agg #[K,n1,a0,a1,a2,o1,.slice ra rn rc],.nilIface]) (by simp[results,Tryz.f39,go_sem,r0,r1,r2,r3,r4,r5,r6]) rfl ?_;have ht:R=.ok ⟨(K:Int),n1,a0,a1,a2,o1,l⟩:=by rw[aE.out,aj.out];show xm K n1 ns o1 o2=_;unfold xm;rw[hx,<-aU.out,<-aV.out,<-aW.out]
   rw[ht];exact⟨_,rfl,aF.out,b0.out,af.out,HB.out⟩
end
section
open Go.RowKit Sv
theorem zho(s:ByteArray)(w:World)(hs:s.size<=100000)(hw:Lw w):zC 39 #[s] w (X3 w (ZU s)):=by
 have h4:=zfl (zb s 32).1;have h:zO (zb s 32).1=0\/zO (zb s 32).1=1\/zO (zb s 32).1=2\/zO (zb s 32).1=3\/zO (zb s 32).1=4:=by omega
 unfold ZU;rcases h with h|h|h|h|h
 ·rw[zA2 h];exact zoK s w hs hw h
 ·rw[h,zA1 (by omega),zA1 (by omega)];exact zlK s w hs hw h _ rfl
 ·rw[h,zA1 (by omega),zA1 (by omega)];exact zcY 2 (Or.inl rfl) s w hs hw h _ rfl
 ·rw[h,zA1 (by omega),zA1 (by omega)];exact zcY 3 (Or.inr rfl) s w hs hw h _ rfl
 ·rw[h,zA1 (by omega),zA2 rfl];exact zpl s w hs hw h
end
section
open Go.RowKit Go.Maps
theorem Kz{x:Int}(h:I64 x):(Lit.int .i64 x).wf=true:=by
 obtain⟨h0,h1⟩:=h;simp[Lit.wf,IntKind.min,IntKind.max,IntKind.signed,IntKind.bits];omega
structure Rep{α β:Type}(ok:α->Prop)(kl:α->Lit)(el:β->DataW Unit)(D:DataW Unit)(L:List (α × β)):Prop where
 tidy:Tidy D
 size:Maps.size D=L.length
 oks:∀p∈L,ok p.1
 has:∀a,ok a->(Maps.has D (kl a)=true↔a∈L.map Prod.fst)
 all:∀x,Maps.has D x=true->∃p∈L,x=kl p.1
 at':∀p∈L,∀z,D.atKey (kl p.1) z=el p.2
 nodup:(L.map Prod.fst).Nodup
section
variable {α β:Type} {ok:α->Prop} {kl:α->Lit} {el:β->DataW Unit} {D:DataW Unit} {L:List (α × β)}
theorem Rep.empty:Rep ok kl el (.map []) ([]:List (α × β)) :=
 ⟨tidy_empty,rfl,fun p h=>(by cases h),fun a _=>(by simp[Maps.has]),fun x h=>(by simp[Maps.has] at h),fun p h=>(by cases h),List.nodup_nil⟩
theorem Rep.not(h:Rep ok kl el D L){a:α}(ha:ok a)(hn:a∉L.map Prod.fst):Maps.has D (kl a)=false:=by
 cases e:Maps.has D (kl a) with
 |false=>rfl
 |true=>exact absurd ((h.has a ha).1 e) hn
theorem Rep.put(h:Rep ok kl el D L)(inj:∀a b,ok a->ok b->kl a=kl b->a=b)(key:∀a,WideAt.IsKeyLit (kl a)){a:α}(ha:ok a)(hn:a∉L.map Prod.fst)(b:β) :
  Rep ok kl el (D.put (kl a) (el b)) (L++[(a,b)]):=by
 have j:∀c,ok c->c≠a->kl c≠kl a:=fun c hc o e=>o (inj c a hc ha e);refine⟨h.tidy.put (key a) _,?_,?_,?_,?_,?_,?_⟩
 ·rw[size_put h.tidy,h.not ha hn];simp[h.size]
 ·intro p hp;rcases List.mem_append.1 hp with hp|hp
  ·exact h.oks p hp
  ·rw[List.mem_singleton] at hp;subst hp;exact ha
 ·intro c hc;rw[List.map_append,List.mem_append]
  by_cases e:c=a
  ·subst e;simp[has_put_same h.tidy.isMap (key c)]
  ·rw[has_put_other (j c hc e)];simp[h.has c hc,e]
 ·intro x hx
  by_cases e:x=kl a
  ·exact⟨(a,b),by simp,e⟩
  ·rw[has_put_other e] at hx;obtain⟨p,hp,hx⟩:=h.all x hx;exact⟨p,by simp[hp],hx⟩
 ·intro p hp z;rcases List.mem_append.1 hp with hp|hp
  ·rw[atKey_put_other (j p.1 (h.oks p hp) (fun e=>hn (e▸List.mem_map_of_mem hp)))];exact h.at' p hp z
  ·rw[List.mem_singleton] at hp;subst hp;exact atKey_put_same h.tidy.isMap (key a) _ _
 ·rw[List.map_append,List.nodup_append];refine⟨h.nodup,by simp,fun x hx y hy=>?_⟩;simp at hy;subst hy;exact fun e=>hn (e▸hx)
end
theorem Qh{P:Program}{k:TypeId}{R:Value->Option (DataW Unit × List MemPlace)}{w:World}{b n:Nat}{D:DataW Unit}(h:w.ownsMap P k R b n D):w.ownsMap P k R b (Maps.size D) D:=by
 obtain⟨es,j,h1,h2,h3,rfl⟩:=h;exact⟨es,j,h1,h2,by simp[Maps.size,length_sorted],rfl⟩
theorem Kw{P:Program}{k:TypeId}{R:Value->Option (DataW Unit × List MemPlace)}{w w':World}{bm n:Nat}{D:DataW Unit}(h:w.ownsMap P k R bm n D)(hb:zB w w'):w'.ownsMap P k R bm n D:=by
 have o:=h.lt;obtain⟨es,j,h1,h2⟩:=h;exact⟨es,j,(hb.block bm o).trans h1,h2⟩
end
section
open Go.RowKit Go.Maps
theorem XW:Keyed Tryz.prog 9:=string_keyed Tryz.underlying9
theorem Xv{s:ByteArray}(h:s.size<=100000):keyOf Tryz.prog 9 (.string s)=some (.string s.data.toList):=WideMaps.keyOf_string_mk Tryz.underlying9 (by unfold maxLen;omega)
def Q5(s:ByteArray):Lit:=.string s.data.toList
theorem zau(s:ByteArray):WideAt.IsKeyLit (Q5 s):=trivial
theorem zfJ{a b:ByteArray}(h:Q5 a=Q5 b):a=b:=by
 unfold Q5 at h;injection h with h;exact ByteArray.ext (Array.toList_inj.1 h)
structure ZW{β:Type}(el:β->DataW Unit)(D:DataW Unit)(f:ByteArray->Option β)(n:Nat):Prop where
 tidy:Tidy D
 size:Maps.size D=n
 has:∀a,Maps.has D (Q5 a)=(f a).isSome
 at':∀a b,f a=some b->∀z,D.atKey (Q5 a) z=el b
section
variable {β:Type} {el:β->DataW Unit} {D:DataW Unit} {f:ByteArray->Option β} {n:Nat}
theorem ZW.empty:ZW el (.map []) (fun _=>(none:Option β)) 0:=⟨tidy_empty,rfl,fun a=>by simp[Maps.has],fun a b h=>by cases h⟩
theorem ZW.put(h:ZW el D f n)(a:ByteArray)(b:β):ZW el (D.put (Q5 a) (el b)) (fun c=>if c=a then some b else f c) (if (f a).isSome then n else n+1):=by
 refine⟨h.tidy.put (zau a) _,?_,fun c=>?_,fun c d hd z=>?_⟩
 ·rw[size_put h.tidy,h.has,h.size]
 ·by_cases e:c=a
  ·subst e;rw[has_put_same h.tidy.isMap (zau c)];simp
  ·rw[has_put_other (fun e'=>e (zfJ e')),h.has,zA1 e]
 ·by_cases e:c=a
  ·subst e;rw[zA2 rfl] at hd;cases hd;exact atKey_put_same h.tidy.isMap (zau c) _ _
  ·rw[zA1 e] at hd;rw[atKey_put_other (fun e'=>e (zfJ e'))];exact h.at' c d hd z
end
def QY(r:Nat × Nat):DataW Unit:=.agg [.lit (.int .i64 r.1),.lit (.int .i64 r.2)]
def Yh(r:Nat × Nat):Value:=.agg #[r.1,r.2]
def zd7:List Value->Option (DataW Unit × List MemPlace)
 |[.int .i64 a,.int .i64 b]=>some (.agg [.lit (.int .i64 a),.lit (.int .i64 b)],[])
 |_=>none
def Xh:Value->Option (DataW Unit × List MemPlace)
 |.agg cs=>zd7 cs.toList
 |_=>none
theorem zbq(r:Nat × Nat):Xh (Yh r)=some (QY r,[]):=rfl
theorem zfy{v:Value}{r:Nat × Nat}{ps:List MemPlace}(h:Xh v=some (QY r,ps)):v=Yh r:=by
 unfold Xh at h;split at h
 ·rename_i cs;unfold zd7 at h;split at h
  ·rename_i a b e;simp only[Option.some.injEq,Prod.mk.injEq,QY,DataW.agg.injEq,List.cons.injEq,DataW.lit.injEq,Lit.int.injEq,true_and,and_true] at h;obtain⟨⟨h1,h2⟩,-⟩:=h;rw[show cs=#[.int .i64 a,.int .i64 b] from Array.toList_inj.1 e,h1,h2];rfl
  ·cases h
 ·cases h
theorem zd6(w:World):(zeroValue 174).run Tryz.prog w=.ok (.agg #[(0:Int),(0:Int)]) w:=by kernel_rfl
def qM(w:World)(bm:Nat)(f:ByteArray->Option (Nat × Nat))(N:Nat):Prop:=∃D n,w.ownsMap Tryz.prog 9 Xh bm n D/\ZW QY D f n/\n<=N
theorem qM.below{B:Nat}{w w':World}{bm N:Nat}{f:ByteArray->Option (Nat × Nat)}(h:qM w bm f N)(hb:Below B w w')(hB:w.heap.size<=B):qM w' bm f N:=by
 obtain⟨D,n,h1,h2,h3⟩:=h;exact⟨D,n,Kw h1 (hb.mono hB),h2,h3⟩
theorem qM.lt{w:World}{bm N:Nat}{f:ByteArray->Option (Nat × Nat)}(h:qM w bm f N):bm<w.heap.size:=by obtain⟨D,n,h1,_⟩:=h;exact h1.lt
theorem qM.block{w w':World}{bm N:Nat}{f:ByteArray->Option (Nat × Nat)}(h:qM w bm f N)(hb:w'.heap[bm]?=w.heap[bm]?):qM w' bm f N:=by
 obtain⟨D,n,⟨es,j,h1,h2⟩,hR⟩:=h;exact⟨D,n,⟨es,j,hb.trans h1,h2⟩,hR⟩
theorem qM.made(w:World):qM (w.alloc (.map #[] 0)) w.heap.size (fun _=>none) 0:=⟨.map [],0,World.ownsMap_made w _ _ _,ZW.empty,Nat.le_refl _⟩
theorem qM.ne{w:World}{bm N b:Nat}{f:ByteArray->Option (Nat × Nat)}{t:TypeId}{cs:Array Value}(h:qM w bm f N)(hb:Blk w b t cs):bm≠b:=by
 rintro rfl;obtain⟨D,n,⟨es,j,h1,_⟩,_⟩:=h;have:=h1.symm.trans hb;cases this
theorem qM.look{w:World}{bm N:Nat}{f:ByteArray->Option (Nat × Nat)}(h:qM w bm f N){s:ByteArray}(hs:s.size<=100000) :
  (Instr.lookup 167 (.map (some bm)) (.string s) true).run Tryz.prog w=.ok (.tuple #[Yh ((f s).getD (0,0)),.bool (f s).isSome]) w/\(Instr.lookup 167 (.map (some bm)) (.string s) false).run Tryz.prog w=.ok (Yh ((f s).getD (0,0))) w:=by
 obtain⟨D,n,hD,hR,-⟩:=h;have o:∀v ps,Xh v=some (D.atKey (.string s.data.toList) (QY (0,0)),ps)->v=Yh ((f s).getD (0,0)):=fun v ps hv=>by
  cases hf:f s with
  |none =>have hh:=hR.has s;rw[hf] at hh;rw[atKey_of_not_has (show Maps.has D (.string s.data.toList)=false from hh)] at hv;exact zfy hv
  |some r =>rw[show D.atKey (.string s.data.toList) (QY (0,0))=QY r from hR.at' s r hf _] at hv;exact zfy hv
 constructor
 ·obtain⟨v,ps,j,hv⟩:=hD.look_ok XW Tryz.underlying167 (zd6 w) (zbq (0,0)) (Xv hs);rw[o v ps hv,show Maps.has D (.string s.data.toList)=(f s).isSome from hR.has s] at j;exact j
 ·obtain⟨v,ps,j,hv⟩:=hD.lookup XW Tryz.underlying167 (zd6 w) (zbq (0,0)) (Xv hs);rw[o v ps hv] at j;exact j
theorem qM.put{w:World}{bm N:Nat}{f:ByteArray->Option (Nat × Nat)}(h:qM w bm f N){s:ByteArray}(hs:s.size<=100000)(r:Nat × Nat)(hN:N<1000000) :
  ∃w',(Instr.mapUpdate 167 (.map (some bm)) (.string s) (Yh r)).run Tryz.prog w=.ok () w'/\qM w' bm (fun c=>if c=s then some r else f c) (N+1)/\w.grownBy w' (some bm):=by
 obtain⟨D,n,hD,hR,hn⟩:=h;obtain⟨w',j,g1,k1⟩:=hD.update XW Tryz.underlying167 (by unfold maxLen;omega) (Xv hs) (zbq r);have o:=hR.put s r;exact⟨w',j,⟨_,_,o.size▸Qh g1,o,by split<;>omega⟩,k1⟩
theorem zfz(l:List It)(x:It):qY (l++[x])=if x.name∈l.map It.name then qY l else qY l+1:=by
 unfold qY;rw[List.map_append,List.eraseDups_append,List.length_append,List.map_cons,List.map_nil]
 by_cases h:x.name∈l.map It.name
 ·rw[zA2 h,show [x.name].removeAll (l.map It.name)=[] by simp only[List.removeAll,List.filter_cons,List.filter_nil,List.elem_eq_mem,h,decide_true,Bool.not_true,Bool.false_eq_true,if_false]];rfl
 ·rw[zA1 h,show [x.name].removeAll (l.map It.name)=[x.name] by simp only[List.removeAll,List.filter_cons,List.filter_nil,List.elem_eq_mem,h,decide_false,Bool.not_false,if_true]];rfl
theorem zfk(l:List It):qY l<=l.length:=by
 unfold qY;have:∀m:List ByteArray,m.eraseDups.length<=m.length:=by
  intro m
  induction h:m.length using Nat.strongRecOn generalizing m with
  |_ n ih =>
   cases m with
   |nil=>simp
   |cons a m =>rw[List.eraseDups_cons];have h1:=List.length_filter_le (fun b=>!(b==a)) m;have:=ih (m.filter fun b=>!(b==a)).length (by rw[<-h];simp only[List.length_cons];omega) _ rfl;simp only[List.length_cons] at h ⊢;omega
 simpa using this (l.map It.name)
def ZH(l:List It)(c:ByteArray):Option Unit:=if c∈l.map It.name then some () else none
def xi(w:World)(bm:Nat)(l:List It):Prop:=∃D,w.ownsMap Tryz.prog 9 unitElem bm (qY l) D/\ZW (fun _:Unit=>.agg []) D (ZH l) (qY l)
theorem xi.made(w:World):xi (w.alloc (.map #[] 0)) w.heap.size []:=⟨.map [],World.ownsMap_made w _ _ _,ZW.empty⟩
theorem xi.below{B:Nat}{w w':World}{bm:Nat}{l:List It}(h:xi w bm l)(hb:Below B w w')(hB:w.heap.size<=B):xi w' bm l:=by
 obtain⟨D,h1,h2⟩:=h;exact⟨D,Kw h1 (hb.mono hB),h2⟩
theorem xi.lt{w:World}{bm:Nat}{l:List It}(h:xi w bm l):bm<w.heap.size:=by obtain⟨D,h1,_⟩:=h;exact h1.lt
theorem xi.block{w w':World}{bm:Nat}{l:List It}(h:xi w bm l)(hb:w'.heap[bm]?=w.heap[bm]?):xi w' bm l:=by
 obtain⟨D,⟨es,j,h1,h2⟩,hR⟩:=h;exact⟨D,⟨es,j,hb.trans h1,h2⟩,hR⟩
theorem xi.put{w:World}{bm:Nat}{l:List It}(h:xi w bm l)(hl:l.length<1000000){x:It}(hs:x.name.size<=100000) :
  ∃w',(Instr.mapUpdate 221 (.map (some bm)) (.string x.name) (.agg #[])).run Tryz.prog w=.ok () w'/\xi w' bm (l++[x])/\w.grownBy w' (some bm):=by
 obtain⟨D,hD,hR⟩:=h;have p:=zfk l;obtain⟨w',o,g1,k1⟩:=hD.update XW Tryz.underlying221 (by unfold maxLen;omega) (Xv hs) unitElem_mk;have j:=hR.put x.name ();have e1:(fun c=>if c=x.name then some () else ZH l c)=ZH (l++[x]):=by
  funext c;unfold ZH
  by_cases h:c=x.name
  ·simp[h]
  ·simp[h]
 have e2:(if (ZH l x.name).isSome then qY l else qY l+1)=qY (l++[x]):=by
  rw[zfz];unfold ZH
  by_cases h:x.name∈l.map It.name
  ·rw[zA2 h,zA2 h];rfl
  ·rw[zA1 h,zA1 h];rfl
 rw[e1,e2] at j;exact⟨w',o,⟨_,j.size▸Qh g1,j⟩,k1⟩
theorem xi.len{w:World}{bm:Nat}{l:List It}(h:xi w bm l)(ty:TypeId):(Builtin.len_ #[221] ty #[.map (some bm)]).run Tryz.prog w=.ok (.int .i64 (qY l)) w:=by
 obtain⟨D,hD,hR⟩:=h;rw[hD.len Tryz.underlying221 ty,hR.size]
end
end Go.Proofs.YthifnefkdjkicaaGreatDoor
