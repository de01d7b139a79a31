/- ParseLine. -/
import Derived.Test.YtiihalknffbjpaaGreatDoorCtLineB
set_option maxHeartbeats 2000000
set_option maxRecDepth 100000
namespace Go.Proofs.YtiihalknffbjpaaGreatDoor
open Go.RowKit Go.Shelf Sv
theorem line_pack (s:ByteArray) (w:World) (hs:s.size<=100000) (hw:Lw w) (hk:kindF (cutF s 32).1=1) (R:Except (Int × Option Nat) Ln) (hR:R=match versF (cutF (cutF (cutF s 32).2 32).2 32).1 with | .error e=>.error (e,none) | .ok ns=>if (cutF (cutF (cutF s 32).2 32).2 32).2.size=0 then .ok ⟨1,(cutF (cutF s 32).2 32).1,((ns.getD 0 0:Nat):Int),((ns.getD 1 0:Nat):Int),((ns.getD 2 0:Nat):Int),⟨#[]⟩,[]⟩ else .error (3,none)) :
  Calls Tryz.prog 57 #[.string s] w (LnRes w R):=by
 have k0:=Blk.new w 130 z7
 have hb0:Below w.heap.size w (w.alloc (.cells z7 130)):=(Below.refl _ w).alloc (Nat.le_refl _) _
 have HC:=Lib.hid (cut_any s 32 (w.alloc (.cells z7 130)) hs (hw.below hb0).lb)
 have HW:=Lib.hid (hw.below hb0)
 have HK:Hid (∀ W,WordsAt W->Calls Tryz.prog 133 #[.string (cutF s 32).1] W fun e w'=>e=.returned (.int .i64 1)/\w'=W):=fun W h=>by have:=kind_any (cutF s 32).1 W h;rw [hk] at this;exact this
 have hs2:=(cutF_size s 32).2
 generalize (cutF s 32).1=s1 at *
 generalize (cutF s 32).2=s2 at *
 have hs2':s2.size<=100000:=by omega
 have HW0:=Lib.hid hw
 clear hk hs hs2 hw
 have HR0:=Lib.hid hR
 clear hR
 go_enter Tryz.func57,Tryz.ntmps57
 go_wp2_with fail
 generalize w.alloc (.cells z7 130)=W0 at *
 refine HC.out.mono ?_
 rintro e wC ⟨b,rfl,hb⟩
 have HKC:=Lib.hid (HK.out wC (HW.out.below hb).wd)
 have k1:=k0.below hb k0.lt
 have hB:Below w.heap.size w wC:=hb0.trans (hb.mono hb0.size)
 have hlt:=k1.lt
 have HW1:=Lib.hid (HW.out.below hb)
 clear HC HK k0 hb0 hb HW
 go_wp2_with fail
 refine HKC.out.mono ?_
 rintro e w2 ⟨rfl,rfl⟩
 clear HKC
 have h1:LS w (w2.alloc (.cells #[.int .i64 1,.string ⟨#[]⟩,.int .i64 0,.int .i64 0,.int .i64 0,.string ⟨#[]⟩,.slice none 0 0] 130)) w2.heap.size #[.int .i64 1,.string ⟨#[]⟩,.int .i64 0,.int .i64 0,.int .i64 0,.string ⟨#[]⟩,.slice none 0 0]:=⟨k1.alloc _,Blk.new _ _ _,hlt,hB.alloc hB.size _⟩
 clear k1 hB
 go_upto_region 3 with fail
 generalize w2.alloc (.cells #[.int .i64 1,.string ⟨#[]⟩,.int .i64 0,.int .i64 0,.int .i64 0,.string ⟨#[]⟩,.slice none 0 0] 130)=W3 at *
 generalize w2.heap.size=b1 at *
 clear HW1
 have zc0:W3.cell? ⟨w.heap.size,0,none⟩=some (.int .i64 0):=h1.z.cell 0
 have zf0:W3.frozen? ⟨w.heap.size,0,none⟩=false:=h1.z.frozen 0
 have zc1:W3.cell? ⟨w.heap.size,1,none⟩=some (.string ⟨#[]⟩):=h1.z.cell 1
 have zf1:W3.frozen? ⟨w.heap.size,1,none⟩=false:=h1.z.frozen 1
 have zc2:W3.cell? ⟨w.heap.size,2,none⟩=some (.int .i64 0):=h1.z.cell 2
 have zf2:W3.frozen? ⟨w.heap.size,2,none⟩=false:=h1.z.frozen 2
 have zc3:W3.cell? ⟨w.heap.size,3,none⟩=some (.int .i64 0):=h1.z.cell 3
 have zf3:W3.frozen? ⟨w.heap.size,3,none⟩=false:=h1.z.frozen 3
 have zc4:W3.cell? ⟨w.heap.size,4,none⟩=some (.int .i64 0):=h1.z.cell 4
 have zf4:W3.frozen? ⟨w.heap.size,4,none⟩=false:=h1.z.frozen 4
 have zc5:W3.cell? ⟨w.heap.size,5,none⟩=some (.string ⟨#[]⟩):=h1.z.cell 5
 have zf5:W3.frozen? ⟨w.heap.size,5,none⟩=false:=h1.z.frozen 5
 have zc6:W3.cell? ⟨w.heap.size,6,none⟩=some (.slice none 0 0):=h1.z.cell 6
 have zf6:W3.frozen? ⟨w.heap.size,6,none⟩=false:=h1.z.frozen 6
 have xc0:W3.cell? ⟨b1,0,none⟩=some (.int .i64 1):=h1.x.cell 0
 have xf0:W3.frozen? ⟨b1,0,none⟩=false:=h1.x.frozen 0
 have xc1:W3.cell? ⟨b1,1,none⟩=some (.string ⟨#[]⟩):=h1.x.cell 1
 have xf1:W3.frozen? ⟨b1,1,none⟩=false:=h1.x.frozen 1
 have xc2:W3.cell? ⟨b1,2,none⟩=some (.int .i64 0):=h1.x.cell 2
 have xf2:W3.frozen? ⟨b1,2,none⟩=false:=h1.x.frozen 2
 have xc3:W3.cell? ⟨b1,3,none⟩=some (.int .i64 0):=h1.x.cell 3
 have xf3:W3.frozen? ⟨b1,3,none⟩=false:=h1.x.frozen 3
 have xc4:W3.cell? ⟨b1,4,none⟩=some (.int .i64 0):=h1.x.cell 4
 have xf4:W3.frozen? ⟨b1,4,none⟩=false:=h1.x.frozen 4
 have xc5:W3.cell? ⟨b1,5,none⟩=some (.string ⟨#[]⟩):=h1.x.cell 5
 have xf5:W3.frozen? ⟨b1,5,none⟩=false:=h1.x.frozen 5
 have xc6:W3.cell? ⟨b1,6,none⟩=some (.slice none 0 0):=h1.x.cell 6
 have xf6:W3.frozen? ⟨b1,6,none⟩=false:=h1.x.frozen 6
 go_wp2_with fail
 clear zc0 zf0 zc1 zf1 zc2 zf2 zc3 zf3 zc4 zf4 zc5 zf5 zc6 zf6 xc0 xf0 xc1 xf1 xc2 xf2 xc3 xf3 xc4 xf4 xc5 xf5 xc6 xf6
 have HC:=Lib.hid (cut_any s2 32 W3 (by omega) (HW0.out.below h1.B).lb)
 have hsz:=cutF_size s2 32
 generalize (cutF s2 32).1=n1 at *
 generalize (cutF s2 32).2=n2 at *
 obtain ⟨hsz1,hsz2⟩:=hsz
 refine HC.out.mono ?_
 rintro e w4 ⟨bb4,rfl,hb4⟩
 have h4:=h1.step hb4
 clear HC hb4
 have h5:LS w (w4.setCell ⟨b1,1,none⟩ (.string n1)) b1 #[.int .i64 1,.string n1,.int .i64 0,.int .i64 0,.int .i64 0,.string ⟨#[]⟩,.slice none 0 0]:=(h4.set 1 (.string n1))
 have xc0:w4.cell? ⟨b1,0,none⟩=some (.int .i64 1):=h4.x.cell 0
 have xf0:w4.frozen? ⟨b1,0,none⟩=false:=h4.x.frozen 0
 have xc1:w4.cell? ⟨b1,1,none⟩=some (.string ⟨#[]⟩):=h4.x.cell 1
 have xf1:w4.frozen? ⟨b1,1,none⟩=false:=h4.x.frozen 1
 have xc2:w4.cell? ⟨b1,2,none⟩=some (.int .i64 0):=h4.x.cell 2
 have xf2:w4.frozen? ⟨b1,2,none⟩=false:=h4.x.frozen 2
 have xc3:w4.cell? ⟨b1,3,none⟩=some (.int .i64 0):=h4.x.cell 3
 have xf3:w4.frozen? ⟨b1,3,none⟩=false:=h4.x.frozen 3
 have xc4:w4.cell? ⟨b1,4,none⟩=some (.int .i64 0):=h4.x.cell 4
 have xf4:w4.frozen? ⟨b1,4,none⟩=false:=h4.x.frozen 4
 have xc5:w4.cell? ⟨b1,5,none⟩=some (.string ⟨#[]⟩):=h4.x.cell 5
 have xf5:w4.frozen? ⟨b1,5,none⟩=false:=h4.x.frozen 5
 have xc6:w4.cell? ⟨b1,6,none⟩=some (.slice none 0 0):=h4.x.cell 6
 have xf6:w4.frozen? ⟨b1,6,none⟩=false:=h4.x.frozen 6
 have H5:=Lib.hid h5
 clear h5
 go_upto_region 7 with fail
 have h5:=H5.out
 clear h4 H5
 clear xc0 xf0 xc1 xf1 xc2 xf2 xc3 xf3 xc4 xf4 xc5 xf5 xc6 xf6
 generalize (w4.setCell ⟨b1,1,none⟩ (.string n1))=W5 at *
 have xc0:W5.cell? ⟨b1,0,none⟩=some (.int .i64 1):=h5.x.cell 0
 have xf0:W5.frozen? ⟨b1,0,none⟩=false:=h5.x.frozen 0
 have xc1:W5.cell? ⟨b1,1,none⟩=some (.string n1):=h5.x.cell 1
 have xf1:W5.frozen? ⟨b1,1,none⟩=false:=h5.x.frozen 1
 have xc2:W5.cell? ⟨b1,2,none⟩=some (.int .i64 0):=h5.x.cell 2
 have xf2:W5.frozen? ⟨b1,2,none⟩=false:=h5.x.frozen 2
 have xc3:W5.cell? ⟨b1,3,none⟩=some (.int .i64 0):=h5.x.cell 3
 have xf3:W5.frozen? ⟨b1,3,none⟩=false:=h5.x.frozen 3
 have xc4:W5.cell? ⟨b1,4,none⟩=some (.int .i64 0):=h5.x.cell 4
 have xf4:W5.frozen? ⟨b1,4,none⟩=false:=h5.x.frozen 4
 have xc5:W5.cell? ⟨b1,5,none⟩=some (.string ⟨#[]⟩):=h5.x.cell 5
 have xf5:W5.frozen? ⟨b1,5,none⟩=false:=h5.x.frozen 5
 have xc6:W5.cell? ⟨b1,6,none⟩=some (.slice none 0 0):=h5.x.cell 6
 have xf6:W5.frozen? ⟨b1,6,none⟩=false:=h5.x.frozen 6
 go_wp2_with fail
 clear xc0 xf0 xc1 xf1 xc2 xf2 xc3 xf3 xc4 xf4 xc5 xf5 xc6 xf6
 have HC:=Lib.hid (cut_any n2 32 W5 (by omega) (HW0.out.below h5.B).lb)
 have hsz:=cutF_size n2 32
 generalize (cutF n2 32).1=v1 at *
 generalize (cutF n2 32).2=v2 at *
 obtain ⟨hsz1,hsz2⟩:=hsz
 refine HC.out.mono ?_
 rintro e w6 ⟨bb6,rfl,hb6⟩
 have h6:=h5.step hb6
 clear HC hb6
 clear h5
 have HV:=Lib.hid (parse_any v1 w6 (by omega) (HW0.out.below h6.B).lb)
 go_wp2_with fail
 cases hv:versF v1 with
 | error k2 =>
  have HV2:Hid (Calls Tryz.prog 134 #[.string v1] w6 fun e w'=>e=.returned (.tuple #[.agg #[.int .i64 0,.int .i64 0,.int .i64 0],.iface 57 (.int .i64 k2)])/\Below w6.heap.size w6 w'):=by have h:=HV.out;rw [hv] at h;exact h
  have HVV:=Lib.hid hv
  clear HV hv
  refine HV2.out.mono ?_
  rintro e w7 ⟨rfl,hb7⟩
  have h7:=h6.step hb7
  clear h6 hb7 HV2
  have hS:LS w (((w7.setCell ⟨b1,2,none⟩ (.int .i64 0)).setCell ⟨b1,3,none⟩ (.int .i64 0)).setCell ⟨b1,4,none⟩ (.int .i64 0)) b1 #[.int .i64 1,.string n1,.int .i64 0,.int .i64 0,.int .i64 0,.string ⟨#[]⟩,.slice none 0 0]:=(((h7.set 2 (.int .i64 0)).set 3 (.int .i64 0)).set 4 (.int .i64 0))
  have xc0:w7.cell? ⟨b1,0,none⟩=some (.int .i64 1):=h7.x.cell 0
  have xf0:w7.frozen? ⟨b1,0,none⟩=false:=h7.x.frozen 0
  have xc1:w7.cell? ⟨b1,1,none⟩=some (.string n1):=h7.x.cell 1
  have xf1:w7.frozen? ⟨b1,1,none⟩=false:=h7.x.frozen 1
  have xc2:w7.cell? ⟨b1,2,none⟩=some (.int .i64 0):=h7.x.cell 2
  have xf2:w7.frozen? ⟨b1,2,none⟩=false:=h7.x.frozen 2
  have xc3:w7.cell? ⟨b1,3,none⟩=some (.int .i64 0):=h7.x.cell 3
  have xf3:w7.frozen? ⟨b1,3,none⟩=false:=h7.x.frozen 3
  have xc4:w7.cell? ⟨b1,4,none⟩=some (.int .i64 0):=h7.x.cell 4
  have xf4:w7.frozen? ⟨b1,4,none⟩=false:=h7.x.frozen 4
  have xc5:w7.cell? ⟨b1,5,none⟩=some (.string ⟨#[]⟩):=h7.x.cell 5
  have xf5:w7.frozen? ⟨b1,5,none⟩=false:=h7.x.frozen 5
  have xc6:w7.cell? ⟨b1,6,none⟩=some (.slice none 0 0):=h7.x.cell 6
  have xf6:w7.frozen? ⟨b1,6,none⟩=false:=h7.x.frozen 6
  have HS:=Lib.hid hS
  clear hS
  go_upto_region 11 with fail
  have hS:=HS.out
  clear h7
  clear xc0 xf0 xc1 xf1 xc2 xf2 xc3 xf3 xc4 xf4 xc5 xf5 xc6 xf6
  generalize (((w7.setCell ⟨b1,2,none⟩ (.int .i64 0)).setCell ⟨b1,3,none⟩ (.int .i64 0)).setCell ⟨b1,4,none⟩ (.int .i64 0))=W9 at *
  have zc0:W9.cell? ⟨w.heap.size,0,none⟩=some (.int .i64 0):=hS.z.cell 0
  have zf0:W9.frozen? ⟨w.heap.size,0,none⟩=false:=hS.z.frozen 0
  have zc1:W9.cell? ⟨w.heap.size,1,none⟩=some (.string ⟨#[]⟩):=hS.z.cell 1
  have zf1:W9.frozen? ⟨w.heap.size,1,none⟩=false:=hS.z.frozen 1
  have zc2:W9.cell? ⟨w.heap.size,2,none⟩=some (.int .i64 0):=hS.z.cell 2
  have zf2:W9.frozen? ⟨w.heap.size,2,none⟩=false:=hS.z.frozen 2
  have zc3:W9.cell? ⟨w.heap.size,3,none⟩=some (.int .i64 0):=hS.z.cell 3
  have zf3:W9.frozen? ⟨w.heap.size,3,none⟩=false:=hS.z.frozen 3
  have zc4:W9.cell? ⟨w.heap.size,4,none⟩=some (.int .i64 0):=hS.z.cell 4
  have zf4:W9.frozen? ⟨w.heap.size,4,none⟩=false:=hS.z.frozen 4
  have zc5:W9.cell? ⟨w.heap.size,5,none⟩=some (.string ⟨#[]⟩):=hS.z.cell 5
  have zf5:W9.frozen? ⟨w.heap.size,5,none⟩=false:=hS.z.frozen 5
  have zc6:W9.cell? ⟨w.heap.size,6,none⟩=some (.slice none 0 0):=hS.z.cell 6
  have zf6:W9.frozen? ⟨w.heap.size,6,none⟩=false:=hS.z.frozen 6
  have HZ:Hid (Blk (((((((W9.setCell ⟨w.heap.size,0,none⟩ (.int .i64 0)).setCell ⟨w.heap.size,1,none⟩ (.string ⟨#[]⟩)).setCell ⟨w.heap.size,2,none⟩ (.int .i64 0)).setCell ⟨w.heap.size,3,none⟩ (.int .i64 0)).setCell ⟨w.heap.size,4,none⟩ (.int .i64 0)).setCell ⟨w.heap.size,5,none⟩ (.string ⟨#[]⟩)).setCell ⟨w.heap.size,6,none⟩ (.slice none 0 0)) w.heap.size 130 #[.int .i64 0,.string ⟨#[]⟩,.int .i64 0,.int .i64 0,.int .i64 0,.string ⟨#[]⟩,.slice none 0 0]):=by
   have h:=hS.z
   exact (((((((h.set (i:=0) (v:=.int .i64 0)).set (i:=1) (v:=.string ⟨#[]⟩)).set (i:=2) (v:=.int .i64 0)).set (i:=3) (v:=.int .i64 0)).set (i:=4) (v:=.int .i64 0)).set (i:=5) (v:=.string ⟨#[]⟩)).set (i:=6) (v:=.slice none 0 0))
  have HB:Hid (Below w.heap.size w (((((((W9.setCell ⟨w.heap.size,0,none⟩ (.int .i64 0)).setCell ⟨w.heap.size,1,none⟩ (.string ⟨#[]⟩)).setCell ⟨w.heap.size,2,none⟩ (.int .i64 0)).setCell ⟨w.heap.size,3,none⟩ (.int .i64 0)).setCell ⟨w.heap.size,4,none⟩ (.int .i64 0)).setCell ⟨w.heap.size,5,none⟩ (.string ⟨#[]⟩)).setCell ⟨w.heap.size,6,none⟩ (.slice none 0 0))):=(((((((hS.B.setCell (p:=⟨w.heap.size,0,none⟩) (Nat.le_refl _) _).setCell (p:=⟨w.heap.size,1,none⟩) (Nat.le_refl _) _).setCell (p:=⟨w.heap.size,2,none⟩) (Nat.le_refl _) _).setCell (p:=⟨w.heap.size,3,none⟩) (Nat.le_refl _) _).setCell (p:=⟨w.heap.size,4,none⟩) (Nat.le_refl _) _).setCell (p:=⟨w.heap.size,5,none⟩) (Nat.le_refl _) _).setCell (p:=⟨w.heap.size,6,none⟩) (Nat.le_refl _) _)
  clear hS
  go_wp2
  generalize (((((((W9.setCell ⟨w.heap.size,0,none⟩ (.int .i64 0)).setCell ⟨w.heap.size,1,none⟩ (.string ⟨#[]⟩)).setCell ⟨w.heap.size,2,none⟩ (.int .i64 0)).setCell ⟨w.heap.size,3,none⟩ (.int .i64 0)).setCell ⟨w.heap.size,4,none⟩ (.int .i64 0)).setCell ⟨w.heap.size,5,none⟩ (.string ⟨#[]⟩)).setCell ⟨w.heap.size,6,none⟩ (.slice none 0 0))=WF at *
  have r0:WF.cell? ⟨w.heap.size,0,none⟩=some (.int .i64 0):=HZ.out.cell 0
  have r1:WF.cell? ⟨w.heap.size,1,none⟩=some (.string ⟨#[]⟩):=HZ.out.cell 1
  have r2:WF.cell? ⟨w.heap.size,2,none⟩=some (.int .i64 0):=HZ.out.cell 2
  have r3:WF.cell? ⟨w.heap.size,3,none⟩=some (.int .i64 0):=HZ.out.cell 3
  have r4:WF.cell? ⟨w.heap.size,4,none⟩=some (.int .i64 0):=HZ.out.cell 4
  have r5:WF.cell? ⟨w.heap.size,5,none⟩=some (.string ⟨#[]⟩):=HZ.out.cell 5
  have r6:WF.cell? ⟨w.heap.size,6,none⟩=some (.slice none 0 0):=HZ.out.cell 6
  refine bodyPost_ret (v:=.tuple #[.agg #[.int .i64 0,.string ⟨#[]⟩,.int .i64 0,.int .i64 0,.int .i64 0,.string ⟨#[]⟩,.slice none 0 0],.iface 57 (.int .i64 k2)]) (by simp [results,Tryz.f57,go_sem,r0,r1,r2,r3,r4,r5,r6]) rfl ?_
  have ht:R=.error (k2,none):=by rw [HR0.out,HVV.out]
  rw [ht]
  exact ⟨_,rfl,rfl,HB.out⟩
 | ok ns =>
  obtain ⟨a0,ha0⟩:∃ a0:Int,((ns.getD 0 0:Nat):Int)=a0:=⟨_,rfl⟩
  obtain ⟨a1,ha1⟩:∃ a1:Int,((ns.getD 1 0:Nat):Int)=a1:=⟨_,rfl⟩
  obtain ⟨a2,ha2⟩:∃ a2:Int,((ns.getD 2 0:Nat):Int)=a2:=⟨_,rfl⟩
  have HV2:Hid (Calls Tryz.prog 134 #[.string v1] w6 fun e w'=>e=.returned (.tuple #[.agg #[.int .i64 a0,.int .i64 a1,.int .i64 a2],.nilIface])/\Below w6.heap.size w6 w'):=by have h:=HV.out;rw [hv] at h;subst ha0 ha1 ha2;exact h
  have HA0:=Lib.hid ha0
  have HA1:=Lib.hid ha1
  have HA2:=Lib.hid ha2
  have HVV:=Lib.hid hv
  clear HV ha0 ha1 ha2 hv
  refine HV2.out.mono ?_
  rintro e w7 ⟨rfl,hb7⟩
  have h7:=h6.step hb7
  clear h6 hb7 HV2
  have h8:LS w (((w7.setCell ⟨b1,2,none⟩ (.int .i64 a0)).setCell ⟨b1,3,none⟩ (.int .i64 a1)).setCell ⟨b1,4,none⟩ (.int .i64 a2)) b1 #[.int .i64 1,.string n1,.int .i64 a0,.int .i64 a1,.int .i64 a2,.string ⟨#[]⟩,.slice none 0 0]:=(((h7.set 2 (.int .i64 a0)).set 3 (.int .i64 a1)).set 4 (.int .i64 a2))
  have xc0:w7.cell? ⟨b1,0,none⟩=some (.int .i64 1):=h7.x.cell 0
  have xf0:w7.frozen? ⟨b1,0,none⟩=false:=h7.x.frozen 0
  have xc1:w7.cell? ⟨b1,1,none⟩=some (.string n1):=h7.x.cell 1
  have xf1:w7.frozen? ⟨b1,1,none⟩=false:=h7.x.frozen 1
  have xc2:w7.cell? ⟨b1,2,none⟩=some (.int .i64 0):=h7.x.cell 2
  have xf2:w7.frozen? ⟨b1,2,none⟩=false:=h7.x.frozen 2
  have xc3:w7.cell? ⟨b1,3,none⟩=some (.int .i64 0):=h7.x.cell 3
  have xf3:w7.frozen? ⟨b1,3,none⟩=false:=h7.x.frozen 3
  have xc4:w7.cell? ⟨b1,4,none⟩=some (.int .i64 0):=h7.x.cell 4
  have xf4:w7.frozen? ⟨b1,4,none⟩=false:=h7.x.frozen 4
  have xc5:w7.cell? ⟨b1,5,none⟩=some (.string ⟨#[]⟩):=h7.x.cell 5
  have xf5:w7.frozen? ⟨b1,5,none⟩=false:=h7.x.frozen 5
  have xc6:w7.cell? ⟨b1,6,none⟩=some (.slice none 0 0):=h7.x.cell 6
  have xf6:w7.frozen? ⟨b1,6,none⟩=false:=h7.x.frozen 6
  have H8:=Lib.hid h8
  clear h8
  go_upto_region 12 with fail
  have h8:=H8.out
  clear h7 H8
  clear xc0 xf0 xc1 xf1 xc2 xf2 xc3 xf3 xc4 xf4 xc5 xf5 xc6 xf6
  generalize (((w7.setCell ⟨b1,2,none⟩ (.int .i64 a0)).setCell ⟨b1,3,none⟩ (.int .i64 a1)).setCell ⟨b1,4,none⟩ (.int .i64 a2))=W8 at *
  by_cases hz:v2.size=0
  ·have hv2:v2=⟨#[]⟩:=bytes_empty hz
   subst hv2
   have zc0:W8.cell? ⟨w.heap.size,0,none⟩=some (.int .i64 0):=h8.z.cell 0
   have zf0:W8.frozen? ⟨w.heap.size,0,none⟩=false:=h8.z.frozen 0
   have zc1:W8.cell? ⟨w.heap.size,1,none⟩=some (.string ⟨#[]⟩):=h8.z.cell 1
   have zf1:W8.frozen? ⟨w.heap.size,1,none⟩=false:=h8.z.frozen 1
   have zc2:W8.cell? ⟨w.heap.size,2,none⟩=some (.int .i64 0):=h8.z.cell 2
   have zf2:W8.frozen? ⟨w.heap.size,2,none⟩=false:=h8.z.frozen 2
   have zc3:W8.cell? ⟨w.heap.size,3,none⟩=some (.int .i64 0):=h8.z.cell 3
   have zf3:W8.frozen? ⟨w.heap.size,3,none⟩=false:=h8.z.frozen 3
   have zc4:W8.cell? ⟨w.heap.size,4,none⟩=some (.int .i64 0):=h8.z.cell 4
   have zf4:W8.frozen? ⟨w.heap.size,4,none⟩=false:=h8.z.frozen 4
   have zc5:W8.cell? ⟨w.heap.size,5,none⟩=some (.string ⟨#[]⟩):=h8.z.cell 5
   have zf5:W8.frozen? ⟨w.heap.size,5,none⟩=false:=h8.z.frozen 5
   have zc6:W8.cell? ⟨w.heap.size,6,none⟩=some (.slice none 0 0):=h8.z.cell 6
   have zf6:W8.frozen? ⟨w.heap.size,6,none⟩=false:=h8.z.frozen 6
   have xc0:W8.cell? ⟨b1,0,none⟩=some (.int .i64 1):=h8.x.cell 0
   have xf0:W8.frozen? ⟨b1,0,none⟩=false:=h8.x.frozen 0
   have xc1:W8.cell? ⟨b1,1,none⟩=some (.string n1):=h8.x.cell 1
   have xf1:W8.frozen? ⟨b1,1,none⟩=false:=h8.x.frozen 1
   have xc2:W8.cell? ⟨b1,2,none⟩=some (.int .i64 a0):=h8.x.cell 2
   have xf2:W8.frozen? ⟨b1,2,none⟩=false:=h8.x.frozen 2
   have xc3:W8.cell? ⟨b1,3,none⟩=some (.int .i64 a1):=h8.x.cell 3
   have xf3:W8.frozen? ⟨b1,3,none⟩=false:=h8.x.frozen 3
   have xc4:W8.cell? ⟨b1,4,none⟩=some (.int .i64 a2):=h8.x.cell 4
   have xf4:W8.frozen? ⟨b1,4,none⟩=false:=h8.x.frozen 4
   have xc5:W8.cell? ⟨b1,5,none⟩=some (.string ⟨#[]⟩):=h8.x.cell 5
   have xf5:W8.frozen? ⟨b1,5,none⟩=false:=h8.x.frozen 5
   have xc6:W8.cell? ⟨b1,6,none⟩=some (.slice none 0 0):=h8.x.cell 6
   have xf6:W8.frozen? ⟨b1,6,none⟩=false:=h8.x.frozen 6
   have HZ:Hid (Blk (((((((W8.setCell ⟨w.heap.size,0,none⟩ (.int .i64 1)).setCell ⟨w.heap.size,1,none⟩ (.string n1)).setCell ⟨w.heap.size,2,none⟩ (.int .i64 a0)).setCell ⟨w.heap.size,3,none⟩ (.int .i64 a1)).setCell ⟨w.heap.size,4,none⟩ (.int .i64 a2)).setCell ⟨w.heap.size,5,none⟩ (.string ⟨#[]⟩)).setCell ⟨w.heap.size,6,none⟩ (.slice none 0 0)) w.heap.size 130 #[.int .i64 1,.string n1,.int .i64 a0,.int .i64 a1,.int .i64 a2,.string ⟨#[]⟩,.slice none 0 0]):=by
    have h:=h8.z
    exact (((((((h.set (i:=0) (v:=.int .i64 1)).set (i:=1) (v:=.string n1)).set (i:=2) (v:=.int .i64 a0)).set (i:=3) (v:=.int .i64 a1)).set (i:=4) (v:=.int .i64 a2)).set (i:=5) (v:=.string ⟨#[]⟩)).set (i:=6) (v:=.slice none 0 0))
   have HB:Hid (Below w.heap.size w (((((((W8.setCell ⟨w.heap.size,0,none⟩ (.int .i64 1)).setCell ⟨w.heap.size,1,none⟩ (.string n1)).setCell ⟨w.heap.size,2,none⟩ (.int .i64 a0)).setCell ⟨w.heap.size,3,none⟩ (.int .i64 a1)).setCell ⟨w.heap.size,4,none⟩ (.int .i64 a2)).setCell ⟨w.heap.size,5,none⟩ (.string ⟨#[]⟩)).setCell ⟨w.heap.size,6,none⟩ (.slice none 0 0))):=(((((((h8.B.setCell (p:=⟨w.heap.size,0,none⟩) (Nat.le_refl _) _).setCell (p:=⟨w.heap.size,1,none⟩) (Nat.le_refl _) _).setCell (p:=⟨w.heap.size,2,none⟩) (Nat.le_refl _) _).setCell (p:=⟨w.heap.size,3,none⟩) (Nat.le_refl _) _).setCell (p:=⟨w.heap.size,4,none⟩) (Nat.le_refl _) _).setCell (p:=⟨w.heap.size,5,none⟩) (Nat.le_refl _) _).setCell (p:=⟨w.heap.size,6,none⟩) (Nat.le_refl _) _)
   clear h8
   go_wp2
   generalize (((((((W8.setCell ⟨w.heap.size,0,none⟩ (.int .i64 1)).setCell ⟨w.heap.size,1,none⟩ (.string n1)).setCell ⟨w.heap.size,2,none⟩ (.int .i64 a0)).setCell ⟨w.heap.size,3,none⟩ (.int .i64 a1)).setCell ⟨w.heap.size,4,none⟩ (.int .i64 a2)).setCell ⟨w.heap.size,5,none⟩ (.string ⟨#[]⟩)).setCell ⟨w.heap.size,6,none⟩ (.slice none 0 0))=WF at *
   have r0:WF.cell? ⟨w.heap.size,0,none⟩=some (.int .i64 1):=HZ.out.cell 0
   have r1:WF.cell? ⟨w.heap.size,1,none⟩=some (.string n1):=HZ.out.cell 1
   have r2:WF.cell? ⟨w.heap.size,2,none⟩=some (.int .i64 a0):=HZ.out.cell 2
   have r3:WF.cell? ⟨w.heap.size,3,none⟩=some (.int .i64 a1):=HZ.out.cell 3
   have r4:WF.cell? ⟨w.heap.size,4,none⟩=some (.int .i64 a2):=HZ.out.cell 4
   have r5:WF.cell? ⟨w.heap.size,5,none⟩=some (.string ⟨#[]⟩):=HZ.out.cell 5
   have r6:WF.cell? ⟨w.heap.size,6,none⟩=some (.slice none 0 0):=HZ.out.cell 6
   refine bodyPost_ret (v:=.tuple #[.agg #[.int .i64 1,.string n1,.int .i64 a0,.int .i64 a1,.int .i64 a2,.string ⟨#[]⟩,.slice none 0 0],.nilIface]) (by simp [results,Tryz.f57,go_sem,r0,r1,r2,r3,r4,r5,r6]) rfl ?_
   have ht:R=.ok ⟨1,n1,a0,a1,a2,⟨#[]⟩,[]⟩:=by rw [HR0.out,HVV.out,<- HA0.out,<- HA1.out,<- HA2.out];rfl
   rw [ht]
   exact ⟨_,rfl,spAt_nil _,rg_nil,(fun g hg=>by simp [Value.ownBlock] at hg),HB.out⟩
  ·have he1:v2.toList.isEmpty=false:=bytes_not_empty (by omega)
   have he2:(v2.toList == [])=false:=by rw [beq_eq_false_iff_ne];intro h;rw [h] at he1;cases he1
   have zc0:W8.cell? ⟨w.heap.size,0,none⟩=some (.int .i64 0):=h8.z.cell 0
   have zf0:W8.frozen? ⟨w.heap.size,0,none⟩=false:=h8.z.frozen 0
   have zc1:W8.cell? ⟨w.heap.size,1,none⟩=some (.string ⟨#[]⟩):=h8.z.cell 1
   have zf1:W8.frozen? ⟨w.heap.size,1,none⟩=false:=h8.z.frozen 1
   have zc2:W8.cell? ⟨w.heap.size,2,none⟩=some (.int .i64 0):=h8.z.cell 2
   have zf2:W8.frozen? ⟨w.heap.size,2,none⟩=false:=h8.z.frozen 2
   have zc3:W8.cell? ⟨w.heap.size,3,none⟩=some (.int .i64 0):=h8.z.cell 3
   have zf3:W8.frozen? ⟨w.heap.size,3,none⟩=false:=h8.z.frozen 3
   have zc4:W8.cell? ⟨w.heap.size,4,none⟩=some (.int .i64 0):=h8.z.cell 4
   have zf4:W8.frozen? ⟨w.heap.size,4,none⟩=false:=h8.z.frozen 4
   have zc5:W8.cell? ⟨w.heap.size,5,none⟩=some (.string ⟨#[]⟩):=h8.z.cell 5
   have zf5:W8.frozen? ⟨w.heap.size,5,none⟩=false:=h8.z.frozen 5
   have zc6:W8.cell? ⟨w.heap.size,6,none⟩=some (.slice none 0 0):=h8.z.cell 6
   have zf6:W8.frozen? ⟨w.heap.size,6,none⟩=false:=h8.z.frozen 6
   have xc0:W8.cell? ⟨b1,0,none⟩=some (.int .i64 1):=h8.x.cell 0
   have xf0:W8.frozen? ⟨b1,0,none⟩=false:=h8.x.frozen 0
   have xc1:W8.cell? ⟨b1,1,none⟩=some (.string n1):=h8.x.cell 1
   have xf1:W8.frozen? ⟨b1,1,none⟩=false:=h8.x.frozen 1
   have xc2:W8.cell? ⟨b1,2,none⟩=some (.int .i64 a0):=h8.x.cell 2
   have xf2:W8.frozen? ⟨b1,2,none⟩=false:=h8.x.frozen 2
   have xc3:W8.cell? ⟨b1,3,none⟩=some (.int .i64 a1):=h8.x.cell 3
   have xf3:W8.frozen? ⟨b1,3,none⟩=false:=h8.x.frozen 3
   have xc4:W8.cell? ⟨b1,4,none⟩=some (.int .i64 a2):=h8.x.cell 4
   have xf4:W8.frozen? ⟨b1,4,none⟩=false:=h8.x.frozen 4
   have xc5:W8.cell? ⟨b1,5,none⟩=some (.string ⟨#[]⟩):=h8.x.cell 5
   have xf5:W8.frozen? ⟨b1,5,none⟩=false:=h8.x.frozen 5
   have xc6:W8.cell? ⟨b1,6,none⟩=some (.slice none 0 0):=h8.x.cell 6
   have xf6:W8.frozen? ⟨b1,6,none⟩=false:=h8.x.frozen 6
   have HZ:Hid (Blk (((((((W8.setCell ⟨w.heap.size,0,none⟩ (.int .i64 0)).setCell ⟨w.heap.size,1,none⟩ (.string ⟨#[]⟩)).setCell ⟨w.heap.size,2,none⟩ (.int .i64 0)).setCell ⟨w.heap.size,3,none⟩ (.int .i64 0)).setCell ⟨w.heap.size,4,none⟩ (.int .i64 0)).setCell ⟨w.heap.size,5,none⟩ (.string ⟨#[]⟩)).setCell ⟨w.heap.size,6,none⟩ (.slice none 0 0)) w.heap.size 130 #[.int .i64 0,.string ⟨#[]⟩,.int .i64 0,.int .i64 0,.int .i64 0,.string ⟨#[]⟩,.slice none 0 0]):=by
    have h:=h8.z
    exact (((((((h.set (i:=0) (v:=.int .i64 0)).set (i:=1) (v:=.string ⟨#[]⟩)).set (i:=2) (v:=.int .i64 0)).set (i:=3) (v:=.int .i64 0)).set (i:=4) (v:=.int .i64 0)).set (i:=5) (v:=.string ⟨#[]⟩)).set (i:=6) (v:=.slice none 0 0))
   have HB:Hid (Below w.heap.size w (((((((W8.setCell ⟨w.heap.size,0,none⟩ (.int .i64 0)).setCell ⟨w.heap.size,1,none⟩ (.string ⟨#[]⟩)).setCell ⟨w.heap.size,2,none⟩ (.int .i64 0)).setCell ⟨w.heap.size,3,none⟩ (.int .i64 0)).setCell ⟨w.heap.size,4,none⟩ (.int .i64 0)).setCell ⟨w.heap.size,5,none⟩ (.string ⟨#[]⟩)).setCell ⟨w.heap.size,6,none⟩ (.slice none 0 0))):=(((((((h8.B.setCell (p:=⟨w.heap.size,0,none⟩) (Nat.le_refl _) _).setCell (p:=⟨w.heap.size,1,none⟩) (Nat.le_refl _) _).setCell (p:=⟨w.heap.size,2,none⟩) (Nat.le_refl _) _).setCell (p:=⟨w.heap.size,3,none⟩) (Nat.le_refl _) _).setCell (p:=⟨w.heap.size,4,none⟩) (Nat.le_refl _) _).setCell (p:=⟨w.heap.size,5,none⟩) (Nat.le_refl _) _).setCell (p:=⟨w.heap.size,6,none⟩) (Nat.le_refl _) _)
   clear h8
   go_wp2
   generalize (((((((W8.setCell ⟨w.heap.size,0,none⟩ (.int .i64 0)).setCell ⟨w.heap.size,1,none⟩ (.string ⟨#[]⟩)).setCell ⟨w.heap.size,2,none⟩ (.int .i64 0)).setCell ⟨w.heap.size,3,none⟩ (.int .i64 0)).setCell ⟨w.heap.size,4,none⟩ (.int .i64 0)).setCell ⟨w.heap.size,5,none⟩ (.string ⟨#[]⟩)).setCell ⟨w.heap.size,6,none⟩ (.slice none 0 0))=WF at *
   have r0:WF.cell? ⟨w.heap.size,0,none⟩=some (.int .i64 0):=HZ.out.cell 0
   have r1:WF.cell? ⟨w.heap.size,1,none⟩=some (.string ⟨#[]⟩):=HZ.out.cell 1
   have r2:WF.cell? ⟨w.heap.size,2,none⟩=some (.int .i64 0):=HZ.out.cell 2
   have r3:WF.cell? ⟨w.heap.size,3,none⟩=some (.int .i64 0):=HZ.out.cell 3
   have r4:WF.cell? ⟨w.heap.size,4,none⟩=some (.int .i64 0):=HZ.out.cell 4
   have r5:WF.cell? ⟨w.heap.size,5,none⟩=some (.string ⟨#[]⟩):=HZ.out.cell 5
   have r6:WF.cell? ⟨w.heap.size,6,none⟩=some (.slice none 0 0):=HZ.out.cell 6
   refine bodyPost_ret (v:=.tuple #[.agg #[.int .i64 0,.string ⟨#[]⟩,.int .i64 0,.int .i64 0,.int .i64 0,.string ⟨#[]⟩,.slice none 0 0],.iface 57 (.int .i64 3)]) (by simp [results,Tryz.f57,go_sem,r0,r1,r2,r3,r4,r5,r6]) rfl ?_
   have ht:R=.error (3,none):=by rw [HR0.out,HVV.out];exact if_neg hz
   rw [ht]
   exact ⟨_,rfl,rfl,HB.out⟩
end Go.Proofs.YtiihalknffbjpaaGreatDoor
