/- ParseLine. -/
import Derived.Test.YtiihalknffbjpaaGreatDoorCtLines
set_option maxHeartbeats 2000000
set_option maxRecDepth 100000
namespace Go.Proofs.YtiihalknffbjpaaGreatDoor
open Go.RowKit Go.Shelf Sv
theorem line_none (s:ByteArray) (w:World) (hs:s.size<=100000) (hw:Lw w) (hk:kindF (cutF s 32).1=0) :
  Calls Tryz.prog 57 #[.string s] w (LnRes w (.error (3,none))):=by
 have k0:=Blk.new w 130 z7
 have hb0:Below w.heap.size w (w.alloc (.cells z7 130)):=(Below.refl _ w).alloc (Nat.le_refl _) _
 have HC:=Lib.hid (cut_any s 32 (w.alloc (.cells z7 130)) hs (hw.below hb0).lb)
 have HW:=Lib.hid (hw.below hb0)
 have HK:Hid (∀ W,WordsAt W->Calls Tryz.prog 133 #[.string (cutF s 32).1] W fun e w'=>e=.returned (.int .i64 0)/\w'=W):=fun W h=>by have:=kind_any (cutF s 32).1 W h;rw [hk] at this;exact this
 have hs2:=(cutF_size s 32).2
 generalize (cutF s 32).1=s1 at *
 generalize (cutF s 32).2=s2 at *
 have hs2':s2.size<=100000:=by omega
 clear hk hs hs2
 go_enter Tryz.func57,Tryz.ntmps57
 go_wp2_with fail
 generalize w.alloc (.cells z7 130)=W0 at *
 refine HC.out.mono ?_
 rintro e wC ⟨b,rfl,hb⟩
 have HKC:=Lib.hid (HK.out wC (HW.out.below hb).wd)
 have k1:=k0.below hb k0.lt
 have hB:Below w.heap.size w wC:=hb0.trans (hb.mono hb0.size)
 have hlt:=k1.lt
 have HW1:=Lib.hid (HW.out.below hb)
 clear HC HK k0 hb0 hb HW
 go_wp2_with fail
 refine HKC.out.mono ?_
 rintro e w2 ⟨rfl,rfl⟩
 clear HKC
 have h1:LS w (w2.alloc (.cells #[.int .i64 0,.string ⟨#[]⟩,.int .i64 0,.int .i64 0,.int .i64 0,.string ⟨#[]⟩,.slice none 0 0] 130)) w2.heap.size #[.int .i64 0,.string ⟨#[]⟩,.int .i64 0,.int .i64 0,.int .i64 0,.string ⟨#[]⟩,.slice none 0 0]:=⟨k1.alloc _,Blk.new _ _ _,hlt,hB.alloc hB.size _⟩
 clear k1 hB
 go_upto_region 3 with fail
 generalize w2.alloc (.cells #[.int .i64 0,.string ⟨#[]⟩,.int .i64 0,.int .i64 0,.int .i64 0,.string ⟨#[]⟩,.slice none 0 0] 130)=W3 at *
 have zc0:W3.cell? ⟨w.heap.size,0,none⟩=some (.int .i64 0):=h1.z.cell 0
 have zf0:W3.frozen? ⟨w.heap.size,0,none⟩=false:=h1.z.frozen 0
 have zc1:W3.cell? ⟨w.heap.size,1,none⟩=some (.string ⟨#[]⟩):=h1.z.cell 1
 have zf1:W3.frozen? ⟨w.heap.size,1,none⟩=false:=h1.z.frozen 1
 have zc2:W3.cell? ⟨w.heap.size,2,none⟩=some (.int .i64 0):=h1.z.cell 2
 have zf2:W3.frozen? ⟨w.heap.size,2,none⟩=false:=h1.z.frozen 2
 have zc3:W3.cell? ⟨w.heap.size,3,none⟩=some (.int .i64 0):=h1.z.cell 3
 have zf3:W3.frozen? ⟨w.heap.size,3,none⟩=false:=h1.z.frozen 3
 have zc4:W3.cell? ⟨w.heap.size,4,none⟩=some (.int .i64 0):=h1.z.cell 4
 have zf4:W3.frozen? ⟨w.heap.size,4,none⟩=false:=h1.z.frozen 4
 have zc5:W3.cell? ⟨w.heap.size,5,none⟩=some (.string ⟨#[]⟩):=h1.z.cell 5
 have zf5:W3.frozen? ⟨w.heap.size,5,none⟩=false:=h1.z.frozen 5
 have zc6:W3.cell? ⟨w.heap.size,6,none⟩=some (.slice none 0 0):=h1.z.cell 6
 have zf6:W3.frozen? ⟨w.heap.size,6,none⟩=false:=h1.z.frozen 6
 have xc0:W3.cell? ⟨w2.heap.size,0,none⟩=some (.int .i64 0):=h1.x.cell 0
 have xf0:W3.frozen? ⟨w2.heap.size,0,none⟩=false:=h1.x.frozen 0
 have xc1:W3.cell? ⟨w2.heap.size,1,none⟩=some (.string ⟨#[]⟩):=h1.x.cell 1
 have xf1:W3.frozen? ⟨w2.heap.size,1,none⟩=false:=h1.x.frozen 1
 have xc2:W3.cell? ⟨w2.heap.size,2,none⟩=some (.int .i64 0):=h1.x.cell 2
 have xf2:W3.frozen? ⟨w2.heap.size,2,none⟩=false:=h1.x.frozen 2
 have xc3:W3.cell? ⟨w2.heap.size,3,none⟩=some (.int .i64 0):=h1.x.cell 3
 have xf3:W3.frozen? ⟨w2.heap.size,3,none⟩=false:=h1.x.frozen 3
 have xc4:W3.cell? ⟨w2.heap.size,4,none⟩=some (.int .i64 0):=h1.x.cell 4
 have xf4:W3.frozen? ⟨w2.heap.size,4,none⟩=false:=h1.x.frozen 4
 have xc5:W3.cell? ⟨w2.heap.size,5,none⟩=some (.string ⟨#[]⟩):=h1.x.cell 5
 have xf5:W3.frozen? ⟨w2.heap.size,5,none⟩=false:=h1.x.frozen 5
 have xc6:W3.cell? ⟨w2.heap.size,6,none⟩=some (.slice none 0 0):=h1.x.cell 6
 have xf6:W3.frozen? ⟨w2.heap.size,6,none⟩=false:=h1.x.frozen 6
 have HZ:Hid (Blk (((((((W3.setCell ⟨w.heap.size,0,none⟩ (.int .i64 0)).setCell ⟨w.heap.size,1,none⟩ (.string ⟨#[]⟩)).setCell ⟨w.heap.size,2,none⟩ (.int .i64 0)).setCell ⟨w.heap.size,3,none⟩ (.int .i64 0)).setCell ⟨w.heap.size,4,none⟩ (.int .i64 0)).setCell ⟨w.heap.size,5,none⟩ (.string ⟨#[]⟩)).setCell ⟨w.heap.size,6,none⟩ (.slice none 0 0)) w.heap.size 130 #[.int .i64 0,.string ⟨#[]⟩,.int .i64 0,.int .i64 0,.int .i64 0,.string ⟨#[]⟩,.slice none 0 0]):=by
  have h:=h1.z
  exact (((((((h.set (i:=0) (v:=.int .i64 0)).set (i:=1) (v:=.string ⟨#[]⟩)).set (i:=2) (v:=.int .i64 0)).set (i:=3) (v:=.int .i64 0)).set (i:=4) (v:=.int .i64 0)).set (i:=5) (v:=.string ⟨#[]⟩)).set (i:=6) (v:=.slice none 0 0))
 have HB:Hid (Below w.heap.size w (((((((W3.setCell ⟨w.heap.size,0,none⟩ (.int .i64 0)).setCell ⟨w.heap.size,1,none⟩ (.string ⟨#[]⟩)).setCell ⟨w.heap.size,2,none⟩ (.int .i64 0)).setCell ⟨w.heap.size,3,none⟩ (.int .i64 0)).setCell ⟨w.heap.size,4,none⟩ (.int .i64 0)).setCell ⟨w.heap.size,5,none⟩ (.string ⟨#[]⟩)).setCell ⟨w.heap.size,6,none⟩ (.slice none 0 0))):=(((((((h1.B.setCell (p:=⟨w.heap.size,0,none⟩) (Nat.le_refl _) _).setCell (p:=⟨w.heap.size,1,none⟩) (Nat.le_refl _) _).setCell (p:=⟨w.heap.size,2,none⟩) (Nat.le_refl _) _).setCell (p:=⟨w.heap.size,3,none⟩) (Nat.le_refl _) _).setCell (p:=⟨w.heap.size,4,none⟩) (Nat.le_refl _) _).setCell (p:=⟨w.heap.size,5,none⟩) (Nat.le_refl _) _).setCell (p:=⟨w.heap.size,6,none⟩) (Nat.le_refl _) _)
 clear h1
 go_wp2
 generalize (((((((W3.setCell ⟨w.heap.size,0,none⟩ (.int .i64 0)).setCell ⟨w.heap.size,1,none⟩ (.string ⟨#[]⟩)).setCell ⟨w.heap.size,2,none⟩ (.int .i64 0)).setCell ⟨w.heap.size,3,none⟩ (.int .i64 0)).setCell ⟨w.heap.size,4,none⟩ (.int .i64 0)).setCell ⟨w.heap.size,5,none⟩ (.string ⟨#[]⟩)).setCell ⟨w.heap.size,6,none⟩ (.slice none 0 0))=WF at *
 have r0:WF.cell? ⟨w.heap.size,0,none⟩=some (.int .i64 0):=HZ.out.cell 0
 have r1:WF.cell? ⟨w.heap.size,1,none⟩=some (.string ⟨#[]⟩):=HZ.out.cell 1
 have r2:WF.cell? ⟨w.heap.size,2,none⟩=some (.int .i64 0):=HZ.out.cell 2
 have r3:WF.cell? ⟨w.heap.size,3,none⟩=some (.int .i64 0):=HZ.out.cell 3
 have r4:WF.cell? ⟨w.heap.size,4,none⟩=some (.int .i64 0):=HZ.out.cell 4
 have r5:WF.cell? ⟨w.heap.size,5,none⟩=some (.string ⟨#[]⟩):=HZ.out.cell 5
 have r6:WF.cell? ⟨w.heap.size,6,none⟩=some (.slice none 0 0):=HZ.out.cell 6
 refine bodyPost_ret (v:=.tuple #[.agg #[.int .i64 0,.string ⟨#[]⟩,.int .i64 0,.int .i64 0,.int .i64 0,.string ⟨#[]⟩,.slice none 0 0],.iface 57 (.int .i64 3)]) (by simp [results,Tryz.f57,go_sem,r0,r1,r2,r3,r4,r5,r6]) rfl ?_
 exact ⟨_,rfl,rfl,HB.out⟩
theorem line_root (s:ByteArray) (w:World) (hs:s.size<=100000) (hw:Lw w) (hk:kindF (cutF s 32).1=4) :
  Calls Tryz.prog 57 #[.string s] w (LnRes w (tailF 4 (cutF (cutF s 32).2 32).1 [] ⟨#[]⟩ (cutF (cutF s 32).2 32).2)):=by
 have k0:=Blk.new w 130 z7
 have hb0:Below w.heap.size w (w.alloc (.cells z7 130)):=(Below.refl _ w).alloc (Nat.le_refl _) _
 have HC:=Lib.hid (cut_any s 32 (w.alloc (.cells z7 130)) hs (hw.below hb0).lb)
 have HW:=Lib.hid (hw.below hb0)
 have HK:Hid (∀ W,WordsAt W->Calls Tryz.prog 133 #[.string (cutF s 32).1] W fun e w'=>e=.returned (.int .i64 4)/\w'=W):=fun W h=>by have:=kind_any (cutF s 32).1 W h;rw [hk] at this;exact this
 have hs2:=(cutF_size s 32).2
 generalize (cutF s 32).1=s1 at *
 generalize (cutF s 32).2=s2 at *
 have hs2':s2.size<=100000:=by omega
 have HW0:=Lib.hid hw
 clear hk hs hs2 hw
 go_enter Tryz.func57,Tryz.ntmps57
 go_wp2_with fail
 generalize w.alloc (.cells z7 130)=W0 at *
 refine HC.out.mono ?_
 rintro e wC ⟨b,rfl,hb⟩
 have HKC:=Lib.hid (HK.out wC (HW.out.below hb).wd)
 have k1:=k0.below hb k0.lt
 have hB:Below w.heap.size w wC:=hb0.trans (hb.mono hb0.size)
 have hlt:=k1.lt
 have HW1:=Lib.hid (HW.out.below hb)
 clear HC HK k0 hb0 hb HW
 go_wp2_with fail
 refine HKC.out.mono ?_
 rintro e w2 ⟨rfl,rfl⟩
 clear HKC
 have h1:LS w (w2.alloc (.cells #[.int .i64 4,.string ⟨#[]⟩,.int .i64 0,.int .i64 0,.int .i64 0,.string ⟨#[]⟩,.slice none 0 0] 130)) w2.heap.size #[.int .i64 4,.string ⟨#[]⟩,.int .i64 0,.int .i64 0,.int .i64 0,.string ⟨#[]⟩,.slice none 0 0]:=⟨k1.alloc _,Blk.new _ _ _,hlt,hB.alloc hB.size _⟩
 clear k1 hB
 go_upto_region 3 with fail
 generalize w2.alloc (.cells #[.int .i64 4,.string ⟨#[]⟩,.int .i64 0,.int .i64 0,.int .i64 0,.string ⟨#[]⟩,.slice none 0 0] 130)=W3 at *
 generalize w2.heap.size=b1 at *
 clear HW1
 have zc0:W3.cell? ⟨w.heap.size,0,none⟩=some (.int .i64 0):=h1.z.cell 0
 have zf0:W3.frozen? ⟨w.heap.size,0,none⟩=false:=h1.z.frozen 0
 have zc1:W3.cell? ⟨w.heap.size,1,none⟩=some (.string ⟨#[]⟩):=h1.z.cell 1
 have zf1:W3.frozen? ⟨w.heap.size,1,none⟩=false:=h1.z.frozen 1
 have zc2:W3.cell? ⟨w.heap.size,2,none⟩=some (.int .i64 0):=h1.z.cell 2
 have zf2:W3.frozen? ⟨w.heap.size,2,none⟩=false:=h1.z.frozen 2
 have zc3:W3.cell? ⟨w.heap.size,3,none⟩=some (.int .i64 0):=h1.z.cell 3
 have zf3:W3.frozen? ⟨w.heap.size,3,none⟩=false:=h1.z.frozen 3
 have zc4:W3.cell? ⟨w.heap.size,4,none⟩=some (.int .i64 0):=h1.z.cell 4
 have zf4:W3.frozen? ⟨w.heap.size,4,none⟩=false:=h1.z.frozen 4
 have zc5:W3.cell? ⟨w.heap.size,5,none⟩=some (.string ⟨#[]⟩):=h1.z.cell 5
 have zf5:W3.frozen? ⟨w.heap.size,5,none⟩=false:=h1.z.frozen 5
 have zc6:W3.cell? ⟨w.heap.size,6,none⟩=some (.slice none 0 0):=h1.z.cell 6
 have zf6:W3.frozen? ⟨w.heap.size,6,none⟩=false:=h1.z.frozen 6
 have xc0:W3.cell? ⟨b1,0,none⟩=some (.int .i64 4):=h1.x.cell 0
 have xf0:W3.frozen? ⟨b1,0,none⟩=false:=h1.x.frozen 0
 have xc1:W3.cell? ⟨b1,1,none⟩=some (.string ⟨#[]⟩):=h1.x.cell 1
 have xf1:W3.frozen? ⟨b1,1,none⟩=false:=h1.x.frozen 1
 have xc2:W3.cell? ⟨b1,2,none⟩=some (.int .i64 0):=h1.x.cell 2
 have xf2:W3.frozen? ⟨b1,2,none⟩=false:=h1.x.frozen 2
 have xc3:W3.cell? ⟨b1,3,none⟩=some (.int .i64 0):=h1.x.cell 3
 have xf3:W3.frozen? ⟨b1,3,none⟩=false:=h1.x.frozen 3
 have xc4:W3.cell? ⟨b1,4,none⟩=some (.int .i64 0):=h1.x.cell 4
 have xf4:W3.frozen? ⟨b1,4,none⟩=false:=h1.x.frozen 4
 have xc5:W3.cell? ⟨b1,5,none⟩=some (.string ⟨#[]⟩):=h1.x.cell 5
 have xf5:W3.frozen? ⟨b1,5,none⟩=false:=h1.x.frozen 5
 have xc6:W3.cell? ⟨b1,6,none⟩=some (.slice none 0 0):=h1.x.cell 6
 have xf6:W3.frozen? ⟨b1,6,none⟩=false:=h1.x.frozen 6
 go_wp2_with fail
 clear zc0 zf0 zc1 zf1 zc2 zf2 zc3 zf3 zc4 zf4 zc5 zf5 zc6 zf6 xc0 xf0 xc1 xf1 xc2 xf2 xc3 xf3 xc4 xf4 xc5 xf5 xc6 xf6
 have HC:=Lib.hid (cut_any s2 32 W3 (by omega) (HW0.out.below h1.B).lb)
 have hsz:=cutF_size s2 32
 generalize (cutF s2 32).1=n1 at *
 generalize (cutF s2 32).2=n2 at *
 obtain ⟨hsz1,hsz2⟩:=hsz
 refine HC.out.mono ?_
 rintro e w4 ⟨bb4,rfl,hb4⟩
 have h4:=h1.step hb4
 clear HC hb4
 have h5:LS w (w4.setCell ⟨b1,1,none⟩ (.string n1)) b1 #[.int .i64 4,.string n1,.int .i64 0,.int .i64 0,.int .i64 0,.string ⟨#[]⟩,.slice none 0 0]:=(h4.set 1 (.string n1))
 have xc0:w4.cell? ⟨b1,0,none⟩=some (.int .i64 4):=h4.x.cell 0
 have xf0:w4.frozen? ⟨b1,0,none⟩=false:=h4.x.frozen 0
 have xc1:w4.cell? ⟨b1,1,none⟩=some (.string ⟨#[]⟩):=h4.x.cell 1
 have xf1:w4.frozen? ⟨b1,1,none⟩=false:=h4.x.frozen 1
 have xc2:w4.cell? ⟨b1,2,none⟩=some (.int .i64 0):=h4.x.cell 2
 have xf2:w4.frozen? ⟨b1,2,none⟩=false:=h4.x.frozen 2
 have xc3:w4.cell? ⟨b1,3,none⟩=some (.int .i64 0):=h4.x.cell 3
 have xf3:w4.frozen? ⟨b1,3,none⟩=false:=h4.x.frozen 3
 have xc4:w4.cell? ⟨b1,4,none⟩=some (.int .i64 0):=h4.x.cell 4
 have xf4:w4.frozen? ⟨b1,4,none⟩=false:=h4.x.frozen 4
 have xc5:w4.cell? ⟨b1,5,none⟩=some (.string ⟨#[]⟩):=h4.x.cell 5
 have xf5:w4.frozen? ⟨b1,5,none⟩=false:=h4.x.frozen 5
 have xc6:w4.cell? ⟨b1,6,none⟩=some (.slice none 0 0):=h4.x.cell 6
 have xf6:w4.frozen? ⟨b1,6,none⟩=false:=h4.x.frozen 6
 have H5:=Lib.hid h5
 clear h5
 go_upto_region 7 with fail
 have h5:=H5.out
 clear h4 H5 xc0 xf0 xc1 xf1 xc2 xf2 xc3 xf3 xc4 xf4 xc5 xf5 xc6 xf6
 generalize (w4.setCell ⟨b1,1,none⟩ (.string n1))=W5 at *
 have xc0:W5.cell? ⟨b1,0,none⟩=some (.int .i64 4):=h5.x.cell 0
 have xf0:W5.frozen? ⟨b1,0,none⟩=false:=h5.x.frozen 0
 have xc1:W5.cell? ⟨b1,1,none⟩=some (.string n1):=h5.x.cell 1
 have xf1:W5.frozen? ⟨b1,1,none⟩=false:=h5.x.frozen 1
 have xc2:W5.cell? ⟨b1,2,none⟩=some (.int .i64 0):=h5.x.cell 2
 have xf2:W5.frozen? ⟨b1,2,none⟩=false:=h5.x.frozen 2
 have xc3:W5.cell? ⟨b1,3,none⟩=some (.int .i64 0):=h5.x.cell 3
 have xf3:W5.frozen? ⟨b1,3,none⟩=false:=h5.x.frozen 3
 have xc4:W5.cell? ⟨b1,4,none⟩=some (.int .i64 0):=h5.x.cell 4
 have xf4:W5.frozen? ⟨b1,4,none⟩=false:=h5.x.frozen 4
 have xc5:W5.cell? ⟨b1,5,none⟩=some (.string ⟨#[]⟩):=h5.x.cell 5
 have xf5:W5.frozen? ⟨b1,5,none⟩=false:=h5.x.frozen 5
 have xc6:W5.cell? ⟨b1,6,none⟩=some (.slice none 0 0):=h5.x.cell 6
 have xf6:W5.frozen? ⟨b1,6,none⟩=false:=h5.x.frozen 6
 go_wp2_with fail
 clear xc0 xf0 xc1 xf1 xc2 xf2 xc3 xf3 xc4 xf4 xc5 xf5 xc6 xf6
 have HP:Hid (Calls Tryz.prog 135 #[.agg #[.int .i64 4,.string n1,.int .i64 0,.int .i64 0,.int .i64 0,.string ⟨#[]⟩,.slice none 0 0]] W5 fun e w'=>e=.returned (.bool false)/\w'=W5.alloc (.cells #[.int .i64 4,.string n1,.int .i64 0,.int .i64 0,.int .i64 0,.string ⟨#[]⟩,.slice none 0 0] 130)):=pair_any ⟨4,n1,0,0,0,⟨#[]⟩,[]⟩ (.slice none 0 0) W5
 refine HP.out.mono ?_
 rintro e w6 ⟨rfl,hw6⟩
 have hb6:Below W5.heap.size W5 w6:=by rw [hw6];exact (Below.refl _ _).alloc (Nat.le_refl _) _
 have h6:=h5.step hb6
 clear HP hw6 hb6 h5
 go_wp2_with fail
 have HR:=Lib.hid (rng_any n2 w6 (by omega) (HW0.out.below h6.B).lb)
 refine HR.out.mono ?_
 rintro e w7 ⟨ra,rn,rc,er,rfl,hres,hown,hb7⟩
 have h7:=h6.step hb7
 have hwn:=h6.B.size
 have hxl:=h6.x.lt
 have hzl:=h6.z.lt
 have HNX:Hid ((Value.slice ra rn rc).ownBlock ≠ some b1):=fun h=>by have:=hown _ h;omega
 have HNZ:Hid ((Value.slice ra rn rc).ownBlock ≠ some w.heap.size):=fun h=>by have:=hown _ h;omega
 have hown2:Hid (∀ g,(Value.slice ra rn rc).ownBlock=some g->w.heap.size<=g):=fun g hg=>Nat.le_trans hwn (hown g hg)
 clear HR hb7 hown hwn hxl hzl
 cases hx:rngF n2 with
 | error e2 =>
  obtain ⟨k2,p2⟩:=e2
  rw [hx] at hres
  obtain ⟨hsl,herr⟩:=hres
  cases hsl
  obtain ⟨et,ev,rfl⟩:=herr.form
  have hS:LS w (w7.setCell ⟨b1,6,none⟩ (.slice none 0 0)) b1 #[.int .i64 4,.string n1,.int .i64 0,.int .i64 0,.int .i64 0,.string ⟨#[]⟩,.slice none 0 0]:=(h7.set 6 (.slice none 0 0))
  have HERR:=Lib.hid herr
  clear herr
  have xc0:w7.cell? ⟨b1,0,none⟩=some (.int .i64 4):=h7.x.cell 0
  have xf0:w7.frozen? ⟨b1,0,none⟩=false:=h7.x.frozen 0
  have xc1:w7.cell? ⟨b1,1,none⟩=some (.string n1):=h7.x.cell 1
  have xf1:w7.frozen? ⟨b1,1,none⟩=false:=h7.x.frozen 1
  have xc2:w7.cell? ⟨b1,2,none⟩=some (.int .i64 0):=h7.x.cell 2
  have xf2:w7.frozen? ⟨b1,2,none⟩=false:=h7.x.frozen 2
  have xc3:w7.cell? ⟨b1,3,none⟩=some (.int .i64 0):=h7.x.cell 3
  have xf3:w7.frozen? ⟨b1,3,none⟩=false:=h7.x.frozen 3
  have xc4:w7.cell? ⟨b1,4,none⟩=some (.int .i64 0):=h7.x.cell 4
  have xf4:w7.frozen? ⟨b1,4,none⟩=false:=h7.x.frozen 4
  have xc5:w7.cell? ⟨b1,5,none⟩=some (.string ⟨#[]⟩):=h7.x.cell 5
  have xf5:w7.frozen? ⟨b1,5,none⟩=false:=h7.x.frozen 5
  have xc6:w7.cell? ⟨b1,6,none⟩=some (.slice none 0 0):=h7.x.cell 6
  have xf6:w7.frozen? ⟨b1,6,none⟩=false:=h7.x.frozen 6
  have HS:=Lib.hid hS
  clear hS
  go_upto_region 20 with fail
  have hS:=HS.out
  have HER2:Hid (ErrP (w7.setCell ⟨b1,6,none⟩ (.slice none 0 0)) (.iface et ev) k2 p2):=HERR.out.setx h7
  clear h7 xc0 xf0 xc1 xf1 xc2 xf2 xc3 xf3 xc4 xf4 xc5 xf5 xc6 xf6
  generalize (w7.setCell ⟨b1,6,none⟩ (.slice none 0 0))=W9 at *
  have zc0:W9.cell? ⟨w.heap.size,0,none⟩=some (.int .i64 0):=hS.z.cell 0
  have zf0:W9.frozen? ⟨w.heap.size,0,none⟩=false:=hS.z.frozen 0
  have zc1:W9.cell? ⟨w.heap.size,1,none⟩=some (.string ⟨#[]⟩):=hS.z.cell 1
  have zf1:W9.frozen? ⟨w.heap.size,1,none⟩=false:=hS.z.frozen 1
  have zc2:W9.cell? ⟨w.heap.size,2,none⟩=some (.int .i64 0):=hS.z.cell 2
  have zf2:W9.frozen? ⟨w.heap.size,2,none⟩=false:=hS.z.frozen 2
  have zc3:W9.cell? ⟨w.heap.size,3,none⟩=some (.int .i64 0):=hS.z.cell 3
  have zf3:W9.frozen? ⟨w.heap.size,3,none⟩=false:=hS.z.frozen 3
  have zc4:W9.cell? ⟨w.heap.size,4,none⟩=some (.int .i64 0):=hS.z.cell 4
  have zf4:W9.frozen? ⟨w.heap.size,4,none⟩=false:=hS.z.frozen 4
  have zc5:W9.cell? ⟨w.heap.size,5,none⟩=some (.string ⟨#[]⟩):=hS.z.cell 5
  have zf5:W9.frozen? ⟨w.heap.size,5,none⟩=false:=hS.z.frozen 5
  have zc6:W9.cell? ⟨w.heap.size,6,none⟩=some (.slice none 0 0):=hS.z.cell 6
  have zf6:W9.frozen? ⟨w.heap.size,6,none⟩=false:=hS.z.frozen 6
  have HE:Hid (ErrP (((((((W9.setCell ⟨w.heap.size,0,none⟩ (.int .i64 0)).setCell ⟨w.heap.size,1,none⟩ (.string ⟨#[]⟩)).setCell ⟨w.heap.size,2,none⟩ (.int .i64 0)).setCell ⟨w.heap.size,3,none⟩ (.int .i64 0)).setCell ⟨w.heap.size,4,none⟩ (.int .i64 0)).setCell ⟨w.heap.size,5,none⟩ (.string ⟨#[]⟩)).setCell ⟨w.heap.size,6,none⟩ (.slice none 0 0)) (.iface et ev) k2 p2):=HER2.out.setz hS
  have HZ:Hid (Blk (((((((W9.setCell ⟨w.heap.size,0,none⟩ (.int .i64 0)).setCell ⟨w.heap.size,1,none⟩ (.string ⟨#[]⟩)).setCell ⟨w.heap.size,2,none⟩ (.int .i64 0)).setCell ⟨w.heap.size,3,none⟩ (.int .i64 0)).setCell ⟨w.heap.size,4,none⟩ (.int .i64 0)).setCell ⟨w.heap.size,5,none⟩ (.string ⟨#[]⟩)).setCell ⟨w.heap.size,6,none⟩ (.slice none 0 0)) w.heap.size 130 #[.int .i64 0,.string ⟨#[]⟩,.int .i64 0,.int .i64 0,.int .i64 0,.string ⟨#[]⟩,.slice none 0 0]):=by
   have h:=hS.z
   exact (((((((h.set (i:=0) (v:=.int .i64 0)).set (i:=1) (v:=.string ⟨#[]⟩)).set (i:=2) (v:=.int .i64 0)).set (i:=3) (v:=.int .i64 0)).set (i:=4) (v:=.int .i64 0)).set (i:=5) (v:=.string ⟨#[]⟩)).set (i:=6) (v:=.slice none 0 0))
  have HB:Hid (Below w.heap.size w (((((((W9.setCell ⟨w.heap.size,0,none⟩ (.int .i64 0)).setCell ⟨w.heap.size,1,none⟩ (.string ⟨#[]⟩)).setCell ⟨w.heap.size,2,none⟩ (.int .i64 0)).setCell ⟨w.heap.size,3,none⟩ (.int .i64 0)).setCell ⟨w.heap.size,4,none⟩ (.int .i64 0)).setCell ⟨w.heap.size,5,none⟩ (.string ⟨#[]⟩)).setCell ⟨w.heap.size,6,none⟩ (.slice none 0 0))):=(((((((hS.B.setCell (p:=⟨w.heap.size,0,none⟩) (Nat.le_refl _) _).setCell (p:=⟨w.heap.size,1,none⟩) (Nat.le_refl _) _).setCell (p:=⟨w.heap.size,2,none⟩) (Nat.le_refl _) _).setCell (p:=⟨w.heap.size,3,none⟩) (Nat.le_refl _) _).setCell (p:=⟨w.heap.size,4,none⟩) (Nat.le_refl _) _).setCell (p:=⟨w.heap.size,5,none⟩) (Nat.le_refl _) _).setCell (p:=⟨w.heap.size,6,none⟩) (Nat.le_refl _) _)
  clear hS
  go_wp2
  generalize (((((((W9.setCell ⟨w.heap.size,0,none⟩ (.int .i64 0)).setCell ⟨w.heap.size,1,none⟩ (.string ⟨#[]⟩)).setCell ⟨w.heap.size,2,none⟩ (.int .i64 0)).setCell ⟨w.heap.size,3,none⟩ (.int .i64 0)).setCell ⟨w.heap.size,4,none⟩ (.int .i64 0)).setCell ⟨w.heap.size,5,none⟩ (.string ⟨#[]⟩)).setCell ⟨w.heap.size,6,none⟩ (.slice none 0 0))=WF at *
  have r0:WF.cell? ⟨w.heap.size,0,none⟩=some (.int .i64 0):=HZ.out.cell 0
  have r1:WF.cell? ⟨w.heap.size,1,none⟩=some (.string ⟨#[]⟩):=HZ.out.cell 1
  have r2:WF.cell? ⟨w.heap.size,2,none⟩=some (.int .i64 0):=HZ.out.cell 2
  have r3:WF.cell? ⟨w.heap.size,3,none⟩=some (.int .i64 0):=HZ.out.cell 3
  have r4:WF.cell? ⟨w.heap.size,4,none⟩=some (.int .i64 0):=HZ.out.cell 4
  have r5:WF.cell? ⟨w.heap.size,5,none⟩=some (.string ⟨#[]⟩):=HZ.out.cell 5
  have r6:WF.cell? ⟨w.heap.size,6,none⟩=some (.slice none 0 0):=HZ.out.cell 6
  refine bodyPost_ret (v:=.tuple #[.agg #[.int .i64 0,.string ⟨#[]⟩,.int .i64 0,.int .i64 0,.int .i64 0,.string ⟨#[]⟩,.slice none 0 0],.iface et ev]) (by simp [results,Tryz.f57,go_sem,r0,r1,r2,r3,r4,r5,r6]) rfl ?_
  have ht:tailF 4 n1 [] ⟨#[]⟩ n2=.error (k2,p2):=by unfold tailF;rw [hx]
  rw [ht]
  exact ⟨_,rfl,HE.out,HB.out⟩
 | ok l =>
  rw [hx] at hres
  obtain ⟨rfl,hsp,hrg⟩:=hres
  have hS:LS w (w7.setCell ⟨b1,6,none⟩ (.slice ra rn rc)) b1 #[.int .i64 4,.string n1,.int .i64 0,.int .i64 0,.int .i64 0,.string ⟨#[]⟩,.slice ra rn rc]:=(h7.set 6 (.slice ra rn rc))
  have xc0:w7.cell? ⟨b1,0,none⟩=some (.int .i64 4):=h7.x.cell 0
  have xf0:w7.frozen? ⟨b1,0,none⟩=false:=h7.x.frozen 0
  have xc1:w7.cell? ⟨b1,1,none⟩=some (.string n1):=h7.x.cell 1
  have xf1:w7.frozen? ⟨b1,1,none⟩=false:=h7.x.frozen 1
  have xc2:w7.cell? ⟨b1,2,none⟩=some (.int .i64 0):=h7.x.cell 2
  have xf2:w7.frozen? ⟨b1,2,none⟩=false:=h7.x.frozen 2
  have xc3:w7.cell? ⟨b1,3,none⟩=some (.int .i64 0):=h7.x.cell 3
  have xf3:w7.frozen? ⟨b1,3,none⟩=false:=h7.x.frozen 3
  have xc4:w7.cell? ⟨b1,4,none⟩=some (.int .i64 0):=h7.x.cell 4
  have xf4:w7.frozen? ⟨b1,4,none⟩=false:=h7.x.frozen 4
  have xc5:w7.cell? ⟨b1,5,none⟩=some (.string ⟨#[]⟩):=h7.x.cell 5
  have xf5:w7.frozen? ⟨b1,5,none⟩=false:=h7.x.frozen 5
  have xc6:w7.cell? ⟨b1,6,none⟩=some (.slice none 0 0):=h7.x.cell 6
  have xf6:w7.frozen? ⟨b1,6,none⟩=false:=h7.x.frozen 6
  have HS:=Lib.hid hS
  have HSP:Hid (SpAt (w7.setCell ⟨b1,6,none⟩ (.slice ra rn rc)) (.slice ra rn rc) l):=hsp.one HNX.out
  have HRG:=Lib.hid hrg
  clear hS hsp hrg
  go_upto_region 21 with fail
  have hS:=HS.out
  clear h7 xc0 xf0 xc1 xf1 xc2 xf2 xc3 xf3 xc4 xf4 xc5 xf5 xc6 xf6
  generalize (w7.setCell ⟨b1,6,none⟩ (.slice ra rn rc))=W9 at *
  have zc0:W9.cell? ⟨w.heap.size,0,none⟩=some (.int .i64 0):=hS.z.cell 0
  have zf0:W9.frozen? ⟨w.heap.size,0,none⟩=false:=hS.z.frozen 0
  have zc1:W9.cell? ⟨w.heap.size,1,none⟩=some (.string ⟨#[]⟩):=hS.z.cell 1
  have zf1:W9.frozen? ⟨w.heap.size,1,none⟩=false:=hS.z.frozen 1
  have zc2:W9.cell? ⟨w.heap.size,2,none⟩=some (.int .i64 0):=hS.z.cell 2
  have zf2:W9.frozen? ⟨w.heap.size,2,none⟩=false:=hS.z.frozen 2
  have zc3:W9.cell? ⟨w.heap.size,3,none⟩=some (.int .i64 0):=hS.z.cell 3
  have zf3:W9.frozen? ⟨w.heap.size,3,none⟩=false:=hS.z.frozen 3
  have zc4:W9.cell? ⟨w.heap.size,4,none⟩=some (.int .i64 0):=hS.z.cell 4
  have zf4:W9.frozen? ⟨w.heap.size,4,none⟩=false:=hS.z.frozen 4
  have zc5:W9.cell? ⟨w.heap.size,5,none⟩=some (.string ⟨#[]⟩):=hS.z.cell 5
  have zf5:W9.frozen? ⟨w.heap.size,5,none⟩=false:=hS.z.frozen 5
  have zc6:W9.cell? ⟨w.heap.size,6,none⟩=some (.slice none 0 0):=hS.z.cell 6
  have zf6:W9.frozen? ⟨w.heap.size,6,none⟩=false:=hS.z.frozen 6
  have xc0:W9.cell? ⟨b1,0,none⟩=some (.int .i64 4):=hS.x.cell 0
  have xf0:W9.frozen? ⟨b1,0,none⟩=false:=hS.x.frozen 0
  have xc1:W9.cell? ⟨b1,1,none⟩=some (.string n1):=hS.x.cell 1
  have xf1:W9.frozen? ⟨b1,1,none⟩=false:=hS.x.frozen 1
  have xc2:W9.cell? ⟨b1,2,none⟩=some (.int .i64 0):=hS.x.cell 2
  have xf2:W9.frozen? ⟨b1,2,none⟩=false:=hS.x.frozen 2
  have xc3:W9.cell? ⟨b1,3,none⟩=some (.int .i64 0):=hS.x.cell 3
  have xf3:W9.frozen? ⟨b1,3,none⟩=false:=hS.x.frozen 3
  have xc4:W9.cell? ⟨b1,4,none⟩=some (.int .i64 0):=hS.x.cell 4
  have xf4:W9.frozen? ⟨b1,4,none⟩=false:=hS.x.frozen 4
  have xc5:W9.cell? ⟨b1,5,none⟩=some (.string ⟨#[]⟩):=hS.x.cell 5
  have xf5:W9.frozen? ⟨b1,5,none⟩=false:=hS.x.frozen 5
  have xc6:W9.cell? ⟨b1,6,none⟩=some (.slice ra rn rc):=hS.x.cell 6
  have xf6:W9.frozen? ⟨b1,6,none⟩=false:=hS.x.frozen 6
  have HSP2:Hid (SpAt (((((((W9.setCell ⟨w.heap.size,0,none⟩ (.int .i64 4)).setCell ⟨w.heap.size,1,none⟩ (.string n1)).setCell ⟨w.heap.size,2,none⟩ (.int .i64 0)).setCell ⟨w.heap.size,3,none⟩ (.int .i64 0)).setCell ⟨w.heap.size,4,none⟩ (.int .i64 0)).setCell ⟨w.heap.size,5,none⟩ (.string ⟨#[]⟩)).setCell ⟨w.heap.size,6,none⟩ (.slice ra rn rc)) (.slice ra rn rc) l):=HSP.out.all7 HNZ.out
  have hbz:=hS.ne
  have HZ:Hid (Blk (((((((W9.setCell ⟨w.heap.size,0,none⟩ (.int .i64 4)).setCell ⟨w.heap.size,1,none⟩ (.string n1)).setCell ⟨w.heap.size,2,none⟩ (.int .i64 0)).setCell ⟨w.heap.size,3,none⟩ (.int .i64 0)).setCell ⟨w.heap.size,4,none⟩ (.int .i64 0)).setCell ⟨w.heap.size,5,none⟩ (.string ⟨#[]⟩)).setCell ⟨w.heap.size,6,none⟩ (.slice ra rn rc)) w.heap.size 130 #[.int .i64 4,.string n1,.int .i64 0,.int .i64 0,.int .i64 0,.string ⟨#[]⟩,.slice ra rn rc]):=by
   have h:=hS.z
   exact (((((((h.set (i:=0) (v:=.int .i64 4)).set (i:=1) (v:=.string n1)).set (i:=2) (v:=.int .i64 0)).set (i:=3) (v:=.int .i64 0)).set (i:=4) (v:=.int .i64 0)).set (i:=5) (v:=.string ⟨#[]⟩)).set (i:=6) (v:=.slice ra rn rc))
  have HB:Hid (Below w.heap.size w (((((((W9.setCell ⟨w.heap.size,0,none⟩ (.int .i64 4)).setCell ⟨w.heap.size,1,none⟩ (.string n1)).setCell ⟨w.heap.size,2,none⟩ (.int .i64 0)).setCell ⟨w.heap.size,3,none⟩ (.int .i64 0)).setCell ⟨w.heap.size,4,none⟩ (.int .i64 0)).setCell ⟨w.heap.size,5,none⟩ (.string ⟨#[]⟩)).setCell ⟨w.heap.size,6,none⟩ (.slice ra rn rc))):=(((((((hS.B.setCell (p:=⟨w.heap.size,0,none⟩) (Nat.le_refl _) _).setCell (p:=⟨w.heap.size,1,none⟩) (Nat.le_refl _) _).setCell (p:=⟨w.heap.size,2,none⟩) (Nat.le_refl _) _).setCell (p:=⟨w.heap.size,3,none⟩) (Nat.le_refl _) _).setCell (p:=⟨w.heap.size,4,none⟩) (Nat.le_refl _) _).setCell (p:=⟨w.heap.size,5,none⟩) (Nat.le_refl _) _).setCell (p:=⟨w.heap.size,6,none⟩) (Nat.le_refl _) _)
  clear hS
  go_wp2
  generalize (((((((W9.setCell ⟨w.heap.size,0,none⟩ (.int .i64 4)).setCell ⟨w.heap.size,1,none⟩ (.string n1)).setCell ⟨w.heap.size,2,none⟩ (.int .i64 0)).setCell ⟨w.heap.size,3,none⟩ (.int .i64 0)).setCell ⟨w.heap.size,4,none⟩ (.int .i64 0)).setCell ⟨w.heap.size,5,none⟩ (.string ⟨#[]⟩)).setCell ⟨w.heap.size,6,none⟩ (.slice ra rn rc))=WF at *
  have r0:WF.cell? ⟨w.heap.size,0,none⟩=some (.int .i64 4):=HZ.out.cell 0
  have r1:WF.cell? ⟨w.heap.size,1,none⟩=some (.string n1):=HZ.out.cell 1
  have r2:WF.cell? ⟨w.heap.size,2,none⟩=some (.int .i64 0):=HZ.out.cell 2
  have r3:WF.cell? ⟨w.heap.size,3,none⟩=some (.int .i64 0):=HZ.out.cell 3
  have r4:WF.cell? ⟨w.heap.size,4,none⟩=some (.int .i64 0):=HZ.out.cell 4
  have r5:WF.cell? ⟨w.heap.size,5,none⟩=some (.string ⟨#[]⟩):=HZ.out.cell 5
  have r6:WF.cell? ⟨w.heap.size,6,none⟩=some (.slice ra rn rc):=HZ.out.cell 6
  refine bodyPost_ret (v:=.tuple #[.agg #[.int .i64 4,.string n1,.int .i64 0,.int .i64 0,.int .i64 0,.string ⟨#[]⟩,.slice ra rn rc],.nilIface]) (by simp [results,Tryz.f57,go_sem,r0,r1,r2,r3,r4,r5,r6]) rfl ?_
  have ht:tailF 4 n1 [] ⟨#[]⟩ n2=.ok ⟨4,n1,0,0,0,⟨#[]⟩,l⟩:=by unfold tailF;rw [hx];rfl
  rw [ht]
  exact ⟨_,rfl,HSP2.out,HRG.out,hown2.out,HB.out⟩
end Go.Proofs.YtiihalknffbjpaaGreatDoor
