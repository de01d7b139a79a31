/- What is wrong with a range's text is an error. Plain. -/
import Derived.Test.YtlamemjfaogjmaaGreatDoorRlLine
set_option maxHeartbeats 4000000
set_option maxRecDepth 100000
namespace Go.Proofs.YtlamemjfaogjmaaGreatDoor
section
open Go.RowKit Go.Shelf Sv
theorem rline_pkg_bad(s:ByteArray)(w:World)(hs:s.size<=100000)(hw:Lb w)(hF:FineR w)(ad:Addr)(cap:Nat)(hK:KindsAt w ad cap)(hk:kindF (cutF s 32).1=1)(va vb vc:Nat)(hver:versF (cutF (cutF (cutF s 32).2 32).2 32).1=.ok [va,vb,vc])(hr:(cutF (cutF (cutF s 32).2 32).2 32).2.size≠0):zC 31 #[.string s] w (RlRes w (.error (3,none))):=by
 have k0:=(Blk.new w 59 z7).alloc (.cells #[.int .i64 0,.int .i64 0] 45);have k1:=Blk.new (w.alloc (.cells z7 59)) 45 #[.int .i64 0,.int .i64 0];rw[World.size_alloc] at k1;have hB0:zB w ((w.alloc (.cells z7 59)).alloc (.cells #[.int .i64 0,.int .i64 0] 45)):=((Below.refl _ w).alloc zN _).alloc (by simp) _;have HK0:=zH k0;have HK1:=zH k1;have HB0:=zH hB0;have HN1:=zH (fun W=>rnext_any s W hs);have hz2:=(cutF_size s 32).2;have HLW:=zH hw;have HFN:=zH hF;have HKD:=zH hK;obtain⟨w1,hw1⟩:∃w1,(cutF s 32).1=w1:=⟨_,rfl⟩;obtain⟨s2,hs2⟩:∃s2,(cutF s 32).2=s2:=⟨_,rfl⟩;rw[hw1] at hk HN1;rw[hs2] at hz2 HN1;have hz2':s2.size<=100000:=by omega
 have HKX:Hid (∀k,1<=k->k<=4->((⟨(wl k).toArray⟩:ByteArray).toList==w1.toList)=decide (kindF w1=k)):=fun k h1 h4=>kind_lt h1 h4;rw[hk] at HKX;have HN2:=zH (fun W=>rnext_any s2 W hz2');have hz3:=(cutF_size s2 32).2;obtain⟨nm,hnm⟩:∃nm,(cutF s2 32).1=nm:=⟨_,rfl⟩;obtain⟨s3,hs3⟩:∃s3,(cutF s2 32).2=s3:=⟨_,rfl⟩;rw[hnm] at HN2;rw[hs3] at hz3 HN2;have hz3':s3.size<=100000:=by omega
 have HN3:=zH (fun W=>rnext_any s3 W hz3');have hz4:=cutF_size s3 32;obtain⟨vw,hvw⟩:∃vw,(cutF s3 32).1=vw:=⟨_,rfl⟩;obtain⟨s4,hs4⟩:∃s4,(cutF s3 32).2=s4:=⟨_,rfl⟩;rw[hvw,hs4] at hz4 HN3;have hz4':s4.size<=100000:=by omega
 have HVP0:∀W,zB w W->zR 52 #[.string vw] W (rversV (versF vw)):=fun W hb=>rvparse_any splitC vw W (by omega) (hw.below hb);rw[hs2,hs3,hvw] at hver;rw[hver] at HVP0;have HVP:Hid (∀W,zB w W->zR 52 #[.string vw] W (.tuple #[.agg #[.int .i64 va,.int .i64 vb,.int .i64 vc],.int .i64 0])):=HVP0;clear HVP0 hver;have hs3q:=hs3;clear hz3 hz4 hnm hs3 hvw;rw[hs2,show (cutF s2 32).2=s3 from hs3q,hs4] at hr;have hrb:(s4.toList==[])=false:=by
  rw[beq_eq_false_iff_ne,ByteArray.toList_eq];intro e;have:=congrArg List.length e;simp at this;exact hr (by rw[this];rfl)
 clear hr hs3q hs4;clear k0 k1 hB0 hw hF hK hz2 hs;go_enter Tryz.func31,Tryz.ntmps31;go_wp2_with fail;generalize (w.alloc (.cells z7 59)).alloc (.cells #[.int .i64 0,.int .i64 0] 45)=W0 at *;refine(HN1.out _).mono ?_;rintro e wA ⟨rfl,hbA⟩;have hx:=Blk.new wA 59 z7;have hA:zB wA (wA.alloc (.cells z7 59)):=zF.alloc zN _;have hA0:zB W0 (wA.alloc (.cells z7 59)):=zT hbA hA;have hLR:LR w (wA.alloc (.cells z7 59)) wA.heap.size z7:=⟨HK0.out.below hA0 HK0.out.lt,HK1.out.below hA0 HK1.out.lt,hx,Nat.lt_of_lt_of_le HK1.out.lt hbA.size,zT HB0.out hA0⟩;have HLR:=zH hLR;clear hbA hx hA hA0 hLR HN1 HK0 HK1 HB0;go_wp2_with fail;generalize wA.alloc (.cells z7 59)=W1 at *;obtain⟨b,hb⟩:∃b,wA.heap.size=b:=⟨_,rfl⟩;rw[hb] at HLR ⊢;clear hb;go_loopw [7] (fun kV wr=>∃k:Nat,1<=k/\k<=5/\kV=.int .i64 k/\LR w wr b (x7 (kup 1 k) ⟨#[]⟩ 0 0 0 ⟨#[]⟩ (.slice none 0 0))) (fun kV _=>5-(intOf kV).toNat)
 case atStart=>exact⟨1,by omega,by omega,rfl,by rw[show kup 1 1=0 by unfold kup;split<;>omega];exact HLR.out⟩
 case round =>
  clear HLR;obtain⟨k,hk1,hk5,rfl,hLR⟩:=hrel;have HL:=zH hLR;clear hLR
  by_cases hlt:k<=4
  ·have hkd:=HKD.out.below HL.out.B;have g0:=hkd.c;have g1:=hkd.s k (by omega);have hc:=HKX.out k hk1 hlt;have x0:_=some (Value.int .i64 ((kup 1 k:Nat):Int)):=HL.out.x.cell 0;have xf:=HL.out.x.frozen 0;clear hkd
   by_cases he:1=k
   ·have hst:=HL.out.set 0 (.int .i64 k);have HST:Hid (LR w (wr.setCell ⟨b,0,none⟩ (.int .i64 k)) b (x7 (kup 1 (k+1)) ⟨#[]⟩ 0 0 0 ⟨#[]⟩ (.slice none 0 0))):=by
     have e:kup 1 (k+1)=k:=by unfold kup;rw[if_pos (by omega)];exact he
     rw[e];exact hst
    rw[decide_eq_true he] at hc;generalize kup 1 k=KU at *;generalize (⟨(wl k).toArray⟩:ByteArray)=WK at *;clear hst he;go_wp2;go_roundw
    case rel=>exact⟨k+1,by omega,by omega,by go_num,HST.out⟩
    case measure=>simp[intOf];omega
   ·have HST:Hid (LR w wr b (x7 (kup 1 (k+1)) ⟨#[]⟩ 0 0 0 ⟨#[]⟩ (.slice none 0 0))):=by
     have e:kup 1 (k+1)=kup 1 k:=by
      unfold kup
      by_cases h:1<k
      ·rw[if_pos h,if_pos (by omega)]
      ·rw[if_neg h,if_neg (by omega)]
     rw[e];exact HL.out
    rw[decide_eq_false he] at hc;generalize kup 1 k=KU at *;generalize (⟨(wl k).toArray⟩:ByteArray)=WK at *;clear he;go_wp2;go_roundw
    case rel=>exact⟨k+1,by omega,by omega,by go_num,HST.out⟩
    case measure=>simp[intOf];omega
  ·obtain rfl:k=5:=by omega
   have hku:kup 1 5=1:=by unfold kup;rw[if_pos (by omega)]
   rw[hku] at HL;clear hku;have xc0:_=some (Value.int .i64 (1:Int)):=HL.out.x.cell 0;go_wp2_with fail;refine(HN2.out _).mono ?_;rintro e wB ⟨rfl,hb⟩;have HLB:=zH (HL.out.step hb);clear hb HN2 HL;have xb0:_=some (Value.int .i64 1):=HLB.out.x.cell 0;have xb1:_=some (Value.string ⟨#[]⟩):=HLB.out.x.cell 1;have xg1:=HLB.out.x.frozen 1;have HL2:Hid (LR w (wB.setCell ⟨b,1,none⟩ (.string nm)) b (x7 1 nm 0 0 0 ⟨#[]⟩ (.slice none 0 0))):=HLB.out.set 1 (.string nm);have y0:(wB.setCell ⟨b,1,none⟩ (.string nm)).cell? ⟨b,0,none⟩=some (.int .i64 1):=HL2.out.x.cell 0;clear HLB xc0;go_wp2_with fail;generalize wB.setCell ⟨b,1,none⟩ (.string nm)=W2 at *;clear xb0 xb1 xg1;refine(HN3.out _).mono ?_;rintro e wC ⟨rfl,hb⟩;have HL3:=zH (HL2.out.step hb);have HV3:=zH (HVP.out _ HL3.out.B);clear hb HN3 HL2 y0 HVP;go_wp2_with fail;refine HV3.out.mono ?_;rintro e wD ⟨rfl,hb⟩;have HL4:=zH (HL3.out.step hb);have kv:=Blk.new wD 56 #[.int .i64 va,.int .i64 vb,.int .i64 vc];have hbv:zB wD (wD.alloc (.cells #[.int .i64 va,.int .i64 vb,.int .i64 vc] 56)):=zF.alloc zN _;have HL:=zH (HL4.out.step hbv);have HKV:=zH kv;clear hb hbv HL3 HL4 HV3 kv;have v0:=HKV.out.cell 0;have v1:=HKV.out.cell 1;have v2:=HKV.out.cell 2;have e0:(wD.alloc (.cells #[.int .i64 va,.int .i64 vb,.int .i64 vc] 56)).cell? ⟨b,0,none⟩=some (.int .i64 1):=HL.out.x.cell 0;have e2:(wD.alloc (.cells #[.int .i64 va,.int .i64 vb,.int .i64 vc] 56)).cell? ⟨b,2,none⟩=some (.int .i64 0):=HL.out.x.cell 2;have e3:(wD.alloc (.cells #[.int .i64 va,.int .i64 vb,.int .i64 vc] 56)).cell? ⟨b,3,none⟩=some (.int .i64 0):=HL.out.x.cell 3;have e4:(wD.alloc (.cells #[.int .i64 va,.int .i64 vb,.int .i64 vc] 56)).cell? ⟨b,4,none⟩=some (.int .i64 0):=HL.out.x.cell 4;have e2f:=HL.out.x.frozen 2;have e3f:=HL.out.x.frozen 3;have e4f:=HL.out.x.frozen 4;have hz5:=(((HL.out.set 2 (.int .i64 va)).set 3 (.int .i64 vb)).set 4 (.int .i64 vc));have HX5:Hid (LR w ((((wD.alloc (.cells #[.int .i64 va,.int .i64 vb,.int .i64 vc] 56)).setCell ⟨b,2,none⟩ (.int .i64 va)).setCell ⟨b,3,none⟩ (.int .i64 vb)).setCell ⟨b,4,none⟩ (.int .i64 vc)) b (x7 1 nm (va:Int) (vb:Int) (vc:Int) ⟨#[]⟩ (.slice none 0 0))):=hz5;have m0:((((wD.alloc (.cells #[.int .i64 va,.int .i64 vb,.int .i64 vc] 56)).setCell ⟨b,2,none⟩ (.int .i64 va)).setCell ⟨b,3,none⟩ (.int .i64 vb)).setCell ⟨b,4,none⟩ (.int .i64 vc)).cell? ⟨b,0,none⟩=some (.int .i64 1):=hz5.x.cell 0;clear hz5 HL;go_upto_region 17 with fail;obtain⟨W5,hW5⟩:∃W5,((((wD.alloc (.cells #[.int .i64 va,.int .i64 vb,.int .i64 vc] 56)).setCell ⟨b,2,none⟩ (.int .i64 va)).setCell ⟨b,3,none⟩ (.int .i64 vb)).setCell ⟨b,4,none⟩ (.int .i64 vc))=W5:=⟨_,rfl⟩;rw[hW5] at HX5 m0 ⊢;clear hW5 v0 v1 v2 e0 e2 e3 e4 e2f e3f e4f HKV;have HL:=HX5;clear HX5;have HBR:=zH (xN 3 W5);go_wp2_with fail;refine HBR.out.mono ?_;rintro e wE ⟨rfl,hbE⟩;have hE:=HL.out.step hbE;have zc0:_=some (Value.int .i64 0):=hE.z.cell 0;have zc1:_=some (Value.string ⟨#[]⟩):=hE.z.cell 1;have zc2:_=some (Value.int .i64 0):=hE.z.cell 2;have zc3:_=some (Value.int .i64 0):=hE.z.cell 3;have zc4:_=some (Value.int .i64 0):=hE.z.cell 4;have zc5:_=some (Value.string ⟨#[]⟩):=hE.z.cell 5;have zc6:_=some (Value.slice none 0 0):=hE.z.cell 6;have zf0:=hE.z.frozen 0;have zf1:=hE.z.frozen 1;have zf2:=hE.z.frozen 2;have zf3:=hE.z.frozen 3;have zf4:=hE.z.frozen 4;have zf5:=hE.z.frozen 5;have zf6:=hE.z.frozen 6;have fc0:_=some (Value.int .i64 0):=hE.f.cell 0;have fc1:_=some (Value.int .i64 0):=hE.f.cell 1;have ff0:=hE.f.frozen 0;have ff1:=hE.f.frozen 1;obtain⟨Z,hZ,qz,qf,qB,-⟩:=hE.done (.int .i64 0) (.string ⟨#[]⟩) (.int .i64 0) (.int .i64 0) (.int .i64 0) (.string ⟨#[]⟩) (.slice none 0 0) (.int .i64 3) (.int .i64 (-1));have HZ:=zH hZ;have HQZ:=zH qz;have HQF:=zH qf;have HQB:=zH qB;clear hZ qz qf qB hE hbE HBR HL;go_wp2;clear zc0 zc1 zc2 zc3 zc4 zc5 zc6 zf0 zf1 zf2 zf3 zf4 zf5 zf6 fc0 fc1 ff0 ff1;rw[HZ.out];have r0:=HQZ.out.cell 0;have r1:=HQZ.out.cell 1;have r2:=HQZ.out.cell 2;have r3:=HQZ.out.cell 3;have r4:=HQZ.out.cell 4;have r5:=HQZ.out.cell 5;have r6:=HQZ.out.cell 6;have s0:=HQF.out.cell 0;have s1:=HQF.out.cell 1;refine bodyPost_ret (v:=.tuple #[.agg z7,.agg #[.int .i64 3,.int .i64 (-1)]]) (by simp[results,Tryz.results31,go_sem,r0,r1,r2,r3,r4,r5,r6,s0,s1]) rfl ?_;exact⟨zeroLn,none,0,3,-1,rfl,nsAt_nil _,rg_nil,fun g hg=>by simp[Value.ownBlock] at hg,HQB.out,rfl,rfl,rfl⟩
theorem rline_pkg(s:ByteArray)(w:World)(hs:s.size<=100000)(hw:Lb w)(hF:FineR w)(ad:Addr)(cap:Nat)(hK:KindsAt w ad cap)(hk:kindF (cutF s 32).1=1)(va vb vc:Nat)(hver:versF (cutF (cutF (cutF s 32).2 32).2 32).1=.ok [va,vb,vc])(hr:(cutF (cutF (cutF s 32).2 32).2 32).2.size=0):zC 31 #[.string s] w (RlRes w (.ok ⟨1,(cutF (cutF s 32).2 32).1,(va:Int),(vb:Int),(vc:Int),⟨#[]⟩,[]⟩)):=by
 have k0:=(Blk.new w 59 z7).alloc (.cells #[.int .i64 0,.int .i64 0] 45);have k1:=Blk.new (w.alloc (.cells z7 59)) 45 #[.int .i64 0,.int .i64 0];rw[World.size_alloc] at k1;have hB0:zB w ((w.alloc (.cells z7 59)).alloc (.cells #[.int .i64 0,.int .i64 0] 45)):=((Below.refl _ w).alloc zN _).alloc (by simp) _;have HK0:=zH k0;have HK1:=zH k1;have HB0:=zH hB0;have HN1:=zH (fun W=>rnext_any s W hs);have hz2:=(cutF_size s 32).2;have HLW:=zH hw;have HFN:=zH hF;have HKD:=zH hK;obtain⟨w1,hw1⟩:∃w1,(cutF s 32).1=w1:=⟨_,rfl⟩;obtain⟨s2,hs2⟩:∃s2,(cutF s 32).2=s2:=⟨_,rfl⟩;rw[hw1] at hk HN1;rw[hs2] at hz2 HN1;have hz2':s2.size<=100000:=by omega
 have HKX:Hid (∀k,1<=k->k<=4->((⟨(wl k).toArray⟩:ByteArray).toList==w1.toList)=decide (kindF w1=k)):=fun k h1 h4=>kind_lt h1 h4;rw[hk] at HKX;have HN2:=zH (fun W=>rnext_any s2 W hz2');have hz3:=(cutF_size s2 32).2;obtain⟨nm,hnm⟩:∃nm,(cutF s2 32).1=nm:=⟨_,rfl⟩;obtain⟨s3,hs3⟩:∃s3,(cutF s2 32).2=s3:=⟨_,rfl⟩;rw[hnm] at HN2;rw[hs3] at hz3 HN2;have hz3':s3.size<=100000:=by omega
 have HN3:=zH (fun W=>rnext_any s3 W hz3');have hz4:=cutF_size s3 32;obtain⟨vw,hvw⟩:∃vw,(cutF s3 32).1=vw:=⟨_,rfl⟩;obtain⟨s4,hs4⟩:∃s4,(cutF s3 32).2=s4:=⟨_,rfl⟩;rw[hvw,hs4] at hz4 HN3;have hz4':s4.size<=100000:=by omega
 have HVP0:∀W,zB w W->zR 52 #[.string vw] W (rversV (versF vw)):=fun W hb=>rvparse_any splitC vw W (by omega) (hw.below hb);rw[hs2,hs3,hvw] at hver;rw[hver] at HVP0;have HVP:Hid (∀W,zB w W->zR 52 #[.string vw] W (.tuple #[.agg #[.int .i64 va,.int .i64 vb,.int .i64 vc],.int .i64 0])):=HVP0;clear HVP0 hver;rw[hs2,hs3,hs4] at hr;rw[hs2,hnm];have hrb:(s4.toList==[])=true:=by
  rw[beq_iff_eq,ByteArray.toList_eq];exact List.length_eq_zero_iff.1 (by rw[Array.length_toList];exact hr)
 clear hz3 hz4 hnm hs3 hvw hr hs4;clear k0 k1 hB0 hw hF hK hz2 hs;go_enter Tryz.func31,Tryz.ntmps31;go_wp2_with fail;generalize (w.alloc (.cells z7 59)).alloc (.cells #[.int .i64 0,.int .i64 0] 45)=W0 at *;refine(HN1.out _).mono ?_;rintro e wA ⟨rfl,hbA⟩;have hx:=Blk.new wA 59 z7;have hA:zB wA (wA.alloc (.cells z7 59)):=zF.alloc zN _;have hA0:zB W0 (wA.alloc (.cells z7 59)):=zT hbA hA;have hLR:LR w (wA.alloc (.cells z7 59)) wA.heap.size z7:=⟨HK0.out.below hA0 HK0.out.lt,HK1.out.below hA0 HK1.out.lt,hx,Nat.lt_of_lt_of_le HK1.out.lt hbA.size,zT HB0.out hA0⟩;have HLR:=zH hLR;clear hbA hx hA hA0 hLR HN1 HK0 HK1 HB0;go_wp2_with fail;generalize wA.alloc (.cells z7 59)=W1 at *;obtain⟨b,hb⟩:∃b,wA.heap.size=b:=⟨_,rfl⟩;rw[hb] at HLR ⊢;clear hb;go_loopw [7] (fun kV wr=>∃k:Nat,1<=k/\k<=5/\kV=.int .i64 k/\LR w wr b (x7 (kup 1 k) ⟨#[]⟩ 0 0 0 ⟨#[]⟩ (.slice none 0 0))) (fun kV _=>5-(intOf kV).toNat)
 case atStart=>exact⟨1,by omega,by omega,rfl,by rw[show kup 1 1=0 by unfold kup;split<;>omega];exact HLR.out⟩
 case round =>
  clear HLR;obtain⟨k,hk1,hk5,rfl,hLR⟩:=hrel;have HL:=zH hLR;clear hLR
  by_cases hlt:k<=4
  ·have hkd:=HKD.out.below HL.out.B;have g0:=hkd.c;have g1:=hkd.s k (by omega);have hc:=HKX.out k hk1 hlt;have x0:_=some (Value.int .i64 ((kup 1 k:Nat):Int)):=HL.out.x.cell 0;have xf:=HL.out.x.frozen 0;clear hkd
   by_cases he:1=k
   ·have hst:=HL.out.set 0 (.int .i64 k);have HST:Hid (LR w (wr.setCell ⟨b,0,none⟩ (.int .i64 k)) b (x7 (kup 1 (k+1)) ⟨#[]⟩ 0 0 0 ⟨#[]⟩ (.slice none 0 0))):=by
     have e:kup 1 (k+1)=k:=by unfold kup;rw[if_pos (by omega)];exact he
     rw[e];exact hst
    rw[decide_eq_true he] at hc;generalize kup 1 k=KU at *;generalize (⟨(wl k).toArray⟩:ByteArray)=WK at *;clear hst he;go_wp2;go_roundw
    case rel=>exact⟨k+1,by omega,by omega,by go_num,HST.out⟩
    case measure=>simp[intOf];omega
   ·have HST:Hid (LR w wr b (x7 (kup 1 (k+1)) ⟨#[]⟩ 0 0 0 ⟨#[]⟩ (.slice none 0 0))):=by
     have e:kup 1 (k+1)=kup 1 k:=by
      unfold kup
      by_cases h:1<k
      ·rw[if_pos h,if_pos (by omega)]
      ·rw[if_neg h,if_neg (by omega)]
     rw[e];exact HL.out
    rw[decide_eq_false he] at hc;generalize kup 1 k=KU at *;generalize (⟨(wl k).toArray⟩:ByteArray)=WK at *;clear he;go_wp2;go_roundw
    case rel=>exact⟨k+1,by omega,by omega,by go_num,HST.out⟩
    case measure=>simp[intOf];omega
  ·obtain rfl:k=5:=by omega
   have hku:kup 1 5=1:=by unfold kup;rw[if_pos (by omega)]
   rw[hku] at HL;clear hku;have xc0:_=some (Value.int .i64 (1:Int)):=HL.out.x.cell 0;go_wp2_with fail;refine(HN2.out _).mono ?_;rintro e wB ⟨rfl,hb⟩;have HLB:=zH (HL.out.step hb);clear hb HN2 HL;have xb0:_=some (Value.int .i64 1):=HLB.out.x.cell 0;have xb1:_=some (Value.string ⟨#[]⟩):=HLB.out.x.cell 1;have xg1:=HLB.out.x.frozen 1;have HL2:Hid (LR w (wB.setCell ⟨b,1,none⟩ (.string nm)) b (x7 1 nm 0 0 0 ⟨#[]⟩ (.slice none 0 0))):=HLB.out.set 1 (.string nm);have y0:(wB.setCell ⟨b,1,none⟩ (.string nm)).cell? ⟨b,0,none⟩=some (.int .i64 1):=HL2.out.x.cell 0;clear HLB xc0;go_wp2_with fail;generalize wB.setCell ⟨b,1,none⟩ (.string nm)=W2 at *;clear xb0 xb1 xg1;refine(HN3.out _).mono ?_;rintro e wC ⟨rfl,hb⟩;have HL3:=zH (HL2.out.step hb);have HV3:=zH (HVP.out _ HL3.out.B);clear hb HN3 HL2 y0 HVP;go_wp2_with fail;refine HV3.out.mono ?_;rintro e wD ⟨rfl,hb⟩;have HL4:=zH (HL3.out.step hb);have kv:=Blk.new wD 56 #[.int .i64 va,.int .i64 vb,.int .i64 vc];have hbv:zB wD (wD.alloc (.cells #[.int .i64 va,.int .i64 vb,.int .i64 vc] 56)):=zF.alloc zN _;have HL:=zH (HL4.out.step hbv);have HKV:=zH kv;clear hb hbv HL3 HL4 HV3 kv;have v0:=HKV.out.cell 0;have v1:=HKV.out.cell 1;have v2:=HKV.out.cell 2;have e0:(wD.alloc (.cells #[.int .i64 va,.int .i64 vb,.int .i64 vc] 56)).cell? ⟨b,0,none⟩=some (.int .i64 1):=HL.out.x.cell 0;have e2:(wD.alloc (.cells #[.int .i64 va,.int .i64 vb,.int .i64 vc] 56)).cell? ⟨b,2,none⟩=some (.int .i64 0):=HL.out.x.cell 2;have e3:(wD.alloc (.cells #[.int .i64 va,.int .i64 vb,.int .i64 vc] 56)).cell? ⟨b,3,none⟩=some (.int .i64 0):=HL.out.x.cell 3;have e4:(wD.alloc (.cells #[.int .i64 va,.int .i64 vb,.int .i64 vc] 56)).cell? ⟨b,4,none⟩=some (.int .i64 0):=HL.out.x.cell 4;have e2f:=HL.out.x.frozen 2;have e3f:=HL.out.x.frozen 3;have e4f:=HL.out.x.frozen 4;have hz5:=(((HL.out.set 2 (.int .i64 va)).set 3 (.int .i64 vb)).set 4 (.int .i64 vc));have HX5:Hid (LR w ((((wD.alloc (.cells #[.int .i64 va,.int .i64 vb,.int .i64 vc] 56)).setCell ⟨b,2,none⟩ (.int .i64 va)).setCell ⟨b,3,none⟩ (.int .i64 vb)).setCell ⟨b,4,none⟩ (.int .i64 vc)) b (x7 1 nm (va:Int) (vb:Int) (vc:Int) ⟨#[]⟩ (.slice none 0 0))):=hz5;have m0:((((wD.alloc (.cells #[.int .i64 va,.int .i64 vb,.int .i64 vc] 56)).setCell ⟨b,2,none⟩ (.int .i64 va)).setCell ⟨b,3,none⟩ (.int .i64 vb)).setCell ⟨b,4,none⟩ (.int .i64 vc)).cell? ⟨b,0,none⟩=some (.int .i64 1):=hz5.x.cell 0;clear hz5 HL;go_upto_region 17 with fail;obtain⟨W5,hW5⟩:∃W5,((((wD.alloc (.cells #[.int .i64 va,.int .i64 vb,.int .i64 vc] 56)).setCell ⟨b,2,none⟩ (.int .i64 va)).setCell ⟨b,3,none⟩ (.int .i64 vb)).setCell ⟨b,4,none⟩ (.int .i64 vc))=W5:=⟨_,rfl⟩;rw[hW5] at HX5 m0 ⊢;clear hW5 v0 v1 v2 e0 e2 e3 e4 e2f e3f e4f HKV;have HE:=HX5;clear HX5;have hfn:=HFN.out.below HE.out.B;have gf0:W5.cell? ⟨0,0,none⟩=some (.int .i64 0):=hfn.c0;have gf1:W5.cell? ⟨0,1,none⟩=some (.int .i64 (-1)):=hfn.c1;have hbne:=HE.out.ne;have hlw:=HFN.out.lt;have n1:¬0=w.heap.size:=by omega
   have n2:¬b=w.heap.size:=by omega
   have n3:¬b=w.heap.size+1:=by omega
   have n4:¬w.heap.size=0:=by omega
   clear hbne hlw;have zc0:_=some (Value.int .i64 0):=HE.out.z.cell 0;have zc1:_=some (Value.string ⟨#[]⟩):=HE.out.z.cell 1;have zc2:_=some (Value.int .i64 0):=HE.out.z.cell 2;have zc3:_=some (Value.int .i64 0):=HE.out.z.cell 3;have zc4:_=some (Value.int .i64 0):=HE.out.z.cell 4;have zc5:_=some (Value.string ⟨#[]⟩):=HE.out.z.cell 5;have zc6:_=some (Value.slice none 0 0):=HE.out.z.cell 6;have zf0:=HE.out.z.frozen 0;have zf1:=HE.out.z.frozen 1;have zf2:=HE.out.z.frozen 2;have zf3:=HE.out.z.frozen 3;have zf4:=HE.out.z.frozen 4;have zf5:=HE.out.z.frozen 5;have zf6:=HE.out.z.frozen 6;have fc0:_=some (Value.int .i64 0):=HE.out.f.cell 0;have fc1:_=some (Value.int .i64 0):=HE.out.f.cell 1;have ff0:=HE.out.f.frozen 0;have ff1:=HE.out.f.frozen 1;have xx0:_=some (Value.int .i64 1):=HE.out.x.cell 0;have xx1:_=some (Value.string nm):=HE.out.x.cell 1;have xx2:_=some (Value.int .i64 va):=HE.out.x.cell 2;have xx3:_=some (Value.int .i64 vb):=HE.out.x.cell 3;have xx4:_=some (Value.int .i64 vc):=HE.out.x.cell 4;have xx5:_=some (Value.string ⟨#[]⟩):=HE.out.x.cell 5;have xx6:_=some (Value.slice none 0 0):=HE.out.x.cell 6;obtain⟨Z,hZ,qz,qf,qB,qN⟩:=HE.out.done (.int .i64 1) (.string nm) (.int .i64 va) (.int .i64 vb) (.int .i64 vc) (.string ⟨#[]⟩) (.slice none 0 0) (.int .i64 0) (.int .i64 (-1));have HZ:=zH hZ;have HQZ:=zH qz;have HQF:=zH qf;have HQB:=zH qB;have HQN:=zH qN;clear hZ qz qf qB qN hfn;go_wp2_with fail;go_big_region;clear gf0 gf1 n1 n2 n3 n4;clear zc0 zc1 zc2 zc3 zc4 zc5 zc6 zf0 zf1 zf2 zf3 zf4 zf5 zf6 fc0 fc1 ff0 ff1;clear xx0 xx1 xx2 xx3 xx4 xx5 xx6;rw[HZ.out];go_wp2;have r0:=HQZ.out.cell 0;have r1:=HQZ.out.cell 1;have r2:=HQZ.out.cell 2;have r3:=HQZ.out.cell 3;have r4:=HQZ.out.cell 4;have r5:=HQZ.out.cell 5;have r6:=HQZ.out.cell 6;have s0:=HQF.out.cell 0;have s1:=HQF.out.cell 1;refine bodyPost_ret (v:=.tuple #[.agg #[.int .i64 1,.string nm,.int .i64 va,.int .i64 vb,.int .i64 vc,.string ⟨#[]⟩,(.slice none 0 0)],.agg #[.int .i64 0,.int .i64 (-1)]]) (by simp[results,Tryz.results31,go_sem,r0,r1,r2,r3,r4,r5,r6,s0,s1]) rfl ?_;refine⟨⟨1,nm,(va:Int),(vb:Int),(vc:Int),⟨#[]⟩,[]⟩,none,0,0,-1,rfl,nsAt_nil _,rg_nil,fun g hg=>by simp[Value.ownBlock] at hg,HQB.out.drew,rfl,rfl,rfl⟩
end
section
open Go.RowKit Go.Shelf Sv
theorem zeP{s:ByteArray}{k:Int}{i:Nat}(h:yH s=.error (k,i)):k≠0:=by
 unfold yH at h;have pe:∀{t:ByteArray} {p:Nat} {k:Int} {i:Nat},qO t p=.error (k,i)->k≠0:=by
  intro t p k i h;unfold qO at h;have we:∀{l:List (Nat × ByteArray)} {st:List Span × Nat} {k:Int} {i:Nat},zQ l st=.error (k,i)->k≠0:=by
   intro l
   induction l with
   |nil=>intro st k i h;cases h
   |cons x l ih =>
    intro st k i h;unfold zQ at h;split at h
    ·exact ih h
    ·split at h
     ·rename_i hw;cases h;exact JF hw
     ·exact ih h
  split at h
  ·rename_i hw;cases h;exact we hw
  ·split at h
   ·cases h;decide
   ·cases h
 have go:∀{l:List (Nat × ByteArray)} {acc:List Span} {k:Int} {i:Nat},qd l acc=.error (k,i)->k≠0:=by
  intro l
  induction l with
  |nil=>intro acc k i h;cases h
  |cons x l ih =>
   intro acc k i h;unfold qd at h;split at h
   ·rename_i hp;cases h;exact pe hp
   ·exact ih h
 exact go h
end
end Go.Proofs.YtlamemjfaogjmaaGreatDoor
