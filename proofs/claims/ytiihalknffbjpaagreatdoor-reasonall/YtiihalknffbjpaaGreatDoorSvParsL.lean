/- What is wrong with a range's text is an error. Plain. -/
import Derived.Test.YtiihalknffbjpaaGreatDoorCtLineB
import Derived.Test.YtiihalknffbjpaaGreatDoorSvRHas
set_option maxHeartbeats 4000000
set_option maxRecDepth 100000
namespace Go.Proofs.YtiihalknffbjpaaGreatDoor
section
open Go.RowKit Go.Deep
theorem zjT(m k:Int)(v:Value)(w:World)(hg:yV w)(hv:xZ w v m (-1)) :
  zR 26 #[v,.int .i64 k] w (.bool (m==k)):=by
 generalize hz:(m==k)=z;have HG:=zH hg;have HV:=zH hv;clear hg hv;go_enter Tryz.func26,Tryz.ntmps26;go_wp2_with fail;refine(Qf k _).mono ?_;rintro e w1 ⟨rfl,hb1⟩;have HA:=ziS m k (-1) (-1) v w1 (HG.out.below hb1) (HV.out.below hb1);rw[beq_self_eq_true,Bool.and_true,hz] at HA;clear hz;go_wp2_with fail;refine HA.mono ?_;rintro e w2 ⟨rfl,hb2⟩;go_wp2;go_ret;exact⟨rfl,zT hb1 hb2⟩
end
section
open Sv
theorem zf7(s:ByteArray):∀(f k:Nat),s.size<=k+f->k<=s.size->qV s f k=(zk s ⟨#[10]⟩ f k).filter (fun x=>decide (x.2.size≠0)):=by
 intro f
 induction f with
 |zero =>
  intro k h1 h2;obtain rfl:k=s.size:=by omega
  simp[qV,zk]
 |succ f ih =>
  intro k h1 h2;have hL:(s.extract k s.size).data.toList=s.data.toList.drop k:=zcq s k;have hsz:(s.extract k s.size).size=s.size-k:=by simp[ByteArray.size_extract]
  rcases Nat.lt_or_ge k s.size with hk|hk
  ·rw[zcI hk,zk]
   by_cases hi:Lib.index (s.extract k s.size).data.toList [10]<0
   ·have e:za (s.extract k s.size) 10=(s.extract k s.size,⟨#[]⟩):=by
     unfold za Lib.cut;rw[if_neg (by omega)]
    rw[if_pos hi,e,Ju (by simp only;omega)]
    by_cases h0:(s.extract k s.size).size=0
    ·omega
    ·simp only[if_neg h0,List.append_nil];rw[List.filter_cons,if_pos (decide_eq_true h0),List.filter_nil]
   ·obtain⟨j,hj⟩:∃j:Nat,Lib.index (s.extract k s.size).data.toList [10]=(j:Int):=⟨(Lib.index (s.extract k s.size).data.toList [10]).toNat,by omega⟩;have hroom:=QQ (s.extract k s.size).data.toList [10] (by omega);rw[hj] at hroom;have hlen:(s.extract k s.size).data.toList.length=s.size-k:=by rw[Array.length_toList];exact hsz
    simp only[List.length_cons,List.length_nil,Int.toNat_natCast] at hroom;have e1:(za (s.extract k s.size) 10).1=s.extract k (k+j):=by
     unfold za Lib.cut;rw[if_pos (by omega)];simp only;rw[hj];refine Yo ?_;simp only[Int.toNat_natCast];rw[hL,QP,List.take_drop]
    have e2:(s.extract k (k+j)).size=j:=by
     simp only[ByteArray.size_extract];omega
    rw[if_neg hi,e1,e2];simp only;rw[hj];simp only[Int.toNat_natCast];rw[ih (k+j+1) (by omega) (by omega)];show _=List.filter _ (_ :: zk s ⟨#[10]⟩ f (k+j+1));rw[List.filter_cons]
    by_cases hj0:j=0
    ·rw[if_pos hj0,if_neg (by rw[e2];simp[hj0])];rfl
    ·rw[if_neg hj0,if_pos (by rw[e2];simp[hj0])];rfl
  ·obtain rfl:k=s.size:=by omega
   rw[Ju zN];have he:(s.extract s.size s.size).data.toList=[]:=by rw[hL];simp
   rw[zk];show []=List.filter _ (if Lib.index (s.extract s.size s.size).data.toList [10]<0 then _ else _);rw[he];have:Lib.index ([]:List UInt8) [10]<0:=by decide
   rw[if_pos this];simp
end
section
open Go.RowKit Go.Shelf Sv
theorem XE(s:ByteArray)(w:World)(hs:s.size<=100000)(hw:Lb w)(hF:yf w)(ad:Addr)(cap:Nat)(hK:yK w ad cap)(K:Nat)(hK13:K=1\/K=2\/K=3)(hk:zw (za s 32).1=K)(ke:Int)(hver:zz (za (za (za s 32).2 32).2 32).1=.error ke):zC 56 #[.string s] w (ZF w (.error (ke,none))):=by
 have hK4:((K:Int)==4)=false:=by rw[beq_eq_false_iff_ne];omega
 have hK0:((K:Int)==0)=false:=by rw[beq_eq_false_iff_ne];omega
 have k0:=(Blk.new w 101 z7).alloc (.cells #[.int .i64 0,.int .i64 0] 96);have k1:=Blk.new (w.alloc (.cells z7 101)) 96 #[.int .i64 0,.int .i64 0];rw[World.size_alloc] at k1;have hB0:zB w ((w.alloc (.cells z7 101)).alloc (.cells #[.int .i64 0,.int .i64 0] 96)):=((Below.refl _ w).alloc zN _).alloc (by simp) _;have HK0:=zH k0;have HK1:=zH k1;have HB0:=zH hB0;have HN1:=zH (fun W=>yc s W hs);have hz2:=(qe s 32).2;have HLW:=zH hw;have HFN:=zH hF;have HKD:=zH hK;obtain⟨w1,hw1⟩:∃w1,(za s 32).1=w1:=⟨_,rfl⟩;obtain⟨s2,hs2⟩:∃s2,(za s 32).2=s2:=⟨_,rfl⟩;rw[hw1] at hk HN1;rw[hs2] at hz2 HN1;have hz2':s2.size<=100000:=by omega
 have HKX:Hid (∀k,1<=k->k<=4->((⟨(wl k).toArray⟩:ByteArray).toList==w1.toList)=decide (zw w1=k)):=fun k h1 h4=>ZQ h1 h4;rw[hk] at HKX;have HN2:=zH (fun W=>yc s2 W hz2');have hz3:=(qe s2 32).2;obtain⟨nm,hnm⟩:∃nm,(za s2 32).1=nm:=⟨_,rfl⟩;obtain⟨s3,hs3⟩:∃s3,(za s2 32).2=s3:=⟨_,rfl⟩;rw[hnm] at HN2;rw[hs3] at hz3 HN2;have hz3':s3.size<=100000:=by omega
 have HN3:=zH (fun W=>yc s3 W hz3');have hz4:=qe s3 32;obtain⟨vw,hvw⟩:∃vw,(za s3 32).1=vw:=⟨_,rfl⟩;obtain⟨s4,hs4⟩:∃s4,(za s3 32).2=s4:=⟨_,rfl⟩;rw[hvw,hs4] at hz4 HN3;have hz4':s4.size<=100000:=by omega
 have HVP0:∀W,zB w W->zR 131 #[.string vw] W (ZZ (zz vw)):=fun W hb=>yF yA vw W (by omega) (hw.below hb);rw[hs2,hs3,hvw] at hver;rw[hver] at HVP0;have hke:=Y3 hver;have hke':(ke != 0)=true:=by simpa using hke
 have HVP:Hid (∀W,zB w W->zR 131 #[.string vw] W (.tuple #[.agg #[.int .i64 0,.int .i64 0,.int .i64 0],.int .i64 ke])):=HVP0;clear HVP0 hke hver hz3 hz4 hnm hs3 hvw hs4;clear k0 k1 hB0 hw hF hK hz2 hs;go_enter Tryz.func56,Tryz.ntmps56;go_wp2_with fail;generalize (w.alloc (.cells z7 101)).alloc (.cells #[.int .i64 0,.int .i64 0] 96)=W0 at *;refine(HN1.out _).mono ?_;rintro e wA ⟨rfl,hbA⟩;have hx:=Blk.new wA 101 z7;have hA:zB wA (wA.alloc (.cells z7 101)):=zF.alloc zN _;have hA0:zB W0 (wA.alloc (.cells z7 101)):=zT hbA hA;have hLR:LR w (wA.alloc (.cells z7 101)) wA.heap.size z7:=⟨HK0.out.below hA0 HK0.out.lt,HK1.out.below hA0 HK1.out.lt,hx,Nat.lt_of_lt_of_le HK1.out.lt hbA.size,zT HB0.out hA0⟩;have HLR:=zH hLR;clear hbA hx hA hA0 hLR HN1 HK0 HK1 HB0;go_wp2_with fail;generalize wA.alloc (.cells z7 101)=W1 at *;obtain⟨b,hb⟩:∃b,wA.heap.size=b:=⟨_,rfl⟩;rw[hb] at HLR ⊢;clear hb;go_loopw [7] (fun kV wr=>∃k:Nat,1<=k/\k<=5/\kV=.int .i64 k/\LR w wr b (x7 (kup K k) ⟨#[]⟩ 0 0 0 ⟨#[]⟩ (.slice none 0 0))) (fun kV _=>5-(intOf kV).toNat)
 case atStart=>exact⟨1,by omega,by omega,rfl,by rw[show kup K 1=0 by unfold kup;split<;>omega];exact HLR.out⟩
 case round =>
  clear HLR;obtain⟨k,hk1,hk5,rfl,hLR⟩:=hrel;have HL:=zH hLR;clear hLR
  by_cases hlt:k<=4
  ·have hkd:=HKD.out.below HL.out.B;have g0:=hkd.c;have g1:=hkd.s k (by omega);have hc:=HKX.out k hk1 hlt;have x0:_=some (Value.int .i64 ((kup K k:Nat):Int)):=HL.out.x.cell 0;have xf:=HL.out.x.frozen 0;clear hkd
   by_cases he:K=k
   ·have hst:=HL.out.set 0 (.int .i64 k);have HST:Hid (LR w (wr.setCell ⟨b,0,none⟩ (.int .i64 k)) b (x7 (kup K (k+1)) ⟨#[]⟩ 0 0 0 ⟨#[]⟩ (.slice none 0 0))):=by
     have e:kup K (k+1)=k:=by unfold kup;rw[if_pos (by omega)];exact he
     rw[e];exact hst
    rw[decide_eq_true he] at hc;generalize kup K k=KU at *;generalize (⟨(wl k).toArray⟩:ByteArray)=WK at *;clear hst he;go_wp2;go_roundw
    case rel=>exact⟨k+1,by omega,by omega,by go_num,HST.out⟩
    case measure=>simp[intOf];omega
   ·have HST:Hid (LR w wr b (x7 (kup K (k+1)) ⟨#[]⟩ 0 0 0 ⟨#[]⟩ (.slice none 0 0))):=by
     have e:kup K (k+1)=kup K k:=by
      unfold kup
      by_cases h:K<k
      ·rw[if_pos h,if_pos (by omega)]
      ·rw[if_neg h,if_neg (by omega)]
     rw[e];exact HL.out
    rw[decide_eq_false he] at hc;generalize kup K k=KU at *;generalize (⟨(wl k).toArray⟩:ByteArray)=WK at *;clear he;go_wp2;go_roundw
    case rel=>exact⟨k+1,by omega,by omega,by go_num,HST.out⟩
    case measure=>simp[intOf];omega
  ·obtain rfl:k=5:=by omega
   have hku:kup K 5=K:=by unfold kup;rw[if_pos (by omega)]
   rw[hku] at HL;clear hku;have xc0:_=some (Value.int .i64 K):=HL.out.x.cell 0;go_wp2_with fail;refine(HN2.out _).mono ?_;rintro e wB ⟨rfl,hb⟩;have HLB:=zH (HL.out.step hb);clear hb HN2 HL;have xb0:_=some (Value.int .i64 K):=HLB.out.x.cell 0;have xb1:_=some (Value.string ⟨#[]⟩):=HLB.out.x.cell 1;have xg1:=HLB.out.x.frozen 1;have HL2:Hid (LR w (wB.setCell ⟨b,1,none⟩ (.string nm)) b (x7 K nm 0 0 0 ⟨#[]⟩ (.slice none 0 0))):=HLB.out.set 1 (.string nm);have y0:(wB.setCell ⟨b,1,none⟩ (.string nm)).cell? ⟨b,0,none⟩=some (.int .i64 K):=HL2.out.x.cell 0;clear HLB xc0;go_wp2_with fail;generalize wB.setCell ⟨b,1,none⟩ (.string nm)=W2 at *;clear xb0 xb1 xg1;refine(HN3.out _).mono ?_;rintro e wC ⟨rfl,hb⟩;have HL3:=zH (HL2.out.step hb);have HV3:=zH (HVP.out _ HL3.out.B);clear hb HN3 HL2 y0 HVP;go_wp2_with fail;refine HV3.out.mono ?_;rintro e wD ⟨rfl,hb⟩;have HL4:=zH (HL3.out.step hb);have kv:=Blk.new wD 91 #[.int .i64 0,.int .i64 0,.int .i64 0];have hbv:zB wD (wD.alloc (.cells #[.int .i64 0,.int .i64 0,.int .i64 0] 91)):=zF.alloc zN _;have HL:=zH (HL4.out.step hbv);have HKV:=zH kv;clear hb hbv HL3 HL4 HV3 kv;have HBR:=zH (Qf ke (wD.alloc (.cells #[.int .i64 0,.int .i64 0,.int .i64 0] 91)));clear HKV;go_wp2_with fail;generalize wD.alloc (.cells #[.int .i64 0,.int .i64 0,.int .i64 0] 91)=W5 at *;refine HBR.out.mono ?_;rintro e wE ⟨rfl,hbE⟩;have hE:=HL.out.step hbE;have zc0:_=some (Value.int .i64 0):=hE.z.cell 0;have zc1:_=some (Value.string ⟨#[]⟩):=hE.z.cell 1;have zc2:_=some (Value.int .i64 0):=hE.z.cell 2;have zc3:_=some (Value.int .i64 0):=hE.z.cell 3;have zc4:_=some (Value.int .i64 0):=hE.z.cell 4;have zc5:_=some (Value.string ⟨#[]⟩):=hE.z.cell 5;have zc6:_=some (Value.slice none 0 0):=hE.z.cell 6;have zf0:=hE.z.frozen 0;have zf1:=hE.z.frozen 1;have zf2:=hE.z.frozen 2;have zf3:=hE.z.frozen 3;have zf4:=hE.z.frozen 4;have zf5:=hE.z.frozen 5;have zf6:=hE.z.frozen 6;have fc0:_=some (Value.int .i64 0):=hE.f.cell 0;have fc1:_=some (Value.int .i64 0):=hE.f.cell 1;have ff0:=hE.f.frozen 0;have ff1:=hE.f.frozen 1;obtain⟨Z,hZ,qz,qf,qB,-⟩:=hE.done (.int .i64 0) (.string ⟨#[]⟩) (.int .i64 0) (.int .i64 0) (.int .i64 0) (.string ⟨#[]⟩) (.slice none 0 0) (.int .i64 ke) (.int .i64 (-1));have HZ:=zH hZ;have HQZ:=zH qz;have HQF:=zH qf;have HQB:=zH qB;clear hZ qz qf qB hE hbE HBR HL;go_wp2;clear zc0 zc1 zc2 zc3 zc4 zc5 zc6 zf0 zf1 zf2 zf3 zf4 zf5 zf6 fc0 fc1 ff0 ff1;rw[HZ.out];have r0:=HQZ.out.cell 0;have r1:=HQZ.out.cell 1;have r2:=HQZ.out.cell 2;have r3:=HQZ.out.cell 3;have r4:=HQZ.out.cell 4;have r5:=HQZ.out.cell 5;have r6:=HQZ.out.cell 6;have s0:=HQF.out.cell 0;have s1:=HQF.out.cell 1;refine bodyPost_ret (v:=.tuple #[.agg z7,.agg #[.int .i64 ke,.int .i64 (-1)]]) (by simp[results,Tryz.results56,go_sem,r0,r1,r2,r3,r4,r5,r6,s0,s1]) rfl ?_;exact⟨QD,none,0,ke,-1,rfl,xj _,xL,fun g hg=>by simp[Value.ownBlock] at hg,HQB.out,rfl,rfl,rfl⟩
end
section
open Go.RowKit Go.Shelf Sv
theorem ziQ(s:ByteArray)(w:World)(hs:s.size<=100000)(hw:Lb w)(hF:yf w)(ad:Addr)(cap:Nat)(hK:yK w ad cap)(hk:zw (za s 32).1=1)(va vb vc:Nat)(hver:zz (za (za (za s 32).2 32).2 32).1=.ok [va,vb,vc])(hr:(za (za (za s 32).2 32).2 32).2.size≠0):zC 56 #[.string s] w (ZF w (.error (3,none))):=by
 have k0:=(Blk.new w 101 z7).alloc (.cells #[.int .i64 0,.int .i64 0] 96);have k1:=Blk.new (w.alloc (.cells z7 101)) 96 #[.int .i64 0,.int .i64 0];rw[World.size_alloc] at k1;have hB0:zB w ((w.alloc (.cells z7 101)).alloc (.cells #[.int .i64 0,.int .i64 0] 96)):=((Below.refl _ w).alloc zN _).alloc (by simp) _;have HK0:=zH k0;have HK1:=zH k1;have HB0:=zH hB0;have HN1:=zH (fun W=>yc s W hs);have hz2:=(qe s 32).2;have HLW:=zH hw;have HFN:=zH hF;have HKD:=zH hK;obtain⟨w1,hw1⟩:∃w1,(za s 32).1=w1:=⟨_,rfl⟩;obtain⟨s2,hs2⟩:∃s2,(za s 32).2=s2:=⟨_,rfl⟩;rw[hw1] at hk HN1;rw[hs2] at hz2 HN1;have hz2':s2.size<=100000:=by omega
 have HKX:Hid (∀k,1<=k->k<=4->((⟨(wl k).toArray⟩:ByteArray).toList==w1.toList)=decide (zw w1=k)):=fun k h1 h4=>ZQ h1 h4;rw[hk] at HKX;have HN2:=zH (fun W=>yc s2 W hz2');have hz3:=(qe s2 32).2;obtain⟨nm,hnm⟩:∃nm,(za s2 32).1=nm:=⟨_,rfl⟩;obtain⟨s3,hs3⟩:∃s3,(za s2 32).2=s3:=⟨_,rfl⟩;rw[hnm] at HN2;rw[hs3] at hz3 HN2;have hz3':s3.size<=100000:=by omega
 have HN3:=zH (fun W=>yc s3 W hz3');have hz4:=qe s3 32;obtain⟨vw,hvw⟩:∃vw,(za s3 32).1=vw:=⟨_,rfl⟩;obtain⟨s4,hs4⟩:∃s4,(za s3 32).2=s4:=⟨_,rfl⟩;rw[hvw,hs4] at hz4 HN3;have hz4':s4.size<=100000:=by omega
 have HVP0:∀W,zB w W->zR 131 #[.string vw] W (ZZ (zz vw)):=fun W hb=>yF yA vw W (by omega) (hw.below hb);rw[hs2,hs3,hvw] at hver;rw[hver] at HVP0;have HVP:Hid (∀W,zB w W->zR 131 #[.string vw] W (.tuple #[.agg #[.int .i64 va,.int .i64 vb,.int .i64 vc],.int .i64 0])):=HVP0;clear HVP0 hver;have hs3q:=hs3;clear hz3 hz4 hnm hs3 hvw;rw[hs2,show (za s2 32).2=s3 from hs3q,hs4] at hr;have hrb:(s4.toList==[])=false:=by
  rw[beq_eq_false_iff_ne,ByteArray.toList_eq];intro e;have:=congrArg List.length e;simp at this;exact hr (by rw[this];rfl)
 clear hr hs3q hs4;clear k0 k1 hB0 hw hF hK hz2 hs;go_enter Tryz.func56,Tryz.ntmps56;go_wp2_with fail;generalize (w.alloc (.cells z7 101)).alloc (.cells #[.int .i64 0,.int .i64 0] 96)=W0 at *;refine(HN1.out _).mono ?_;rintro e wA ⟨rfl,hbA⟩;have hx:=Blk.new wA 101 z7;have hA:zB wA (wA.alloc (.cells z7 101)):=zF.alloc zN _;have hA0:zB W0 (wA.alloc (.cells z7 101)):=zT hbA hA;have hLR:LR w (wA.alloc (.cells z7 101)) wA.heap.size z7:=⟨HK0.out.below hA0 HK0.out.lt,HK1.out.below hA0 HK1.out.lt,hx,Nat.lt_of_lt_of_le HK1.out.lt hbA.size,zT HB0.out hA0⟩;have HLR:=zH hLR;clear hbA hx hA hA0 hLR HN1 HK0 HK1 HB0;go_wp2_with fail;generalize wA.alloc (.cells z7 101)=W1 at *;obtain⟨b,hb⟩:∃b,wA.heap.size=b:=⟨_,rfl⟩;rw[hb] at HLR ⊢;clear hb;go_loopw [7] (fun kV wr=>∃k:Nat,1<=k/\k<=5/\kV=.int .i64 k/\LR w wr b (x7 (kup 1 k) ⟨#[]⟩ 0 0 0 ⟨#[]⟩ (.slice none 0 0))) (fun kV _=>5-(intOf kV).toNat)
 case atStart=>exact⟨1,by omega,by omega,rfl,by rw[show kup 1 1=0 by unfold kup;split<;>omega];exact HLR.out⟩
 case round =>
  clear HLR;obtain⟨k,hk1,hk5,rfl,hLR⟩:=hrel;have HL:=zH hLR;clear hLR
  by_cases hlt:k<=4
  ·have hkd:=HKD.out.below HL.out.B;have g0:=hkd.c;have g1:=hkd.s k (by omega);have hc:=HKX.out k hk1 hlt;have x0:_=some (Value.int .i64 ((kup 1 k:Nat):Int)):=HL.out.x.cell 0;have xf:=HL.out.x.frozen 0;clear hkd
   by_cases he:1=k
   ·have hst:=HL.out.set 0 (.int .i64 k);have HST:Hid (LR w (wr.setCell ⟨b,0,none⟩ (.int .i64 k)) b (x7 (kup 1 (k+1)) ⟨#[]⟩ 0 0 0 ⟨#[]⟩ (.slice none 0 0))):=by
     have e:kup 1 (k+1)=k:=by unfold kup;rw[if_pos (by omega)];exact he
     rw[e];exact hst
    rw[decide_eq_true he] at hc;generalize kup 1 k=KU at *;generalize (⟨(wl k).toArray⟩:ByteArray)=WK at *;clear hst he;go_wp2;go_roundw
    case rel=>exact⟨k+1,by omega,by omega,by go_num,HST.out⟩
    case measure=>simp[intOf];omega
   ·have HST:Hid (LR w wr b (x7 (kup 1 (k+1)) ⟨#[]⟩ 0 0 0 ⟨#[]⟩ (.slice none 0 0))):=by
     have e:kup 1 (k+1)=kup 1 k:=by
      unfold kup
      by_cases h:1<k
      ·rw[if_pos h,if_pos (by omega)]
      ·rw[if_neg h,if_neg (by omega)]
     rw[e];exact HL.out
    rw[decide_eq_false he] at hc;generalize kup 1 k=KU at *;generalize (⟨(wl k).toArray⟩:ByteArray)=WK at *;clear he;go_wp2;go_roundw
    case rel=>exact⟨k+1,by omega,by omega,by go_num,HST.out⟩
    case measure=>simp[intOf];omega
  ·obtain rfl:k=5:=by omega
   have hku:kup 1 5=1:=by unfold kup;rw[if_pos (by omega)]
   rw[hku] at HL;clear hku;have xc0:_=some (Value.int .i64 (1:Int)):=HL.out.x.cell 0;go_wp2_with fail;refine(HN2.out _).mono ?_;rintro e wB ⟨rfl,hb⟩;have HLB:=zH (HL.out.step hb);clear hb HN2 HL;have xb0:_=some (Value.int .i64 1):=HLB.out.x.cell 0;have xb1:_=some (Value.string ⟨#[]⟩):=HLB.out.x.cell 1;have xg1:=HLB.out.x.frozen 1;have HL2:Hid (LR w (wB.setCell ⟨b,1,none⟩ (.string nm)) b (x7 1 nm 0 0 0 ⟨#[]⟩ (.slice none 0 0))):=HLB.out.set 1 (.string nm);have y0:(wB.setCell ⟨b,1,none⟩ (.string nm)).cell? ⟨b,0,none⟩=some (.int .i64 1):=HL2.out.x.cell 0;clear HLB xc0;go_wp2_with fail;generalize wB.setCell ⟨b,1,none⟩ (.string nm)=W2 at *;clear xb0 xb1 xg1;refine(HN3.out _).mono ?_;rintro e wC ⟨rfl,hb⟩;have HL3:=zH (HL2.out.step hb);have HV3:=zH (HVP.out _ HL3.out.B);clear hb HN3 HL2 y0 HVP;go_wp2_with fail;refine HV3.out.mono ?_;rintro e wD ⟨rfl,hb⟩;have HL4:=zH (HL3.out.step hb);have kv:=Blk.new wD 91 #[.int .i64 va,.int .i64 vb,.int .i64 vc];have hbv:zB wD (wD.alloc (.cells #[.int .i64 va,.int .i64 vb,.int .i64 vc] 91)):=zF.alloc zN _;have HL:=zH (HL4.out.step hbv);have HKV:=zH kv;clear hb hbv HL3 HL4 HV3 kv;have v0:=HKV.out.cell 0;have v1:=HKV.out.cell 1;have v2:=HKV.out.cell 2;have e0:(wD.alloc (.cells #[.int .i64 va,.int .i64 vb,.int .i64 vc] 91)).cell? ⟨b,0,none⟩=some (.int .i64 1):=HL.out.x.cell 0;have e2:(wD.alloc (.cells #[.int .i64 va,.int .i64 vb,.int .i64 vc] 91)).cell? ⟨b,2,none⟩=some (.int .i64 0):=HL.out.x.cell 2;have e3:(wD.alloc (.cells #[.int .i64 va,.int .i64 vb,.int .i64 vc] 91)).cell? ⟨b,3,none⟩=some (.int .i64 0):=HL.out.x.cell 3;have e4:(wD.alloc (.cells #[.int .i64 va,.int .i64 vb,.int .i64 vc] 91)).cell? ⟨b,4,none⟩=some (.int .i64 0):=HL.out.x.cell 4;have e2f:=HL.out.x.frozen 2;have e3f:=HL.out.x.frozen 3;have e4f:=HL.out.x.frozen 4;have hz5:=(((HL.out.set 2 (.int .i64 va)).set 3 (.int .i64 vb)).set 4 (.int .i64 vc));have HX5:Hid (LR w ((((wD.alloc (.cells #[.int .i64 va,.int .i64 vb,.int .i64 vc] 91)).setCell ⟨b,2,none⟩ (.int .i64 va)).setCell ⟨b,3,none⟩ (.int .i64 vb)).setCell ⟨b,4,none⟩ (.int .i64 vc)) b (x7 1 nm (va:Int) (vb:Int) (vc:Int) ⟨#[]⟩ (.slice none 0 0))):=hz5;have m0:((((wD.alloc (.cells #[.int .i64 va,.int .i64 vb,.int .i64 vc] 91)).setCell ⟨b,2,none⟩ (.int .i64 va)).setCell ⟨b,3,none⟩ (.int .i64 vb)).setCell ⟨b,4,none⟩ (.int .i64 vc)).cell? ⟨b,0,none⟩=some (.int .i64 1):=hz5.x.cell 0;clear hz5 HL;go_upto_region 17 with fail;obtain⟨W5,hW5⟩:∃W5,((((wD.alloc (.cells #[.int .i64 va,.int .i64 vb,.int .i64 vc] 91)).setCell ⟨b,2,none⟩ (.int .i64 va)).setCell ⟨b,3,none⟩ (.int .i64 vb)).setCell ⟨b,4,none⟩ (.int .i64 vc))=W5:=⟨_,rfl⟩;rw[hW5] at HX5 m0 ⊢;clear hW5 v0 v1 v2 e0 e2 e3 e4 e2f e3f e4f HKV;have HL:=HX5;clear HX5;have HBR:=zH (Qf 3 W5);go_wp2_with fail;refine HBR.out.mono ?_;rintro e wE ⟨rfl,hbE⟩;have hE:=HL.out.step hbE;have zc0:_=some (Value.int .i64 0):=hE.z.cell 0;have zc1:_=some (Value.string ⟨#[]⟩):=hE.z.cell 1;have zc2:_=some (Value.int .i64 0):=hE.z.cell 2;have zc3:_=some (Value.int .i64 0):=hE.z.cell 3;have zc4:_=some (Value.int .i64 0):=hE.z.cell 4;have zc5:_=some (Value.string ⟨#[]⟩):=hE.z.cell 5;have zc6:_=some (Value.slice none 0 0):=hE.z.cell 6;have zf0:=hE.z.frozen 0;have zf1:=hE.z.frozen 1;have zf2:=hE.z.frozen 2;have zf3:=hE.z.frozen 3;have zf4:=hE.z.frozen 4;have zf5:=hE.z.frozen 5;have zf6:=hE.z.frozen 6;have fc0:_=some (Value.int .i64 0):=hE.f.cell 0;have fc1:_=some (Value.int .i64 0):=hE.f.cell 1;have ff0:=hE.f.frozen 0;have ff1:=hE.f.frozen 1;obtain⟨Z,hZ,qz,qf,qB,-⟩:=hE.done (.int .i64 0) (.string ⟨#[]⟩) (.int .i64 0) (.int .i64 0) (.int .i64 0) (.string ⟨#[]⟩) (.slice none 0 0) (.int .i64 3) (.int .i64 (-1));have HZ:=zH hZ;have HQZ:=zH qz;have HQF:=zH qf;have HQB:=zH qB;clear hZ qz qf qB hE hbE HBR HL;go_wp2;clear zc0 zc1 zc2 zc3 zc4 zc5 zc6 zf0 zf1 zf2 zf3 zf4 zf5 zf6 fc0 fc1 ff0 ff1;rw[HZ.out];have r0:=HQZ.out.cell 0;have r1:=HQZ.out.cell 1;have r2:=HQZ.out.cell 2;have r3:=HQZ.out.cell 3;have r4:=HQZ.out.cell 4;have r5:=HQZ.out.cell 5;have r6:=HQZ.out.cell 6;have s0:=HQF.out.cell 0;have s1:=HQF.out.cell 1;refine bodyPost_ret (v:=.tuple #[.agg z7,.agg #[.int .i64 3,.int .i64 (-1)]]) (by simp[results,Tryz.results56,go_sem,r0,r1,r2,r3,r4,r5,r6,s0,s1]) rfl ?_;exact⟨QD,none,0,3,-1,rfl,xj _,xL,fun g hg=>by simp[Value.ownBlock] at hg,HQB.out,rfl,rfl,rfl⟩
theorem zht(s:ByteArray)(w:World)(hs:s.size<=100000)(hw:Lb w)(hF:yf w)(ad:Addr)(cap:Nat)(hK:yK w ad cap)(hk:zw (za s 32).1=1)(va vb vc:Nat)(hver:zz (za (za (za s 32).2 32).2 32).1=.ok [va,vb,vc])(hr:(za (za (za s 32).2 32).2 32).2.size=0):zC 56 #[.string s] w (ZF w (.ok ⟨1,(za (za s 32).2 32).1,(va:Int),(vb:Int),(vc:Int),⟨#[]⟩,[]⟩)):=by
 have k0:=(Blk.new w 101 z7).alloc (.cells #[.int .i64 0,.int .i64 0] 96);have k1:=Blk.new (w.alloc (.cells z7 101)) 96 #[.int .i64 0,.int .i64 0];rw[World.size_alloc] at k1;have hB0:zB w ((w.alloc (.cells z7 101)).alloc (.cells #[.int .i64 0,.int .i64 0] 96)):=((Below.refl _ w).alloc zN _).alloc (by simp) _;have HK0:=zH k0;have HK1:=zH k1;have HB0:=zH hB0;have HN1:=zH (fun W=>yc s W hs);have hz2:=(qe s 32).2;have HLW:=zH hw;have HFN:=zH hF;have HKD:=zH hK;obtain⟨w1,hw1⟩:∃w1,(za s 32).1=w1:=⟨_,rfl⟩;obtain⟨s2,hs2⟩:∃s2,(za s 32).2=s2:=⟨_,rfl⟩;rw[hw1] at hk HN1;rw[hs2] at hz2 HN1;have hz2':s2.size<=100000:=by omega
 have HKX:Hid (∀k,1<=k->k<=4->((⟨(wl k).toArray⟩:ByteArray).toList==w1.toList)=decide (zw w1=k)):=fun k h1 h4=>ZQ h1 h4;rw[hk] at HKX;have HN2:=zH (fun W=>yc s2 W hz2');have hz3:=(qe s2 32).2;obtain⟨nm,hnm⟩:∃nm,(za s2 32).1=nm:=⟨_,rfl⟩;obtain⟨s3,hs3⟩:∃s3,(za s2 32).2=s3:=⟨_,rfl⟩;rw[hnm] at HN2;rw[hs3] at hz3 HN2;have hz3':s3.size<=100000:=by omega
 have HN3:=zH (fun W=>yc s3 W hz3');have hz4:=qe s3 32;obtain⟨vw,hvw⟩:∃vw,(za s3 32).1=vw:=⟨_,rfl⟩;obtain⟨s4,hs4⟩:∃s4,(za s3 32).2=s4:=⟨_,rfl⟩;rw[hvw,hs4] at hz4 HN3;have hz4':s4.size<=100000:=by omega
 have HVP0:∀W,zB w W->zR 131 #[.string vw] W (ZZ (zz vw)):=fun W hb=>yF yA vw W (by omega) (hw.below hb);rw[hs2,hs3,hvw] at hver;rw[hver] at HVP0;have HVP:Hid (∀W,zB w W->zR 131 #[.string vw] W (.tuple #[.agg #[.int .i64 va,.int .i64 vb,.int .i64 vc],.int .i64 0])):=HVP0;clear HVP0 hver;rw[hs2,hs3,hs4] at hr;rw[hs2,hnm];have hrb:(s4.toList==[])=true:=by
  rw[beq_iff_eq,ByteArray.toList_eq];exact List.length_eq_zero_iff.1 (by rw[Array.length_toList];exact hr)
 clear hz3 hz4 hnm hs3 hvw hr hs4;clear k0 k1 hB0 hw hF hK hz2 hs;go_enter Tryz.func56,Tryz.ntmps56;go_wp2_with fail;generalize (w.alloc (.cells z7 101)).alloc (.cells #[.int .i64 0,.int .i64 0] 96)=W0 at *;refine(HN1.out _).mono ?_;rintro e wA ⟨rfl,hbA⟩;have hx:=Blk.new wA 101 z7;have hA:zB wA (wA.alloc (.cells z7 101)):=zF.alloc zN _;have hA0:zB W0 (wA.alloc (.cells z7 101)):=zT hbA hA;have hLR:LR w (wA.alloc (.cells z7 101)) wA.heap.size z7:=⟨HK0.out.below hA0 HK0.out.lt,HK1.out.below hA0 HK1.out.lt,hx,Nat.lt_of_lt_of_le HK1.out.lt hbA.size,zT HB0.out hA0⟩;have HLR:=zH hLR;clear hbA hx hA hA0 hLR HN1 HK0 HK1 HB0;go_wp2_with fail;generalize wA.alloc (.cells z7 101)=W1 at *;obtain⟨b,hb⟩:∃b,wA.heap.size=b:=⟨_,rfl⟩;rw[hb] at HLR ⊢;clear hb;go_loopw [7] (fun kV wr=>∃k:Nat,1<=k/\k<=5/\kV=.int .i64 k/\LR w wr b (x7 (kup 1 k) ⟨#[]⟩ 0 0 0 ⟨#[]⟩ (.slice none 0 0))) (fun kV _=>5-(intOf kV).toNat)
 case atStart=>exact⟨1,by omega,by omega,rfl,by rw[show kup 1 1=0 by unfold kup;split<;>omega];exact HLR.out⟩
 case round =>
  clear HLR;obtain⟨k,hk1,hk5,rfl,hLR⟩:=hrel;have HL:=zH hLR;clear hLR
  by_cases hlt:k<=4
  ·have hkd:=HKD.out.below HL.out.B;have g0:=hkd.c;have g1:=hkd.s k (by omega);have hc:=HKX.out k hk1 hlt;have x0:_=some (Value.int .i64 ((kup 1 k:Nat):Int)):=HL.out.x.cell 0;have xf:=HL.out.x.frozen 0;clear hkd
   by_cases he:1=k
   ·have hst:=HL.out.set 0 (.int .i64 k);have HST:Hid (LR w (wr.setCell ⟨b,0,none⟩ (.int .i64 k)) b (x7 (kup 1 (k+1)) ⟨#[]⟩ 0 0 0 ⟨#[]⟩ (.slice none 0 0))):=by
     have e:kup 1 (k+1)=k:=by unfold kup;rw[if_pos (by omega)];exact he
     rw[e];exact hst
    rw[decide_eq_true he] at hc;generalize kup 1 k=KU at *;generalize (⟨(wl k).toArray⟩:ByteArray)=WK at *;clear hst he;go_wp2;go_roundw
    case rel=>exact⟨k+1,by omega,by omega,by go_num,HST.out⟩
    case measure=>simp[intOf];omega
   ·have HST:Hid (LR w wr b (x7 (kup 1 (k+1)) ⟨#[]⟩ 0 0 0 ⟨#[]⟩ (.slice none 0 0))):=by
     have e:kup 1 (k+1)=kup 1 k:=by
      unfold kup
      by_cases h:1<k
      ·rw[if_pos h,if_pos (by omega)]
      ·rw[if_neg h,if_neg (by omega)]
     rw[e];exact HL.out
    rw[decide_eq_false he] at hc;generalize kup 1 k=KU at *;generalize (⟨(wl k).toArray⟩:ByteArray)=WK at *;clear he;go_wp2;go_roundw
    case rel=>exact⟨k+1,by omega,by omega,by go_num,HST.out⟩
    case measure=>simp[intOf];omega
  ·obtain rfl:k=5:=by omega
   have hku:kup 1 5=1:=by unfold kup;rw[if_pos (by omega)]
   rw[hku] at HL;clear hku;have xc0:_=some (Value.int .i64 (1:Int)):=HL.out.x.cell 0;go_wp2_with fail;refine(HN2.out _).mono ?_;rintro e wB ⟨rfl,hb⟩;have HLB:=zH (HL.out.step hb);clear hb HN2 HL;have xb0:_=some (Value.int .i64 1):=HLB.out.x.cell 0;have xb1:_=some (Value.string ⟨#[]⟩):=HLB.out.x.cell 1;have xg1:=HLB.out.x.frozen 1;have HL2:Hid (LR w (wB.setCell ⟨b,1,none⟩ (.string nm)) b (x7 1 nm 0 0 0 ⟨#[]⟩ (.slice none 0 0))):=HLB.out.set 1 (.string nm);have y0:(wB.setCell ⟨b,1,none⟩ (.string nm)).cell? ⟨b,0,none⟩=some (.int .i64 1):=HL2.out.x.cell 0;clear HLB xc0;go_wp2_with fail;generalize wB.setCell ⟨b,1,none⟩ (.string nm)=W2 at *;clear xb0 xb1 xg1;refine(HN3.out _).mono ?_;rintro e wC ⟨rfl,hb⟩;have HL3:=zH (HL2.out.step hb);have HV3:=zH (HVP.out _ HL3.out.B);clear hb HN3 HL2 y0 HVP;go_wp2_with fail;refine HV3.out.mono ?_;rintro e wD ⟨rfl,hb⟩;have HL4:=zH (HL3.out.step hb);have kv:=Blk.new wD 91 #[.int .i64 va,.int .i64 vb,.int .i64 vc];have hbv:zB wD (wD.alloc (.cells #[.int .i64 va,.int .i64 vb,.int .i64 vc] 91)):=zF.alloc zN _;have HL:=zH (HL4.out.step hbv);have HKV:=zH kv;clear hb hbv HL3 HL4 HV3 kv;have v0:=HKV.out.cell 0;have v1:=HKV.out.cell 1;have v2:=HKV.out.cell 2;have e0:(wD.alloc (.cells #[.int .i64 va,.int .i64 vb,.int .i64 vc] 91)).cell? ⟨b,0,none⟩=some (.int .i64 1):=HL.out.x.cell 0;have e2:(wD.alloc (.cells #[.int .i64 va,.int .i64 vb,.int .i64 vc] 91)).cell? ⟨b,2,none⟩=some (.int .i64 0):=HL.out.x.cell 2;have e3:(wD.alloc (.cells #[.int .i64 va,.int .i64 vb,.int .i64 vc] 91)).cell? ⟨b,3,none⟩=some (.int .i64 0):=HL.out.x.cell 3;have e4:(wD.alloc (.cells #[.int .i64 va,.int .i64 vb,.int .i64 vc] 91)).cell? ⟨b,4,none⟩=some (.int .i64 0):=HL.out.x.cell 4;have e2f:=HL.out.x.frozen 2;have e3f:=HL.out.x.frozen 3;have e4f:=HL.out.x.frozen 4;have hz5:=(((HL.out.set 2 (.int .i64 va)).set 3 (.int .i64 vb)).set 4 (.int .i64 vc));have HX5:Hid (LR w ((((wD.alloc (.cells #[.int .i64 va,.int .i64 vb,.int .i64 vc] 91)).setCell ⟨b,2,none⟩ (.int .i64 va)).setCell ⟨b,3,none⟩ (.int .i64 vb)).setCell ⟨b,4,none⟩ (.int .i64 vc)) b (x7 1 nm (va:Int) (vb:Int) (vc:Int) ⟨#[]⟩ (.slice none 0 0))):=hz5;have m0:((((wD.alloc (.cells #[.int .i64 va,.int .i64 vb,.int .i64 vc] 91)).setCell ⟨b,2,none⟩ (.int .i64 va)).setCell ⟨b,3,none⟩ (.int .i64 vb)).setCell ⟨b,4,none⟩ (.int .i64 vc)).cell? ⟨b,0,none⟩=some (.int .i64 1):=hz5.x.cell 0;clear hz5 HL;go_upto_region 17 with fail;obtain⟨W5,hW5⟩:∃W5,((((wD.alloc (.cells #[.int .i64 va,.int .i64 vb,.int .i64 vc] 91)).setCell ⟨b,2,none⟩ (.int .i64 va)).setCell ⟨b,3,none⟩ (.int .i64 vb)).setCell ⟨b,4,none⟩ (.int .i64 vc))=W5:=⟨_,rfl⟩;rw[hW5] at HX5 m0 ⊢;clear hW5 v0 v1 v2 e0 e2 e3 e4 e2f e3f e4f HKV;have HE:=HX5;clear HX5;have hfn:=HFN.out.below HE.out.B;have gf0:W5.cell? ⟨0,0,none⟩=some (.int .i64 0):=hfn.c0;have gf1:W5.cell? ⟨0,1,none⟩=some (.int .i64 (-1)):=hfn.c1;have hbne:=HE.out.ne;have hlw:=HFN.out.lt;have n1:¬0=w.heap.size:=by omega
   have n2:¬b=w.heap.size:=by omega
   have n3:¬b=w.heap.size+1:=by omega
   have n4:¬w.heap.size=0:=by omega
   clear hbne hlw;have zc0:_=some (Value.int .i64 0):=HE.out.z.cell 0;have zc1:_=some (Value.string ⟨#[]⟩):=HE.out.z.cell 1;have zc2:_=some (Value.int .i64 0):=HE.out.z.cell 2;have zc3:_=some (Value.int .i64 0):=HE.out.z.cell 3;have zc4:_=some (Value.int .i64 0):=HE.out.z.cell 4;have zc5:_=some (Value.string ⟨#[]⟩):=HE.out.z.cell 5;have zc6:_=some (Value.slice none 0 0):=HE.out.z.cell 6;have zf0:=HE.out.z.frozen 0;have zf1:=HE.out.z.frozen 1;have zf2:=HE.out.z.frozen 2;have zf3:=HE.out.z.frozen 3;have zf4:=HE.out.z.frozen 4;have zf5:=HE.out.z.frozen 5;have zf6:=HE.out.z.frozen 6;have fc0:_=some (Value.int .i64 0):=HE.out.f.cell 0;have fc1:_=some (Value.int .i64 0):=HE.out.f.cell 1;have ff0:=HE.out.f.frozen 0;have ff1:=HE.out.f.frozen 1;have xx0:_=some (Value.int .i64 1):=HE.out.x.cell 0;have xx1:_=some (Value.string nm):=HE.out.x.cell 1;have xx2:_=some (Value.int .i64 va):=HE.out.x.cell 2;have xx3:_=some (Value.int .i64 vb):=HE.out.x.cell 3;have xx4:_=some (Value.int .i64 vc):=HE.out.x.cell 4;have xx5:_=some (Value.string ⟨#[]⟩):=HE.out.x.cell 5;have xx6:_=some (Value.slice none 0 0):=HE.out.x.cell 6;obtain⟨Z,hZ,qz,qf,qB,qN⟩:=HE.out.done (.int .i64 1) (.string nm) (.int .i64 va) (.int .i64 vb) (.int .i64 vc) (.string ⟨#[]⟩) (.slice none 0 0) (.int .i64 0) (.int .i64 (-1));have HZ:=zH hZ;have HQZ:=zH qz;have HQF:=zH qf;have HQB:=zH qB;have HQN:=zH qN;clear hZ qz qf qB qN hfn;go_wp2_with fail;go_big_region;clear gf0 gf1 n1 n2 n3 n4;clear zc0 zc1 zc2 zc3 zc4 zc5 zc6 zf0 zf1 zf2 zf3 zf4 zf5 zf6 fc0 fc1 ff0 ff1;clear xx0 xx1 xx2 xx3 xx4 xx5 xx6;rw[HZ.out];go_wp2;have r0:=HQZ.out.cell 0;have r1:=HQZ.out.cell 1;have r2:=HQZ.out.cell 2;have r3:=HQZ.out.cell 3;have r4:=HQZ.out.cell 4;have r5:=HQZ.out.cell 5;have r6:=HQZ.out.cell 6;have s0:=HQF.out.cell 0;have s1:=HQF.out.cell 1;refine bodyPost_ret (v:=.tuple #[.agg #[.int .i64 1,.string nm,.int .i64 va,.int .i64 vb,.int .i64 vc,.string ⟨#[]⟩,(.slice none 0 0)],.agg #[.int .i64 0,.int .i64 (-1)]]) (by simp[results,Tryz.results56,go_sem,r0,r1,r2,r3,r4,r5,r6,s0,s1]) rfl ?_;refine⟨⟨1,nm,(va:Int),(vb:Int),(vc:Int),⟨#[]⟩,[]⟩,none,0,0,-1,rfl,xj _,xL,fun g hg=>by simp[Value.ownBlock] at hg,HQB.out.drew,rfl,rfl,rfl⟩
end
section
open Go.RowKit Go.Shelf Sv
theorem ziv{s:ByteArray}{k:Int}{i:Nat}(h:xO s=.error (k,i)):k≠0:=by
 unfold xO at h;have pe:∀{t:ByteArray} {p:Nat} {k:Int} {i:Nat},yw t p=.error (k,i)->k≠0:=by
  intro t p k i h;unfold yw at h;have we:∀{l:List (Nat × ByteArray)} {st:List zc × Nat} {k:Int} {i:Nat},qj l st=.error (k,i)->k≠0:=by
   intro l
   induction l with
   |nil=>intro st k i h;cases h
   |cons x l ih =>
    intro st k i h;unfold qj at h;split at h
    ·exact ih h
    ·split at h
     ·rename_i hw;cases h;exact zag hw
     ·exact ih h
  split at h
  ·rename_i hw;cases h;exact we hw
  ·split at h
   ·cases h;decide
   ·cases h
 have go:∀{l:List (Nat × ByteArray)} {acc:List zc} {k:Int} {i:Nat},qx l acc=.error (k,i)->k≠0:=by
  intro l
  induction l with
  |nil=>intro acc k i h;cases h
  |cons x l ih =>
   intro acc k i h;unfold qx at h;split at h
   ·rename_i hp;cases h;exact pe hp
   ·exact ih h
 exact go h
end
end Go.Proofs.YtiihalknffbjpaaGreatDoor
