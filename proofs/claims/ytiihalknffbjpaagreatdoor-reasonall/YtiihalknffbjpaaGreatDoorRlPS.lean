/- Inside the reference's CatalogParse: lines and their places, in rows that grow. -/
import Derived.Test.YtiihalknffbjpaaGreatDoorRlLineD
import Derived.Test.YtiihalknffbjpaaGreatDoorRlAmong
set_option maxHeartbeats 4000000
set_option maxRecDepth 100000
namespace Go.Proofs.YtiihalknffbjpaaGreatDoor
section
open Go.RowKit Go.Shelf Sv
theorem JW(s:ByteArray)(w:World)(hs:s.size<=100000)(hw:Lb w)(hF:yf w)(ad:Addr)(cap:Nat)(hK:yK w ad cap)(K:Nat)(hK23:K=2\/K=3)(hk:zw (za s 32).1=K)(va vb vc:Nat)(hver:zz (za (za (za s 32).2 32).2 32).1=.ok [va,vb,vc])(q:Int)(o:Option Nat)(hrg:xe (za (za (za (za s 32).2 32).2 32).2 32).2=.error (q,o)):zC 56 #[.string s] w (ZF w (.error (q,o))):=by
 have hK1:((K:Int)==1)=false:=by rw[beq_eq_false_iff_ne];omega
 have hK4:((K:Int)==4)=false:=by rw[beq_eq_false_iff_ne];omega
 have hK0:((K:Int)==0)=false:=by rw[beq_eq_false_iff_ne];omega
 have k0:=(Blk.new w 101 z7).alloc (.cells #[.int .i64 0,.int .i64 0] 96);have k1:=Blk.new (w.alloc (.cells z7 101)) 96 #[.int .i64 0,.int .i64 0];rw[World.size_alloc] at k1;have hB0:zB w ((w.alloc (.cells z7 101)).alloc (.cells #[.int .i64 0,.int .i64 0] 96)):=((Below.refl _ w).alloc zN _).alloc (by simp) _;have HK0:=zH k0;have HK1:=zH k1;have HB0:=zH hB0;have HN1:=zH (fun W=>yc s W hs);have hz2:=(qe s 32).2;have HLW:=zH hw;have HFN:=zH hF;have HKD:=zH hK;obtain⟨w1,hw1⟩:∃w1,(za s 32).1=w1:=⟨_,rfl⟩;obtain⟨s2,hs2⟩:∃s2,(za s 32).2=s2:=⟨_,rfl⟩;rw[hw1] at hk HN1;rw[hs2] at hz2 HN1;have hz2':s2.size<=100000:=by omega
 have HKX:Hid (∀k,1<=k->k<=4->((⟨(wl k).toArray⟩:ByteArray).toList==w1.toList)=decide (zw w1=k)):=fun k h1 h4=>ZQ h1 h4;rw[hk] at HKX;have HN2:=zH (fun W=>yc s2 W hz2');have hz3:=(qe s2 32).2;obtain⟨nm,hnm⟩:∃nm,(za s2 32).1=nm:=⟨_,rfl⟩;obtain⟨s3,hs3⟩:∃s3,(za s2 32).2=s3:=⟨_,rfl⟩;rw[hnm] at HN2;rw[hs3] at hz3 HN2;have hz3':s3.size<=100000:=by omega
 have HN3:=zH (fun W=>yc s3 W hz3');have hz4:=qe s3 32;obtain⟨vw,hvw⟩:∃vw,(za s3 32).1=vw:=⟨_,rfl⟩;obtain⟨s4,hs4⟩:∃s4,(za s3 32).2=s4:=⟨_,rfl⟩;rw[hvw,hs4] at hz4 HN3;have hz4':s4.size<=100000:=by omega
 have HVP0:∀W,zB w W->zR 131 #[.string vw] W (ZZ (zz vw)):=fun W hb=>yF yA vw W (by omega) (hw.below hb);rw[hs2,hs3,hvw] at hver;rw[hver] at HVP0;have HVP:Hid (∀W,zB w W->zR 131 #[.string vw] W (.tuple #[.agg #[.int .i64 va,.int .i64 vb,.int .i64 vc],.int .i64 0])):=HVP0;clear HVP0 hver;have HN4:=zH (fun W=>yc s4 W hz4');have hz5:=qe s4 32;obtain⟨ot,hot⟩:∃ot,(za s4 32).1=ot:=⟨_,rfl⟩;obtain⟨s5,hs5⟩:∃s5,(za s4 32).2=s5:=⟨_,rfl⟩;rw[hot,hs5] at hz5 HN4;have hz5':s5.size<=100000:=by omega
 rw[hs2,hs3,hs4,hs5] at hrg;have hqe:=Ka hrg;obtain⟨pp,hpp⟩:∃pp,Qx o=pp:=⟨_,rfl⟩;have HRG:Hid (∀W,zB w W->zC 47 #[.string s5] W fun e w'=>∃(l:List zc) (a:Option Addr) (c:Nat) (k p:Int),e=.returned (.tuple #[.slice a (tp l).length c,.agg #[.int .i64 k,.int .i64 p]])/\zr w' (.slice a (tp l).length c) (tp l)/\Rg l/\(∀g,(Value.slice a (tp l).length c).ownBlock=some g->W.heap.size<=g)/\zB W w'/\l=[]/\k=q/\p=pp):=fun W hb=>by have:=Xo s5 W (by omega) (hw.below hb) (hF.below hb);rw[hrg] at this;rw[<-hpp];exact this
 have HPP:=zH hpp;clear hrg hpp;clear hz3 hz4 hz5 hnm hs3 hvw hs4 hot hs5;clear k0 k1 hB0 hw hF hK hz2 hs;go_enter Tryz.func56,Tryz.ntmps56;go_wp2_with fail;generalize (w.alloc (.cells z7 101)).alloc (.cells #[.int .i64 0,.int .i64 0] 96)=W0 at *;refine(HN1.out _).mono ?_;rintro e wA ⟨rfl,hbA⟩;have hx:=Blk.new wA 101 z7;have hA:zB wA (wA.alloc (.cells z7 101)):=zF.alloc zN _;have hA0:zB W0 (wA.alloc (.cells z7 101)):=zT hbA hA;have hLR:LR w (wA.alloc (.cells z7 101)) wA.heap.size z7:=⟨HK0.out.below hA0 HK0.out.lt,HK1.out.below hA0 HK1.out.lt,hx,Nat.lt_of_lt_of_le HK1.out.lt hbA.size,zT HB0.out hA0⟩;have HLR:=zH hLR;clear hbA hx hA hA0 hLR HN1 HK0 HK1 HB0;go_wp2_with fail;generalize wA.alloc (.cells z7 101)=W1 at *;obtain⟨b,hb⟩:∃b,wA.heap.size=b:=⟨_,rfl⟩;rw[hb] at HLR ⊢;clear hb;go_loopw [7] (fun kV wr=>∃k:Nat,1<=k/\k<=5/\kV=.int .i64 k/\LR w wr b (x7 (kup K k) ⟨#[]⟩ 0 0 0 ⟨#[]⟩ (.slice none 0 0))) (fun kV _=>5-(intOf kV).toNat)
 case atStart=>exact⟨1,by omega,by omega,rfl,by rw[show kup K 1=0 by unfold kup;split<;>omega];exact HLR.out⟩
 case round =>
  clear HLR;obtain⟨k,hk1,hk5,rfl,hLR⟩:=hrel;have HL:=zH hLR;clear hLR
  by_cases hlt:k<=4
  ·have hkd:=HKD.out.below HL.out.B;have g0:=hkd.c;have g1:=hkd.s k (by omega);have hc:=HKX.out k hk1 hlt;have x0:_=some (Value.int .i64 ((kup K k:Nat):Int)):=HL.out.x.cell 0;have xf:=HL.out.x.frozen 0;clear hkd
   by_cases he:K=k
   ·have hst:=HL.out.set 0 (.int .i64 k);have HST:Hid (LR w (wr.setCell ⟨b,0,none⟩ (.int .i64 k)) b (x7 (kup K (k+1)) ⟨#[]⟩ 0 0 0 ⟨#[]⟩ (.slice none 0 0))):=by
     have e:kup K (k+1)=k:=by unfold kup;rw[if_pos (by omega)];exact he
     rw[e];exact hst
    rw[decide_eq_true he] at hc;generalize kup K k=KU at *;generalize (⟨(wl k).toArray⟩:ByteArray)=WK at *;clear hst he;go_wp2;go_roundw
    case rel=>exact⟨k+1,by omega,by omega,by go_num,HST.out⟩
    case measure=>simp[intOf];omega
   ·have HST:Hid (LR w wr b (x7 (kup K (k+1)) ⟨#[]⟩ 0 0 0 ⟨#[]⟩ (.slice none 0 0))):=by
     have e:kup K (k+1)=kup K k:=by
      unfold kup
      by_cases h:K<k
      ·rw[if_pos h,if_pos (by omega)]
      ·rw[if_neg h,if_neg (by omega)]
     rw[e];exact HL.out
    rw[decide_eq_false he] at hc;generalize kup K k=KU at *;generalize (⟨(wl k).toArray⟩:ByteArray)=WK at *;clear he;go_wp2;go_roundw
    case rel=>exact⟨k+1,by omega,by omega,by go_num,HST.out⟩
    case measure=>simp[intOf];omega
  ·obtain rfl:k=5:=by omega
   have hku:kup K 5=K:=by unfold kup;rw[if_pos (by omega)]
   rw[hku] at HL;clear hku;have xc0:_=some (Value.int .i64 K):=HL.out.x.cell 0;go_wp2_with fail;refine(HN2.out _).mono ?_;rintro e wB ⟨rfl,hb⟩;have HLB:=zH (HL.out.step hb);clear hb HN2 HL;have xb0:_=some (Value.int .i64 K):=HLB.out.x.cell 0;have xb1:_=some (Value.string ⟨#[]⟩):=HLB.out.x.cell 1;have xg1:=HLB.out.x.frozen 1;have HL2:Hid (LR w (wB.setCell ⟨b,1,none⟩ (.string nm)) b (x7 K nm 0 0 0 ⟨#[]⟩ (.slice none 0 0))):=HLB.out.set 1 (.string nm);have y0:(wB.setCell ⟨b,1,none⟩ (.string nm)).cell? ⟨b,0,none⟩=some (.int .i64 K):=HL2.out.x.cell 0;clear HLB xc0;go_wp2_with fail;generalize wB.setCell ⟨b,1,none⟩ (.string nm)=W2 at *;clear xb0 xb1 xg1;refine(HN3.out _).mono ?_;rintro e wC ⟨rfl,hb⟩;have HL3:=zH (HL2.out.step hb);have HV3:=zH (HVP.out _ HL3.out.B);clear hb HN3 HL2 y0 HVP;go_wp2_with fail;refine HV3.out.mono ?_;rintro e wD ⟨rfl,hb⟩;have HL4:=zH (HL3.out.step hb);have kv:=Blk.new wD 91 #[.int .i64 va,.int .i64 vb,.int .i64 vc];have hbv:zB wD (wD.alloc (.cells #[.int .i64 va,.int .i64 vb,.int .i64 vc] 91)):=zF.alloc zN _;have HL:=zH (HL4.out.step hbv);have HKV:=zH kv;clear hb hbv HL3 HL4 HV3 kv;have v0:=HKV.out.cell 0;have v1:=HKV.out.cell 1;have v2:=HKV.out.cell 2;have e0:(wD.alloc (.cells #[.int .i64 va,.int .i64 vb,.int .i64 vc] 91)).cell? ⟨b,0,none⟩=some (.int .i64 K):=HL.out.x.cell 0;have e2:(wD.alloc (.cells #[.int .i64 va,.int .i64 vb,.int .i64 vc] 91)).cell? ⟨b,2,none⟩=some (.int .i64 0):=HL.out.x.cell 2;have e3:(wD.alloc (.cells #[.int .i64 va,.int .i64 vb,.int .i64 vc] 91)).cell? ⟨b,3,none⟩=some (.int .i64 0):=HL.out.x.cell 3;have e4:(wD.alloc (.cells #[.int .i64 va,.int .i64 vb,.int .i64 vc] 91)).cell? ⟨b,4,none⟩=some (.int .i64 0):=HL.out.x.cell 4;have e2f:=HL.out.x.frozen 2;have e3f:=HL.out.x.frozen 3;have e4f:=HL.out.x.frozen 4;have hz5:=(((HL.out.set 2 (.int .i64 va)).set 3 (.int .i64 vb)).set 4 (.int .i64 vc));have HX5:Hid (LR w ((((wD.alloc (.cells #[.int .i64 va,.int .i64 vb,.int .i64 vc] 91)).setCell ⟨b,2,none⟩ (.int .i64 va)).setCell ⟨b,3,none⟩ (.int .i64 vb)).setCell ⟨b,4,none⟩ (.int .i64 vc)) b (x7 K nm (va:Int) (vb:Int) (vc:Int) ⟨#[]⟩ (.slice none 0 0))):=hz5;have m0:((((wD.alloc (.cells #[.int .i64 va,.int .i64 vb,.int .i64 vc] 91)).setCell ⟨b,2,none⟩ (.int .i64 va)).setCell ⟨b,3,none⟩ (.int .i64 vb)).setCell ⟨b,4,none⟩ (.int .i64 vc)).cell? ⟨b,0,none⟩=some (.int .i64 K):=hz5.x.cell 0;clear hz5 HL;go_upto_region 17 with fail;obtain⟨W5,hW5⟩:∃W5,((((wD.alloc (.cells #[.int .i64 va,.int .i64 vb,.int .i64 vc] 91)).setCell ⟨b,2,none⟩ (.int .i64 va)).setCell ⟨b,3,none⟩ (.int .i64 vb)).setCell ⟨b,4,none⟩ (.int .i64 vc))=W5:=⟨_,rfl⟩;rw[hW5] at HX5 m0 ⊢;clear hW5 v0 v1 v2 e0 e2 e3 e4 e2f e3f e4f HKV;go_wp2_with fail;refine(HN4.out _).mono ?_;rintro e wO ⟨rfl,hb⟩;have HLO:=zH (HX5.out.step hb);clear hb HN4 HX5 m0;have o0:_=some (Value.int .i64 K):=HLO.out.x.cell 0;have o5:_=some (Value.string ⟨#[]⟩):=HLO.out.x.cell 5;have o5f:=HLO.out.x.frozen 5;have HX:Hid (LR w (wO.setCell ⟨b,5,none⟩ (.string ot)) b (x7 K nm (va:Int) (vb:Int) (vc:Int) ot (.slice none 0 0))):=HLO.out.set 5 (.string ot);clear HLO;go_upto_region 23 with fail;generalize wO.setCell ⟨b,5,none⟩ (.string ot)=W8 at *;clear o0 o5 o5f;go_wp2_with fail;refine(HRG.out _ HX.out.B).mono ?_;rintro e wG ⟨l',ra,rc,k',p',rfl,nl,gl,fl,hb,hm1,hm2,hm3⟩;have hbq:zB wG (wG.alloc (.cells #[.int .i64 k',.int .i64 p'] 96)):=zF.alloc zN _;have HG:=zH ((HX.out.step hb).step hbq);have HNG:=zH (nl.below hbq zN);have HQ:=zH (Blk.new wG 96 #[.int .i64 k',.int .i64 p']);have hbx:=HX.out.x.lt;have hbne:=HX.out.ne;have hgs:=hb.size;have HFL:Hid (∀g,(Value.slice ra (tp l').length rc).ownBlock=some g->b<g):=fun g hg=>by have:=fl g hg;omega
   have q0:(wG.alloc (.cells #[.int .i64 k',.int .i64 p'] 96)).cell? ⟨wG.heap.size,0,none⟩=some (.int .i64 k'):=HQ.out.cell 0;have q1:(wG.alloc (.cells #[.int .i64 k',.int .i64 p'] 96)).cell? ⟨wG.heap.size,1,none⟩=some (.int .i64 p'):=HQ.out.cell 1;have n5:¬wG.heap.size=w.heap.size:=by omega
   have n6:¬wG.heap.size=w.heap.size+1:=by omega
   have n7:¬wG.heap.size=b:=by omega
   have HBNE:=zH hbne;clear hb hbq nl fl hbx hbne hgs HX HRG HQ;subst hm1;subst hm2;subst hm3;have hk':(k' != 0)=true:=by simpa using hqe
   clear hqe;have zc0:(wG.alloc (.cells #[.int .i64 k',.int .i64 p'] 96)).cell? ⟨w.heap.size,0,none⟩=some (.int .i64 0):=HG.out.z.cell 0;have zc1:(wG.alloc (.cells #[.int .i64 k',.int .i64 p'] 96)).cell? ⟨w.heap.size,1,none⟩=some (.string ⟨#[]⟩):=HG.out.z.cell 1;have zc2:(wG.alloc (.cells #[.int .i64 k',.int .i64 p'] 96)).cell? ⟨w.heap.size,2,none⟩=some (.int .i64 0):=HG.out.z.cell 2;have zc3:(wG.alloc (.cells #[.int .i64 k',.int .i64 p'] 96)).cell? ⟨w.heap.size,3,none⟩=some (.int .i64 0):=HG.out.z.cell 3;have zc4:(wG.alloc (.cells #[.int .i64 k',.int .i64 p'] 96)).cell? ⟨w.heap.size,4,none⟩=some (.int .i64 0):=HG.out.z.cell 4;have zc5:(wG.alloc (.cells #[.int .i64 k',.int .i64 p'] 96)).cell? ⟨w.heap.size,5,none⟩=some (.string ⟨#[]⟩):=HG.out.z.cell 5;have zc6:(wG.alloc (.cells #[.int .i64 k',.int .i64 p'] 96)).cell? ⟨w.heap.size,6,none⟩=some (.slice none 0 0):=HG.out.z.cell 6;have zf0:=HG.out.z.frozen 0;have zf1:=HG.out.z.frozen 1;have zf2:=HG.out.z.frozen 2;have zf3:=HG.out.z.frozen 3;have zf4:=HG.out.z.frozen 4;have zf5:=HG.out.z.frozen 5;have zf6:=HG.out.z.frozen 6;have fc0:(wG.alloc (.cells #[.int .i64 k',.int .i64 p'] 96)).cell? ⟨w.heap.size+1,0,none⟩=some (.int .i64 0):=HG.out.f.cell 0;have fc1:(wG.alloc (.cells #[.int .i64 k',.int .i64 p'] 96)).cell? ⟨w.heap.size+1,1,none⟩=some (.int .i64 0):=HG.out.f.cell 1;have ff0:=HG.out.f.frozen 0;have ff1:=HG.out.f.frozen 1;obtain⟨Z,hZ,qz,qf,qB,-⟩:=HG.out.done (.int .i64 0) (.string ⟨#[]⟩) (.int .i64 0) (.int .i64 0) (.int .i64 0) (.string ⟨#[]⟩) (.slice none 0 0) (.int .i64 k') (.int .i64 p');have HZ:=zH hZ;have HQZ:=zH qz;have HQF:=zH qf;have HQB:=zH qB;clear hZ qz qf qB HNG HG;go_upto_region 24 with fail;generalize wG.alloc (.cells #[.int .i64 k',.int .i64 p'] 96)=W6 at *;go_wp2_with fail;go_big_region;clear q0 q1 n5 n6 n7;clear zc0 zc1 zc2 zc3 zc4 zc5 zc6 zf0 zf1 zf2 zf3 zf4 zf5 zf6 fc0 fc1 ff0 ff1;rw[HZ.out];go_wp2;have r0:=HQZ.out.cell 0;have r1:=HQZ.out.cell 1;have r2:=HQZ.out.cell 2;have r3:=HQZ.out.cell 3;have r4:=HQZ.out.cell 4;have r5:=HQZ.out.cell 5;have r6:=HQZ.out.cell 6;have s0:=HQF.out.cell 0;have s1:=HQF.out.cell 1;refine bodyPost_ret (v:=.tuple #[.agg z7,.agg #[.int .i64 k',.int .i64 p']]) (by simp[results,Tryz.results56,go_sem,r0,r1,r2,r3,r4,r5,r6,s0,s1]) rfl ?_;exact⟨QD,none,0,k',p',rfl,xj _,xL,fun g hg=>by simp[Value.ownBlock] at hg,HQB.out.drew,rfl,rfl,HPP.out.symm⟩
theorem zac(s:ByteArray)(w:World)(hs:s.size<=100000)(hw:Lb w)(hF:yf w)(ad:Addr)(cap:Nat)(hK:yK w ad cap)(K:Nat)(hK23:K=2\/K=3)(hk:zw (za s 32).1=K)(va vb vc:Nat)(hver:zz (za (za (za s 32).2 32).2 32).1=.ok [va,vb,vc])(lo:List zc)(hrg:xe (za (za (za (za s 32).2 32).2 32).2 32).2=.ok lo):zC 56 #[.string s] w (ZF w (.ok ⟨K,(za (za s 32).2 32).1,(va:Int),(vb:Int),(vc:Int),(za (za (za (za s 32).2 32).2 32).2 32).1,lo⟩)):=by
 have hK1:((K:Int)==1)=false:=by rw[beq_eq_false_iff_ne];omega
 have hK4:((K:Int)==4)=false:=by rw[beq_eq_false_iff_ne];omega
 have hK0:((K:Int)==0)=false:=by rw[beq_eq_false_iff_ne];omega
 have k0:=(Blk.new w 101 z7).alloc (.cells #[.int .i64 0,.int .i64 0] 96);have k1:=Blk.new (w.alloc (.cells z7 101)) 96 #[.int .i64 0,.int .i64 0];rw[World.size_alloc] at k1;have hB0:zB w ((w.alloc (.cells z7 101)).alloc (.cells #[.int .i64 0,.int .i64 0] 96)):=((Below.refl _ w).alloc zN _).alloc (by simp) _;have HK0:=zH k0;have HK1:=zH k1;have HB0:=zH hB0;have HN1:=zH (fun W=>yc s W hs);have hz2:=(qe s 32).2;have HLW:=zH hw;have HFN:=zH hF;have HKD:=zH hK;obtain⟨w1,hw1⟩:∃w1,(za s 32).1=w1:=⟨_,rfl⟩;obtain⟨s2,hs2⟩:∃s2,(za s 32).2=s2:=⟨_,rfl⟩;rw[hw1] at hk HN1;rw[hs2] at hz2 HN1;have hz2':s2.size<=100000:=by omega
 have HKX:Hid (∀k,1<=k->k<=4->((⟨(wl k).toArray⟩:ByteArray).toList==w1.toList)=decide (zw w1=k)):=fun k h1 h4=>ZQ h1 h4;rw[hk] at HKX;have HN2:=zH (fun W=>yc s2 W hz2');have hz3:=(qe s2 32).2;obtain⟨nm,hnm⟩:∃nm,(za s2 32).1=nm:=⟨_,rfl⟩;obtain⟨s3,hs3⟩:∃s3,(za s2 32).2=s3:=⟨_,rfl⟩;rw[hnm] at HN2;rw[hs3] at hz3 HN2;have hz3':s3.size<=100000:=by omega
 have HN3:=zH (fun W=>yc s3 W hz3');have hz4:=qe s3 32;obtain⟨vw,hvw⟩:∃vw,(za s3 32).1=vw:=⟨_,rfl⟩;obtain⟨s4,hs4⟩:∃s4,(za s3 32).2=s4:=⟨_,rfl⟩;rw[hvw,hs4] at hz4 HN3;have hz4':s4.size<=100000:=by omega
 have HVP0:∀W,zB w W->zR 131 #[.string vw] W (ZZ (zz vw)):=fun W hb=>yF yA vw W (by omega) (hw.below hb);rw[hs2,hs3,hvw] at hver;rw[hver] at HVP0;have HVP:Hid (∀W,zB w W->zR 131 #[.string vw] W (.tuple #[.agg #[.int .i64 va,.int .i64 vb,.int .i64 vc],.int .i64 0])):=HVP0;clear HVP0 hver;have HN4:=zH (fun W=>yc s4 W hz4');have hz5:=qe s4 32;obtain⟨ot,hot⟩:∃ot,(za s4 32).1=ot:=⟨_,rfl⟩;obtain⟨s5,hs5⟩:∃s5,(za s4 32).2=s5:=⟨_,rfl⟩;rw[hot,hs5] at hz5 HN4;have hz5':s5.size<=100000:=by omega
 rw[hs2,hs3,hs4,hs5] at hrg;have HRG:Hid (∀W,zB w W->zC 47 #[.string s5] W fun e w'=>∃(l:List zc) (a:Option Addr) (c:Nat) (k p:Int),e=.returned (.tuple #[.slice a (tp l).length c,.agg #[.int .i64 k,.int .i64 p]])/\zr w' (.slice a (tp l).length c) (tp l)/\Rg l/\(∀g,(Value.slice a (tp l).length c).ownBlock=some g->W.heap.size<=g)/\zB W w'/\l=lo/\k=0/\p=-1):=fun W hb=>by have:=Xo s5 W (by omega) (hw.below hb) (hF.below hb);rw[hrg] at this;exact this
 clear hrg;rw[hs2,hnm,hs3,hs4,hot];clear hz3 hz4 hz5 hnm hs3 hvw hs4 hot hs5;clear k0 k1 hB0 hw hF hK hz2 hs;go_enter Tryz.func56,Tryz.ntmps56;go_wp2_with fail;generalize (w.alloc (.cells z7 101)).alloc (.cells #[.int .i64 0,.int .i64 0] 96)=W0 at *;refine(HN1.out _).mono ?_;rintro e wA ⟨rfl,hbA⟩;have hx:=Blk.new wA 101 z7;have hA:zB wA (wA.alloc (.cells z7 101)):=zF.alloc zN _;have hA0:zB W0 (wA.alloc (.cells z7 101)):=zT hbA hA;have hLR:LR w (wA.alloc (.cells z7 101)) wA.heap.size z7:=⟨HK0.out.below hA0 HK0.out.lt,HK1.out.below hA0 HK1.out.lt,hx,Nat.lt_of_lt_of_le HK1.out.lt hbA.size,zT HB0.out hA0⟩;have HLR:=zH hLR;clear hbA hx hA hA0 hLR HN1 HK0 HK1 HB0;go_wp2_with fail;generalize wA.alloc (.cells z7 101)=W1 at *;obtain⟨b,hb⟩:∃b,wA.heap.size=b:=⟨_,rfl⟩;rw[hb] at HLR ⊢;clear hb;go_loopw [7] (fun kV wr=>∃k:Nat,1<=k/\k<=5/\kV=.int .i64 k/\LR w wr b (x7 (kup K k) ⟨#[]⟩ 0 0 0 ⟨#[]⟩ (.slice none 0 0))) (fun kV _=>5-(intOf kV).toNat)
 case atStart=>exact⟨1,by omega,by omega,rfl,by rw[show kup K 1=0 by unfold kup;split<;>omega];exact HLR.out⟩
 case round =>
  clear HLR;obtain⟨k,hk1,hk5,rfl,hLR⟩:=hrel;have HL:=zH hLR;clear hLR
  by_cases hlt:k<=4
  ·have hkd:=HKD.out.below HL.out.B;have g0:=hkd.c;have g1:=hkd.s k (by omega);have hc:=HKX.out k hk1 hlt;have x0:_=some (Value.int .i64 ((kup K k:Nat):Int)):=HL.out.x.cell 0;have xf:=HL.out.x.frozen 0;clear hkd
   by_cases he:K=k
   ·have hst:=HL.out.set 0 (.int .i64 k);have HST:Hid (LR w (wr.setCell ⟨b,0,none⟩ (.int .i64 k)) b (x7 (kup K (k+1)) ⟨#[]⟩ 0 0 0 ⟨#[]⟩ (.slice none 0 0))):=by
     have e:kup K (k+1)=k:=by unfold kup;rw[if_pos (by omega)];exact he
     rw[e];exact hst
    rw[decide_eq_true he] at hc;generalize kup K k=KU at *;generalize (⟨(wl k).toArray⟩:ByteArray)=WK at *;clear hst he;go_wp2;go_roundw
    case rel=>exact⟨k+1,by omega,by omega,by go_num,HST.out⟩
    case measure=>simp[intOf];omega
   ·have HST:Hid (LR w wr b (x7 (kup K (k+1)) ⟨#[]⟩ 0 0 0 ⟨#[]⟩ (.slice none 0 0))):=by
     have e:kup K (k+1)=kup K k:=by
      unfold kup
      by_cases h:K<k
      ·rw[if_pos h,if_pos (by omega)]
      ·rw[if_neg h,if_neg (by omega)]
     rw[e];exact HL.out
    rw[decide_eq_false he] at hc;generalize kup K k=KU at *;generalize (⟨(wl k).toArray⟩:ByteArray)=WK at *;clear he;go_wp2;go_roundw
    case rel=>exact⟨k+1,by omega,by omega,by go_num,HST.out⟩
    case measure=>simp[intOf];omega
  ·obtain rfl:k=5:=by omega
   have hku:kup K 5=K:=by unfold kup;rw[if_pos (by omega)]
   rw[hku] at HL;clear hku;have xc0:_=some (Value.int .i64 K):=HL.out.x.cell 0;go_wp2_with fail;refine(HN2.out _).mono ?_;rintro e wB ⟨rfl,hb⟩;have HLB:=zH (HL.out.step hb);clear hb HN2 HL;have xb0:_=some (Value.int .i64 K):=HLB.out.x.cell 0;have xb1:_=some (Value.string ⟨#[]⟩):=HLB.out.x.cell 1;have xg1:=HLB.out.x.frozen 1;have HL2:Hid (LR w (wB.setCell ⟨b,1,none⟩ (.string nm)) b (x7 K nm 0 0 0 ⟨#[]⟩ (.slice none 0 0))):=HLB.out.set 1 (.string nm);have y0:(wB.setCell ⟨b,1,none⟩ (.string nm)).cell? ⟨b,0,none⟩=some (.int .i64 K):=HL2.out.x.cell 0;clear HLB xc0;go_wp2_with fail;generalize wB.setCell ⟨b,1,none⟩ (.string nm)=W2 at *;clear xb0 xb1 xg1;refine(HN3.out _).mono ?_;rintro e wC ⟨rfl,hb⟩;have HL3:=zH (HL2.out.step hb);have HV3:=zH (HVP.out _ HL3.out.B);clear hb HN3 HL2 y0 HVP;go_wp2_with fail;refine HV3.out.mono ?_;rintro e wD ⟨rfl,hb⟩;have HL4:=zH (HL3.out.step hb);have kv:=Blk.new wD 91 #[.int .i64 va,.int .i64 vb,.int .i64 vc];have hbv:zB wD (wD.alloc (.cells #[.int .i64 va,.int .i64 vb,.int .i64 vc] 91)):=zF.alloc zN _;have HL:=zH (HL4.out.step hbv);have HKV:=zH kv;clear hb hbv HL3 HL4 HV3 kv;have v0:=HKV.out.cell 0;have v1:=HKV.out.cell 1;have v2:=HKV.out.cell 2;have e0:(wD.alloc (.cells #[.int .i64 va,.int .i64 vb,.int .i64 vc] 91)).cell? ⟨b,0,none⟩=some (.int .i64 K):=HL.out.x.cell 0;have e2:(wD.alloc (.cells #[.int .i64 va,.int .i64 vb,.int .i64 vc] 91)).cell? ⟨b,2,none⟩=some (.int .i64 0):=HL.out.x.cell 2;have e3:(wD.alloc (.cells #[.int .i64 va,.int .i64 vb,.int .i64 vc] 91)).cell? ⟨b,3,none⟩=some (.int .i64 0):=HL.out.x.cell 3;have e4:(wD.alloc (.cells #[.int .i64 va,.int .i64 vb,.int .i64 vc] 91)).cell? ⟨b,4,none⟩=some (.int .i64 0):=HL.out.x.cell 4;have e2f:=HL.out.x.frozen 2;have e3f:=HL.out.x.frozen 3;have e4f:=HL.out.x.frozen 4;have hz5:=(((HL.out.set 2 (.int .i64 va)).set 3 (.int .i64 vb)).set 4 (.int .i64 vc));have HX5:Hid (LR w ((((wD.alloc (.cells #[.int .i64 va,.int .i64 vb,.int .i64 vc] 91)).setCell ⟨b,2,none⟩ (.int .i64 va)).setCell ⟨b,3,none⟩ (.int .i64 vb)).setCell ⟨b,4,none⟩ (.int .i64 vc)) b (x7 K nm (va:Int) (vb:Int) (vc:Int) ⟨#[]⟩ (.slice none 0 0))):=hz5;have m0:((((wD.alloc (.cells #[.int .i64 va,.int .i64 vb,.int .i64 vc] 91)).setCell ⟨b,2,none⟩ (.int .i64 va)).setCell ⟨b,3,none⟩ (.int .i64 vb)).setCell ⟨b,4,none⟩ (.int .i64 vc)).cell? ⟨b,0,none⟩=some (.int .i64 K):=hz5.x.cell 0;clear hz5 HL;go_upto_region 17 with fail;obtain⟨W5,hW5⟩:∃W5,((((wD.alloc (.cells #[.int .i64 va,.int .i64 vb,.int .i64 vc] 91)).setCell ⟨b,2,none⟩ (.int .i64 va)).setCell ⟨b,3,none⟩ (.int .i64 vb)).setCell ⟨b,4,none⟩ (.int .i64 vc))=W5:=⟨_,rfl⟩;rw[hW5] at HX5 m0 ⊢;clear hW5 v0 v1 v2 e0 e2 e3 e4 e2f e3f e4f HKV;go_wp2_with fail;refine(HN4.out _).mono ?_;rintro e wO ⟨rfl,hb⟩;have HLO:=zH (HX5.out.step hb);clear hb HN4 HX5 m0;have o0:_=some (Value.int .i64 K):=HLO.out.x.cell 0;have o5:_=some (Value.string ⟨#[]⟩):=HLO.out.x.cell 5;have o5f:=HLO.out.x.frozen 5;have HX:Hid (LR w (wO.setCell ⟨b,5,none⟩ (.string ot)) b (x7 K nm (va:Int) (vb:Int) (vc:Int) ot (.slice none 0 0))):=HLO.out.set 5 (.string ot);clear HLO;go_upto_region 23 with fail;generalize wO.setCell ⟨b,5,none⟩ (.string ot)=W8 at *;clear o0 o5 o5f;go_wp2_with fail;refine(HRG.out _ HX.out.B).mono ?_;rintro e wG ⟨l',ra,rc,k',p',rfl,nl,gl,fl,hb,hm1,hm2,hm3⟩;have hbq:zB wG (wG.alloc (.cells #[.int .i64 k',.int .i64 p'] 96)):=zF.alloc zN _;have HG:=zH ((HX.out.step hb).step hbq);have HNG:=zH (nl.below hbq zN);have HQ:=zH (Blk.new wG 96 #[.int .i64 k',.int .i64 p']);have hbx:=HX.out.x.lt;have hbne:=HX.out.ne;have hgs:=hb.size;have HFL:Hid (∀g,(Value.slice ra (tp l').length rc).ownBlock=some g->b<g):=fun g hg=>by have:=fl g hg;omega
   have q0:(wG.alloc (.cells #[.int .i64 k',.int .i64 p'] 96)).cell? ⟨wG.heap.size,0,none⟩=some (.int .i64 k'):=HQ.out.cell 0;have q1:(wG.alloc (.cells #[.int .i64 k',.int .i64 p'] 96)).cell? ⟨wG.heap.size,1,none⟩=some (.int .i64 p'):=HQ.out.cell 1;have n5:¬wG.heap.size=w.heap.size:=by omega
   have n6:¬wG.heap.size=w.heap.size+1:=by omega
   have n7:¬wG.heap.size=b:=by omega
   have HBNE:=zH hbne;clear hb hbq nl fl hbx hbne hgs HX HRG HQ;subst hm1;subst hm2;subst hm3;have t6:(wG.alloc (.cells #[.int .i64 0,.int .i64 (-1)] 96)).cell? ⟨b,6,none⟩=some (.slice none 0 0):=HG.out.x.cell 6;have t6f:=HG.out.x.frozen 6;have HE:Hid (LR w ((wG.alloc (.cells #[.int .i64 0,.int .i64 (-1)] 96)).setCell ⟨b,6,none⟩ (.slice ra (tp l').length rc)) b (x7 K nm (va:Int) (vb:Int) (vc:Int) ot (.slice ra (tp l').length rc))):=HG.out.set 6 (.slice ra (tp l').length rc);have HNE:Hid (zr ((wG.alloc (.cells #[.int .i64 0,.int .i64 (-1)] 96)).setCell ⟨b,6,none⟩ (.slice ra (tp l').length rc)) (.slice ra (tp l').length rc) (tp l')):=by
    refine⟨HNG.out.form,fun i hi=>?_⟩;obtain⟨g,cap2,e,hg,hc⟩:=HNG.out.cells i hi;have:=HFL.out g (by rw[e];rfl);exact⟨g,cap2,e,by simp only[World.setCell,Array.size_modify];exact hg,(zY (by omega)).trans hc⟩
   have HFG:Hid (∀g,(Value.slice ra (tp l').length rc).ownBlock=some g->w.heap.size+1<g):=fun g hg=>by have:=HFL.out g hg;have:=HBNE.out;omega
   clear HNG HG HFL;go_upto_region 27 with fail;clear q0 q1 t6 t6f n5 n6 n7;generalize (wG.alloc (.cells #[.int .i64 0,.int .i64 (-1)] 96)).setCell ⟨b,6,none⟩ (.slice ra (tp l').length rc)=W7 at *;have hfn:=HFN.out.below HE.out.B;have gf0:W7.cell? ⟨0,0,none⟩=some (.int .i64 0):=hfn.c0;have gf1:W7.cell? ⟨0,1,none⟩=some (.int .i64 (-1)):=hfn.c1;have hbne:=HE.out.ne;have hlw:=HFN.out.lt;have n1:¬0=w.heap.size:=by omega
   have n2:¬b=w.heap.size:=by omega
   have n3:¬b=w.heap.size+1:=by omega
   have n4:¬w.heap.size=0:=by omega
   clear hbne hlw;have zc0:_=some (Value.int .i64 0):=HE.out.z.cell 0;have zc1:_=some (Value.string ⟨#[]⟩):=HE.out.z.cell 1;have zc2:_=some (Value.int .i64 0):=HE.out.z.cell 2;have zc3:_=some (Value.int .i64 0):=HE.out.z.cell 3;have zc4:_=some (Value.int .i64 0):=HE.out.z.cell 4;have zc5:_=some (Value.string ⟨#[]⟩):=HE.out.z.cell 5;have zc6:_=some (Value.slice none 0 0):=HE.out.z.cell 6;have zf0:=HE.out.z.frozen 0;have zf1:=HE.out.z.frozen 1;have zf2:=HE.out.z.frozen 2;have zf3:=HE.out.z.frozen 3;have zf4:=HE.out.z.frozen 4;have zf5:=HE.out.z.frozen 5;have zf6:=HE.out.z.frozen 6;have fc0:_=some (Value.int .i64 0):=HE.out.f.cell 0;have fc1:_=some (Value.int .i64 0):=HE.out.f.cell 1;have ff0:=HE.out.f.frozen 0;have ff1:=HE.out.f.frozen 1;have xx0:_=some (Value.int .i64 K):=HE.out.x.cell 0;have xx1:_=some (Value.string nm):=HE.out.x.cell 1;have xx2:_=some (Value.int .i64 va):=HE.out.x.cell 2;have xx3:_=some (Value.int .i64 vb):=HE.out.x.cell 3;have xx4:_=some (Value.int .i64 vc):=HE.out.x.cell 4;have xx5:_=some (Value.string ot):=HE.out.x.cell 5;have xx6:_=some (Value.slice ra (tp l').length rc):=HE.out.x.cell 6;obtain⟨Z,hZ,qz,qf,qB,qN⟩:=HE.out.done (.int .i64 K) (.string nm) (.int .i64 va) (.int .i64 vb) (.int .i64 vc) (.string ot) (.slice ra (tp l').length rc) (.int .i64 0) (.int .i64 (-1));have HZ:=zH hZ;have HQZ:=zH qz;have HQF:=zH qf;have HQB:=zH qB;have HQN:=zH qN;clear hZ qz qf qB qN hfn;go_wp2_with fail;go_big_region;clear gf0 gf1 n1 n2 n3 n4;clear zc0 zc1 zc2 zc3 zc4 zc5 zc6 zf0 zf1 zf2 zf3 zf4 zf5 zf6 fc0 fc1 ff0 ff1;clear xx0 xx1 xx2 xx3 xx4 xx5 xx6;rw[HZ.out];go_wp2;have r0:=HQZ.out.cell 0;have r1:=HQZ.out.cell 1;have r2:=HQZ.out.cell 2;have r3:=HQZ.out.cell 3;have r4:=HQZ.out.cell 4;have r5:=HQZ.out.cell 5;have r6:=HQZ.out.cell 6;have s0:=HQF.out.cell 0;have s1:=HQF.out.cell 1;refine bodyPost_ret (v:=.tuple #[.agg #[.int .i64 K,.string nm,.int .i64 va,.int .i64 vb,.int .i64 vc,.string ot,(.slice ra (tp l').length rc)],.agg #[.int .i64 0,.int .i64 (-1)]]) (by simp[results,Tryz.results56,go_sem,r0,r1,r2,r3,r4,r5,r6,s0,s1]) rfl ?_;exact⟨⟨K,nm,(va:Int),(vb:Int),(vc:Int),ot,l'⟩,ra,rc,0,-1,rfl,(HQN.out _ _ HFG.out HNE.out).drew,gl,fun g hg=>by have:=HFG.out g hg;omega,HQB.out.drew,rfl,rfl,rfl⟩
end
section
open Go.RowKit Go.Shelf Sv
theorem zly(s:ByteArray)(w:World)(hs:s.size<=100000)(hw:Lb w)(hF:yf w)(ad:Addr)(cap:Nat)(hK:yK w ad cap):zC 56 #[.string s] w (ZF w (Zl s)):=by
 have h4:=zbG (za s 32).1;have h:zw (za s 32).1=0\/zw (za s 32).1=1\/zw (za s 32).1=2\/zw (za s 32).1=3\/zw (za s 32).1=4:=by omega
 unfold Zl;rcases h with h|h|h|h|h
 ·rw[h];exact zdo s w hs hw hF ad cap hK h
 ·rw[h,if_neg (by decide),if_neg (by decide)];cases hv:zz (za (za (za s 32).2 32).2 32).1 with
  |error ke=>exact XE s w hs hw hF ad cap hK 1 (Or.inl rfl) h ke hv
  |ok ns =>
   obtain⟨a,b,c,rfl⟩:=Qs (QE hv).1;simp only[if_pos]
   by_cases hr:(za (za (za s 32).2 32).2 32).2.size=0
   ·rw[if_pos hr];exact zht s w hs hw hF ad cap hK h a b c hv hr
   ·rw[if_neg hr];exact ziQ s w hs hw hF ad cap hK h a b c hv hr
 ·rw[h,if_neg (by decide),if_neg (by decide)];cases hv:zz (za (za (za s 32).2 32).2 32).1 with
  |error ke=>exact XE s w hs hw hF ad cap hK 2 (Or.inr (Or.inl rfl)) h ke hv
  |ok ns =>
   obtain⟨a,b,c,rfl⟩:=Qs (QE hv).1;simp only;rw[if_neg (by decide)];unfold yS;cases hr:xe (za (za (za (za s 32).2 32).2 32).2 32).2 with
   |error q=>obtain⟨q,o⟩:=q;exact JW s w hs hw hF ad cap hK 2 (Or.inl rfl) h a b c hv q o hr
   |ok lo=>exact zac s w hs hw hF ad cap hK 2 (Or.inl rfl) h a b c hv lo hr
 ·rw[h,if_neg (by decide),if_neg (by decide)];cases hv:zz (za (za (za s 32).2 32).2 32).1 with
  |error ke=>exact XE s w hs hw hF ad cap hK 3 (Or.inr (Or.inr rfl)) h ke hv
  |ok ns =>
   obtain⟨a,b,c,rfl⟩:=Qs (QE hv).1;simp only;rw[if_neg (by decide)];unfold yS;cases hr:xe (za (za (za (za s 32).2 32).2 32).2 32).2 with
   |error q=>obtain⟨q,o⟩:=q;exact JW s w hs hw hF ad cap hK 3 (Or.inr rfl) h a b c hv q o hr
   |ok lo=>exact zac s w hs hw hF ad cap hK 3 (Or.inr rfl) h a b c hv lo hr
 ·rw[h,if_neg (by decide),if_pos rfl];unfold yS;cases hr:xe (za (za s 32).2 32).2 with
  |error q=>obtain⟨q,o⟩:=q;exact zfz s w hs hw hF ad cap hK h q o hr
  |ok lo=>exact zhk s w hs hw hF ad cap hK h lo hr
end
section
open Go.RowKit Go.Deep Go.Shelf Sv
theorem zfn:(Tryz.prog.info? 101).map (fun i=>(i.zero,i.size,i.bytes))=some (some (.agg #[.int .i64 0,.string ⟨#[]⟩,.int .i64 0,.int .i64 0,.int .i64 0,.string ⟨#[]⟩,.slice none 0 0]),7,88):=by kernel_rfl
theorem YC(l:List zc):(tp l).length=2*l.length:=by
 induction l with
 |nil=>rfl
 |cons s r ih=>simp only[tp,List.length_cons,ih];omega
def xR(W:World)(ls:List Ln)(vs:List Value):Prop:=vs.length=ls.length/\∀i,i<ls.length->zr W (vs.getD i undef) (tp (ls.getD i default).rng)/\Rg (ls.getD i default).rng
theorem xR.below{B:Nat}{w w':World}{l:List Ln}{vs:List Value}(h:xR w l vs)(hb:Below B w w')(hB:w.heap.size<=B):xR w' l vs:=⟨h.1,fun i hi=>⟨(h.2 i hi).1.below hb hB,(h.2 i hi).2⟩⟩
theorem zjl(w:World):xR w [] []:=⟨rfl,fun i h=>by simp at h⟩
theorem zr.lt'{w:World}{v:Value}{l:List zc}(h:zr w v (tp l))(hl:0<l.length){g:Nat}(hg:v.ownBlock=some g):g<w.heap.size:=by
 obtain⟨g',cap,e,hlt,_⟩:=h.cells 0 (by rw[YC];omega);rw[e] at hg;simp[Value.ownBlock] at hg;omega
theorem RgN.newR{W:World}{ls:List Ln}{vs:List Value}(h:xR W ls vs){b:Nat}(hb:W.heap.size<=b):RgN ls vs (some b):=fun i hi hl g hg e=>by
 have:=(h.2 i hi).1.lt' hl hg;cases e;omega
theorem zr.grown{W W':World}{v:Value}{l:List zc}{row:Option Nat}(h:zr W v (tp l))(hg:W.grownBy W' row)(hn:0<l.length->∀g,v.ownBlock=some g->some g≠row):zr W' v (tp l) :=
 ⟨h.form,fun i hi=>by
  obtain⟨g,cap,e,hlt,c0⟩:=h.cells i hi;have hne:=hn (by rw[YC] at hi;omega) g (by rw[e];rfl);exact ⟨g,cap,e,Nat.lt_of_lt_of_le hlt hg.size,(Zq hg hlt hne).trans c0⟩⟩
theorem xR.grown{W W':World}{ls:List Ln}{vs:List Value}{row:Option Nat}(h:xR W ls vs)(hg:W.grownBy W' row)(hn:RgN ls vs row):xR W' ls vs:=⟨h.1,fun i hi=>⟨(h.2 i hi).1.grown hg (hn i hi),(h.2 i hi).2⟩⟩
theorem xR.snoc{w:World}{l:List Ln}{vs:List Value}(h:xR w l vs){x:Ln}{v:Value}(hv:zr w v (tp x.rng))(hr:Rg x.rng):xR w (l++[x]) (vs++[v]):=by
 refine⟨by simp[h.1],fun i hi=>?_⟩
 by_cases hl:i<l.length
 ·have e1:(l++[x]).getD i default=l.getD i default:=by simp[List.getD_eq_getElem?_getD,List.getElem?_append_left hl]
  have e2:(vs++[v]).getD i undef=vs.getD i undef:=by simp[List.getD_eq_getElem?_getD,List.getElem?_append_left (show i<vs.length by rw[h.1];exact hl)]
  rw[e1,e2];exact h.2 i hl
 ·obtain rfl:i=l.length:=by simp at hi;omega
  have e1:(l++[x]).getD l.length default=x:=by simp[List.getD_eq_getElem?_getD]
  have e2:(vs++[v]).getD l.length undef=v:=by simp[List.getD_eq_getElem?_getD,<-h.1]
  rw[e1,e2];exact⟨hv,hr⟩
structure RPS(W0 W:World)(lv sv:Value)(ls:List Ln)(vs:List Value)(ss:List Nat):Prop where
 lrow:W.ownsRow W0.heap.size 101 7 lv ls.length (qb ls vs)
 srow:W.ownsRow W0.heap.size 3 1 sv ss.length (zd (ss.map fun (k:Nat)=>(k:Int)))
 rg:xR W ls vs
 nl:RgN ls vs lv.ownBlock
 ns:RgN ls vs sv.ownBlock
 lo:∀k,k<W0.heap.size->RgN ls vs (some k)
 B:zB W0 W
theorem RPS.start(W0:World):RPS W0 W0 (.slice none 0 0) (.slice none 0 0) [] [] []:=⟨World.ownsRow_nil _ _ _ _,World.ownsRow_nil _ _ _ _,zjl _,RgN.nil _,RgN.nil _,fun _ _=>RgN.nil _,Below.refl _ _⟩
theorem RPS.step{W0 W W':World}{lv sv:Value}{ls:List Ln}{vs:List Value}{ss:List Nat}(h:RPS W0 W lv sv ls vs ss)(hb:zB W W'):RPS W0 W' lv sv ls vs ss :=
 ⟨zm h.lrow hb,zm h.srow hb,h.rg.below hb zN,h.nl,h.ns,h.lo,zT h.B hb⟩
theorem RPS.appL{W0 W w':World}{lv lv' sv v:Value}{ls:List Ln}{vs:List Value}{ss:List Nat}{x:Ln}(h:RPS W0 W lv sv ls vs ss)(hv:zr W v (tp x.rng))(hrg:Rg x.rng)(hn:0<x.rng.length->∀g,v.ownBlock=some g->W0.heap.size<=g/\some g≠lv.ownBlock/\some g≠sv.ownBlock)
  (hown:w'.ownsRow W0.heap.size 101 7 lv' (ls.length+1) (qb ls vs++xX x v)) (hg:W.grownBy w' lv.ownBlock) (hloc:lv'.ownBlock=lv.ownBlock\/lv'.ownBlock=some W.heap.size):RPS W0 w' lv' sv (ls++[x]) (vs++[v]) ss:=by
 have hx:0<x.rng.length->∀g,v.ownBlock=some g->some g≠lv.ownBlock:=fun h1 g h2=>(hn h1 g h2).2.1;have rg1:xR w' (ls++[x]) (vs++[v]):=(h.rg.grown hg h.nl).snoc (hv.grown hg hx) hrg;refine⟨?_,xD h.srow hg (xr h.srow h.lrow (by decide)),rg1,?_,h.ns.snoc h.rg.1 (fun h1 g h2=>(hn h1 g h2).2.2),fun k hk=>(h.lo k hk).snoc h.rg.1 (fun h1 g h2 e=>by have:=(hn h1 g h2).1;cases e;omega),h.B.grown hg h.B.size (fun k hk=>(h.lrow.lt k hk).1)⟩
 ·rw[Js _ _ _ _ h.rg.1,List.length_append];exact hown
 ·rcases hloc with e|e
  ·rw[e];exact h.nl.snoc h.rg.1 hx
  ·rw[e];refine(RgN.newR h.rg zN).snoc h.rg.1 (fun h1 g h2 e2=>?_);have:=hv.lt' h1 h2;cases e2;omega
theorem RPS.appS{W0 W w':World}{lv sv sv':Value}{ls:List Ln}{vs:List Value}{ss:List Nat}{k:Nat}(h:RPS W0 W lv sv ls vs ss)
  (hown:w'.ownsRow W0.heap.size 3 1 sv' (ss.length+1) (zd (ss.map fun (k:Nat)=>(k:Int))++[.int .i64 k])) (hg:W.grownBy w' sv.ownBlock) (hloc:sv'.ownBlock=sv.ownBlock\/sv'.ownBlock=some W.heap.size):RPS W0 w' lv sv' ls vs (ss++[k]):=by
 refine⟨xD h.lrow hg (xr h.lrow h.srow (by decide)),?_,h.rg.grown hg h.ns,h.nl,?_,h.lo,h.B.grown hg h.B.size (fun k hk=>(h.srow.lt k hk).1)⟩
 ·rw[List.map_append,List.length_append];have e:zd (List.map (fun (k:Nat)=>(k:Int)) ss++List.map (fun (k:Nat)=>(k:Int)) [k])=zd (ss.map fun (k:Nat)=>(k:Int))++[.int .i64 k]:=by rw[List.map_cons,List.map_nil,yO]
  rw[e];exact hown
 ·rcases hloc with e|e
  ·rw[e];exact h.ns
  ·rw[e];exact RgN.newR h.rg zN
theorem zr.one'{W:World}{b:Nat}{v x:Value}{l:List zc}{i:Nat}(h:zr W v (tp l))(hn:0<l.length->∀g,v.ownBlock=some g->some g≠some b):zr (W.setCell ⟨b,i,none⟩ x) v (tp l) :=
 ⟨h.form,fun j hj=>by
  obtain⟨g,cap,e,hg,c0⟩:=h.cells j hj;have hne:g≠b:=fun e'=>hn (by rw[YC] at hj;omega) g (by rw[e];rfl) (by rw[e']);exact ⟨g,cap,e,by simp [World.setCell];exact hg,(zY hne).trans c0⟩⟩
theorem RPS.rlsSet{W0 W:World}{lv sv x y:Value}{ls:List Ln}{vs:List Value}{ss:List Nat}{b i j:Nat}(h:RPS W0 W lv sv ls vs ss)(hb:b<W0.heap.size):RLs ((W.setCell ⟨b,i,none⟩ x).setCell ⟨b,j,none⟩ y) lv ls :=
 ⟨vs,⟨h.rg.1,fun k hk=>⟨((h.rg.2 k hk).1.one' (h.lo b hb k hk)).one' (h.lo b hb k hk),(h.rg.2 k hk).2⟩⟩,zj (yq (yq h.lrow hb) hb)⟩
theorem RPS.rls{W0 W:World}{lv sv:Value}{ls:List Ln}{vs:List Value}{ss:List Nat}(h:RPS W0 W lv sv ls vs ss):RLs W lv ls:=⟨vs,h.rg,zj h.lrow⟩
theorem zfW{L:List (Nat × ByteArray)}{k:Nat}(hk:k<L.length):(L.take (k+1)).filter (fun x=>decide (x.2.size≠0))=(L.take k).filter (fun x=>decide (x.2.size≠0))++(if (px L k).2.size=0 then [] else [px L k]):=by
 rw[List.take_succ_eq_append_getElem hk,List.filter_append,ZH L k hk];congr 1;rw[List.filter_cons,List.filter_nil]
 by_cases h:(L[k]).2.size=0
 ·rw[if_neg (by simp[h]),if_pos h]
 ·rw[if_pos (decide_eq_true h),if_neg h]
theorem zeO{L:List (Nat × ByteArray)}{k:Nat}(hk:k<L.length){acc:List (Nat × Ln)}(h:plF ((L.take k).filter (fun x=>decide (x.2.size≠0))) []=.ok acc) :
  plF ((L.take (k+1)).filter (fun x=>decide (x.2.size≠0))) []=if (px L k).2.size=0 then .ok acc else match Zl (px L k).2 with
   |.error e=>.error (e.1,(px L k).1)
   |.ok l=>.ok (acc++[((px L k).1,l)]):=by
 rw[zfW hk,YT,h];simp only
 by_cases h0:(px L k).2.size=0
 ·rw[if_pos h0,if_pos h0];rfl
 ·rw[if_neg h0,if_neg h0,plF];cases Zl (px L k).2 with
  |error e=>rfl
  |ok l=>rfl
theorem zlH{L:List (Nat × ByteArray)}{k:Nat}{e:Int × Nat}(h:plF ((L.take k).filter (fun x=>decide (x.2.size≠0))) []=.error e):plF (L.filter (fun x=>decide (x.2.size≠0))) []=.error e:=by
 conv=>lhs;rw[<-List.take_append_drop k L,List.filter_append,YT,h]
end
end Go.Proofs.YtiihalknffbjpaaGreatDoor
