/- The reference: LineParse of any text. -/
import Derived.Test.YtlamemjfaogjmaaGreatDoorRlLineD
import Derived.Test.YtlamemjfaogjmaaGreatDoorRlLineA
set_option maxHeartbeats 4000000
set_option maxRecDepth 100000
namespace Go.Proofs.YtlamemjfaogjmaaGreatDoor
section
open Go.RowKit Go.Shelf Sv
theorem rline_pair_bad (s:ByteArray) (w:World) (hs:s.size<=100000) (hw:Lb w) (hF:FineR w) (ad:Addr) (cap:Nat) (hK:KindsAt w ad cap) (K:Nat) (hK23:K=2\/K=3) (hk:kindF (cutF s 32).1=K) (va vb vc:Nat) (hver:versF (cutF (cutF (cutF s 32).2 32).2 32).1=.ok [va,vb,vc]) (q:Int) (o:Option Nat) (hrg:rngF (cutF (cutF (cutF (cutF s 32).2 32).2 32).2 32).2=.error (q,o)):Calls Tryz.prog 31 #[.string s] w (RlRes w (.error (q,o))):=by
 have hK1:((K:Int) == 1)=false:=by rw [beq_eq_false_iff_ne];omega
 have hK4:((K:Int) == 4)=false:=by rw [beq_eq_false_iff_ne];omega
 have hK0:((K:Int) == 0)=false:=by rw [beq_eq_false_iff_ne];omega
 have k0:=(Blk.new w 59 z7).alloc (.cells #[.int .i64 0,.int .i64 0] 45)
 have k1:=Blk.new (w.alloc (.cells z7 59)) 45 #[.int .i64 0,.int .i64 0]
 rw [World.size_alloc] at k1
 have hB0:Below w.heap.size w ((w.alloc (.cells z7 59)).alloc (.cells #[.int .i64 0,.int .i64 0] 45)):=((Below.refl _ w).alloc (Nat.le_refl _) _).alloc (by simp) _
 have HK0:=Lib.hid k0
 have HK1:=Lib.hid k1
 have HB0:=Lib.hid hB0
 have HN1:=Lib.hid (fun W=>rnext_any s W hs)
 have hz2:=(cutF_size s 32).2
 have HLW:=Lib.hid hw
 have HFN:=Lib.hid hF
 have HKD:=Lib.hid hK
 obtain ⟨w1,hw1⟩:∃ w1,(cutF s 32).1=w1:=⟨_,rfl⟩
 obtain ⟨s2,hs2⟩:∃ s2,(cutF s 32).2=s2:=⟨_,rfl⟩
 rw [hw1] at hk HN1
 rw [hs2] at hz2 HN1
 have hz2':s2.size<=100000:=by omega
 have HKX:Hid (∀ k,1<=k->k<=4->((⟨(wl k).toArray⟩:ByteArray).toList == w1.toList)=decide (kindF w1=k)):=fun k h1 h4=>kind_lt h1 h4
 rw [hk] at HKX
 have HN2:=Lib.hid (fun W=>rnext_any s2 W hz2')
 have hz3:=(cutF_size s2 32).2
 obtain ⟨nm,hnm⟩:∃ nm,(cutF s2 32).1=nm:=⟨_,rfl⟩
 obtain ⟨s3,hs3⟩:∃ s3,(cutF s2 32).2=s3:=⟨_,rfl⟩
 rw [hnm] at HN2
 rw [hs3] at hz3 HN2
 have hz3':s3.size<=100000:=by omega
 have HN3:=Lib.hid (fun W=>rnext_any s3 W hz3')
 have hz4:=cutF_size s3 32
 obtain ⟨vw,hvw⟩:∃ vw,(cutF s3 32).1=vw:=⟨_,rfl⟩
 obtain ⟨s4,hs4⟩:∃ s4,(cutF s3 32).2=s4:=⟨_,rfl⟩
 rw [hvw,hs4] at hz4 HN3
 have hz4':s4.size<=100000:=by omega
 have HVP0:∀ W,Below w.heap.size w W->Calls Tryz.prog 52 #[.string vw] W fun e w'=>e=.returned (rversV (versF vw))/\Below W.heap.size W w':=fun W hb=>rvparse_any splitC vw W (by omega) (hw.below hb)
 rw [hs2,hs3,hvw] at hver
 rw [hver] at HVP0
 have HVP:Hid (∀ W,Below w.heap.size w W->Calls Tryz.prog 52 #[.string vw] W fun e w'=>e=.returned (.tuple #[.agg #[.int .i64 (va:Int),.int .i64 (vb:Int),.int .i64 (vc:Int)],.int .i64 0])/\Below W.heap.size W w'):=HVP0
 clear HVP0 hver
 have HN4:=Lib.hid (fun W=>rnext_any s4 W hz4')
 have hz5:=cutF_size s4 32
 obtain ⟨ot,hot⟩:∃ ot,(cutF s4 32).1=ot:=⟨_,rfl⟩
 obtain ⟨s5,hs5⟩:∃ s5,(cutF s4 32).2=s5:=⟨_,rfl⟩
 rw [hot,hs5] at hz5 HN4
 have hz5':s5.size<=100000:=by omega
 rw [hs2,hs3,hs4,hs5] at hrg
 have hqe:=rngF_err hrg
 obtain ⟨pp,hpp⟩:∃ pp,placeO o=pp:=⟨_,rfl⟩
 have HRG:Hid (∀ W,Below w.heap.size w W->Calls Tryz.prog 53 #[.string s5] W fun e w'=>∃ (l:List Span) (a:Option Addr) (c:Nat) (k p:Int),e=.returned (.tuple #[.slice a (tp l).length c,.agg #[.int .i64 k,.int .i64 p]])/\NsAt w' (.slice a (tp l).length c) (tp l)/\Rg l/\(∀ g,(Value.slice a (tp l).length c).ownBlock=some g->W.heap.size<=g)/\Below W.heap.size W w'/\l=[]/\k=q/\p=pp):=fun W hb=>by have:=rrng_any s5 W (by omega) (hw.below hb) (hF.below hb);rw [hrg] at this;rw [<- hpp];exact this
 have HPP:=Lib.hid hpp
 clear hrg hpp
 clear hz3 hz4 hz5 hnm hs3 hvw hs4 hot hs5
 clear k0 k1 hB0 hw hF hK hz2 hs
 go_enter Tryz.func31,Tryz.ntmps31
 go_wp2_with fail
 generalize (w.alloc (.cells z7 59)).alloc (.cells #[.int .i64 0,.int .i64 0] 45)=W0 at *
 refine (HN1.out _).mono ?_
 rintro e wA ⟨rfl,hbA⟩
 have hx:=Blk.new wA 59 z7
 have hA:Below wA.heap.size wA (wA.alloc (.cells z7 59)):=(Below.refl _ _).alloc (Nat.le_refl _) _
 have hA0:Below W0.heap.size W0 (wA.alloc (.cells z7 59)):=hbA.trans (hA.mono hbA.size)
 have hLR:LR w (wA.alloc (.cells z7 59)) wA.heap.size z7:=⟨HK0.out.below hA0 HK0.out.lt,HK1.out.below hA0 HK1.out.lt,hx,Nat.lt_of_lt_of_le HK1.out.lt hbA.size,HB0.out.trans (hA0.mono HB0.out.size)⟩
 have HLR:=Lib.hid hLR
 clear hbA hx hA hA0 hLR HN1 HK0 HK1 HB0
 go_wp2_with fail
 generalize wA.alloc (.cells z7 59)=W1 at *
 obtain ⟨b,hb⟩:∃ b,wA.heap.size=b:=⟨_,rfl⟩
 rw [hb] at HLR ⊢
 clear hb
 go_loopw [7] (fun kV wr=>∃ k:Nat,1<=k/\k<=5/\kV=.int .i64 (k:Int)/\LR w wr b (x7 (kup K k) ⟨#[]⟩ 0 0 0 ⟨#[]⟩ (.slice none 0 0))) (fun kV _=>5 - (intOf kV).toNat)
 case atStart=>exact ⟨1,by omega,by omega,rfl,by rw [show kup K 1=0 by unfold kup;split <;> omega];exact HLR.out⟩
 case round =>
  clear HLR
  obtain ⟨k,hk1,hk5,rfl,hLR⟩:=hrel
  have HL:=Lib.hid hLR
  clear hLR
  by_cases hlt:k<=4
  ·have hkd:=HKD.out.below HL.out.B
   have g0:=hkd.c
   have g1:=hkd.s k (by omega)
   have hc:=HKX.out k hk1 hlt
   have x0:wr.cell? ⟨b,0,none⟩=some (.int .i64 ((kup K k:Nat):Int)):=HL.out.x.cell 0
   have xf:=HL.out.x.frozen 0
   clear hkd
   by_cases he:K=k
   ·have hst:=HL.out.set 0 (.int .i64 (k:Int))
    have HST:Hid (LR w (wr.setCell ⟨b,0,none⟩ (.int .i64 (k:Int))) b (x7 (kup K (k + 1)) ⟨#[]⟩ 0 0 0 ⟨#[]⟩ (.slice none 0 0))):=by
     have e:kup K (k + 1)=k:=by unfold kup;rw [if_pos (by omega)];exact he
     rw [e];exact hst
    rw [decide_eq_true he] at hc
    generalize kup K k=KU at *
    generalize (⟨(wl k).toArray⟩:ByteArray)=WK at *
    clear hst he
    go_wp2
    go_roundw
    case rel=>exact ⟨k + 1,by omega,by omega,by go_num,HST.out⟩
    case measure=>simp [intOf];omega
   ·have HST:Hid (LR w wr b (x7 (kup K (k + 1)) ⟨#[]⟩ 0 0 0 ⟨#[]⟩ (.slice none 0 0))):=by
     have e:kup K (k + 1)=kup K k:=by
      unfold kup
      by_cases h:K<k
      ·rw [if_pos h,if_pos (by omega)]
      ·rw [if_neg h,if_neg (by omega)]
     rw [e];exact HL.out
    rw [decide_eq_false he] at hc
    generalize kup K k=KU at *
    generalize (⟨(wl k).toArray⟩:ByteArray)=WK at *
    clear he
    go_wp2
    go_roundw
    case rel=>exact ⟨k + 1,by omega,by omega,by go_num,HST.out⟩
    case measure=>simp [intOf];omega
  ·obtain rfl:k=5:=by omega
   have hku:kup K 5=K:=by unfold kup;rw [if_pos (by omega)]
   rw [hku] at HL
   clear hku
   have xc0:wr.cell? ⟨b,0,none⟩=some (.int .i64 (K:Int)):=HL.out.x.cell 0
   go_wp2_with fail
   refine (HN2.out _).mono ?_
   rintro e wB ⟨rfl,hb⟩
   have HLB:=Lib.hid (HL.out.step hb)
   clear hb HN2 HL
   have xb0:wB.cell? ⟨b,0,none⟩=some (.int .i64 (K:Int)):=HLB.out.x.cell 0
   have xb1:wB.cell? ⟨b,1,none⟩=some (.string ⟨#[]⟩):=HLB.out.x.cell 1
   have xg1:=HLB.out.x.frozen 1
   have HL2:Hid (LR w (wB.setCell ⟨b,1,none⟩ (.string nm)) b (x7 K nm 0 0 0 ⟨#[]⟩ (.slice none 0 0))):=HLB.out.set 1 (.string nm)
   have y0:(wB.setCell ⟨b,1,none⟩ (.string nm)).cell? ⟨b,0,none⟩=some (.int .i64 (K:Int)):=HL2.out.x.cell 0
   clear HLB xc0
   go_wp2_with fail
   generalize wB.setCell ⟨b,1,none⟩ (.string nm)=W2 at *
   clear xb0 xb1 xg1
   refine (HN3.out _).mono ?_
   rintro e wC ⟨rfl,hb⟩
   have HL3:=Lib.hid (HL2.out.step hb)
   have HV3:=Lib.hid (HVP.out _ HL3.out.B)
   clear hb HN3 HL2 y0 HVP
   go_wp2_with fail
   refine HV3.out.mono ?_
   rintro e wD ⟨rfl,hb⟩
   have HL4:=Lib.hid (HL3.out.step hb)
   have kv:=Blk.new wD 56 #[.int .i64 (va:Int),.int .i64 (vb:Int),.int .i64 (vc:Int)]
   have hbv:Below wD.heap.size wD (wD.alloc (.cells #[.int .i64 (va:Int),.int .i64 (vb:Int),.int .i64 (vc:Int)] 56)):=(Below.refl _ _).alloc (Nat.le_refl _) _
   have HL:=Lib.hid (HL4.out.step hbv)
   have HKV:=Lib.hid kv
   clear hb hbv HL3 HL4 HV3 kv
   have v0:=HKV.out.cell 0
   have v1:=HKV.out.cell 1
   have v2:=HKV.out.cell 2
   have e0:(wD.alloc (.cells #[.int .i64 (va:Int),.int .i64 (vb:Int),.int .i64 (vc:Int)] 56)).cell? ⟨b,0,none⟩=some (.int .i64 (K:Int)):=HL.out.x.cell 0
   have e2:(wD.alloc (.cells #[.int .i64 (va:Int),.int .i64 (vb:Int),.int .i64 (vc:Int)] 56)).cell? ⟨b,2,none⟩=some (.int .i64 0):=HL.out.x.cell 2
   have e3:(wD.alloc (.cells #[.int .i64 (va:Int),.int .i64 (vb:Int),.int .i64 (vc:Int)] 56)).cell? ⟨b,3,none⟩=some (.int .i64 0):=HL.out.x.cell 3
   have e4:(wD.alloc (.cells #[.int .i64 (va:Int),.int .i64 (vb:Int),.int .i64 (vc:Int)] 56)).cell? ⟨b,4,none⟩=some (.int .i64 0):=HL.out.x.cell 4
   have e2f:=HL.out.x.frozen 2
   have e3f:=HL.out.x.frozen 3
   have e4f:=HL.out.x.frozen 4
   have hz5:=(((HL.out.set 2 (.int .i64 (va:Int))).set 3 (.int .i64 (vb:Int))).set 4 (.int .i64 (vc:Int)))
   have HX5:Hid (LR w ((((wD.alloc (.cells #[.int .i64 (va:Int),.int .i64 (vb:Int),.int .i64 (vc:Int)] 56)).setCell ⟨b,2,none⟩ (.int .i64 (va:Int))).setCell ⟨b,3,none⟩ (.int .i64 (vb:Int))).setCell ⟨b,4,none⟩ (.int .i64 (vc:Int))) b (x7 K nm (va:Int) (vb:Int) (vc:Int) ⟨#[]⟩ (.slice none 0 0))):=hz5
   have m0:((((wD.alloc (.cells #[.int .i64 (va:Int),.int .i64 (vb:Int),.int .i64 (vc:Int)] 56)).setCell ⟨b,2,none⟩ (.int .i64 (va:Int))).setCell ⟨b,3,none⟩ (.int .i64 (vb:Int))).setCell ⟨b,4,none⟩ (.int .i64 (vc:Int))).cell? ⟨b,0,none⟩=some (.int .i64 (K:Int)):=hz5.x.cell 0
   clear hz5 HL
   go_upto_region 17 with fail
   obtain ⟨W5,hW5⟩:∃ W5,((((wD.alloc (.cells #[.int .i64 (va:Int),.int .i64 (vb:Int),.int .i64 (vc:Int)] 56)).setCell ⟨b,2,none⟩ (.int .i64 (va:Int))).setCell ⟨b,3,none⟩ (.int .i64 (vb:Int))).setCell ⟨b,4,none⟩ (.int .i64 (vc:Int)))=W5:=⟨_,rfl⟩
   rw [hW5] at HX5 m0 ⊢
   clear hW5 v0 v1 v2 e0 e2 e3 e4 e2f e3f e4f HKV
   go_wp2_with fail
   refine (HN4.out _).mono ?_
   rintro e wO ⟨rfl,hb⟩
   have HLO:=Lib.hid (HX5.out.step hb)
   clear hb HN4 HX5 m0
   have o0:wO.cell? ⟨b,0,none⟩=some (.int .i64 (K:Int)):=HLO.out.x.cell 0
   have o5:wO.cell? ⟨b,5,none⟩=some (.string ⟨#[]⟩):=HLO.out.x.cell 5
   have o5f:=HLO.out.x.frozen 5
   have HX:Hid (LR w (wO.setCell ⟨b,5,none⟩ (.string ot)) b (x7 K nm (va:Int) (vb:Int) (vc:Int) ot (.slice none 0 0))):=HLO.out.set 5 (.string ot)
   clear HLO
   go_upto_region 23 with fail
   generalize wO.setCell ⟨b,5,none⟩ (.string ot)=W8 at *
   clear o0 o5 o5f
   go_wp2_with fail
   refine (HRG.out _ HX.out.B).mono ?_
   rintro e wG ⟨l',ra,rc,k',p',rfl,nl,gl,fl,hb,hm1,hm2,hm3⟩
   have hbq:Below wG.heap.size wG (wG.alloc (.cells #[.int .i64 k',.int .i64 p'] 45)):=(Below.refl _ _).alloc (Nat.le_refl _) _
   have HG:=Lib.hid ((HX.out.step hb).step hbq)
   have HNG:=Lib.hid (nl.below hbq (Nat.le_refl _))
   have HQ:=Lib.hid (Blk.new wG 45 #[.int .i64 k',.int .i64 p'])
   have hbx:=HX.out.x.lt
   have hbne:=HX.out.ne
   have hgs:=hb.size
   have HFL:Hid (∀ g,(Value.slice ra (tp l').length rc).ownBlock=some g->b<g):=fun g hg=>by have:=fl g hg;omega
   have q0:(wG.alloc (.cells #[.int .i64 k',.int .i64 p'] 45)).cell? ⟨wG.heap.size,0,none⟩=some (.int .i64 k'):=HQ.out.cell 0
   have q1:(wG.alloc (.cells #[.int .i64 k',.int .i64 p'] 45)).cell? ⟨wG.heap.size,1,none⟩=some (.int .i64 p'):=HQ.out.cell 1
   have n5:¬ wG.heap.size=w.heap.size:=by omega
   have n6:¬ wG.heap.size=w.heap.size + 1:=by omega
   have n7:¬ wG.heap.size=b:=by omega
   have HBNE:=Lib.hid hbne
   clear hb hbq nl fl hbx hbne hgs HX HRG HQ
   subst hm1
   subst hm2
   subst hm3
   have hk':(k' != 0)=true:=by simpa using hqe
   clear hqe
   have zc0:(wG.alloc (.cells #[.int .i64 k',.int .i64 p'] 45)).cell? ⟨w.heap.size,0,none⟩=some (.int .i64 0):=HG.out.z.cell 0
   have zc1:(wG.alloc (.cells #[.int .i64 k',.int .i64 p'] 45)).cell? ⟨w.heap.size,1,none⟩=some (.string ⟨#[]⟩):=HG.out.z.cell 1
   have zc2:(wG.alloc (.cells #[.int .i64 k',.int .i64 p'] 45)).cell? ⟨w.heap.size,2,none⟩=some (.int .i64 0):=HG.out.z.cell 2
   have zc3:(wG.alloc (.cells #[.int .i64 k',.int .i64 p'] 45)).cell? ⟨w.heap.size,3,none⟩=some (.int .i64 0):=HG.out.z.cell 3
   have zc4:(wG.alloc (.cells #[.int .i64 k',.int .i64 p'] 45)).cell? ⟨w.heap.size,4,none⟩=some (.int .i64 0):=HG.out.z.cell 4
   have zc5:(wG.alloc (.cells #[.int .i64 k',.int .i64 p'] 45)).cell? ⟨w.heap.size,5,none⟩=some (.string ⟨#[]⟩):=HG.out.z.cell 5
   have zc6:(wG.alloc (.cells #[.int .i64 k',.int .i64 p'] 45)).cell? ⟨w.heap.size,6,none⟩=some (.slice none 0 0):=HG.out.z.cell 6
   have zf0:=HG.out.z.frozen 0
   have zf1:=HG.out.z.frozen 1
   have zf2:=HG.out.z.frozen 2
   have zf3:=HG.out.z.frozen 3
   have zf4:=HG.out.z.frozen 4
   have zf5:=HG.out.z.frozen 5
   have zf6:=HG.out.z.frozen 6
   have fc0:(wG.alloc (.cells #[.int .i64 k',.int .i64 p'] 45)).cell? ⟨w.heap.size + 1,0,none⟩=some (.int .i64 0):=HG.out.f.cell 0
   have fc1:(wG.alloc (.cells #[.int .i64 k',.int .i64 p'] 45)).cell? ⟨w.heap.size + 1,1,none⟩=some (.int .i64 0):=HG.out.f.cell 1
   have ff0:=HG.out.f.frozen 0
   have ff1:=HG.out.f.frozen 1
   obtain ⟨Z,hZ,qz,qf,qB,-⟩:=HG.out.done (.int .i64 0) (.string ⟨#[]⟩) (.int .i64 0) (.int .i64 0) (.int .i64 0) (.string ⟨#[]⟩) (.slice none 0 0) (.int .i64 k') (.int .i64 p')
   have HZ:=Lib.hid hZ
   have HQZ:=Lib.hid qz
   have HQF:=Lib.hid qf
   have HQB:=Lib.hid qB
   clear hZ qz qf qB HNG HG
   go_upto_region 24 with fail
   generalize wG.alloc (.cells #[.int .i64 k',.int .i64 p'] 45)=W6 at *
   go_wp2_with fail
   go_big_region
   clear q0 q1 n5 n6 n7
   clear zc0 zc1 zc2 zc3 zc4 zc5 zc6 zf0 zf1 zf2 zf3 zf4 zf5 zf6 fc0 fc1 ff0 ff1
   rw [HZ.out]
   go_wp2
   have r0:=HQZ.out.cell 0
   have r1:=HQZ.out.cell 1
   have r2:=HQZ.out.cell 2
   have r3:=HQZ.out.cell 3
   have r4:=HQZ.out.cell 4
   have r5:=HQZ.out.cell 5
   have r6:=HQZ.out.cell 6
   have s0:=HQF.out.cell 0
   have s1:=HQF.out.cell 1
   refine bodyPost_ret (v:=.tuple #[.agg z7,.agg #[.int .i64 k',.int .i64 p']]) (by simp [results,Tryz.results31,go_sem,r0,r1,r2,r3,r4,r5,r6,s0,s1]) rfl ?_
   exact ⟨zeroLn,none,0,k',p',rfl,nsAt_nil _,rg_nil,fun g hg=>by simp [Value.ownBlock] at hg,HQB.out.drew,rfl,rfl,HPP.out.symm⟩
theorem rline_pair (s:ByteArray) (w:World) (hs:s.size<=100000) (hw:Lb w) (hF:FineR w) (ad:Addr) (cap:Nat) (hK:KindsAt w ad cap) (K:Nat) (hK23:K=2\/K=3) (hk:kindF (cutF s 32).1=K) (va vb vc:Nat) (hver:versF (cutF (cutF (cutF s 32).2 32).2 32).1=.ok [va,vb,vc]) (lo:List Span) (hrg:rngF (cutF (cutF (cutF (cutF s 32).2 32).2 32).2 32).2=.ok lo):Calls Tryz.prog 31 #[.string s] w (RlRes w (.ok ⟨K,(cutF (cutF s 32).2 32).1,(va:Int),(vb:Int),(vc:Int),(cutF (cutF (cutF (cutF s 32).2 32).2 32).2 32).1,lo⟩)):=by
 have hK1:((K:Int) == 1)=false:=by rw [beq_eq_false_iff_ne];omega
 have hK4:((K:Int) == 4)=false:=by rw [beq_eq_false_iff_ne];omega
 have hK0:((K:Int) == 0)=false:=by rw [beq_eq_false_iff_ne];omega
 have k0:=(Blk.new w 59 z7).alloc (.cells #[.int .i64 0,.int .i64 0] 45)
 have k1:=Blk.new (w.alloc (.cells z7 59)) 45 #[.int .i64 0,.int .i64 0]
 rw [World.size_alloc] at k1
 have hB0:Below w.heap.size w ((w.alloc (.cells z7 59)).alloc (.cells #[.int .i64 0,.int .i64 0] 45)):=((Below.refl _ w).alloc (Nat.le_refl _) _).alloc (by simp) _
 have HK0:=Lib.hid k0
 have HK1:=Lib.hid k1
 have HB0:=Lib.hid hB0
 have HN1:=Lib.hid (fun W=>rnext_any s W hs)
 have hz2:=(cutF_size s 32).2
 have HLW:=Lib.hid hw
 have HFN:=Lib.hid hF
 have HKD:=Lib.hid hK
 obtain ⟨w1,hw1⟩:∃ w1,(cutF s 32).1=w1:=⟨_,rfl⟩
 obtain ⟨s2,hs2⟩:∃ s2,(cutF s 32).2=s2:=⟨_,rfl⟩
 rw [hw1] at hk HN1
 rw [hs2] at hz2 HN1
 have hz2':s2.size<=100000:=by omega
 have HKX:Hid (∀ k,1<=k->k<=4->((⟨(wl k).toArray⟩:ByteArray).toList == w1.toList)=decide (kindF w1=k)):=fun k h1 h4=>kind_lt h1 h4
 rw [hk] at HKX
 have HN2:=Lib.hid (fun W=>rnext_any s2 W hz2')
 have hz3:=(cutF_size s2 32).2
 obtain ⟨nm,hnm⟩:∃ nm,(cutF s2 32).1=nm:=⟨_,rfl⟩
 obtain ⟨s3,hs3⟩:∃ s3,(cutF s2 32).2=s3:=⟨_,rfl⟩
 rw [hnm] at HN2
 rw [hs3] at hz3 HN2
 have hz3':s3.size<=100000:=by omega
 have HN3:=Lib.hid (fun W=>rnext_any s3 W hz3')
 have hz4:=cutF_size s3 32
 obtain ⟨vw,hvw⟩:∃ vw,(cutF s3 32).1=vw:=⟨_,rfl⟩
 obtain ⟨s4,hs4⟩:∃ s4,(cutF s3 32).2=s4:=⟨_,rfl⟩
 rw [hvw,hs4] at hz4 HN3
 have hz4':s4.size<=100000:=by omega
 have HVP0:∀ W,Below w.heap.size w W->Calls Tryz.prog 52 #[.string vw] W fun e w'=>e=.returned (rversV (versF vw))/\Below W.heap.size W w':=fun W hb=>rvparse_any splitC vw W (by omega) (hw.below hb)
 rw [hs2,hs3,hvw] at hver
 rw [hver] at HVP0
 have HVP:Hid (∀ W,Below w.heap.size w W->Calls Tryz.prog 52 #[.string vw] W fun e w'=>e=.returned (.tuple #[.agg #[.int .i64 (va:Int),.int .i64 (vb:Int),.int .i64 (vc:Int)],.int .i64 0])/\Below W.heap.size W w'):=HVP0
 clear HVP0 hver
 have HN4:=Lib.hid (fun W=>rnext_any s4 W hz4')
 have hz5:=cutF_size s4 32
 obtain ⟨ot,hot⟩:∃ ot,(cutF s4 32).1=ot:=⟨_,rfl⟩
 obtain ⟨s5,hs5⟩:∃ s5,(cutF s4 32).2=s5:=⟨_,rfl⟩
 rw [hot,hs5] at hz5 HN4
 have hz5':s5.size<=100000:=by omega
 rw [hs2,hs3,hs4,hs5] at hrg
 have HRG:Hid (∀ W,Below w.heap.size w W->Calls Tryz.prog 53 #[.string s5] W fun e w'=>∃ (l:List Span) (a:Option Addr) (c:Nat) (k p:Int),e=.returned (.tuple #[.slice a (tp l).length c,.agg #[.int .i64 k,.int .i64 p]])/\NsAt w' (.slice a (tp l).length c) (tp l)/\Rg l/\(∀ g,(Value.slice a (tp l).length c).ownBlock=some g->W.heap.size<=g)/\Below W.heap.size W w'/\l=lo/\k=0/\p=-1):=fun W hb=>by have:=rrng_any s5 W (by omega) (hw.below hb) (hF.below hb);rw [hrg] at this;exact this
 clear hrg
 rw [hs2,hnm,hs3,hs4,hot]
 clear hz3 hz4 hz5 hnm hs3 hvw hs4 hot hs5
 clear k0 k1 hB0 hw hF hK hz2 hs
 go_enter Tryz.func31,Tryz.ntmps31
 go_wp2_with fail
 generalize (w.alloc (.cells z7 59)).alloc (.cells #[.int .i64 0,.int .i64 0] 45)=W0 at *
 refine (HN1.out _).mono ?_
 rintro e wA ⟨rfl,hbA⟩
 have hx:=Blk.new wA 59 z7
 have hA:Below wA.heap.size wA (wA.alloc (.cells z7 59)):=(Below.refl _ _).alloc (Nat.le_refl _) _
 have hA0:Below W0.heap.size W0 (wA.alloc (.cells z7 59)):=hbA.trans (hA.mono hbA.size)
 have hLR:LR w (wA.alloc (.cells z7 59)) wA.heap.size z7:=⟨HK0.out.below hA0 HK0.out.lt,HK1.out.below hA0 HK1.out.lt,hx,Nat.lt_of_lt_of_le HK1.out.lt hbA.size,HB0.out.trans (hA0.mono HB0.out.size)⟩
 have HLR:=Lib.hid hLR
 clear hbA hx hA hA0 hLR HN1 HK0 HK1 HB0
 go_wp2_with fail
 generalize wA.alloc (.cells z7 59)=W1 at *
 obtain ⟨b,hb⟩:∃ b,wA.heap.size=b:=⟨_,rfl⟩
 rw [hb] at HLR ⊢
 clear hb
 go_loopw [7] (fun kV wr=>∃ k:Nat,1<=k/\k<=5/\kV=.int .i64 (k:Int)/\LR w wr b (x7 (kup K k) ⟨#[]⟩ 0 0 0 ⟨#[]⟩ (.slice none 0 0))) (fun kV _=>5 - (intOf kV).toNat)
 case atStart=>exact ⟨1,by omega,by omega,rfl,by rw [show kup K 1=0 by unfold kup;split <;> omega];exact HLR.out⟩
 case round =>
  clear HLR
  obtain ⟨k,hk1,hk5,rfl,hLR⟩:=hrel
  have HL:=Lib.hid hLR
  clear hLR
  by_cases hlt:k<=4
  ·have hkd:=HKD.out.below HL.out.B
   have g0:=hkd.c
   have g1:=hkd.s k (by omega)
   have hc:=HKX.out k hk1 hlt
   have x0:wr.cell? ⟨b,0,none⟩=some (.int .i64 ((kup K k:Nat):Int)):=HL.out.x.cell 0
   have xf:=HL.out.x.frozen 0
   clear hkd
   by_cases he:K=k
   ·have hst:=HL.out.set 0 (.int .i64 (k:Int))
    have HST:Hid (LR w (wr.setCell ⟨b,0,none⟩ (.int .i64 (k:Int))) b (x7 (kup K (k + 1)) ⟨#[]⟩ 0 0 0 ⟨#[]⟩ (.slice none 0 0))):=by
     have e:kup K (k + 1)=k:=by unfold kup;rw [if_pos (by omega)];exact he
     rw [e];exact hst
    rw [decide_eq_true he] at hc
    generalize kup K k=KU at *
    generalize (⟨(wl k).toArray⟩:ByteArray)=WK at *
    clear hst he
    go_wp2
    go_roundw
    case rel=>exact ⟨k + 1,by omega,by omega,by go_num,HST.out⟩
    case measure=>simp [intOf];omega
   ·have HST:Hid (LR w wr b (x7 (kup K (k + 1)) ⟨#[]⟩ 0 0 0 ⟨#[]⟩ (.slice none 0 0))):=by
     have e:kup K (k + 1)=kup K k:=by
      unfold kup
      by_cases h:K<k
      ·rw [if_pos h,if_pos (by omega)]
      ·rw [if_neg h,if_neg (by omega)]
     rw [e];exact HL.out
    rw [decide_eq_false he] at hc
    generalize kup K k=KU at *
    generalize (⟨(wl k).toArray⟩:ByteArray)=WK at *
    clear he
    go_wp2
    go_roundw
    case rel=>exact ⟨k + 1,by omega,by omega,by go_num,HST.out⟩
    case measure=>simp [intOf];omega
  ·obtain rfl:k=5:=by omega
   have hku:kup K 5=K:=by unfold kup;rw [if_pos (by omega)]
   rw [hku] at HL
   clear hku
   have xc0:wr.cell? ⟨b,0,none⟩=some (.int .i64 (K:Int)):=HL.out.x.cell 0
   go_wp2_with fail
   refine (HN2.out _).mono ?_
   rintro e wB ⟨rfl,hb⟩
   have HLB:=Lib.hid (HL.out.step hb)
   clear hb HN2 HL
   have xb0:wB.cell? ⟨b,0,none⟩=some (.int .i64 (K:Int)):=HLB.out.x.cell 0
   have xb1:wB.cell? ⟨b,1,none⟩=some (.string ⟨#[]⟩):=HLB.out.x.cell 1
   have xg1:=HLB.out.x.frozen 1
   have HL2:Hid (LR w (wB.setCell ⟨b,1,none⟩ (.string nm)) b (x7 K nm 0 0 0 ⟨#[]⟩ (.slice none 0 0))):=HLB.out.set 1 (.string nm)
   have y0:(wB.setCell ⟨b,1,none⟩ (.string nm)).cell? ⟨b,0,none⟩=some (.int .i64 (K:Int)):=HL2.out.x.cell 0
   clear HLB xc0
   go_wp2_with fail
   generalize wB.setCell ⟨b,1,none⟩ (.string nm)=W2 at *
   clear xb0 xb1 xg1
   refine (HN3.out _).mono ?_
   rintro e wC ⟨rfl,hb⟩
   have HL3:=Lib.hid (HL2.out.step hb)
   have HV3:=Lib.hid (HVP.out _ HL3.out.B)
   clear hb HN3 HL2 y0 HVP
   go_wp2_with fail
   refine HV3.out.mono ?_
   rintro e wD ⟨rfl,hb⟩
   have HL4:=Lib.hid (HL3.out.step hb)
   have kv:=Blk.new wD 56 #[.int .i64 (va:Int),.int .i64 (vb:Int),.int .i64 (vc:Int)]
   have hbv:Below wD.heap.size wD (wD.alloc (.cells #[.int .i64 (va:Int),.int .i64 (vb:Int),.int .i64 (vc:Int)] 56)):=(Below.refl _ _).alloc (Nat.le_refl _) _
   have HL:=Lib.hid (HL4.out.step hbv)
   have HKV:=Lib.hid kv
   clear hb hbv HL3 HL4 HV3 kv
   have v0:=HKV.out.cell 0
   have v1:=HKV.out.cell 1
   have v2:=HKV.out.cell 2
   have e0:(wD.alloc (.cells #[.int .i64 (va:Int),.int .i64 (vb:Int),.int .i64 (vc:Int)] 56)).cell? ⟨b,0,none⟩=some (.int .i64 (K:Int)):=HL.out.x.cell 0
   have e2:(wD.alloc (.cells #[.int .i64 (va:Int),.int .i64 (vb:Int),.int .i64 (vc:Int)] 56)).cell? ⟨b,2,none⟩=some (.int .i64 0):=HL.out.x.cell 2
   have e3:(wD.alloc (.cells #[.int .i64 (va:Int),.int .i64 (vb:Int),.int .i64 (vc:Int)] 56)).cell? ⟨b,3,none⟩=some (.int .i64 0):=HL.out.x.cell 3
   have e4:(wD.alloc (.cells #[.int .i64 (va:Int),.int .i64 (vb:Int),.int .i64 (vc:Int)] 56)).cell? ⟨b,4,none⟩=some (.int .i64 0):=HL.out.x.cell 4
   have e2f:=HL.out.x.frozen 2
   have e3f:=HL.out.x.frozen 3
   have e4f:=HL.out.x.frozen 4
   have hz5:=(((HL.out.set 2 (.int .i64 (va:Int))).set 3 (.int .i64 (vb:Int))).set 4 (.int .i64 (vc:Int)))
   have HX5:Hid (LR w ((((wD.alloc (.cells #[.int .i64 (va:Int),.int .i64 (vb:Int),.int .i64 (vc:Int)] 56)).setCell ⟨b,2,none⟩ (.int .i64 (va:Int))).setCell ⟨b,3,none⟩ (.int .i64 (vb:Int))).setCell ⟨b,4,none⟩ (.int .i64 (vc:Int))) b (x7 K nm (va:Int) (vb:Int) (vc:Int) ⟨#[]⟩ (.slice none 0 0))):=hz5
   have m0:((((wD.alloc (.cells #[.int .i64 (va:Int),.int .i64 (vb:Int),.int .i64 (vc:Int)] 56)).setCell ⟨b,2,none⟩ (.int .i64 (va:Int))).setCell ⟨b,3,none⟩ (.int .i64 (vb:Int))).setCell ⟨b,4,none⟩ (.int .i64 (vc:Int))).cell? ⟨b,0,none⟩=some (.int .i64 (K:Int)):=hz5.x.cell 0
   clear hz5 HL
   go_upto_region 17 with fail
   obtain ⟨W5,hW5⟩:∃ W5,((((wD.alloc (.cells #[.int .i64 (va:Int),.int .i64 (vb:Int),.int .i64 (vc:Int)] 56)).setCell ⟨b,2,none⟩ (.int .i64 (va:Int))).setCell ⟨b,3,none⟩ (.int .i64 (vb:Int))).setCell ⟨b,4,none⟩ (.int .i64 (vc:Int)))=W5:=⟨_,rfl⟩
   rw [hW5] at HX5 m0 ⊢
   clear hW5 v0 v1 v2 e0 e2 e3 e4 e2f e3f e4f HKV
   go_wp2_with fail
   refine (HN4.out _).mono ?_
   rintro e wO ⟨rfl,hb⟩
   have HLO:=Lib.hid (HX5.out.step hb)
   clear hb HN4 HX5 m0
   have o0:wO.cell? ⟨b,0,none⟩=some (.int .i64 (K:Int)):=HLO.out.x.cell 0
   have o5:wO.cell? ⟨b,5,none⟩=some (.string ⟨#[]⟩):=HLO.out.x.cell 5
   have o5f:=HLO.out.x.frozen 5
   have HX:Hid (LR w (wO.setCell ⟨b,5,none⟩ (.string ot)) b (x7 K nm (va:Int) (vb:Int) (vc:Int) ot (.slice none 0 0))):=HLO.out.set 5 (.string ot)
   clear HLO
   go_upto_region 23 with fail
   generalize wO.setCell ⟨b,5,none⟩ (.string ot)=W8 at *
   clear o0 o5 o5f
   go_wp2_with fail
   refine (HRG.out _ HX.out.B).mono ?_
   rintro e wG ⟨l',ra,rc,k',p',rfl,nl,gl,fl,hb,hm1,hm2,hm3⟩
   have hbq:Below wG.heap.size wG (wG.alloc (.cells #[.int .i64 k',.int .i64 p'] 45)):=(Below.refl _ _).alloc (Nat.le_refl _) _
   have HG:=Lib.hid ((HX.out.step hb).step hbq)
   have HNG:=Lib.hid (nl.below hbq (Nat.le_refl _))
   have HQ:=Lib.hid (Blk.new wG 45 #[.int .i64 k',.int .i64 p'])
   have hbx:=HX.out.x.lt
   have hbne:=HX.out.ne
   have hgs:=hb.size
   have HFL:Hid (∀ g,(Value.slice ra (tp l').length rc).ownBlock=some g->b<g):=fun g hg=>by have:=fl g hg;omega
   have q0:(wG.alloc (.cells #[.int .i64 k',.int .i64 p'] 45)).cell? ⟨wG.heap.size,0,none⟩=some (.int .i64 k'):=HQ.out.cell 0
   have q1:(wG.alloc (.cells #[.int .i64 k',.int .i64 p'] 45)).cell? ⟨wG.heap.size,1,none⟩=some (.int .i64 p'):=HQ.out.cell 1
   have n5:¬ wG.heap.size=w.heap.size:=by omega
   have n6:¬ wG.heap.size=w.heap.size + 1:=by omega
   have n7:¬ wG.heap.size=b:=by omega
   have HBNE:=Lib.hid hbne
   clear hb hbq nl fl hbx hbne hgs HX HRG HQ
   subst hm1
   subst hm2
   subst hm3
   have t6:(wG.alloc (.cells #[.int .i64 0,.int .i64 (-1)] 45)).cell? ⟨b,6,none⟩=some (.slice none 0 0):=HG.out.x.cell 6
   have t6f:=HG.out.x.frozen 6
   have HE:Hid (LR w ((wG.alloc (.cells #[.int .i64 0,.int .i64 (-1)] 45)).setCell ⟨b,6,none⟩ (.slice ra (tp l').length rc)) b (x7 K nm (va:Int) (vb:Int) (vc:Int) ot (.slice ra (tp l').length rc))):=HG.out.set 6 (.slice ra (tp l').length rc)
   have HNE:Hid (NsAt ((wG.alloc (.cells #[.int .i64 0,.int .i64 (-1)] 45)).setCell ⟨b,6,none⟩ (.slice ra (tp l').length rc)) (.slice ra (tp l').length rc) (tp l')):=by
    refine ⟨HNG.out.form,fun i hi=>?_⟩
    obtain ⟨g,cap2,e,hg,hc⟩:=HNG.out.cells i hi
    have:=HFL.out g (by rw [e];rfl)
    exact ⟨g,cap2,e,by simp only [World.setCell,Array.size_modify];exact hg,(cell_set_other (by omega)).trans hc⟩
   have HFG:Hid (∀ g,(Value.slice ra (tp l').length rc).ownBlock=some g->w.heap.size + 1<g):=fun g hg=>by have:=HFL.out g hg;have:=HBNE.out;omega
   clear HNG HG HFL
   go_upto_region 27 with fail
   clear q0 q1 t6 t6f n5 n6 n7
   generalize (wG.alloc (.cells #[.int .i64 0,.int .i64 (-1)] 45)).setCell ⟨b,6,none⟩ (.slice ra (tp l').length rc)=W7 at *
   have hfn:=HFN.out.below HE.out.B
   have gf0:W7.cell? ⟨0,0,none⟩=some (.int .i64 0):=hfn.c0
   have gf1:W7.cell? ⟨0,1,none⟩=some (.int .i64 (-1)):=hfn.c1
   have hbne:=HE.out.ne
   have hlw:=HFN.out.lt
   have n1:¬ 0=w.heap.size:=by omega
   have n2:¬ b=w.heap.size:=by omega
   have n3:¬ b=w.heap.size + 1:=by omega
   have n4:¬ w.heap.size=0:=by omega
   clear hbne hlw
   have zc0:W7.cell? ⟨w.heap.size,0,none⟩=some (.int .i64 0):=HE.out.z.cell 0
   have zc1:W7.cell? ⟨w.heap.size,1,none⟩=some (.string ⟨#[]⟩):=HE.out.z.cell 1
   have zc2:W7.cell? ⟨w.heap.size,2,none⟩=some (.int .i64 0):=HE.out.z.cell 2
   have zc3:W7.cell? ⟨w.heap.size,3,none⟩=some (.int .i64 0):=HE.out.z.cell 3
   have zc4:W7.cell? ⟨w.heap.size,4,none⟩=some (.int .i64 0):=HE.out.z.cell 4
   have zc5:W7.cell? ⟨w.heap.size,5,none⟩=some (.string ⟨#[]⟩):=HE.out.z.cell 5
   have zc6:W7.cell? ⟨w.heap.size,6,none⟩=some (.slice none 0 0):=HE.out.z.cell 6
   have zf0:=HE.out.z.frozen 0
   have zf1:=HE.out.z.frozen 1
   have zf2:=HE.out.z.frozen 2
   have zf3:=HE.out.z.frozen 3
   have zf4:=HE.out.z.frozen 4
   have zf5:=HE.out.z.frozen 5
   have zf6:=HE.out.z.frozen 6
   have fc0:W7.cell? ⟨w.heap.size + 1,0,none⟩=some (.int .i64 0):=HE.out.f.cell 0
   have fc1:W7.cell? ⟨w.heap.size + 1,1,none⟩=some (.int .i64 0):=HE.out.f.cell 1
   have ff0:=HE.out.f.frozen 0
   have ff1:=HE.out.f.frozen 1
   have xx0:W7.cell? ⟨b,0,none⟩=some (.int .i64 (K:Int)):=HE.out.x.cell 0
   have xx1:W7.cell? ⟨b,1,none⟩=some (.string nm):=HE.out.x.cell 1
   have xx2:W7.cell? ⟨b,2,none⟩=some (.int .i64 (va:Int)):=HE.out.x.cell 2
   have xx3:W7.cell? ⟨b,3,none⟩=some (.int .i64 (vb:Int)):=HE.out.x.cell 3
   have xx4:W7.cell? ⟨b,4,none⟩=some (.int .i64 (vc:Int)):=HE.out.x.cell 4
   have xx5:W7.cell? ⟨b,5,none⟩=some (.string ot):=HE.out.x.cell 5
   have xx6:W7.cell? ⟨b,6,none⟩=some (.slice ra (tp l').length rc):=HE.out.x.cell 6
   obtain ⟨Z,hZ,qz,qf,qB,qN⟩:=HE.out.done (.int .i64 (K:Int)) (.string nm) (.int .i64 (va:Int)) (.int .i64 (vb:Int)) (.int .i64 (vc:Int)) (.string ot) (.slice ra (tp l').length rc) (.int .i64 0) (.int .i64 (-1))
   have HZ:=Lib.hid hZ
   have HQZ:=Lib.hid qz
   have HQF:=Lib.hid qf
   have HQB:=Lib.hid qB
   have HQN:=Lib.hid qN
   clear hZ qz qf qB qN hfn
   go_wp2_with fail
   go_big_region
   clear gf0 gf1 n1 n2 n3 n4
   clear zc0 zc1 zc2 zc3 zc4 zc5 zc6 zf0 zf1 zf2 zf3 zf4 zf5 zf6 fc0 fc1 ff0 ff1
   clear xx0 xx1 xx2 xx3 xx4 xx5 xx6
   rw [HZ.out]
   go_wp2
   have r0:=HQZ.out.cell 0
   have r1:=HQZ.out.cell 1
   have r2:=HQZ.out.cell 2
   have r3:=HQZ.out.cell 3
   have r4:=HQZ.out.cell 4
   have r5:=HQZ.out.cell 5
   have r6:=HQZ.out.cell 6
   have s0:=HQF.out.cell 0
   have s1:=HQF.out.cell 1
   refine bodyPost_ret (v:=.tuple #[.agg #[.int .i64 (K:Int),.string nm,.int .i64 (va:Int),.int .i64 (vb:Int),.int .i64 (vc:Int),.string ot,(.slice ra (tp l').length rc)],.agg #[.int .i64 0,.int .i64 (-1)]]) (by simp [results,Tryz.results31,go_sem,r0,r1,r2,r3,r4,r5,r6,s0,s1]) rfl ?_
   exact ⟨⟨K,nm,(va:Int),(vb:Int),(vc:Int),ot,l'⟩,ra,rc,0,-1,rfl,(HQN.out _ _ HFG.out HNE.out).drew,gl,fun g hg=>by have:=HFG.out g hg;omega,HQB.out.drew,rfl,rfl,rfl⟩
end
section
open Go.RowKit Go.Shelf Sv
theorem rline_any (s:ByteArray) (w:World) (hs:s.size<=100000) (hw:Lb w) (hF:FineR w) (ad:Addr) (cap:Nat) (hK:KindsAt w ad cap):Calls Tryz.prog 31 #[.string s] w (RlRes w (lineF s)):=by
 have h4:=kindF_le (cutF s 32).1
 have h:kindF (cutF s 32).1=0\/kindF (cutF s 32).1=1\/kindF (cutF s 32).1=2\/kindF (cutF s 32).1=3\/kindF (cutF s 32).1=4:=by omega
 unfold lineF
 rcases h with h | h | h | h | h
 ·rw [h];exact rline_none s w hs hw hF ad cap hK h
 ·rw [h,if_neg (by decide),if_neg (by decide)]
  cases hv:versF (cutF (cutF (cutF s 32).2 32).2 32).1 with
  | error ke=>exact rline_ver s w hs hw hF ad cap hK 1 (Or.inl rfl) h ke hv
  | ok ns =>
   obtain ⟨a,b,c,rfl⟩:=len3 (versF_len hv).1
   simp only [if_pos]
   by_cases hr:(cutF (cutF (cutF s 32).2 32).2 32).2.size=0
   ·rw [if_pos hr];exact rline_pkg s w hs hw hF ad cap hK h a b c hv hr
   ·rw [if_neg hr];exact rline_pkg_bad s w hs hw hF ad cap hK h a b c hv hr
 ·rw [h,if_neg (by decide),if_neg (by decide)]
  cases hv:versF (cutF (cutF (cutF s 32).2 32).2 32).1 with
  | error ke=>exact rline_ver s w hs hw hF ad cap hK 2 (Or.inr (Or.inl rfl)) h ke hv
  | ok ns =>
   obtain ⟨a,b,c,rfl⟩:=len3 (versF_len hv).1
   simp only
   rw [if_neg (by decide)]
   unfold tailF
   cases hr:rngF (cutF (cutF (cutF (cutF s 32).2 32).2 32).2 32).2 with
   | error q=>obtain ⟨q,o⟩:=q;exact rline_pair_bad s w hs hw hF ad cap hK 2 (Or.inl rfl) h a b c hv q o hr
   | ok lo=>exact rline_pair s w hs hw hF ad cap hK 2 (Or.inl rfl) h a b c hv lo hr
 ·rw [h,if_neg (by decide),if_neg (by decide)]
  cases hv:versF (cutF (cutF (cutF s 32).2 32).2 32).1 with
  | error ke=>exact rline_ver s w hs hw hF ad cap hK 3 (Or.inr (Or.inr rfl)) h ke hv
  | ok ns =>
   obtain ⟨a,b,c,rfl⟩:=len3 (versF_len hv).1
   simp only
   rw [if_neg (by decide)]
   unfold tailF
   cases hr:rngF (cutF (cutF (cutF (cutF s 32).2 32).2 32).2 32).2 with
   | error q=>obtain ⟨q,o⟩:=q;exact rline_pair_bad s w hs hw hF ad cap hK 3 (Or.inr rfl) h a b c hv q o hr
   | ok lo=>exact rline_pair s w hs hw hF ad cap hK 3 (Or.inr rfl) h a b c hv lo hr
 ·rw [h,if_neg (by decide),if_pos rfl]
  unfold tailF
  cases hr:rngF (cutF (cutF s 32).2 32).2 with
  | error q=>obtain ⟨q,o⟩:=q;exact rline_root_bad s w hs hw hF ad cap hK h q o hr
  | ok lo=>exact rline_root s w hs hw hF ad cap hK h lo hr
end
end Go.Proofs.YtlamemjfaogjmaaGreatDoor
