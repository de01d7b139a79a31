/- ReasonAll: the law's walk. -/
import Derived.Test.YtiihalknffbjpaaGreatDoorCtParse
import Derived.Test.YtiihalknffbjpaaGreatDoorRaRCores
set_option maxHeartbeats 8000000
set_option maxRecDepth 100000
namespace Go.Proofs.YtiihalknffbjpaaGreatDoor
section
open Go.RowKit Go.Deep Go.Shelf Sv
theorem zdS:∀(ls:List Ln) (i:Nat) (its:List It) (k:Int) (j:Nat),zU ls i its=.error (k,j)->k≠0:=by
 intro ls
 induction ls with
 |nil=>intro i its k j h;cases h
 |cons x r ih =>
  intro i its k j h;unfold zU at h;split at h
  ·rename_i hz;cases h;exact hz
  ·split at h
   ·split at h
    ·cases h;decide
    ·split at h
     ·cases h;decide
     ·exact ih _ _ _ _ h
   ·exact ih _ _ _ _ h
theorem XZ{ls:List Ln}{q:Int}{o:Option Nat}(h:zQ ls=.error (q,o)):q≠0:=by
 unfold zQ at h;split at h
 ·cases h;decide
 ·split at h
  ·rename_i e he;obtain⟨e1,e2⟩:=e;cases h;exact zdS _ _ _ _ _ he
  ·split at h
   ·cases h;decide
   ·cases h
def J8(w:World)(r:Except (Int × Option Nat) (List Ln × List It))(e:Ending)(w':World):Prop :=
 ∃(v:Value) (k p:Int),e=.returned (.tuple #[v,.agg #[.int .i64 k,.int .i64 p]])/\zB w w'/\match r with
  |.ok (ls,_)=>RLs w' v ls/\k=0/\p=-1
  |.error (q,o)=>v=.slice none 0 0/\k=q/\p=Qx o
theorem zge(s:ByteArray)(w:World)(h:20000<s.size):zC 71 #[.string s] w (J8 w (.error (4,none))):=by
 have h':(20000:Int)<(s.size:Int):=by omega
 have HBR:=zH (Qf 4 (w.alloc (.cells #[.int .i64 0,.int .i64 0] 96)));have kf:=Blk.new w 96 #[.int .i64 0,.int .i64 0];have hbf:zB w (w.alloc (.cells #[.int .i64 0,.int .i64 0] 96)):=(Below.refl _ w).alloc zN _;clear h;go_enter Tryz.func71,Tryz.ntmps71;go_wp2_with fail;refine HBR.out.mono ?_;rintro e w1 ⟨rfl,hb1⟩;have kf1:=kf.below hb1 kf.lt;have hB1:=zT hbf hb1;have q0:_=some (Value.int .i64 0):=kf1.cell 0;have q1:_=some (Value.int .i64 0):=kf1.cell 1;have q2:=kf1.frozen 0;have q3:=kf1.frozen 1;obtain⟨⟨p0,p1⟩,p2,p3,p4⟩:=xP kf1 hB1 zN 4 (-1);have P2:=zH p2;have P3:=zH p3;have P4:=zH p4;clear p2 p3 p4;clear kf kf1 hbf hb1 HBR hB1;go_wp2;exact bodyPost_ret (v:=.tuple #[.slice none 0 0,.agg #[.int .i64 4,.int .i64 (-1)]]) (by simp[results,Tryz.results71,go_sem,P2.out,P3.out]) rfl ⟨_,_,_,rfl,P4.out,rfl,rfl,rfl⟩
theorem zk8{L:List (Nat × ByteArray)}{k:Nat}(hk:k<L.length):(((L.map (·.2)).map Value.string).toArray)[k]?=some (.string (px L k).2):=by
 rw[ZH L k hk];simp[hk]
def ziO(L:List (Nat × ByteArray))(W0:World)(lV sV aV kV:Value)(wz:World):Prop:=∃(k a:Nat) (acc:List (Nat × Ln)) (vs:List Value),k<=L.length/\kV=.int .i64 k/\aV=.int .i64 a/\a<=30000/\(k<L.length->a=(px L k).1)/\acc.length<=k/\plF ((L.take k).filter (fun x=>decide (x.2.size≠0))) []=.ok acc/\RPS W0 wz lV sV (acc.map Prod.snd) vs (acc.map Prod.fst)
theorem zky(s:ByteArray)(w:World)(hw:Lb w)(hF:yf w)(ad:Addr)(cap:Nat)(hK:yK w ad cap):zC 71 #[.string s] w (J8 w (yD s)):=by
 by_cases hs:20000<s.size
 ·have e:yD s=.error (4,none):=by unfold yD;rw[if_pos hs]
  rw[e];exact zge s w hs
 obtain⟨R,hR⟩:∃R,yD s=R:=⟨_,rfl⟩;rw[hR];have hR2:=hR;unfold yD at hR2;rw[if_neg hs,zf7 s s.size 0 (by omega) (Nat.zero_le _)] at hR2;have hcu:=X9 s ⟨#[10]⟩;have HSP:=zH (Kr s ⟨#[10]⟩ (by decide) (w.alloc (.cells #[.int .i64 0,.int .i64 0] 96)) (by omega) (hw.below ((Below.refl _ w).alloc zN _)));generalize zk s ⟨#[10]⟩ s.size 0=L at *;have HCU:=zH hcu;have HR:=zH hR2;have HW:=zH hw;have HFN:=zH hF;have HKD:=zH hK;have hs':¬(20000:Int)<(s.size:Int):=by omega
 have hLl:=hcu.len;have kf:=Blk.new w 96 #[.int .i64 0,.int .i64 0];have hbf:zB w (w.alloc (.cells #[.int .i64 0,.int .i64 0] 96)):=(Below.refl _ w).alloc zN _;clear hR hR2 hcu hw hF hK;obtain⟨i0,hin,hz0,hz1,hz2⟩:=info_parts zfn;obtain⟨i1,hin1,hy0,hy1,hy2⟩:=info_parts yY;go_enter Tryz.func71,Tryz.ntmps71;go_wp2_with fail;refine HSP.out.mono ?_;rintro e W0 ⟨rfl,hpc,hb0⟩;have HKF:Hid (Blk W0 w.heap.size 96 #[.int .i64 0,.int .i64 0]):=kf.below hb0 kf.lt;have HPC:=zH hpc;have HB0:Hid (zB w W0):=zT hbf hb0;clear kf hbf hpc hb0 HSP;rw[World.size_alloc] at HPC;simp only[World.size_alloc];go_wp2_with fail;go_loopw [4,5,6,19] (fun lV sV aV kV wz=>ziO L W0 lV sV aV kV wz) (fun _ _ _ kV _=>L.length-(intOf kV).toNat)
 case atStart=>exact⟨0,0,[],[],Nat.zero_le _,rfl,rfl,by omega,fun _=>HCU.out.first.symm,Nat.le_refl _,rfl,RPS.start _⟩
 case round =>
  obtain⟨k,a,acc,vs,hk,rfl,rfl,ha,hak,hacl,hpl,hps⟩:=hrel;obtain⟨ls,hls⟩:∃ls,acc.map Prod.snd=ls:=⟨_,rfl⟩;obtain⟨ss,hss⟩:∃ss,acc.map Prod.fst=ss:=⟨_,rfl⟩;have hl2:ls.length<=k:=by rw[<-hls,List.length_map];exact hacl
  have hl1:ss.length<=k:=by rw[<-hss,List.length_map];exact hacl
  rw[hls,hss] at hps;have HLS:=zH hls;have HSS:=zH hss;clear hls hss;obtain⟨lva,lvc,rfl,-⟩:=(zj hps.lrow).form;obtain⟨sva,svc,rfl,-⟩:=(zj hps.srow).form
  by_cases hlt:k<L.length
  ·have hroom:=HCU.out.room k hlt;have hnext:=HCU.out.next k;have ea:=hak hlt;have htk:=zeO hlt hpl;have cp:wr.cell? ⟨w.heap.size+1,k,none⟩=some (.string (px L k).2):=((HPC.out.below hps.B HPC.out.lt).cell k).trans (zk8 hlt);have hm:(⟨#[10]⟩:ByteArray).size=1:=rfl;rw[hm] at hnext;have HTK:=zH htk;have HPS:=zH hps;clear htk hpl hps hak hm;obtain⟨pl,hpl⟩:∃pl,(px L k).1=pl:=⟨_,rfl⟩;obtain⟨pc,hpc⟩:∃pc,(px L k).2=pc:=⟨_,rfl⟩;rw[hpl,hpc] at hroom hnext HTK;rw[hpl] at ea;rw[hpc] at cp;clear hpl hpc;subst ea;have hnx:=zH hnext;clear hnext
   by_cases h0:pc.size=0
   ·obtain rfl:=ZL h0;have HT2:Hid (plF ((L.take (k+1)).filter (fun x=>decide (x.2.size≠0))) []=.ok acc):=by have h:=HTK.out;rw[if_pos (show (⟨#[]⟩:ByteArray).size=0 from rfl)] at h;exact h
    clear HTK h0;clear hin hz0 hz1 hz2 hin1 hy0 hy1 hy2;go_wp2;go_roundw
    case rel=>exact⟨k+1,a+1,acc,vs,by omega,by go_num,by go_num,by omega,fun h=>(hnx.out h).symm,by omega,HT2.out,by rw[HLS.out,HSS.out];exact HPS.out⟩
    case measure=>simp[intOf];omega
   ·have he1:pc.toList.isEmpty=false:=ZG (by omega);have he2:(pc.toList==[])=false:=by rw[beq_eq_false_iff_ne];intro h;rw[h] at he1;cases he1
    have hBw:=zT HB0.out HPS.out.B;have HLP:=zH (zly pc wr (by omega) (HW.out.below hBw) (HFN.out.below hBw) ad cap (HKD.out.below hBw));rw[if_neg h0] at HTK;clear hBw;go_wp2_with fail;refine HLP.out.mono ?_;rintro e w1 ⟨x,ra,rc,q,p,rfl,hns,hrg,hnew,hb1,hok⟩;have hps1:=HPS.out.step hb1;have hA:zB w1 ((w1.alloc (.cells #[.int .i64 x.kind,.string x.name,.int .i64 x.a,.int .i64 x.b,.int .i64 x.c,.string x.other,.slice ra (tp x.rng).length rc] 101)).alloc (.cells #[.int .i64 q,.int .i64 p] 96)):=((Below.refl _ w1).alloc zN _).alloc (by simp) _;have kl:=(Blk.new w1 101 #[.int .i64 x.kind,.string x.name,.int .i64 x.a,.int .i64 x.b,.int .i64 x.c,.string x.other,.slice ra (tp x.rng).length rc]).alloc (.cells #[.int .i64 q,.int .i64 p] 96);have kq:=Blk.new (w1.alloc (.cells #[.int .i64 x.kind,.string x.name,.int .i64 x.a,.int .i64 x.b,.int .i64 x.c,.string x.other,.slice ra (tp x.rng).length rc] 101)) 96 #[.int .i64 q,.int .i64 p];rw[World.size_alloc] at kq;have HP2:=zH (hps1.step hA);have HNS:=zH (hns.below hA zN);have HRG:=zH hrg;have HNW:=zH hnew;have HOK:=zH hok;have HKL:=zH kl;have HKQ:=zH kq;have hwr:=hb1.size;clear hps1 hA kl kq hns hrg hnew hok hb1 HLP cp;go_upto_region 11 with fail;generalize (w1.alloc (.cells #[.int .i64 x.kind,.string x.name,.int .i64 x.a,.int .i64 x.b,.int .i64 x.c,.string x.other,.slice ra (tp x.rng).length rc] 101)).alloc (.cells #[.int .i64 q,.int .i64 p] 96)=W2 at *;have k0:_=some (Value.int .i64 q):=HKQ.out.cell 0;have k1:_=some (Value.int .i64 p):=HKQ.out.cell 1;cases hlf:Zl pc with
    |error e =>
     obtain⟨q',o⟩:=e;have hq0:=zbH hlf;have h1:=HOK.out;have h2:=HTK.out;rw[hlf] at h1 h2;obtain⟨rfl,rfl,rfl⟩:=h1;have HRE:Hid (R=.error (q,some a)):=by show _=_;rw[<-HR.out,zlH h2]
     have hq1:(q==0)=false:=by rw[beq_eq_false_iff_ne];exact hq0
     have kf2:Blk W2 w.heap.size 96 #[.int .i64 0,.int .i64 0]:=HKF.out.below HP2.out.B HKF.out.lt;have hB2:zB w W2:=zT HB0.out HP2.out.B;have q0:_=some (Value.int .i64 0):=kf2.cell 0;have q1:_=some (Value.int .i64 0):=kf2.cell 1;have q2:=kf2.frozen 0;have q3:=kf2.frozen 1;obtain⟨⟨p0,p1⟩,p2,p3,p4⟩:=xP kf2 hB2 zN q (a:Int);have P2:=zH p2;have P3:=zH p3;have P4:=zH p4;clear p2 p3 p4;clear hlf h2 hq0 HTK HR HOK HPS;go_wp2_with fail;go_region;go_wp2;exact bodyPost_ret (v:=.tuple #[.slice none 0 0,.agg #[.int .i64 q,.int .i64 a]]) (by simp[results,Tryz.results71,go_sem,P2.out,P3.out]) rfl (by rw[HRE.out];exact⟨_,_,_,rfl,P4.out.drew,rfl,rfl,rfl⟩)
    |ok y =>
     have h1:=HOK.out;have h2:=HTK.out;rw[hlf] at h1 h2;obtain⟨rfl,rfl,rfl⟩:=h1;have HT2:Hid (plF ((L.take (k+1)).filter (fun x=>decide (x.2.size≠0))) []=.ok (acc++[(a,x)])):=h2;have d0:_=some (Value.int .i64 x.kind):=HKL.out.cell 0;have d1:_=some (Value.string x.name):=HKL.out.cell 1;have d2:_=some (Value.int .i64 x.a):=HKL.out.cell 2;have d3:_=some (Value.int .i64 x.b):=HKL.out.cell 3;have d4:_=some (Value.int .i64 x.c):=HKL.out.cell 4;have d5:_=some (Value.string x.other):=HKL.out.cell 5;have d6:_=some (Value.slice ra (tp x.rng).length rc):=HKL.out.cell 6;have HROW:=zH HP2.out.lrow;have hw2:=HP2.out.B.size;have hwr0:=HPS.out.B.size;have HLT:=zH HPS.out.lrow;have HST:=zH HPS.out.srow;clear hlf h2 HTK HOK HPS k1 HKQ HKL;have hb3:zB W2 (W2.alloc (.cells #[.int .i64 x.kind,.string x.name,.int .i64 x.a,.int .i64 x.b,.int .i64 x.c,.string x.other,.slice ra (tp x.rng).length rc] 101)):=zF.alloc zN _;have HP3:=zH (HP2.out.step hb3);have HNS3:=zH (HNS.out.below hb3 zN);clear hb3;go_wp2_with (at_builtin;refine wpList_append_own_at _ rfl _ _ 23 rfl W0.heap.size 101 i0 (.agg #[.int .i64 0,.string ⟨#[]⟩,.int .i64 0,.int .i64 0,.int .i64 0,.string ⟨#[]⟩,.slice none 0 0]) 7 88 Tryz.underlying23 hin hz0 hz1 hz2 rfl (by decide) _ _ _ rfl (HROW.out.alloc _) ⟨W2.heap.size,0,none⟩ 1 1 [.int .i64 x.kind,.string x.name,.int .i64 x.a,.int .i64 x.b,.int .i64 x.c,.string x.other,.slice ra (tp x.rng).length rc] rfl rfl ?c1 ?c2 ?c3 ?c4 ?c5 ?_)
     case c1=>exact zal _ _ _ _ _ _ _ _ _
     case c2=>intro u hu;simp at hu;rcases hu with rfl|rfl|rfl|rfl|rfl|rfl|rfl<;>rfl
     case c3=>unfold maxLen;omega
     case c4=>omega
     case c5=>simp;omega
     intro v4 w4 hown4 hgrow4 _ hloc4;have hn4:0<x.rng.length->∀g,(Value.slice ra (tp x.rng).length rc).ownBlock=some g->W0.heap.size<=g/\some g≠(Value.slice lva ls.length lvc).ownBlock/\some g≠(Value.slice sva ss.length svc).ownBlock:=fun _ g hg=>⟨Nat.le_trans hwr0 (HNW.out g hg),fun e=>by have h1:=HNW.out g hg;have h2:=(HLT.out.lt g e.symm).2;omega,fun e=>by have h1:=HNW.out g hg;have h2:=(HST.out.lt g e.symm).2;omega⟩;have hp4:=HP3.out.appL HNS3.out HRG.out hn4 hown4 hgrow4 (by rw[World.size_alloc];exact hloc4);obtain⟨v4a,v4c,rfl,-⟩:=(zj hp4.lrow).form;have HP4:=zH hp4;have HROW4:=zH hp4.srow;have hw4:=hp4.B.size;have hb5:zB w4 (w4.alloc (.cells #[.int .i64 a] 3)):=zF.alloc zN _;have HP5:=zH (hp4.step hb5);clear hown4 hgrow4 hloc4 hn4 hp4 hb5 HROW HP3 HP2 HNS HNS3 HRG HNW HLT HST d0 d1 d2 d3 d4 d5 d6;go_wp2_with (at_builtin;refine wpList_append_own_at _ rfl _ _ 47 rfl W0.heap.size 3 i1 (.int .i64 0) 1 8 Tryz.underlying47 hin1 hy0 hy1 hy2 rfl (by decide) _ _ _ rfl (HROW4.out.alloc _) ⟨w4.heap.size,0,none⟩ 1 1 [.int .i64 a] rfl rfl ?a1 ?a2 ?a3 ?a4 ?a5 ?_)
     case a1=>exact yJ _ _ _
     case a2=>exact yI _
     case a3=>unfold maxLen;omega
     case a4=>omega
     case a5=>simp;omega
     intro v6 w6 hown6 hgrow6 _ hloc6;have HP6:=zH (HP5.out.appS (k:=a) hown6 hgrow6 (by rw[World.size_alloc];exact hloc6));clear hown6 hgrow6 hloc6 HP5 HP4 HROW4;go_wp2;go_roundw
     case rel=>exact⟨k+1,a+pc.size+1,acc++[(a,x)],vs++[.slice ra (tp x.rng).length rc],by omega,by go_num,by go_num,by omega,fun h=>(hnx.out h).symm,by simp;omega,HT2.out,by have h:=HP6.out;rw[show (ls++[x]).length=ls.length+1 by simp] at h;rw[List.map_append,List.map_append,HLS.out,HSS.out];exact h⟩
     case measure=>simp[intOf];omega
  ·obtain rfl:k=L.length:=by omega
   have hfull:plF (L.filter (fun x=>decide (x.2.size≠0))) []=.ok acc:=by have h:=hpl;rw[List.take_length] at h;exact h
   have hB0:=zT HB0.out hps.B;have HCC:=zH (ziU ls (.slice lva ls.length lvc) wr hps.rls (by omega) (HFN.out.below hB0));have HFU:=zH hfull;have HP1:=zH hps;clear hpl hfull hB0 hps HCU HPC hak hlt hacl hin hz0 hz1 hz2 hin1 hy0 hy1 hy2;obtain⟨NK,hNK⟩:∃NK,ZU (zQ ls)=NK:=⟨_,rfl⟩;rw[hNK] at HCC;go_wp2_with fail;refine HCC.out.mono ?_;rintro e w1 ⟨rfl,hb1⟩;have hA:zB w1 (w1.alloc (.cells #[.int .i64 NK.1,.int .i64 NK.2] 96)):=zF.alloc zN _;have kq:=Blk.new w1 96 #[.int .i64 NK.1,.int .i64 NK.2];have HP2:=zH ((HP1.out.step hb1).step hA);have HNK:=zH hNK;have hbne:w.heap.size≠w1.heap.size:=by have h1:=HKF.out.lt;have h2:=HP1.out.B.size;have h3:=hb1.size;omega
   have hble:w.heap.size<=w1.heap.size:=by have h1:=HKF.out.lt;have h2:=HP1.out.B.size;have h3:=hb1.size;omega
   clear hA hb1 HCC HP1 hNK;go_upto_region 17 with fail;generalize w1.alloc (.cells #[.int .i64 NK.1,.int .i64 NK.2] 96)=W2 at *;generalize w1.heap.size=bf at *;have kf2:Blk W2 w.heap.size 96 #[.int .i64 0,.int .i64 0]:=HKF.out.below HP2.out.B HKF.out.lt;have hB2:zB w W2:=zT HB0.out HP2.out.B;have k0:_=some (Value.int .i64 NK.1):=kq.cell 0;have k1:_=some (Value.int .i64 NK.2):=kq.cell 1;cases hn:zQ ls with
   |ok its =>have h1:=HNK.out;have h2:=HR.out;rw[HFU.out] at h2;simp only[HLS.out,hn] at h2;rw[hn] at h1;obtain rfl:(0,-1)=NK:=h1;have HRE:Hid (R=.ok (ls,its)):=h2.symm;have hf1:=HFN.out.below hB2;have g0:=hf1.c0;have g1:=hf1.c1;have q0:_=some (Value.int .i64 0):=kf2.cell 0;have q1:_=some (Value.int .i64 0):=kf2.cell 1;have q2:=kf2.frozen 0;have q3:=kf2.frozen 1;obtain⟨⟨p0,p1⟩,p2,p3,p4⟩:=xP kf2 hB2 zN 0 (-1);have P2:=zH p2;have P3:=zH p3;have P4:=zH p4;clear p2 p3 p4;have HRL:Hid (RLs ((W2.setCell ⟨w.heap.size,0,none⟩ (.int .i64 0)).setCell ⟨w.heap.size,1,none⟩ (.int .i64 (-1))) (.slice lva ls.length lvc) ls):=HP2.out.rlsSet HKF.out.lt;clear h2 hn hf1 kq kf2 HKF HNK HP2 hB2;go_wp2_with fail;go_region;go_wp2;exact bodyPost_ret (v:=.tuple #[.slice lva ls.length lvc,.agg #[.int .i64 0,.int .i64 (-1)]]) (by simp[results,Tryz.results71,go_sem,P2.out,P3.out]) rfl (by rw[HRE.out];exact⟨_,_,_,rfl,P4.out.drew,HRL.out.below zF.drew zN,rfl,rfl⟩)
   |error e =>
    obtain⟨q,o⟩:=e;have hq0:=XZ hn;cases o with
    |none =>
     have h1:=HNK.out;have h2:=HR.out;rw[HFU.out] at h2;simp only[HLS.out,hn] at h2;rw[hn] at h1;obtain rfl:(q,-1)=NK:=h1;have HRE:Hid (R=.error (q,none)):=h2.symm;have hq1:(q==0)=false:=by rw[beq_eq_false_iff_ne];exact hq0
     simp only at k0 k1;have q0:_=some (Value.int .i64 0):=kf2.cell 0;have q1:_=some (Value.int .i64 0):=kf2.cell 1;have q2:=kf2.frozen 0;have q3:=kf2.frozen 1;obtain⟨⟨p0,p1⟩,p2,p3,p4⟩:=xP kf2 hB2 zN q (-1);have P2:=zH p2;have P3:=zH p3;have P4:=zH p4;clear p2 p3 p4;clear h2 hn kq kf2 HKF HNK HP2 hB2 hq0;go_wp2_with fail;go_region;go_wp2;exact bodyPost_ret (v:=.tuple #[.slice none 0 0,.agg #[.int .i64 q,.int .i64 (-1)]]) (by simp[results,Tryz.results71,go_sem,P2.out,P3.out]) rfl (by rw[HRE.out];exact⟨_,_,_,rfl,P4.out.drew,rfl,rfl,rfl⟩)
    |some i =>
     have hil:=zab hn;have h1:=HNK.out;have h2:=HR.out;rw[HFU.out] at h2;simp only[HLS.out,HSS.out,hn] at h2;rw[hn] at h1;obtain rfl:(q,(i:Int))=NK:=h1;have hq1:(q==0)=false:=by rw[beq_eq_false_iff_ne];exact hq0
     have hsl:ss.length=ls.length:=by rw[<-HLS.out,<-HSS.out,List.length_map,List.length_map]
     have his:i<ss.length:=by omega
     obtain⟨g,cap',e1,hg,hc⟩:=(zj HP2.out.srow).cells (by omega);simp at e1;obtain⟨rfl,rfl⟩:=e1;obtain⟨Pi,hPi⟩:∃Pi,ss.getD i 0=Pi:=⟨_,rfl⟩;have ci:W2.cell? ⟨g,i,none⟩=some (.int .i64 Pi):=hc i _ (by rw[<-hPi];simp[zd,his]);rw[hPi] at h2;have HRE:Hid (R=.error (q,some Pi)):=h2.symm;simp only at k0 k1;have fz1:=kq.frozen 1;have kq3:Blk (W2.setCell ⟨bf,1,none⟩ (.int .i64 Pi)) bf 96 #[.int .i64 q,.int .i64 Pi]:=kq.set (i:=1);have kf3:Blk (W2.setCell ⟨bf,1,none⟩ (.int .i64 Pi)) w.heap.size 96 #[.int .i64 0,.int .i64 0]:=kf2.other hbne;have hB3:zB w (W2.setCell ⟨bf,1,none⟩ (.int .i64 Pi)):=hB2.setCell hble _;have HQ3:=zH kq3;have HF3:=zH kf3;have HB3:=zH hB3;clear h2 hn kq kf2 HKF HNK HP2 hB2 hq0 hPi hc kq3 kf3 hB3 hsl;go_upto_region 20 with fail;generalize W2.setCell ⟨bf,1,none⟩ (.int .i64 Pi)=W3 at *;clear k0 k1 ci fz1;have k0:_=some (Value.int .i64 q):=HQ3.out.cell 0;have k1:_=some (Value.int .i64 Pi):=HQ3.out.cell 1;have q0:_=some (Value.int .i64 0):=HF3.out.cell 0;have q1:_=some (Value.int .i64 0):=HF3.out.cell 1;have q2:=HF3.out.frozen 0;have q3:=HF3.out.frozen 1;obtain⟨⟨p0,p1⟩,p2,p3,p4⟩:=xP HF3.out HB3.out zN q (Pi:Int);have P2:=zH p2;have P3:=zH p3;have P4:=zH p4;clear p2 p3 p4;go_region;go_wp2;exact bodyPost_ret (v:=.tuple #[.slice none 0 0,.agg #[.int .i64 q,.int .i64 Pi]]) (by simp[results,Tryz.results71,go_sem,P2.out,P3.out]) rfl (by rw[HRE.out];exact⟨_,_,_,rfl,P4.out.drew,rfl,rfl,rfl⟩)
end
section
open Go.RowKit Go.Deep Sv
noncomputable def Za(s:ByteArray):Option (List Ln × List It):=if 1500<s.size then none else match yD s with
 |.error _=>none
 |.ok r=>some r
theorem zdE{s:ByteArray}{ls:List Ln}{its:List It}(h:Za s=some (ls,its)):zQ ls=.ok its:=by
 unfold Za at h;split at h
 ·cases h
 ·split at h
  ·cases h
  ·rename_i r hr;cases h;exact zhS hr
def zjn(w:World)(r:Option (List Ln × List It))(e:Ending)(w':World):Prop :=
 match r with
 |none=>e=.returned (.tuple #[.pointer none,.slice none 0 0,.bool false])/\zB w w'
 |some (ls,its)=>∃bc v,e=.returned (.tuple #[.pointer (some ⟨bc,0,none⟩),v,.bool true])/\xA w' bc ls its/\RLs w' v ls/\zB w w'
theorem zfN:∀(l:List (Nat × ByteArray)) (acc:List (Nat × Ln)) (q:Int) (i:Nat),plF l acc=.error (q,i)->q≠0:=by
 intro l
 induction l with
 |nil=>intro acc q i h;cases h
 |cons x r ih =>
  intro acc q i h;unfold plF at h;split at h
  ·rename_i e he;obtain⟨e1,e2⟩:=e;cases h;exact zbH he
  ·exact ih _ _ _ h
theorem zja{s:ByteArray}{q:Int}{o:Option Nat}(h:yD s=.error (q,o)):q≠0:=by
 unfold yD at h;split at h
 ·cases h;decide
 ·split at h
  ·rename_i e he;obtain⟨e1,e2⟩:=e;cases h;exact zfN _ _ _ _ he
  ·split at h
   ·rename_i he;cases h;exact XZ he
   ·rename_i he;cases h;exact XZ he
   ·cases h
theorem JV(s:ByteArray)(w:World)(hw:Lw w)(hF:yf w)(ad:Addr)(cap:Nat)(hK:yK w ad cap):zC 13 #[.string s] w (zjn w (Za s)):=by
 by_cases hs:1500<s.size
 ·have hf:Za s=none:=by unfold Za;rw[if_pos hs]
  have a1:(1500:Int)<(s.size:Int):=by omega
  rw[hf];clear hs hf hw hF hK;go_enter Tryz.func13,Tryz.ntmps13;go_wp2;refine bodyPost_ret (v:=.tuple #[.pointer none,.slice none 0 0,.bool false]) (by simp[results,Tryz.f13,go_sem]) rfl ?_;exact⟨rfl,Below.refl _ _⟩
 ·have a1:¬(1500:Int)<(s.size:Int):=by omega
  have HQ0:=zky s w hw.lb hF ad cap hK;have HP0:∀W,zB w W->zC 69 #[.string s] W (Xg W (yD s)):=fun W hb=>zj9 s W (hw.below hb);cases hx:yD s with
  |error e =>
   obtain⟨q,o⟩:=e;have hf:Za s=none:=by unfold Za;rw[if_neg hs,hx]
   have hq:=zja hx;have hq1:(q==0)=false:=by rw[beq_eq_false_iff_ne];exact hq
   rw[hx] at HQ0;rw[hf];have HQ:=zH HQ0;clear HQ0 HP0 hw hF hK hx hf hs hq;generalize hPO:Qx o=PO at *;have HPO:=zH hPO;clear hPO;go_enter Tryz.func13,Tryz.ntmps13;go_wp2_with fail;refine HQ.out.mono ?_;rintro e w1 ⟨v,k,p,rfl,hb1,hv,hk,hp⟩;rw[hv,hk,hp,HPO.out];clear hv hk hp;have hA:zB w1 (w1.alloc (.cells #[.int .i64 q,.int .i64 PO] 96)):=zF.alloc zN _;have kf:=Blk.new w1 96 #[.int .i64 q,.int .i64 PO];have HB1:Hid (zB w (w1.alloc (.cells #[.int .i64 q,.int .i64 PO] 96))):=zT hb1 hA;clear hA hb1 HQ;go_upto_region 4 with fail;generalize w1.alloc (.cells #[.int .i64 q,.int .i64 PO] 96)=W1 at *;generalize w1.heap.size=bf at *;have c0:_=some (Value.int .i64 q):=kf.cell 0;clear kf;go_wp2;refine bodyPost_ret (v:=.tuple #[.pointer none,.slice none 0 0,.bool false]) (by simp[results,Tryz.f13,go_sem]) rfl ?_;exact⟨rfl,HB1.out⟩
  |ok r =>
   obtain⟨ls,its⟩:=r;have hf:Za s=some (ls,its):=by unfold Za;rw[if_neg hs,hx]
   rw[hx] at HQ0 HP0;rw[hf];have HQ:=zH HQ0;have HP:=zH HP0;clear HQ0 HP0 hw hF hK hx hf hs;go_enter Tryz.func13,Tryz.ntmps13;go_wp2_with fail;refine HQ.out.mono ?_;rintro e w1 ⟨v,k,p,rfl,hb1,hv,hk,hp⟩;rw[hk,hp];clear hk hp;have hA:zB w1 (w1.alloc (.cells #[.int .i64 0,.int .i64 (-1)] 96)):=zF.alloc zN _;have kf:=Blk.new w1 96 #[.int .i64 0,.int .i64 (-1)];have HB1:Hid (zB w (w1.alloc (.cells #[.int .i64 0,.int .i64 (-1)] 96))):=zT hb1 hA;have HV1:=zH (hv.below hA zN);obtain⟨va,vc,rfl⟩:∃va vc,v=.slice va ls.length vc:=by obtain⟨vs,_,h2⟩:=hv;obtain⟨a,c,e,_⟩:=h2.form;exact⟨a,c,e⟩
   clear hA hb1 HQ hv;go_upto_region 4 with fail;generalize w1.alloc (.cells #[.int .i64 0,.int .i64 (-1)] 96)=W1 at *;generalize w1.heap.size=bf at *;have c0:_=some (Value.int .i64 0):=kf.cell 0;clear kf;go_wp2_with fail;refine(HP.out _ HB1.out).mono ?_;rintro e w2 ⟨bc,vs,rfl,hcv,-,hb2⟩;have HB2:Hid (zB w w2):=zT HB1.out hb2;have HV2:=zH (HV1.out.below hb2 zN);have HC2:=zH hcv.cat;clear hcv hb2 HP HB1 HV1 c0;go_wp2;refine bodyPost_ret (v:=.tuple #[.pointer (some ⟨bc,0,none⟩),.slice va ls.length vc,.bool true]) (by simp[results,Tryz.f13,go_sem]) rfl ?_;exact⟨bc,_,rfl,HC2.out,HV2.out,HB2.out⟩
end
section
open Go.RowKit Go.Deep Sv
theorem ziY(ls:List Ln)(its:List It)(v:Value)(m:Nat)(w:World)(h:RLs w v ls)(hN:zQ ls=.ok its) :
  zC 14 #[v,.int .i64 m] w fun e w'=>∃ca cc,e=.returned (.tuple #[.slice ca (ofL its ls).length cc,.int .i64 its.length,.bool (decide ((ofL its ls).length<=200)&&decide (its.length<=m))])/\qn w' ca ((ofL its ls).map Prod.snd)/\zB w w':=by
 obtain⟨hi24,hl100,hck⟩:=Qk hN;obtain⟨hasc,hri⟩:=KV hN;obtain⟨va,vc,rfl⟩:∃va vc,v=.slice va ls.length vc:=by obtain⟨vs,_,h2⟩:=h;obtain⟨a,c,e,_⟩:=h2.form;exact⟨a,c,e⟩
 have HRU:=zH (zcM ls its _ w h hl100 hi24 hri hasc);have HIT:Hid (∀W,zB w W->zC 46 #[.slice va ls.length vc] W fun e w'=>∃a c,e=.returned (.slice a its.length c)/\zB W w'):=fun W hW=>(Kv ls _ W (h.below hW zN) (by omega)).mono fun e w' ⟨v',h1,h2,h3⟩=>by
  rw[hri] at h2;obtain⟨a,c,e1,-⟩:=(zj h2).form;exact⟨a,c,by rw[h1,e1],h3⟩
 clear h hN hck hasc hri;generalize ofL its ls=P at *;generalize its.length=n at *;go_enter Tryz.func14,Tryz.ntmps14;go_wp2_with fail;refine HRU.out.mono ?_;rintro e w2 ⟨cv,fv,rfl,hrs2,hb2⟩;obtain⟨ca,cc,rfl⟩:∃a c,cv=.slice a P.length c:=by obtain⟨cs,h1,_⟩:=hrs2.crow;obtain⟨a,c,e,_⟩:=(zj h1).form;exact⟨a,c,by simpa using e⟩
 have hcl:qn w2 ca (P.map Prod.snd):=by
  obtain⟨cs,h1,h2,_⟩:=hrs2.crow;exact zE.cls (B:=0) (cap:=cc) h2 (by simpa using yn h1 (Nat.zero_le _))
 have HCL:=zH hcl;have HB2:=zH hb2;have HI2:=zH (HIT.out w2 hb2);clear hrs2 hb2 hcl HRU HIT;go_wp2_with fail;refine HI2.out.mono ?_;rintro e w3 ⟨ia,ic,rfl,hb3⟩;have HF:Hid (qn w3 ca (P.map Prod.snd)/\zB w w3):=⟨HCL.out.below hb3,zT HB2.out hb3⟩;clear hb3 HI2 HCL HB2
 by_cases hp:P.length<=200
 ·rw[decide_eq_true hp]
  by_cases hm:n<=m
  ·have hmi:(n:Int)<=(m:Int):=by omega
   go_wp2;refine bodyPost_ret (v:=.tuple #[.slice ca P.length cc,.int .i64 n,.bool true]) (by simp[results,Tryz.f14,go_sem]) rfl ?_;exact⟨ca,cc,by simp[hp,hm],HF.out.1,HF.out.2⟩
  ·have hmi:¬(n:Int)<=(m:Int):=by omega
   go_wp2;refine bodyPost_ret (v:=.tuple #[.slice ca P.length cc,.int .i64 n,.bool false]) (by simp[results,Tryz.f14,go_sem]) rfl ?_;exact⟨ca,cc,by simp[hp,hm],HF.out.1,HF.out.2⟩
 ·rw[decide_eq_false hp];go_wp2;refine bodyPost_ret (v:=.tuple #[.slice ca P.length cc,.int .i64 n,.bool false]) (by simp[results,Tryz.f14,go_sem]) rfl ?_;exact⟨ca,cc,by simp[hp],HF.out.1,HF.out.2⟩
end
section
open Go.RowKit Go.Deep Sv
theorem zaN(l:List Nat)(a1 a2:Option Addr)(c1 c2:Nat)(w:World)(h1:yR w a1 l)(h2:yR w a2 l)(hm:l.length<=100000) :
  zR 52 #[.slice a1 l.length c1,.slice a2 l.length c2] w (.bool true):=by
 have H1:=zH h1;have H2:=zH h2;clear h1 h2;go_enter Tryz.func52,Tryz.ntmps52;go_wp2_with fail;go_loopw [5] (fun kV wr=>∃k:Nat,k<=l.length/\kV=.int .i64 k/\zB w wr) (fun kV _=>l.length-(intOf kV).toNat)
 case atStart=>exact⟨0,Nat.zero_le _,rfl,Below.refl _ _⟩
 case round =>
  obtain⟨k,hk,rfl,hb⟩:=hrel
  by_cases hlt:k<l.length
  ·have hk0:(0:Int)<=(k:Int):=by omega
   have hk1:(k:Int)<(l.length:Int):=by omega
   obtain⟨d1,rfl,e1,q1⟩:=H1.out.below hb k hlt;obtain⟨d2,rfl,e2,q2⟩:=H2.out.below hb k hlt;have r1:wr.drew.cell? (d1.add k)=some (.int .u64 (l.getD k 0:Nat)):=q1;have r2:wr.drew.cell? (d2.add k)=some (.int .u64 (l.getD k 0:Nat)):=q2;have HB:Hid (zB w wr.drew):=hb.drew;generalize l.getD k 0=x at *;obtain⟨b1,o1,s1⟩:=d1;obtain⟨b2,o2,s2⟩:=d2;clear hb;go_upto_region 6 with fail;go_region_held3 (fun X=>X.cell? ((⟨b1,o1,s1⟩:Addr).add k)=some (.int .u64 x)/\X.cell? ((⟨b2,o2,s2⟩:Addr).add k)=some (.int .u64 x)) (exact⟨r1,r2⟩) (fail);clear q1 q2 r1 r2;go_wp2;go_roundw
   case rel=>exact⟨k+1,hlt,by go_num,HB.out⟩
   case measure=>simp[intOf];omega
  ·obtain rfl:k=l.length:=by omega
   have HB:=zH hb;clear hb H1 H2;go_wp2;go_ret;exact⟨rfl,HB.out⟩
theorem zeP(s:ByteArray)(w:World)(hw:Lw w)(hF:yf w)(ad:Addr)(kc:Nat)(hK:yK w ad kc)(h:Za s=none):zR 9 #[.string s] w (.bool true):=by
 have HB0:=JV s _ hw hF ad kc hK;rw[h] at HB0;have HB:Hid (zR 13 #[.string s] w (.tuple #[.pointer none,.slice none 0 0,.bool false])):=HB0;clear HB0 hw hF hK h;go_enter Tryz.func9,Tryz.ntmps9;go_wp2_with fail;refine HB.out.mono ?_;rintro e w1 ⟨rfl,hb1⟩;have HF:=zH hb1;clear hb1 HB;go_wp2;go_ret;exact⟨rfl,HF.out⟩
theorem zjG(s:ByteArray)(w:World)(hw:Lw w)(hF:yf w)(ad:Addr)(kc:Nat)(hK:yK w ad kc)(ls:List Ln)(its:List It)(h:Za s=some (ls,its)):zR 9 #[.string s] w (.bool true):=by
 have HB0:=JV s _ hw hF ad kc hK;rw[h] at HB0;have HB:Hid (zC 13 #[.string s] w fun e w'=>∃bc v,e=.returned (.tuple #[.pointer (some ⟨bc,0,none⟩),v,.bool true])/\xA w' bc ls its/\RLs w' v ls/\zB w w'):=HB0;have HG:=zH hw.lb.glob;have HN:=zH (zdE h);clear HB0 hw hF hK h;go_enter Tryz.func9,Tryz.ntmps9;go_wp2_with fail;refine HB.out.mono ?_;rintro e w1 ⟨bc,v,rfl,hc1,hv1,hb1⟩;obtain⟨va,vc,rfl⟩:∃va vc,v=.slice va ls.length vc:=by obtain⟨vs,_,h2⟩:=hv1;obtain⟨a,c,e,_⟩:=h2.form;exact⟨a,c,e⟩
 have HC1:=zH hc1;have HV1:=zH hv1;have HB1:=zH hb1;clear hc1 hv1 hb1 HB
 by_cases hl30:30<ls.length
 ·have hl3:(30:Int)<(ls.length:Int):=by omega
  go_wp2;go_ret;exact⟨rfl,HB1.out⟩
 have hl3:¬(30:Int)<(ls.length:Int):=by omega
 have HS1:=zH (ziY ls its _ 10 w1 HV1.out HN.out);go_wp2_with fail;refine HS1.out.mono ?_;rintro e w2 ⟨ca,cc,rfl,-,hb2⟩;have HB2:=zH (zT HB1.out hb2);have HC2:=zH (HC1.out.below hb2 zN);have HV2:=zH (HV1.out.below hb2 zN);clear hb2 HS1 HC1 HB1 HV1
 by_cases hP:¬((ofL its ls).length<=200/\its.length<=10)
 ·have hd:(decide ((ofL its ls).length<=200)&&decide (its.length<=10))=false:=by
   rw[Bool.and_eq_false_iff]
   by_cases q:(ofL its ls).length<=200
   ·right;exact decide_eq_false (fun e=>hP ⟨q,e⟩)
   ·left;exact decide_eq_false q
  rw[hd];go_wp2;go_ret;exact⟨rfl,HB2.out⟩
 obtain⟨hP2,hv10⟩:=Decidable.not_not.1 hP;clear hP;rw[decide_eq_true hP2,decide_eq_true hv10];go_wp2_with fail;go_loop [9,10] (fun nV iV=>∃i:Nat,i<=ls.length/\iV=.int .i64 i/\nV=.int .i64 ((zD ls i).length:Int)) (fun _ iV=>ls.length-(intOf iV).toNat)
 case atStart=>exact⟨0,Nat.zero_le _,rfl,rfl⟩
 case round =>
  obtain⟨i,hi,rfl,rfl⟩:=hrel;have hsl:=Kg ls i
  by_cases hlt:i<ls.length
  ·obtain⟨g,cap',ra,rc,e1,hg,hns,hrg,c0,-⟩:=HV2.out.at i hlt;simp at e1;obtain⟨rfl,rfl⟩:=e1;have hii0:(0:Int)<=(i:Int):=by omega
   have hii1:(i:Int)<(ls.length:Int):=by omega
   have HST:=zH (KZ ls i);clear hns hrg
   by_cases hk1:(ls.getD i default).kind=1
   ·have hne:((ls.getD i default).kind != 1)=false:=by rw[hk1];rfl
    rw[hne] at HST;simp only[Bool.false_eq_true,if_false,List.append_nil] at HST;rw[hk1] at c0;clear hne;go_wp2;go_round
    case rel=>exact⟨i+1,hlt,by go_num,by rw[HST.out]⟩
    case measure=>simp[intOf];omega
   ·have hne:((ls.getD i default).kind != 1)=true:=by simpa using hk1
    rw[hne] at HST;simp only[if_true] at HST;generalize (ls.getD i default).kind=kd at *;generalize hL:(zD ls i).length=n8 at *;have HL8:=zH hL;clear hL;have hw8:IntKind.i64.wrap ((n8:Int)+1)=(n8:Int)+1:=by rw[IntKind.wrap_i64];omega
    go_wp2;go_round
    case rel=>exact⟨i+1,hlt,by go_num,by rw[HST.out,List.length_append,HL8.out];simp⟩
    case measure=>simp[intOf];omega
  ·obtain rfl:i=ls.length:=by omega
   have hsf:(zD ls ls.length).length=(qA ls).length:=rfl;rw[hsf];clear hsf;obtain⟨n,hn⟩:∃n,(qA ls).length=n:=⟨_,rfl⟩;rw[hn]
   by_cases hn10:10<n
   ·have hni:(10:Int)<(n:Int):=by omega
    have HCM:=zH (zjv bc ls its w2 HC2.out HN.out (by omega) hP2 (by omega));clear hn;go_wp2_with fail;refine HCM.out.mono ?_;rintro e w3 ⟨rfl,hb3⟩;have HB3:=zH (zT HB2.out hb3);have HBA:=zH (zjT 4 4 (.iface 57 (.int .i64 4)) w3 (HG.out.below HB3.out) (Or.inr (Or.inl ⟨by decide,rfl,rfl⟩)));clear hb3 HCM;go_wp2_with fail;refine HBA.out.mono ?_;rintro e w4 ⟨rfl,hb4⟩;have HF:=zH (zT HB3.out hb4);clear hb4 HBA;go_wp2;go_ret;exact⟨rfl,HF.out⟩
   ·have hni:¬(10:Int)<(n:Int):=by omega
    have HCF:=zH (zfC bc ls its w2 HC2.out HN.out (by omega) hP2 (by omega) n hn.symm);have HRC:Hid (∀W,zB w2 W->zC 51 #[.slice va ls.length vc] W fun e w'=>∃a1 c1 a2 c2,e=.returned (.tuple #[.slice a1 (zI n (fun s=>!soC its ls s) (2^n)).length c1,.slice a2 (zI n (fun s=>soC its ls (2^n-1-s)) (2^n)).length c2])/\yR w' a1 (zI n (fun s=>!soC its ls s) (2^n))/\yR w' a2 (zI n (fun s=>soC its ls (2^n-1-s)) (2^n))/\zB W w'):=fun W hW=>zhr ls its _ W (HV2.out.below hW zN) HN.out (by omega) hP2 n hn (by omega);have h12:(2:Nat)^n<=1024:=Nat.pow_le_pow_right (n:=2) (j:=10) (by omega) (by omega);have hL1:=K7 n (fun s=>!soC its ls s) (2^n);have hL2:=K7 n (fun s=>soC its ls (2^n-1-s)) (2^n);generalize zI n (fun s=>!soC its ls s) (2^n)=L1 at *;generalize zI n (fun s=>soC its ls (2^n-1-s)) (2^n)=L2 at *;clear hn;go_wp2_with fail;refine HCF.out.mono ?_;rintro e w3 ⟨a1,c1,a2,c2,rfl,hu1,hu2,hb3⟩;have HU1:=zH hu1;have HU2:=zH hu2;have HB3:=zH hb3;clear hu1 hu2 hb3 HCF
    by_cases hn7:7<n
    ·have hn7i:(7:Int)<(n:Int):=by omega
     have HF:=zH (zT HB2.out HB3.out);go_wp2;go_ret;exact⟨rfl,HF.out⟩
    ·have hn7i:¬(7:Int)<(n:Int):=by omega
     have HR3:=zH (HRC.out w3 HB3.out);clear HRC;go_wp2_with fail;refine HR3.out.mono ?_;rintro e w4 ⟨a3,c3,a4,c4,rfl,hu3,hu4,hb4⟩;have HS1:=zH (zaN L1 a1 a3 c1 c3 w4 (HU1.out.below hb4) hu3 (by omega));have HS2:Hid (∀W,zB w4 W->zR 52 #[.slice a2 L2.length c2,.slice a4 L2.length c4] W (.bool true)):=fun W hW=>zaN L2 a2 a4 c2 c4 W ((HU2.out.below hb4).below hW) (hu4.below hW) (by omega);have HB4:=zH (HB2.out.trans ((zT HB3.out hb4).mono HB2.out.size));clear hu3 hu4 hb4 HU1 HU2 HB3 HR3;go_wp2_with fail;refine HS1.out.mono ?_;rintro e w5 ⟨rfl,hb5⟩;have HS5:=zH (HS2.out w5 hb5);have HB5:=zH (zT HB4.out hb5);clear hb5 HS1 HS2;go_wp2_with fail;refine HS5.out.mono ?_;rintro e w6 ⟨rfl,hb6⟩;have HF:=zH (zT HB5.out hb6);clear hb6 HS5;go_wp2;go_ret;exact⟨rfl,HF.out⟩
theorem zeR(s:ByteArray)(w:World)(hw:Lw w)(hF:yf w)(ad:Addr)(kc:Nat)(hK:yK w ad kc):zR 9 #[.string s] w (.bool true):=by
 cases h:Za s with
 |none=>exact zeP s w hw hF ad kc hK h
 |some r=>exact zjG s w hw hF ad kc hK r.1 r.2 h
end
end Go.Proofs.YtiihalknffbjpaaGreatDoor
