/- signed: a version with signs ahead. -/
import Derived.Test.YtlmmkbnjhilbdaaGreatDoorSvAnd
set_option maxHeartbeats 2000000
set_option maxRecDepth 100000
namespace Go.Proofs.YtlmmkbnjhilbdaaGreatDoor
section
open Go.RowKit Sv
theorem zdV(a b:Nat)(w:World) :
  zC 130 #[.int .i64 a,.int .i64 b] w (Q4 w (zq a b)):=by
 by_cases h:a<b
 ·have h':¬(b:Int)<=(a:Int):=by omega
  have hb:=((Below.refl w.heap.size w).alloc zN (.cells #[.slice (some ⟨w.heap.size+1,0,none⟩) 1 1] 67)).alloc (by rw[World.size_alloc];omega) (.cells #[.int .i64 a,.int .i64 b] 218);have h2:=KO (w.alloc (.cells #[.slice (some ⟨w.heap.size+1,0,none⟩) 1 1] 67)) (.int .i64 a) (.int .i64 b) 218;rw[World.size_alloc] at h2;have h1:=Yi w (.slice (some ⟨w.heap.size+1,0,none⟩) 1 1) 67;have h3:((w.alloc (.cells #[.slice (some ⟨w.heap.size+1,0,none⟩) 1 1] 67)).alloc (.cells #[.int .i64 a,.int .i64 b] 218)).cell? ⟨w.heap.size,0,none⟩=some (.slice (some ⟨w.heap.size+1,0,none⟩) 1 1):=(((Below.refl _ (w.alloc (.cells #[.slice (some ⟨w.heap.size+1,0,none⟩) 1 1] 67))).alloc zN _).cell (p:=⟨w.heap.size,0,none⟩) (by show w.heap.size<_;rw[World.size_alloc];omega)).trans h1;have hs:w.heap.size+1<((w.alloc (.cells #[.slice (some ⟨w.heap.size+1,0,none⟩) 1 1] 67)).alloc (.cells #[.int .i64 a,.int .i64 b] 218)).heap.size:=by rw[World.size_alloc,World.size_alloc];omega
  have HB:=zH hb;have H2:=zH h2;have H3:=zH h3;have HS:=zH hs;clear hb h2 h1 h3 hs;go_enter Tryz.func130,Tryz.ntmps130;go_wp2;have h3:=H3.out;refine bodyPost_ret (v:=.agg #[.slice (some ⟨w.heap.size+1,0,none⟩) 1 1]) (by simp[results,Tryz.results130,go_sem,h3]) rfl ?_;refine⟨_,rfl,?_,fun g hg=>by simp[Value.ownBlock] at hg;omega,HB.out⟩;rw[zq,if_pos h];exact⟨⟨_,_,rfl⟩,fun i hi=>⟨w.heap.size+1,1,rfl,HS.out,by obtain rfl:i=0:=(by simp at hi;exact hi);exact H2.out.1,by obtain rfl:i=0:=(by simp at hi;exact hi);exact H2.out.2⟩⟩
 ·have h':(b:Int)<=(a:Int):=by omega
  have h1:=Yi w (.slice none 0 0) 67;have H1:=zH h1;clear h1;go_enter Tryz.func130,Tryz.ntmps130;go_wp2;have h1:=H1.out;refine bodyPost_ret (v:=.agg #[.slice none 0 0]) (by simp[results,Tryz.results130,go_sem]) rfl ?_;refine⟨_,rfl,?_,fun g hg=>by simp[Value.ownBlock] at hg,zF.alloc zN _⟩;rw[zq,if_neg h];exact KY _
theorem Zs{w w1 w':World}{v:Value}{l:List zg}{b:Nat}(hb:zB w w1)(h1:w1.cell? ⟨b,0,none⟩=some (.slice none 0 0))(hB:w.heap.size<=b)(hl:b<w1.heap.size)(hs:zi w' v l)(hn:∀g,v.ownBlock=some g->w1.heap.size<=g)(h':zB w1 w') :
  (w'.setCell ⟨b,0,none⟩ v).cell? ⟨b,0,none⟩=some v/\zi (w'.setCell ⟨b,0,none⟩ v) v l/\(∀g,v.ownBlock=some g->w.heap.size<=g)/\zB w (w'.setCell ⟨b,0,none⟩ v):=by
 refine⟨World.cell?_setCell_same' _ _ _ (by rw[h'.cell (p:=⟨b,0,none⟩) hl,h1];rfl),hs.set (fun e=>by have:=hn b e;omega),fun g hg=>Nat.le_trans hb.size (hn g hg),(zT hb h').setCell (p:=⟨b,0,none⟩) hB v⟩
theorem Yq(w:World):zC 83 #[] w (Q4 w zt):=by
 have HH:Hid (∀W:World,zC 130 #[.int .i64 0,.int .i64 1000000000] W (fun e w'=>∃v',e=.returned (.agg #[v'])/\zi w' v' zt/\(∀g,v'.ownBlock=some g->W.heap.size<=g)/\zB W w')):=fun W=>zdV 0 1000000000 W;have h1:=Yi w (.slice none 0 0) 67;have f1:=zdl w (.slice none 0 0) 67;have b1:zB w (w.alloc (.cells #[.slice none 0 0] 67)):=zF.alloc zN _;have l1:w.heap.size<(w.alloc (.cells #[.slice none 0 0] 67)).heap.size:=by rw[World.size_alloc];omega
 have H1:=zH h1;have F1:=zH f1;have B1:=zH b1;have L1:=zH l1;clear h1 f1 b1 l1;go_enter Tryz.func83,Tryz.ntmps83;go_wp2_with fail;generalize w.alloc (.cells #[.slice none 0 0] 67)=W1 at *;refine(HH.out _).mono ?_;rintro e w' ⟨v',rfl,hs,hn,hb⟩;obtain⟨va,vc,rfl⟩:=hs.form;have hc:=(hb.cell (p:=⟨w.heap.size,0,none⟩) L1.out).trans H1.out;have hf:=(hb.frozen (p:=⟨w.heap.size,0,none⟩) L1.out).trans F1.out;have HP:=zH (Zs B1.out H1.out zN L1.out hs hn hb);clear hs hn hb;go_wp2;obtain⟨h3,h4,h5,h6⟩:=HP.out;refine bodyPost_ret (v:=.agg #[.slice va zt.length vc]) (by simp[results,Tryz.results83,go_sem,h3]) rfl ?_;exact⟨_,rfl,h4,h5,h6⟩
end
section
open Go.RowKit Sv
theorem zhI(l m:List zg)(hl:Rg l)(hm:Rg m)(v u:Value)(w:World)(hv:zi w v l)(hu:zi w u m) :
  zC 45 #[.agg #[v],.agg #[u]] w (Q4 w (orr l m)):=by
 obtain⟨a,cap,rfl⟩:=hv.form;obtain⟨b,cbp,rfl⟩:=hu.form;have hB:=(zaj w (.slice a l.length cap) (.slice b m.length cbp) (.slice none 0 0) 67 67 67).below;have HN1:Hid (∀W,zB w W->zC 86 #[.agg #[.slice a l.length cap]] W (fun e w'=>∃a' c',e=.returned (.agg #[.slice a' (nt l).length c'])/\zi w' (.slice a' (nt l).length c') (nt l)/\zB W w')):=fun W hW=>(Ki l hl _ W (hv.below hW zN)).mono fun e w' ⟨v',he,hs,hn,hb⟩=>by obtain⟨a',c',rfl⟩:=hs.form;exact⟨a',c',he,hs,hb⟩
 have HN2:Hid (∀W,zB w W->zC 86 #[.agg #[.slice b m.length cbp]] W (fun e w'=>∃a' c',e=.returned (.agg #[.slice a' (nt m).length c'])/\zi w' (.slice a' (nt m).length c') (nt m)/\zB W w')):=fun W hW=>(Ki m hm _ W (hu.below hW zN)).mono fun e w' ⟨v',he,hs,hn,hb⟩=>by obtain⟨a',c',rfl⟩:=hs.form;exact⟨a',c',he,hs,hb⟩
 have HA:Hid (∀v1 v2 W,zi W v1 (nt l)->zi W v2 (nt m)->zC 85 #[.agg #[v1],.agg #[v2]] W (fun e w'=>∃a' c',e=.returned (.agg #[.slice a' (nd (nt l) (nt m)).length c'])/\zi w' (.slice a' (nd (nt l) (nt m)).length c') (nd (nt l) (nt m))/\zB W w')):=fun v1 v2 W h1 h2=>(zfe _ _ (xY hl) (xY hm) v1 v2 W h1 h2).mono fun e w' ⟨v',he,hs,hn,hb⟩=>by obtain⟨a',c',rfl⟩:=hs.form;exact⟨a',c',he,hs,hb⟩
 have HN3:Hid (∀v1 W,zi W v1 (nd (nt l) (nt m))->zC 86 #[.agg #[v1]] W (fun e w'=>∃a' c',e=.returned (.agg #[.slice a' (orr l m).length c'])/\zi w' (.slice a' (orr l m).length c') (orr l m)/\(∀g,(Value.slice a' (orr l m).length c').ownBlock=some g->W.heap.size<=g)/\zB W w')):=fun v1 W h1=>(Ki _ (Qi (xY hl) (xY hm)) v1 W h1).mono fun e w' ⟨v',he,hs,hn,hb⟩=>by obtain⟨a',c',rfl⟩:=hs.form;exact⟨a',c',he,hs,hn,hb⟩
 have hbox:=zaj w (.slice a l.length cap) (.slice b m.length cbp) (.slice none 0 0) 67 67 67;clear hv hu hl hm hB;go_enter Tryz.func45,Tryz.ntmps45;go_wp2_with fail;generalize ((w.alloc (.cells #[.slice a l.length cap] 67)).alloc (.cells #[.slice b m.length cbp] 67)).alloc (.cells #[.slice none 0 0] 67)=W0 at *;have hs0:=hbox.size;have hB0:=hbox.below;have hr0:=hbox.c0;have ho0:=hbox.c1;have hc0:=hbox.c2;have hf0:=hbox.f2;have SC:Hid (∀W,Below (w.heap.size+2) W0 W->W.cell? ⟨w.heap.size,0,none⟩=some (.slice a l.length cap)/\W.cell? ⟨w.heap.size+1,0,none⟩=some (.slice b m.length cbp)):=fun W hb=>⟨(hb.cell (p:=⟨w.heap.size,0,none⟩) (by show w.heap.size<_;omega)).trans hr0,(hb.cell (p:=⟨w.heap.size+1,0,none⟩) (by show w.heap.size+1<_;omega)).trans ho0⟩;have HB0:=zH hB0;have HS0:=zH hs0;have HC0:=zH hc0;have HF0:=zH hf0;have L0:Hid (w.heap.size+2<=W0.heap.size):=by show w.heap.size+2<=W0.heap.size;omega
 have L1:Hid (w.heap.size+1+1<W0.heap.size):=by show w.heap.size+1+1<W0.heap.size;omega
 have D0:zB W0 W0.drew:=zF.drew;have E0:zB w W0.drew:=hB0.drew;clear hbox hs0 hB0 hr0 ho0 hc0 hf0;go_region_held3 (fun w'=>w'.cell? ⟨w.heap.size,0,none⟩=some (.slice a l.length cap)/\w'.cell? ⟨w.heap.size+1,0,none⟩=some (.slice b m.length cbp)) (first|exact SC.out _ (D0.mono L0.out)|exact SC.out _ (D1.mono L0.out)|exact SC.out _ (D2.mono L0.out)|exact SC.out _ (D3.mono L0.out)|exact SC.out _ (D4.mono L0.out)|exact SC.out _ D5)
  (first
   |((with_reducible refine(HN1.out _ E0).mono ?_);rintro e w1 ⟨a1,c1,rfl,hs1,hb1⟩;have D1:zB W0 w1:=D0.trans hb1;have E1:zB w w1:=zT E0 hb1;clear HN1)
   |((with_reducible refine(HN2.out _ E1).mono ?_);rintro e w2 ⟨a2,c2,rfl,hs2,hb2⟩;have D2:zB W0 w2:=zT D1 hb2;have hs12:=hs1.below hb2 zN;clear HN2)
   |((with_reducible refine(HA.out _ _ _ hs12 hs2).mono ?_);rintro e w3 ⟨a3,c3,rfl,hs3,hb3⟩;have D3:zB W0 w3:=zT D2 hb3;clear HA)
   | ((with_reducible refine (HN3.out _ _ hs3).mono ?_);rintro e w4 ⟨a4,c4,rfl,hs4,hn4,hb4⟩;have D4:zB W0 w4:=zT D3 hb4;have hc4:=(D4.cell (p:=⟨w.heap.size + 1 + 1,0,none⟩) L1.out).trans HC0.out;have hf4:=(D4.frozen (p:=⟨w.heap.size + 1 + 1,0,none⟩) L1.out).trans HF0.out;have D5:Below (w.heap.size + 2) W0 (w4.setCell ⟨w.heap.size + 1 + 1,0,none⟩ (.slice a4 (orr l m).length c4)):=(D4.mono L0.out).setCell (p:=⟨w.heap.size + 1 + 1,0,none⟩) zN _;clear HN3))
 have hn:∀g,(Value.slice a4 (orr l m).length c4).ownBlock=some g->W0.heap.size<=g:=fun g hg=>Nat.le_trans D3.size (hn4 g hg);have HP:=zH (Zs HB0.out HC0.out (by omega) L1.out hs4 hn D4);clear hs1 hs2 hs12 hs3 hs4 hn4 hn hb1 hb2 hb3 hb4 D0 D1 D2 D3 D4 D5 E0 E1;go_wp2;obtain⟨h3,h4,h5,h6⟩:=HP.out;refine bodyPost_ret (v:=.agg #[.slice a4 (orr l m).length c4]) (by simp[results,Tryz.results45,go_sem,h3]) rfl ?_;exact⟨_,rfl,h4,h5,h6⟩
end
section
open Go.RowKit Go.Shelf Sv
theorem zi9(s:ByteArray)(w:World)(hc:s.data.toList.count 46≠2) :
  zR 75 #[.string s] w (Z1 (.error 3)):=by
 have HC:Hid (∀W,zC 112 #[.string s,.string ⟨#[46]⟩] W fun e w'=>e=.returned (.int .i64 (s.data.toList.count 46:Nat))/\w'=W):=fun W=>Tryz.strings_Count_one s 46 W;have hne:(((s.data.toList.count 46:Nat):Int)==2)=false:=by rw[beq_eq_false_iff_ne];omega
 generalize s.data.toList.count 46=n at *;clear hc;go_enter Tryz.func75,Tryz.ntmps75;go_wp2_with (go_at_call 112;refine(HC.out _).mono ?_;rintro e w' ⟨rfl,rfl⟩);have k0:=((Blk.new w 40 z3).alloc (.cells #[.iface 55 (.int .i64 3)] 36)).alloc (.cells z3 40);have k1:=(Blk.new (w.alloc (.cells z3 40)) 36 #[.iface 55 (.int .i64 3)]).alloc (.cells z3 40);rw[World.size_alloc] at k1;have hB:zB w (((w.alloc (.cells z3 40)).alloc (.cells #[.iface 55 (.int .i64 3)] 36)).alloc (.cells z3 40)):=(((Below.refl _ w).alloc zN _).alloc (by simp only[World.size_alloc];omega) _).alloc (by simp only[World.size_alloc];omega) _;generalize ((w.alloc (.cells z3 40)).alloc (.cells #[.iface 55 (.int .i64 3)] 36)).alloc (.cells z3 40)=WF at *;have r0:=k0.cell 0;have r1:=k0.cell 1;have r2:=k0.cell 2;have r3:=k1.cell 0;refine bodyPost_ret (v:=Z1 (.error 3)) (by simp[results,Tryz.f75,go_sem,r0,r1,r2,r3,Z1]) rfl ?_;exact⟨rfl,hB⟩
theorem KU(s:ByteArray)(w:World)(hs:s.size<=100000)(hw:Lb w) :
  zR 75 #[.string s] w (Z1 (xH s)):=by
 unfold xH
 by_cases hc:s.data.toList.count 46=2
 ·rw[if_pos hc];exact(callsIn_wide (n:=4)).1 (zoU s w hs hw hc)
 ·rw[if_neg hc];exact zi9 s w hc
theorem xI(a b c:Nat)(ha:a<=1000)(hb:b<=1000)(hc:c<=1000)(w:World) :
  zR 114 #[.agg #[.int .i64 a,.int .i64 b,.int .i64 c]] w (.int .i64 (((a*1000+b)*1000+c:Nat):Int)):=by
 have hB:=(Below.refl w.heap.size w).alloc zN (.cells #[.int .i64 a,.int .i64 b,.int .i64 c] 40);have he:(((a*1000+b)*1000+c:Nat):Int)=((a:Int)*1000+(b:Int))*1000+(c:Int):=by omega
 have HB:=zH hB;have HE:=zH he;clear hB he;go_enter Tryz.func114,Tryz.ntmps114;go_wp2;go_ret;exact⟨by rw[HE.out];rfl,HB.out⟩
theorem zbK(w:World)(x y z:Value):∃W1:World,((w.alloc (.cells #[x,y,z] 40)).alloc (.cells z3 40))=W1/\Blk W1 w.heap.size 40 #[x,y,z]/\Blk W1 (w.heap.size+1) 40 z3/\zB w W1:=by
 have k0:=(Blk.new w 40 #[x,y,z]).alloc (.cells z3 40);have k1:=Blk.new (w.alloc (.cells #[x,y,z] 40)) 40 z3;rw[World.size_alloc] at k1;exact⟨_,rfl,k0,k1,((Below.refl _ w).alloc zN _).alloc (by simp only[World.size_alloc];omega) _⟩
theorem zoX(a b c:Nat)(ha:a<=999)(w:World) :
  zR 170 #[.agg #[.int .i64 a,.int .i64 b,.int .i64 c],.int .i64 0] w (.agg #[.int .i64 ((a+1:Nat):Int),.int .i64 0,.int .i64 0]):=by
 obtain⟨W1,hW1,k0,k1,hB⟩:=zbK w (.int .i64 ((a:Int)+1)) (.int .i64 b) (.int .i64 c);have HW1:=zH hW1;have HK0:=zH k0;have HK1:=zH k1;have HB:=zH hB;clear hW1 k0 k1 hB;have hcl:=Lib.run_clear_slice (P:=Tryz.prog) W1 24 3 0 (.int .i64 0) Tryz.underlying24 Tryz.zeroValue3 rfl rfl w.heap.size 1 2 2 (by omega) (fun j hj=>by
  match j,hj with
  |0,_=>rw[HK0.out.cell 1];rfl
  | 1,_=>rw [HK0.out.cell 2];rfl) (fun j _=>HK0.out.frozen _)
 have m0:Blk (W1.setCells w.heap.size 1 (List.replicate 2 (.int .i64 0))) w.heap.size 40 #[.int .i64 ((a:Int)+1),.int .i64 0,.int .i64 0]:=(HK0.out.set (i:=1) (v:=.int .i64 0)).set (i:=2) (v:=.int .i64 0);have m1:Blk (W1.setCells w.heap.size 1 (List.replicate 2 (.int .i64 0))) (w.heap.size+1) 40 z3:=(HK1.out.other (by omega)).other (by omega);have mB:zB w (W1.setCells w.heap.size 1 (List.replicate 2 (.int .i64 0))):=(HB.out.setCell (p:=⟨w.heap.size,1,none⟩) zN _).setCell (p:=⟨w.heap.size,2,none⟩) zN _;generalize W1.setCells w.heap.size 1 (List.replicate 2 (.int .i64 0))=W2 at *;have d0:=m0.cell 0;have d1:=m0.cell 1;have d2:=m0.cell 2;have f0:=m1.frozen 0;have f1:=m1.frozen 1;have f2:=m1.frozen 2;have g0:_=some (Value.int .i64 0):=m1.cell 0;have g1:_=some (Value.int .i64 0):=m1.cell 1;have g2:_=some (Value.int .i64 0):=m1.cell 2;simp only[List.getElem?_toArray,List.getElem?_cons_zero,List.getElem?_cons_succ] at d0 d1 d2;obtain⟨WF,hWF⟩:∃WF,((W2.setCell ⟨w.heap.size+1,0,none⟩ (.int .i64 ((a:Int)+1))).setCell ⟨w.heap.size+1,1,none⟩ (.int .i64 0)).setCell ⟨w.heap.size+1,2,none⟩ (.int .i64 0)=WF:=⟨_,rfl⟩;have p1:Blk WF (w.heap.size+1) 40 #[(.int .i64 ((a:Int)+1)),(.int .i64 0),(.int .i64 0)]:=by rw[<-hWF];exact((m1.set (i:=0) (v:=(.int .i64 ((a:Int)+1)))).set (i:=1) (v:=(.int .i64 0))).set (i:=2) (v:=(.int .i64 0))
 have pB:zB w WF:=by rw[<-hWF];exact((mB.setCell (p:=⟨w.heap.size+1,0,none⟩) (Nat.le_succ _) _).setCell (p:=⟨w.heap.size+1,1,none⟩) (Nat.le_succ _) _).setCell (p:=⟨w.heap.size+1,2,none⟩) (Nat.le_succ _) _
 have HP1:=zH p1;have HPB:=zH pB;have HWF:=zH hWF;rw[<-HW1.out] at hcl;clear m0 m1 mB p1 pB hWF HK0 HK1 HB HW1;go_enter Tryz.func170,Tryz.ntmps170;go_wp2;rw[HWF.out];have r0:=HP1.out.cell 0;have r1:=HP1.out.cell 1;have r2:=HP1.out.cell 2;refine bodyPost_ret (v:=.agg #[(.int .i64 ((a:Int)+1)),(.int .i64 0),(.int .i64 0)]) (by simp[results,Tryz.results170,go_sem,r0,r1,r2]) rfl ?_;exact⟨rfl,HPB.out⟩
theorem zdW(a b c:Nat)(hb:b<=999)(w:World) :
  zR 170 #[.agg #[.int .i64 a,.int .i64 b,.int .i64 c],.int .i64 1] w (.agg #[.int .i64 a,.int .i64 ((b+1:Nat):Int),.int .i64 0]):=by
 obtain⟨W1,hW1,k0,k1,hB⟩:=zbK w (.int .i64 a) (.int .i64 ((b:Int)+1)) (.int .i64 c);have HW1:=zH hW1;have HK0:=zH k0;have HK1:=zH k1;have HB:=zH hB;clear hW1 k0 k1 hB;have hcl:=Lib.run_clear_slice (P:=Tryz.prog) W1 24 3 0 (.int .i64 0) Tryz.underlying24 Tryz.zeroValue3 rfl rfl w.heap.size 2 1 1 (by omega) (fun j hj=>by
  match j,hj with
  | 0,_=>rw [HK0.out.cell 2];rfl) (fun j _=>HK0.out.frozen _)
 have m0:Blk (W1.setCells w.heap.size 2 (List.replicate 1 (.int .i64 0))) w.heap.size 40 #[.int .i64 a,.int .i64 ((b:Int)+1),.int .i64 0]:=HK0.out.set (i:=2) (v:=.int .i64 0);have m1:Blk (W1.setCells w.heap.size 2 (List.replicate 1 (.int .i64 0))) (w.heap.size+1) 40 z3:=HK1.out.other (by omega);have mB:zB w (W1.setCells w.heap.size 2 (List.replicate 1 (.int .i64 0))):=HB.out.setCell (p:=⟨w.heap.size,2,none⟩) zN _;generalize W1.setCells w.heap.size 2 (List.replicate 1 (.int .i64 0))=W2 at *;have d0:=m0.cell 0;have d1:=m0.cell 1;have d2:=m0.cell 2;have f0:=m1.frozen 0;have f1:=m1.frozen 1;have f2:=m1.frozen 2;have g0:_=some (Value.int .i64 0):=m1.cell 0;have g1:_=some (Value.int .i64 0):=m1.cell 1;have g2:_=some (Value.int .i64 0):=m1.cell 2;simp only[List.getElem?_toArray,List.getElem?_cons_zero,List.getElem?_cons_succ] at d0 d1 d2;obtain⟨WF,hWF⟩:∃WF,((W2.setCell ⟨w.heap.size+1,0,none⟩ (.int .i64 a)).setCell ⟨w.heap.size+1,1,none⟩ (.int .i64 ((b:Int)+1))).setCell ⟨w.heap.size+1,2,none⟩ (.int .i64 0)=WF:=⟨_,rfl⟩;have p1:Blk WF (w.heap.size+1) 40 #[(.int .i64 a),(.int .i64 ((b:Int)+1)),(.int .i64 0)]:=by rw[<-hWF];exact((m1.set (i:=0) (v:=(.int .i64 a))).set (i:=1) (v:=(.int .i64 ((b:Int)+1)))).set (i:=2) (v:=(.int .i64 0))
 have pB:zB w WF:=by rw[<-hWF];exact((mB.setCell (p:=⟨w.heap.size+1,0,none⟩) (Nat.le_succ _) _).setCell (p:=⟨w.heap.size+1,1,none⟩) (Nat.le_succ _) _).setCell (p:=⟨w.heap.size+1,2,none⟩) (Nat.le_succ _) _
 have HP1:=zH p1;have HPB:=zH pB;have HWF:=zH hWF;rw[<-HW1.out] at hcl;clear m0 m1 mB p1 pB hWF HK0 HK1 HB HW1;go_enter Tryz.func170,Tryz.ntmps170;go_wp2;rw[HWF.out];have r0:=HP1.out.cell 0;have r1:=HP1.out.cell 1;have r2:=HP1.out.cell 2;refine bodyPost_ret (v:=.agg #[(.int .i64 a),(.int .i64 ((b:Int)+1)),(.int .i64 0)]) (by simp[results,Tryz.results170,go_sem,r0,r1,r2]) rfl ?_;exact⟨rfl,HPB.out⟩
theorem zmd(W:World)(b:Nat):(Builtin.clear_ #[24] 0 #[.slice (some ⟨b,0,none⟩) 0 0]).run Tryz.prog W=.ok (.tuple #[]) W:=by
 simp[Builtin.clear_,run_underlying Tryz.underlying24,go_sem]
theorem zjz(a b c:Nat)(hc:c<=999)(w:World) :
  zR 170 #[.agg #[.int .i64 a,.int .i64 b,.int .i64 c],.int .i64 2] w (.agg #[.int .i64 a,.int .i64 b,.int .i64 ((c+1:Nat):Int)]):=by
 obtain⟨W1,hW1,k0,k1,hB⟩:=zbK w (.int .i64 a) (.int .i64 b) (.int .i64 ((c:Int)+1));have HW1:=zH hW1;have HK0:=zH k0;have HK1:=zH k1;have HB:=zH hB;clear hW1 k0 k1 hB;obtain⟨W2,hW2⟩:∃W2,W1=W2:=⟨_,rfl⟩;have hcl:(Builtin.clear_ #[24] 0 #[.slice (some ⟨w.heap.size,0,none⟩) 0 0]).run Tryz.prog W1=.ok (.tuple #[]) W2:=hW2▸zmd W1 w.heap.size;have m0:Blk W2 _ _ _:=hW2▸HK0.out;have m1:Blk W2 _ _ _:=hW2▸HK1.out;have mB:zB w W2:=hW2▸HB.out;clear hW2;have d0:=m0.cell 0;have d1:=m0.cell 1;have d2:=m0.cell 2;have f0:=m1.frozen 0;have f1:=m1.frozen 1;have f2:=m1.frozen 2;have g0:_=some (Value.int .i64 0):=m1.cell 0;have g1:_=some (Value.int .i64 0):=m1.cell 1;have g2:_=some (Value.int .i64 0):=m1.cell 2;simp only[List.getElem?_toArray,List.getElem?_cons_zero,List.getElem?_cons_succ] at d0 d1 d2;obtain⟨WF,hWF⟩:∃WF,((W2.setCell ⟨w.heap.size+1,0,none⟩ (.int .i64 a)).setCell ⟨w.heap.size+1,1,none⟩ (.int .i64 b)).setCell ⟨w.heap.size+1,2,none⟩ (.int .i64 ((c:Int)+1))=WF:=⟨_,rfl⟩;have p1:Blk WF (w.heap.size+1) 40 #[(.int .i64 a),(.int .i64 b),(.int .i64 ((c:Int)+1))]:=by rw[<-hWF];exact((m1.set (i:=0) (v:=(.int .i64 a))).set (i:=1) (v:=(.int .i64 b))).set (i:=2) (v:=(.int .i64 ((c:Int)+1)))
 have pB:zB w WF:=by rw[<-hWF];exact((mB.setCell (p:=⟨w.heap.size+1,0,none⟩) (Nat.le_succ _) _).setCell (p:=⟨w.heap.size+1,1,none⟩) (Nat.le_succ _) _).setCell (p:=⟨w.heap.size+1,2,none⟩) (Nat.le_succ _) _
 have HP1:=zH p1;have HPB:=zH pB;have HWF:=zH hWF;rw[<-HW1.out] at hcl;clear m0 m1 mB p1 pB hWF HK0 HK1 HB HW1;go_enter Tryz.func170,Tryz.ntmps170;go_wp2;rw[HWF.out];have r0:=HP1.out.cell 0;have r1:=HP1.out.cell 1;have r2:=HP1.out.cell 2;refine bodyPost_ret (v:=.agg #[(.int .i64 a),(.int .i64 b),(.int .i64 ((c:Int)+1))]) (by simp[results,Tryz.results170,go_sem,r0,r1,r2]) rfl ?_;exact⟨rfl,HPB.out⟩
theorem zba(a b c:Nat)(w:World) :
  zR 171 #[.agg #[.int .i64 a,.int .i64 b,.int .i64 c]] w (.int .i64 (if a≠0 then 0 else if b≠0 then 1 else 2)):=by
 have hk:=Blk.new w 40 #[.int .i64 a,.int .i64 b,.int .i64 c];have hB:=(Below.refl w.heap.size w).alloc zN (.cells #[.int .i64 a,.int .i64 b,.int .i64 c] 40);have HB:=zH hB;have c0:(w.alloc (.cells #[.int .i64 a,.int .i64 b,.int .i64 c] 40)).cell? ⟨w.heap.size,0,none⟩=some (.int .i64 a):=hk.cell 0;have c1:(w.alloc (.cells #[.int .i64 a,.int .i64 b,.int .i64 c] 40)).cell? ⟨w.heap.size,1,none⟩=some (.int .i64 b):=hk.cell 1;clear hk hB;go_enter Tryz.func171,Tryz.ntmps171;go_wp2_with fail;generalize w.alloc (.cells #[.int .i64 a,.int .i64 b,.int .i64 c] 40)=W1 at *;go_loop [9] (fun i=>∃k:Nat,k<=2/\i=.int .i64 k/\(0<k->a=0)/\(1<k->b=0)) (fun i=>2-(intOf i).toNat)
 case atStart=>exact⟨0,by omega,rfl,fun h=>by omega,fun h=>by omega⟩
 case round =>
  obtain⟨k,hk,rfl,ha,hb⟩:=hrel
  match k,hk with
  |0,_ =>
   by_cases h:a=0
   ·have e:((a:Int)==0)=true:=by rw[beq_iff_eq];omega
    have HA:=zH h;clear h ha hb;go_wp2;go_round
    case rel=>exact⟨1,by omega,rfl,fun _=>HA.out,fun h=>by omega⟩
    case measure=>simp[intOf]
   ·have e:((a:Int)==0)=false:=by rw[beq_eq_false_iff_ne];omega
    have HH:=zH h;clear h ha hb;go_wp2;go_ret;exact⟨by first|rfl|(rw[if_pos HH.out];rfl),HB.out⟩
  |1,_ =>
   have ha0:=ha (by omega);have HA:=zH ha0
   by_cases h:b=0
   ·have e:((b:Int)==0)=true:=by rw[beq_iff_eq];omega
    have HBB:=zH h;clear h ha hb ha0;go_wp2;go_round
    case rel=>exact⟨2,by omega,rfl,fun _=>HA.out,fun _=>HBB.out⟩
    case measure=>simp[intOf]
   ·have e:((b:Int)==0)=false:=by rw[beq_eq_false_iff_ne];omega
    have HH:=zH h;clear h ha hb ha0;go_wp2;go_ret;exact⟨by first|rfl|(rw[if_neg (by simpa using HA.out),if_pos HH.out];rfl),HB.out⟩
  |2,_ =>have ha0:=ha (by omega);have hb0:=hb (by omega);have HA:=zH ha0;have HBB:=zH hb0;clear ha hb ha0 hb0;go_wp2;go_ret;exact⟨by first|rfl|(rw[if_neg (by simpa using HA.out),if_neg (by simpa using HBB.out)];rfl),HB.out⟩
end
section
open Go.RowKit Go.Shelf Sv
def zk(a b c:Nat):Nat:=(a*1000+b)*1000+c
def Y0(a b c:Nat):Nat:=if a≠0 then zk (a+1) 0 0 else if b≠0 then zk a (b+1) 0 else zk a b (c+1)
def x7(g:List UInt8)(a b c:Nat):Except Int (List zg) :=
 if g=[]\/g=[61] then .ok (zq (zk a b c) (zk a b c+1))
 else if g=[33] then .ok (nt (zq (zk a b c) (zk a b c+1)))
 else if g=[60] then .ok (zq 0 (zk a b c))
 else if g=[60,61] then .ok (zq 0 (zk a b c+1))
 else if g=[62] then .ok (zq (zk a b c+1) ALL)
 else if g=[62,61] then .ok (zq (zk a b c) ALL)
 else if g=[94] then .ok (zq (zk a b c) (Y0 a b c))
 else if g=[126] then .ok (zq (zk a b c) (zk a (b+1) 0))
 else .error 3
theorem Qg{a b c:Nat}(ha:a<=999)(hb:b<=999)(hc:c<=999):zk a b c<ALL:=by unfold zk ALL;omega
theorem zpv{a b c:Nat}(ha:a<=999)(hb:b<=999)(hc:c<=999):Y0 a b c<=ALL:=by
 unfold Y0 zk ALL;split
 ·omega
 ·split<;>omega
theorem zjD{g:List UInt8}{a b c:Nat}(ha:a<=999)(hb:b<=999)(hc:c<=999){l:List zg}(h:x7 g a b c=.ok l):Rg l:=by
 have h1:=Qg ha hb hc;have h2:=zpv ha hb hc;have h3:zk a (b+1) 0<=ALL:=by unfold zk ALL;omega
 unfold x7 at h
 repeat' split at h
 all_goals first
  |(cases h;exact Kl (by omega))
  |(cases h;exact Kl zN)
  |(cases h;exact xY (Kl (by omega)))
  |cases h
def yL(w:World)(x:Except Int (List zg))(e:Ending)(w':World):Prop :=
 match x with
 |.ok l=>∃v',e=.returned (.tuple #[.agg #[v'],.nilIface])/\zi w' v' l/\(∀g,v'.ownBlock=some g->w.heap.size<=g)/\zB w w'
 |.error k=>e=.returned (.tuple #[.agg #[.slice none 0 0],.iface 55 (.int .i64 k)])/\zB w w'
theorem ZN(w:World)(A B C:Value):∃W0:World,((w.alloc (.cells #[A,B,C] 40)).alloc (.cells #[.slice none 0 0] 67))=W0/\Blk W0 w.heap.size 40 #[A,B,C]/\Blk W0 (w.heap.size+1) 67 #[.slice none 0 0]/\zB w W0/\W0.heap.size=w.heap.size+2:=by
 have k0:=(Blk.new w 40 #[A,B,C]).alloc (.cells #[.slice none 0 0] 67);have k1:=Blk.new (w.alloc (.cells #[A,B,C] 40)) 67 #[.slice none 0 0];rw[World.size_alloc] at k1;exact⟨_,rfl,k0,k1,((Below.refl _ w).alloc zN _).alloc (by simp only[World.size_alloc];omega) _,by simp only[World.size_alloc]⟩
theorem Qb(x y:Nat)(W:World):zC 130 #[.int .i64 x,.int .i64 y] W fun e w'=>∃a' c',e=.returned (.agg #[.slice a' (zq x y).length c'])/\zi w' (.slice a' (zq x y).length c') (zq x y)/\(∀g,(Value.slice a' (zq x y).length c').ownBlock=some g->W.heap.size<=g)/\zB W w' :=
 (zdV x y W).mono fun e w' ⟨v',he,hs,hn,hb⟩=>by obtain⟨a',c',rfl⟩:=hs.form;exact⟨a',c',he,hs,hn,hb⟩
theorem zhb(l:List zg)(hl:Rg l)(v:Value)(W:World)(hv:zi W v l):zC 86 #[.agg #[v]] W fun e w'=>∃a' c',e=.returned (.agg #[.slice a' (nt l).length c'])/\zi w' (.slice a' (nt l).length c') (nt l)/\(∀g,(Value.slice a' (nt l).length c').ownBlock=some g->W.heap.size<=g)/\zB W w' :=
 (Ki l hl v W hv).mono fun e w' ⟨v',he,hs,hn,hb⟩=>by obtain⟨a',c',rfl⟩:=hs.form;exact⟨a',c',he,hs,hn,hb⟩
theorem zhq(g:ByteArray)(a b c:Nat)(ha:a<=999)(hb:b<=999)(hc:c<=999)(w:World)(hg:g.toList=[]) :
  zC 132 #[.string g,.agg #[.int .i64 a,.int .i64 b,.int .i64 c]] w (yL w (.ok (zq (zk a b c) (zk a b c+1)))):=by
 have HN:Hid (∀W,zR 114 #[.agg #[.int .i64 a,.int .i64 b,.int .i64 c]] W (.int .i64 (zk a b c:Nat))):=fun W=>xI a b c (by omega) (by omega) (by omega) W;have hlt:=Qg ha hb hc;generalize zk a b c=n at *;have hlt':(n:Int)<1000000000:=by unfold ALL at hlt;omega
 obtain⟨W0,hW0,k0,k1,hB,hs0⟩:=ZN w (.int .i64 a) (.int .i64 b) (.int .i64 c);have HR:=zH (fun W=>Qb n (n+1) W);have HW0:=zH hW0;have HK0:=zH k0;have HK1:=zH k1;have HB:=zH hB;have HS:=zH hs0;have HLT:=zH hlt;clear hW0 k0 k1 hB hs0 hlt;go_enter Tryz.func132,Tryz.ntmps132;go_wp2_with fail;rw[HW0.out];refine(HN.out _).mono ?_;rintro e w1 ⟨rfl,hb1⟩;have D1:=zH hb1;clear hb1;go_wp2_with fail;refine(HR.out _).mono ?_;rintro e wK ⟨a',c',rfl,hsK,hnn,hbK⟩;have hn2:∀g,(Value.slice a' (zq n (n+1)).length c').ownBlock=some g->W0.heap.size<=g:=fun g hg=>Nat.le_trans D1.out.size (hnn g hg);have DK:zB W0 wK:=zT D1.out hbK;have hl1:w.heap.size+1<W0.heap.size:=by have:=HS.out;omega
 have hc4:wK.cell? ⟨w.heap.size+1,0,none⟩=some (.slice none 0 0):=(HK1.out.below DK hl1).cell 0;have hf4:=(HK1.out.below DK hl1).frozen 0;have HP:=zH (Zs HB.out (HK1.out.cell 0) (Nat.le_succ _) hl1 hsK hn2 DK);clear hsK hnn hbK hn2 DK hl1;go_wp2;obtain⟨h3,h4,h5,h6⟩:=HP.out;refine bodyPost_ret (v:=.tuple #[.agg #[.slice a' (zq n (n+1)).length c'],.nilIface]) (by simp[results,Tryz.results132,go_sem,h3]) rfl ?_;exact⟨_,rfl,h4,h5,h6⟩
theorem zoh(g:ByteArray)(a b c:Nat)(ha:a<=999)(hb:b<=999)(hc:c<=999)(w:World)(hg:g.toList=[61]) :
  zC 132 #[.string g,.agg #[.int .i64 a,.int .i64 b,.int .i64 c]] w (yL w (.ok (zq (zk a b c) (zk a b c+1)))):=by
 have HN:Hid (∀W,zR 114 #[.agg #[.int .i64 a,.int .i64 b,.int .i64 c]] W (.int .i64 (zk a b c:Nat))):=fun W=>xI a b c (by omega) (by omega) (by omega) W;have hlt:=Qg ha hb hc;generalize zk a b c=n at *;have hlt':(n:Int)<1000000000:=by unfold ALL at hlt;omega
 obtain⟨W0,hW0,k0,k1,hB,hs0⟩:=ZN w (.int .i64 a) (.int .i64 b) (.int .i64 c);have HR:=zH (fun W=>Qb n (n+1) W);have HW0:=zH hW0;have HK0:=zH k0;have HK1:=zH k1;have HB:=zH hB;have HS:=zH hs0;have HLT:=zH hlt;clear hW0 k0 k1 hB hs0 hlt;go_enter Tryz.func132,Tryz.ntmps132;go_wp2_with fail;rw[HW0.out];refine(HN.out _).mono ?_;rintro e w1 ⟨rfl,hb1⟩;have D1:=zH hb1;clear hb1;go_wp2_with fail;refine(HR.out _).mono ?_;rintro e wK ⟨a',c',rfl,hsK,hnn,hbK⟩;have hn2:∀g,(Value.slice a' (zq n (n+1)).length c').ownBlock=some g->W0.heap.size<=g:=fun g hg=>Nat.le_trans D1.out.size (hnn g hg);have DK:zB W0 wK:=zT D1.out hbK;have hl1:w.heap.size+1<W0.heap.size:=by have:=HS.out;omega
 have hc4:wK.cell? ⟨w.heap.size+1,0,none⟩=some (.slice none 0 0):=(HK1.out.below DK hl1).cell 0;have hf4:=(HK1.out.below DK hl1).frozen 0;have HP:=zH (Zs HB.out (HK1.out.cell 0) (Nat.le_succ _) hl1 hsK hn2 DK);clear hsK hnn hbK hn2 DK hl1;go_wp2;obtain⟨h3,h4,h5,h6⟩:=HP.out;refine bodyPost_ret (v:=.tuple #[.agg #[.slice a' (zq n (n+1)).length c'],.nilIface]) (by simp[results,Tryz.results132,go_sem,h3]) rfl ?_;exact⟨_,rfl,h4,h5,h6⟩
theorem zhB(g:ByteArray)(a b c:Nat)(ha:a<=999)(hb:b<=999)(hc:c<=999)(w:World)(hg:g.toList=[60]) :
  zC 132 #[.string g,.agg #[.int .i64 a,.int .i64 b,.int .i64 c]] w (yL w (.ok (zq 0 (zk a b c)))):=by
 have HN:Hid (∀W,zR 114 #[.agg #[.int .i64 a,.int .i64 b,.int .i64 c]] W (.int .i64 (zk a b c:Nat))):=fun W=>xI a b c (by omega) (by omega) (by omega) W;have hlt:=Qg ha hb hc;generalize zk a b c=n at *;have hlt':(n:Int)<1000000000:=by unfold ALL at hlt;omega
 obtain⟨W0,hW0,k0,k1,hB,hs0⟩:=ZN w (.int .i64 a) (.int .i64 b) (.int .i64 c);have HR:=zH (fun W=>Qb 0 n W);have HW0:=zH hW0;have HK0:=zH k0;have HK1:=zH k1;have HB:=zH hB;have HS:=zH hs0;have HLT:=zH hlt;clear hW0 k0 k1 hB hs0 hlt;go_enter Tryz.func132,Tryz.ntmps132;go_wp2_with fail;rw[HW0.out];refine(HN.out _).mono ?_;rintro e w1 ⟨rfl,hb1⟩;have D1:=zH hb1;clear hb1;go_wp2_with fail;refine(HR.out _).mono ?_;rintro e wK ⟨a',c',rfl,hsK,hnn,hbK⟩;have hn2:∀g,(Value.slice a' (zq 0 n).length c').ownBlock=some g->W0.heap.size<=g:=fun g hg=>Nat.le_trans D1.out.size (hnn g hg);have DK:zB W0 wK:=zT D1.out hbK;have hl1:w.heap.size+1<W0.heap.size:=by have:=HS.out;omega
 have hc4:wK.cell? ⟨w.heap.size+1,0,none⟩=some (.slice none 0 0):=(HK1.out.below DK hl1).cell 0;have hf4:=(HK1.out.below DK hl1).frozen 0;have HP:=zH (Zs HB.out (HK1.out.cell 0) (Nat.le_succ _) hl1 hsK hn2 DK);clear hsK hnn hbK hn2 DK hl1;go_wp2;obtain⟨h3,h4,h5,h6⟩:=HP.out;refine bodyPost_ret (v:=.tuple #[.agg #[.slice a' (zq 0 n).length c'],.nilIface]) (by simp[results,Tryz.results132,go_sem,h3]) rfl ?_;exact⟨_,rfl,h4,h5,h6⟩
theorem zhz(g:ByteArray)(a b c:Nat)(ha:a<=999)(hb:b<=999)(hc:c<=999)(w:World)(hg:g.toList=[60,61]) :
  zC 132 #[.string g,.agg #[.int .i64 a,.int .i64 b,.int .i64 c]] w (yL w (.ok (zq 0 (zk a b c+1)))):=by
 have HN:Hid (∀W,zR 114 #[.agg #[.int .i64 a,.int .i64 b,.int .i64 c]] W (.int .i64 (zk a b c:Nat))):=fun W=>xI a b c (by omega) (by omega) (by omega) W;have hlt:=Qg ha hb hc;generalize zk a b c=n at *;have hlt':(n:Int)<1000000000:=by unfold ALL at hlt;omega
 obtain⟨W0,hW0,k0,k1,hB,hs0⟩:=ZN w (.int .i64 a) (.int .i64 b) (.int .i64 c);have HR:=zH (fun W=>Qb 0 (n+1) W);have HW0:=zH hW0;have HK0:=zH k0;have HK1:=zH k1;have HB:=zH hB;have HS:=zH hs0;have HLT:=zH hlt;clear hW0 k0 k1 hB hs0 hlt;go_enter Tryz.func132,Tryz.ntmps132;go_wp2_with fail;rw[HW0.out];refine(HN.out _).mono ?_;rintro e w1 ⟨rfl,hb1⟩;have D1:=zH hb1;clear hb1;go_wp2_with fail;refine(HR.out _).mono ?_;rintro e wK ⟨a',c',rfl,hsK,hnn,hbK⟩;have hn2:∀g,(Value.slice a' (zq 0 (n+1)).length c').ownBlock=some g->W0.heap.size<=g:=fun g hg=>Nat.le_trans D1.out.size (hnn g hg);have DK:zB W0 wK:=zT D1.out hbK;have hl1:w.heap.size+1<W0.heap.size:=by have:=HS.out;omega
 have hc4:wK.cell? ⟨w.heap.size+1,0,none⟩=some (.slice none 0 0):=(HK1.out.below DK hl1).cell 0;have hf4:=(HK1.out.below DK hl1).frozen 0;have HP:=zH (Zs HB.out (HK1.out.cell 0) (Nat.le_succ _) hl1 hsK hn2 DK);clear hsK hnn hbK hn2 DK hl1;go_wp2;obtain⟨h3,h4,h5,h6⟩:=HP.out;refine bodyPost_ret (v:=.tuple #[.agg #[.slice a' (zq 0 (n+1)).length c'],.nilIface]) (by simp[results,Tryz.results132,go_sem,h3]) rfl ?_;exact⟨_,rfl,h4,h5,h6⟩
theorem znI(g:ByteArray)(a b c:Nat)(ha:a<=999)(hb:b<=999)(hc:c<=999)(w:World)(hg:g.toList=[62]) :
  zC 132 #[.string g,.agg #[.int .i64 a,.int .i64 b,.int .i64 c]] w (yL w (.ok (zq (zk a b c+1) 1000000000))):=by
 have HN:Hid (∀W,zR 114 #[.agg #[.int .i64 a,.int .i64 b,.int .i64 c]] W (.int .i64 (zk a b c:Nat))):=fun W=>xI a b c (by omega) (by omega) (by omega) W;have hlt:=Qg ha hb hc;generalize zk a b c=n at *;have hlt':(n:Int)<1000000000:=by unfold ALL at hlt;omega
 obtain⟨W0,hW0,k0,k1,hB,hs0⟩:=ZN w (.int .i64 a) (.int .i64 b) (.int .i64 c);have HR:=zH (fun W=>Qb (n+1) 1000000000 W);have HW0:=zH hW0;have HK0:=zH k0;have HK1:=zH k1;have HB:=zH hB;have HS:=zH hs0;have HLT:=zH hlt;clear hW0 k0 k1 hB hs0 hlt;go_enter Tryz.func132,Tryz.ntmps132;go_wp2_with fail;rw[HW0.out];refine(HN.out _).mono ?_;rintro e w1 ⟨rfl,hb1⟩;have D1:=zH hb1;clear hb1;go_wp2_with fail;refine(HR.out _).mono ?_;rintro e wK ⟨a',c',rfl,hsK,hnn,hbK⟩;have hn2:∀g,(Value.slice a' (zq (n+1) 1000000000).length c').ownBlock=some g->W0.heap.size<=g:=fun g hg=>Nat.le_trans D1.out.size (hnn g hg);have DK:zB W0 wK:=zT D1.out hbK;have hl1:w.heap.size+1<W0.heap.size:=by have:=HS.out;omega
 have hc4:wK.cell? ⟨w.heap.size+1,0,none⟩=some (.slice none 0 0):=(HK1.out.below DK hl1).cell 0;have hf4:=(HK1.out.below DK hl1).frozen 0;have HP:=zH (Zs HB.out (HK1.out.cell 0) (Nat.le_succ _) hl1 hsK hn2 DK);clear hsK hnn hbK hn2 DK hl1;go_wp2;obtain⟨h3,h4,h5,h6⟩:=HP.out;refine bodyPost_ret (v:=.tuple #[.agg #[.slice a' (zq (n+1) 1000000000).length c'],.nilIface]) (by simp[results,Tryz.results132,go_sem,h3]) rfl ?_;exact⟨_,rfl,h4,h5,h6⟩
theorem zoq(g:ByteArray)(a b c:Nat)(ha:a<=999)(hb:b<=999)(hc:c<=999)(w:World)(hg:g.toList=[62,61]) :
  zC 132 #[.string g,.agg #[.int .i64 a,.int .i64 b,.int .i64 c]] w (yL w (.ok (zq (zk a b c) 1000000000))):=by
 have HN:Hid (∀W,zR 114 #[.agg #[.int .i64 a,.int .i64 b,.int .i64 c]] W (.int .i64 (zk a b c:Nat))):=fun W=>xI a b c (by omega) (by omega) (by omega) W;have hlt:=Qg ha hb hc;generalize zk a b c=n at *;have hlt':(n:Int)<1000000000:=by unfold ALL at hlt;omega
 obtain⟨W0,hW0,k0,k1,hB,hs0⟩:=ZN w (.int .i64 a) (.int .i64 b) (.int .i64 c);have HR:=zH (fun W=>Qb n 1000000000 W);have HW0:=zH hW0;have HK0:=zH k0;have HK1:=zH k1;have HB:=zH hB;have HS:=zH hs0;have HLT:=zH hlt;clear hW0 k0 k1 hB hs0 hlt;go_enter Tryz.func132,Tryz.ntmps132;go_wp2_with fail;rw[HW0.out];refine(HN.out _).mono ?_;rintro e w1 ⟨rfl,hb1⟩;have D1:=zH hb1;clear hb1;go_wp2_with fail;refine(HR.out _).mono ?_;rintro e wK ⟨a',c',rfl,hsK,hnn,hbK⟩;have hn2:∀g,(Value.slice a' (zq n 1000000000).length c').ownBlock=some g->W0.heap.size<=g:=fun g hg=>Nat.le_trans D1.out.size (hnn g hg);have DK:zB W0 wK:=zT D1.out hbK;have hl1:w.heap.size+1<W0.heap.size:=by have:=HS.out;omega
 have hc4:wK.cell? ⟨w.heap.size+1,0,none⟩=some (.slice none 0 0):=(HK1.out.below DK hl1).cell 0;have hf4:=(HK1.out.below DK hl1).frozen 0;have HP:=zH (Zs HB.out (HK1.out.cell 0) (Nat.le_succ _) hl1 hsK hn2 DK);clear hsK hnn hbK hn2 DK hl1;go_wp2;obtain⟨h3,h4,h5,h6⟩:=HP.out;refine bodyPost_ret (v:=.tuple #[.agg #[.slice a' (zq n 1000000000).length c'],.nilIface]) (by simp[results,Tryz.results132,go_sem,h3]) rfl ?_;exact⟨_,rfl,h4,h5,h6⟩
theorem zjX(g:ByteArray)(a b c:Nat)(ha:a<=999)(hb:b<=999)(hc:c<=999)(w:World)(hg:g.toList=[33]) :
  zC 132 #[.string g,.agg #[.int .i64 a,.int .i64 b,.int .i64 c]] w (yL w (.ok (nt (zq (zk a b c) (zk a b c+1))))):=by
 have HN:Hid (∀W,zR 114 #[.agg #[.int .i64 a,.int .i64 b,.int .i64 c]] W (.int .i64 (zk a b c:Nat))):=fun W=>xI a b c (by omega) (by omega) (by omega) W;have hlt:=Qg ha hb hc;generalize zk a b c=n at *;have hlt':(n:Int)<1000000000:=by unfold ALL at hlt;omega
 obtain⟨W0,hW0,k0,k1,hB,hs0⟩:=ZN w (.int .i64 a) (.int .i64 b) (.int .i64 c);have HR:=zH (fun W=>Qb n (n+1) W);have HT:Hid (∀v W,zi W v (zq n (n+1))->zC 86 #[.agg #[v]] W fun e w'=>∃a' c',e=.returned (.agg #[.slice a' (nt (zq n (n+1))).length c'])/\zi w' (.slice a' (nt (zq n (n+1))).length c') (nt (zq n (n+1)))/\(∀g,(Value.slice a' (nt (zq n (n+1))).length c').ownBlock=some g->W.heap.size<=g)/\zB W w'):=fun v W h=>zhb _ (Kl (by omega)) v W h;have HW0:=zH hW0;have HK0:=zH k0;have HK1:=zH k1;have HB:=zH hB;have HS:=zH hs0;have HLT:=zH hlt;clear hW0 k0 k1 hB hs0 hlt;go_enter Tryz.func132,Tryz.ntmps132;go_wp2_with fail;rw[HW0.out];refine(HN.out _).mono ?_;rintro e w1 ⟨rfl,hb1⟩;have D1:=zH hb1;clear hb1;go_wp2_with fail;refine(HR.out _).mono ?_;rintro e w2 ⟨a2,c2,rfl,hs2,-,hb2⟩;have D2:Hid (zB W0 w2):=zT D1.out hb2;have HT2:=zH (HT.out _ _ hs2);clear hs2 hb2 HT HR;go_wp2_with fail;refine HT2.out.mono ?_;rintro e wK ⟨a',c',rfl,hsK,hnn,hbK⟩;have hn2:∀g,(Value.slice a' (nt (zq n (n+1))).length c').ownBlock=some g->W0.heap.size<=g:=fun g hg=>Nat.le_trans D2.out.size (hnn g hg);have DK:zB W0 wK:=zT D2.out hbK;have hl1:w.heap.size+1<W0.heap.size:=by have:=HS.out;omega
 have hc4:wK.cell? ⟨w.heap.size+1,0,none⟩=some (.slice none 0 0):=(HK1.out.below DK hl1).cell 0;have hf4:=(HK1.out.below DK hl1).frozen 0;have HP:=zH (Zs HB.out (HK1.out.cell 0) (Nat.le_succ _) hl1 hsK hn2 DK);clear hsK hnn hbK hn2 DK hl1;go_wp2;obtain⟨h3,h4,h5,h6⟩:=HP.out;refine bodyPost_ret (v:=.tuple #[.agg #[.slice a' (nt (zq n (n+1))).length c'],.nilIface]) (by simp[results,Tryz.results132,go_sem,h3]) rfl ?_;exact⟨_,rfl,h4,h5,h6⟩
end
end Go.Proofs.YtlmmkbnjhilbdaaGreatDoor
