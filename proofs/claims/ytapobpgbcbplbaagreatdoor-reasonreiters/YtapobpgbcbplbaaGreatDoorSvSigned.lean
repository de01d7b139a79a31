/- signed: a version with signs ahead. -/
import Derived.Test.YtapobpgbcbplbaaGreatDoorSvAnd
set_option maxHeartbeats 2000000
set_option maxRecDepth 100000
namespace Go.Proofs.YtapobpgbcbplbaaGreatDoor
section
open Go.RowKit Sv
theorem zcB(a b:Nat)(w:World) :
  zC 179 #[.int .i64 a,.int .i64 b] w (Qs w (zG a b)):=by
 by_cases h:a<b
 ·have h':¬(b:Int)<=(a:Int):=by omega
  have hb:=((Below.refl w.heap.size w).alloc zN (.cells #[.slice (some ⟨w.heap.size+1,0,none⟩) 1 1] 36)).alloc (by rw[World.size_alloc];omega) (.cells #[.int .i64 a,.int .i64 b] 198);have h2:=Kn (w.alloc (.cells #[.slice (some ⟨w.heap.size+1,0,none⟩) 1 1] 36)) (.int .i64 a) (.int .i64 b) 198;rw[World.size_alloc] at h2;have h1:=Qm w (.slice (some ⟨w.heap.size+1,0,none⟩) 1 1) 36;have h3:((w.alloc (.cells #[.slice (some ⟨w.heap.size+1,0,none⟩) 1 1] 36)).alloc (.cells #[.int .i64 a,.int .i64 b] 198)).cell? ⟨w.heap.size,0,none⟩=some (.slice (some ⟨w.heap.size+1,0,none⟩) 1 1):=(((Below.refl _ (w.alloc (.cells #[.slice (some ⟨w.heap.size+1,0,none⟩) 1 1] 36))).alloc zN _).cell (p:=⟨w.heap.size,0,none⟩) (by show w.heap.size<_;rw[World.size_alloc];omega)).trans h1;have hs:w.heap.size+1<((w.alloc (.cells #[.slice (some ⟨w.heap.size+1,0,none⟩) 1 1] 36)).alloc (.cells #[.int .i64 a,.int .i64 b] 198)).heap.size:=by rw[World.size_alloc,World.size_alloc];omega
  have HB:=zH hb;have H2:=zH h2;have H3:=zH h3;have HS:=zH hs;clear hb h2 h1 h3 hs;go_enter Tryz.func179,Tryz.ntmps179;go_wp2;have h3:=H3.out;refine bodyPost_ret (v:=.agg #[.slice (some ⟨w.heap.size+1,0,none⟩) 1 1]) (by simp[results,Tryz.results179,go_sem,h3]) rfl ?_;refine⟨_,rfl,?_,fun g hg=>by simp[Value.ownBlock] at hg;omega,HB.out⟩;rw[zG,if_pos h];exact⟨⟨_,_,rfl⟩,fun i hi=>⟨w.heap.size+1,1,rfl,HS.out,by obtain rfl:i=0:=(by simp at hi;exact hi);exact H2.out.1,by obtain rfl:i=0:=(by simp at hi;exact hi);exact H2.out.2⟩⟩
 ·have h':(b:Int)<=(a:Int):=by omega
  have h1:=Qm w (.slice none 0 0) 36;have H1:=zH h1;clear h1;go_enter Tryz.func179,Tryz.ntmps179;go_wp2;have h1:=H1.out;refine bodyPost_ret (v:=.agg #[.slice none 0 0]) (by simp[results,Tryz.results179,go_sem]) rfl ?_;refine⟨_,rfl,?_,fun g hg=>by simp[Value.ownBlock] at hg,zF.alloc zN _⟩;rw[zG,if_neg h];exact XG _
theorem xK{w w1 w':World}{v:Value}{l:List zh}{b:Nat}(hb:zB w w1)(h1:w1.cell? ⟨b,0,none⟩=some (.slice none 0 0))(hB:w.heap.size<=b)(hl:b<w1.heap.size)(hs:zi w' v l)(hn:∀g,v.ownBlock=some g->w1.heap.size<=g)(h':zB w1 w') :
  (w'.setCell ⟨b,0,none⟩ v).cell? ⟨b,0,none⟩=some v/\zi (w'.setCell ⟨b,0,none⟩ v) v l/\(∀g,v.ownBlock=some g->w.heap.size<=g)/\zB w (w'.setCell ⟨b,0,none⟩ v):=by
 refine⟨World.cell?_setCell_same' _ _ _ (by rw[h'.cell (p:=⟨b,0,none⟩) hl,h1];rfl),hs.set (fun e=>by have:=hn b e;omega),fun g hg=>Nat.le_trans hb.size (hn g hg),(zT hb h').setCell (p:=⟨b,0,none⟩) hB v⟩
theorem QH(w:World):zC 145 #[] w (Qs w zr):=by
 have HH:Hid (∀W:World,zC 179 #[.int .i64 0,.int .i64 1000000000] W (fun e w'=>∃v',e=.returned (.agg #[v'])/\zi w' v' zr/\(∀g,v'.ownBlock=some g->W.heap.size<=g)/\zB W w')):=fun W=>zcB 0 1000000000 W;have h1:=Qm w (.slice none 0 0) 36;have f1:=zeA w (.slice none 0 0) 36;have b1:zB w (w.alloc (.cells #[.slice none 0 0] 36)):=zF.alloc zN _;have l1:w.heap.size<(w.alloc (.cells #[.slice none 0 0] 36)).heap.size:=by rw[World.size_alloc];omega
 have H1:=zH h1;have F1:=zH f1;have B1:=zH b1;have L1:=zH l1;clear h1 f1 b1 l1;go_enter Tryz.func145,Tryz.ntmps145;go_wp2_with fail;generalize w.alloc (.cells #[.slice none 0 0] 36)=W1 at *;refine(HH.out _).mono ?_;rintro e w' ⟨v',rfl,hs,hn,hb⟩;obtain⟨va,vc,rfl⟩:=hs.form;have hc:=(hb.cell (p:=⟨w.heap.size,0,none⟩) L1.out).trans H1.out;have hf:=(hb.frozen (p:=⟨w.heap.size,0,none⟩) L1.out).trans F1.out;have HP:=zH (xK B1.out H1.out zN L1.out hs hn hb);clear hs hn hb;go_wp2;obtain⟨h3,h4,h5,h6⟩:=HP.out;refine bodyPost_ret (v:=.agg #[.slice va zr.length vc]) (by simp[results,Tryz.results145,go_sem,h3]) rfl ?_;exact⟨_,rfl,h4,h5,h6⟩
end
section
open Go.RowKit Sv
theorem K0(l m:List zh)(hl:Rg l)(hm:Rg m)(v u:Value)(w:World)(hv:zi w v l)(hu:zi w u m) :
  zC 86 #[.agg #[v],.agg #[u]] w (Qs w (orr l m)):=by
 obtain⟨a,cap,rfl⟩:=hv.form;obtain⟨b,cbp,rfl⟩:=hu.form;have hB:=(zaR w (.slice a l.length cap) (.slice b m.length cbp) (.slice none 0 0) 36 36 36).below;have HN1:Hid (∀W,zB w W->zC 148 #[.agg #[.slice a l.length cap]] W (fun e w'=>∃a' c',e=.returned (.agg #[.slice a' (nt l).length c'])/\zi w' (.slice a' (nt l).length c') (nt l)/\zB W w')):=fun W hW=>(Kt l hl _ W (hv.below hW zN)).mono fun e w' ⟨v',he,hs,hn,hb⟩=>by obtain⟨a',c',rfl⟩:=hs.form;exact⟨a',c',he,hs,hb⟩
 have HN2:Hid (∀W,zB w W->zC 148 #[.agg #[.slice b m.length cbp]] W (fun e w'=>∃a' c',e=.returned (.agg #[.slice a' (nt m).length c'])/\zi w' (.slice a' (nt m).length c') (nt m)/\zB W w')):=fun W hW=>(Kt m hm _ W (hu.below hW zN)).mono fun e w' ⟨v',he,hs,hn,hb⟩=>by obtain⟨a',c',rfl⟩:=hs.form;exact⟨a',c',he,hs,hb⟩
 have HA:Hid (∀v1 v2 W,zi W v1 (nt l)->zi W v2 (nt m)->zC 147 #[.agg #[v1],.agg #[v2]] W (fun e w'=>∃a' c',e=.returned (.agg #[.slice a' (nd (nt l) (nt m)).length c'])/\zi w' (.slice a' (nd (nt l) (nt m)).length c') (nd (nt l) (nt m))/\zB W w')):=fun v1 v2 W h1 h2=>(zbi _ _ (ZQ hl) (ZQ hm) v1 v2 W h1 h2).mono fun e w' ⟨v',he,hs,hn,hb⟩=>by obtain⟨a',c',rfl⟩:=hs.form;exact⟨a',c',he,hs,hb⟩
 have HN3:Hid (∀v1 W,zi W v1 (nd (nt l) (nt m))->zC 148 #[.agg #[v1]] W (fun e w'=>∃a' c',e=.returned (.agg #[.slice a' (orr l m).length c'])/\zi w' (.slice a' (orr l m).length c') (orr l m)/\(∀g,(Value.slice a' (orr l m).length c').ownBlock=some g->W.heap.size<=g)/\zB W w')):=fun v1 W h1=>(Kt _ (YF (ZQ hl) (ZQ hm)) v1 W h1).mono fun e w' ⟨v',he,hs,hn,hb⟩=>by obtain⟨a',c',rfl⟩:=hs.form;exact⟨a',c',he,hs,hn,hb⟩
 have hbox:=zaR w (.slice a l.length cap) (.slice b m.length cbp) (.slice none 0 0) 36 36 36;clear hv hu hl hm hB;go_enter Tryz.func86,Tryz.ntmps86;go_wp2_with fail;generalize ((w.alloc (.cells #[.slice a l.length cap] 36)).alloc (.cells #[.slice b m.length cbp] 36)).alloc (.cells #[.slice none 0 0] 36)=W0 at *;have hs0:=hbox.size;have hB0:=hbox.below;have hr0:=hbox.c0;have ho0:=hbox.c1;have hc0:=hbox.c2;have hf0:=hbox.f2;have SC:Hid (∀W,Below (w.heap.size+2) W0 W->W.cell? ⟨w.heap.size,0,none⟩=some (.slice a l.length cap)/\W.cell? ⟨w.heap.size+1,0,none⟩=some (.slice b m.length cbp)):=fun W hb=>⟨(hb.cell (p:=⟨w.heap.size,0,none⟩) (by show w.heap.size<_;omega)).trans hr0,(hb.cell (p:=⟨w.heap.size+1,0,none⟩) (by show w.heap.size+1<_;omega)).trans ho0⟩;have HB0:=zH hB0;have HS0:=zH hs0;have HC0:=zH hc0;have HF0:=zH hf0;have L0:Hid (w.heap.size+2<=W0.heap.size):=by show w.heap.size+2<=W0.heap.size;omega
 have L1:Hid (w.heap.size+1+1<W0.heap.size):=by show w.heap.size+1+1<W0.heap.size;omega
 have D0:zB W0 W0.drew:=zF.drew;have E0:zB w W0.drew:=hB0.drew;clear hbox hs0 hB0 hr0 ho0 hc0 hf0;go_region_held3 (fun w'=>w'.cell? ⟨w.heap.size,0,none⟩=some (.slice a l.length cap)/\w'.cell? ⟨w.heap.size+1,0,none⟩=some (.slice b m.length cbp)) (first|exact SC.out _ (D0.mono L0.out)|exact SC.out _ (D1.mono L0.out)|exact SC.out _ (D2.mono L0.out)|exact SC.out _ (D3.mono L0.out)|exact SC.out _ (D4.mono L0.out)|exact SC.out _ D5)
  (first
   |((with_reducible refine(HN1.out _ E0).mono ?_);rintro e w1 ⟨a1,c1,rfl,hs1,hb1⟩;have D1:zB W0 w1:=D0.trans hb1;have E1:zB w w1:=zT E0 hb1;clear HN1)
   |((with_reducible refine(HN2.out _ E1).mono ?_);rintro e w2 ⟨a2,c2,rfl,hs2,hb2⟩;have D2:zB W0 w2:=zT D1 hb2;have hs12:=hs1.below hb2 zN;clear HN2)
   |((with_reducible refine(HA.out _ _ _ hs12 hs2).mono ?_);rintro e w3 ⟨a3,c3,rfl,hs3,hb3⟩;have D3:zB W0 w3:=zT D2 hb3;clear HA)
   | ((with_reducible refine (HN3.out _ _ hs3).mono ?_);rintro e w4 ⟨a4,c4,rfl,hs4,hn4,hb4⟩;have D4:zB W0 w4:=zT D3 hb4;have hc4:=(D4.cell (p:=⟨w.heap.size + 1 + 1,0,none⟩) L1.out).trans HC0.out;have hf4:=(D4.frozen (p:=⟨w.heap.size + 1 + 1,0,none⟩) L1.out).trans HF0.out;have D5:Below (w.heap.size + 2) W0 (w4.setCell ⟨w.heap.size + 1 + 1,0,none⟩ (.slice a4 (orr l m).length c4)):=(D4.mono L0.out).setCell (p:=⟨w.heap.size + 1 + 1,0,none⟩) zN _;clear HN3))
 have hn:∀g,(Value.slice a4 (orr l m).length c4).ownBlock=some g->W0.heap.size<=g:=fun g hg=>Nat.le_trans D3.size (hn4 g hg);have HP:=zH (xK HB0.out HC0.out (by omega) L1.out hs4 hn D4);clear hs1 hs2 hs12 hs3 hs4 hn4 hn hb1 hb2 hb3 hb4 D0 D1 D2 D3 D4 D5 E0 E1;go_wp2;obtain⟨h3,h4,h5,h6⟩:=HP.out;refine bodyPost_ret (v:=.agg #[.slice a4 (orr l m).length c4]) (by simp[results,Tryz.results86,go_sem,h3]) rfl ?_;exact⟨_,rfl,h4,h5,h6⟩
end
section
open Go.RowKit Go.Shelf Sv
theorem zfY(s:ByteArray)(w:World)(hc:s.data.toList.count 46≠2) :
  zR 52 #[.string s] w (ZR (.error 3)):=by
 have HC:Hid (∀W,zC 82 #[.string s,.string ⟨#[46]⟩] W fun e w'=>e=.returned (.int .i64 (s.data.toList.count 46:Nat))/\w'=W):=fun W=>Tryz.strings_Count_one s 46 W;have hne:(((s.data.toList.count 46:Nat):Int)==2)=false:=by rw[beq_eq_false_iff_ne];omega
 generalize s.data.toList.count 46=n at *;clear hc;go_enter Tryz.func52,Tryz.ntmps52;go_wp2_with (go_at_call 82;refine(HC.out _).mono ?_;rintro e w' ⟨rfl,rfl⟩);have k0:=((Blk.new w 33 z3).alloc (.cells #[.iface 64 (.int .i64 3)] 41)).alloc (.cells z3 33);have k1:=(Blk.new (w.alloc (.cells z3 33)) 41 #[.iface 64 (.int .i64 3)]).alloc (.cells z3 33);rw[World.size_alloc] at k1;have hB:zB w (((w.alloc (.cells z3 33)).alloc (.cells #[.iface 64 (.int .i64 3)] 41)).alloc (.cells z3 33)):=(((Below.refl _ w).alloc zN _).alloc (by simp only[World.size_alloc];omega) _).alloc (by simp only[World.size_alloc];omega) _;generalize ((w.alloc (.cells z3 33)).alloc (.cells #[.iface 64 (.int .i64 3)] 41)).alloc (.cells z3 33)=WF at *;have r0:=k0.cell 0;have r1:=k0.cell 1;have r2:=k0.cell 2;have r3:=k1.cell 0;refine bodyPost_ret (v:=ZR (.error 3)) (by simp[results,Tryz.f52,go_sem,r0,r1,r2,r3,ZR]) rfl ?_;exact⟨rfl,hB⟩
theorem Km(s:ByteArray)(w:World)(hs:s.size<=100000)(hw:Lb w) :
  zR 52 #[.string s] w (ZR (xC s)):=by
 unfold xC
 by_cases hc:s.data.toList.count 46=2
 ·rw[if_pos hc];exact(callsIn_wide (n:=4)).1 (znt s w hs hw hc)
 ·rw[if_neg hc];exact zfY s w hc
theorem y9(a b c:Nat)(ha:a<=1000)(hb:b<=1000)(hc:c<=1000)(w:World) :
  zR 97 #[.agg #[.int .i64 a,.int .i64 b,.int .i64 c]] w (.int .i64 (((a*1000+b)*1000+c:Nat):Int)):=by
 have hB:=(Below.refl w.heap.size w).alloc zN (.cells #[.int .i64 a,.int .i64 b,.int .i64 c] 33);have he:(((a*1000+b)*1000+c:Nat):Int)=((a:Int)*1000+(b:Int))*1000+(c:Int):=by omega
 have HB:=zH hB;have HE:=zH he;clear hB he;go_enter Tryz.func97,Tryz.ntmps97;go_wp2;go_ret;exact⟨by rw[HE.out];rfl,HB.out⟩
theorem JP(w:World)(x y z:Value):∃W1:World,((w.alloc (.cells #[x,y,z] 33)).alloc (.cells z3 33))=W1/\Blk W1 w.heap.size 33 #[x,y,z]/\Blk W1 (w.heap.size+1) 33 z3/\zB w W1:=by
 have k0:=(Blk.new w 33 #[x,y,z]).alloc (.cells z3 33);have k1:=Blk.new (w.alloc (.cells #[x,y,z] 33)) 33 z3;rw[World.size_alloc] at k1;exact⟨_,rfl,k0,k1,((Below.refl _ w).alloc zN _).alloc (by simp only[World.size_alloc];omega) _⟩
theorem zjK(a b c:Nat)(ha:a<=999)(w:World) :
  zR 214 #[.agg #[.int .i64 a,.int .i64 b,.int .i64 c],.int .i64 0] w (.agg #[.int .i64 ((a+1:Nat):Int),.int .i64 0,.int .i64 0]):=by
 obtain⟨W1,hW1,k0,k1,hB⟩:=JP w (.int .i64 ((a:Int)+1)) (.int .i64 b) (.int .i64 c);have HW1:=zH hW1;have HK0:=zH k0;have HK1:=zH k1;have HB:=zH hB;clear hW1 k0 k1 hB;have hcl:=Lib.run_clear_slice (P:=Tryz.prog) W1 24 3 0 (.int .i64 0) Tryz.underlying24 Tryz.zeroValue3 rfl rfl w.heap.size 1 2 2 (by omega) (fun j hj=>by
  match j,hj with
  |0,_=>rw[HK0.out.cell 1];rfl
  | 1,_=>rw [HK0.out.cell 2];rfl) (fun j _=>HK0.out.frozen _)
 have m0:Blk (W1.setCells w.heap.size 1 (List.replicate 2 (.int .i64 0))) w.heap.size 33 #[.int .i64 ((a:Int)+1),.int .i64 0,.int .i64 0]:=(HK0.out.set (i:=1) (v:=.int .i64 0)).set (i:=2) (v:=.int .i64 0);have m1:Blk (W1.setCells w.heap.size 1 (List.replicate 2 (.int .i64 0))) (w.heap.size+1) 33 z3:=(HK1.out.other (by omega)).other (by omega);have mB:zB w (W1.setCells w.heap.size 1 (List.replicate 2 (.int .i64 0))):=(HB.out.setCell (p:=⟨w.heap.size,1,none⟩) zN _).setCell (p:=⟨w.heap.size,2,none⟩) zN _;generalize W1.setCells w.heap.size 1 (List.replicate 2 (.int .i64 0))=W2 at *;have d0:=m0.cell 0;have d1:=m0.cell 1;have d2:=m0.cell 2;have f0:=m1.frozen 0;have f1:=m1.frozen 1;have f2:=m1.frozen 2;have g0:_=some (Value.int .i64 0):=m1.cell 0;have g1:_=some (Value.int .i64 0):=m1.cell 1;have g2:_=some (Value.int .i64 0):=m1.cell 2;simp only[List.getElem?_toArray,List.getElem?_cons_zero,List.getElem?_cons_succ] at d0 d1 d2;obtain⟨WF,hWF⟩:∃WF,((W2.setCell ⟨w.heap.size+1,0,none⟩ (.int .i64 ((a:Int)+1))).setCell ⟨w.heap.size+1,1,none⟩ (.int .i64 0)).setCell ⟨w.heap.size+1,2,none⟩ (.int .i64 0)=WF:=⟨_,rfl⟩;have p1:Blk WF (w.heap.size+1) 33 #[(.int .i64 ((a:Int)+1)),(.int .i64 0),(.int .i64 0)]:=by rw[<-hWF];exact((m1.set (i:=0) (v:=(.int .i64 ((a:Int)+1)))).set (i:=1) (v:=(.int .i64 0))).set (i:=2) (v:=(.int .i64 0))
 have pB:zB w WF:=by rw[<-hWF];exact((mB.setCell (p:=⟨w.heap.size+1,0,none⟩) (Nat.le_succ _) _).setCell (p:=⟨w.heap.size+1,1,none⟩) (Nat.le_succ _) _).setCell (p:=⟨w.heap.size+1,2,none⟩) (Nat.le_succ _) _
 have HP1:=zH p1;have HPB:=zH pB;have HWF:=zH hWF;rw[<-HW1.out] at hcl;clear m0 m1 mB p1 pB hWF HK0 HK1 HB HW1;go_enter Tryz.func214,Tryz.ntmps214;go_wp2;rw[HWF.out];have r0:=HP1.out.cell 0;have r1:=HP1.out.cell 1;have r2:=HP1.out.cell 2;refine bodyPost_ret (v:=.agg #[(.int .i64 ((a:Int)+1)),(.int .i64 0),(.int .i64 0)]) (by simp[results,Tryz.results214,go_sem,r0,r1,r2]) rfl ?_;exact⟨rfl,HPB.out⟩
theorem zcH(a b c:Nat)(hb:b<=999)(w:World) :
  zR 214 #[.agg #[.int .i64 a,.int .i64 b,.int .i64 c],.int .i64 1] w (.agg #[.int .i64 a,.int .i64 ((b+1:Nat):Int),.int .i64 0]):=by
 obtain⟨W1,hW1,k0,k1,hB⟩:=JP w (.int .i64 a) (.int .i64 ((b:Int)+1)) (.int .i64 c);have HW1:=zH hW1;have HK0:=zH k0;have HK1:=zH k1;have HB:=zH hB;clear hW1 k0 k1 hB;have hcl:=Lib.run_clear_slice (P:=Tryz.prog) W1 24 3 0 (.int .i64 0) Tryz.underlying24 Tryz.zeroValue3 rfl rfl w.heap.size 2 1 1 (by omega) (fun j hj=>by
  match j,hj with
  | 0,_=>rw [HK0.out.cell 2];rfl) (fun j _=>HK0.out.frozen _)
 have m0:Blk (W1.setCells w.heap.size 2 (List.replicate 1 (.int .i64 0))) w.heap.size 33 #[.int .i64 a,.int .i64 ((b:Int)+1),.int .i64 0]:=HK0.out.set (i:=2) (v:=.int .i64 0);have m1:Blk (W1.setCells w.heap.size 2 (List.replicate 1 (.int .i64 0))) (w.heap.size+1) 33 z3:=HK1.out.other (by omega);have mB:zB w (W1.setCells w.heap.size 2 (List.replicate 1 (.int .i64 0))):=HB.out.setCell (p:=⟨w.heap.size,2,none⟩) zN _;generalize W1.setCells w.heap.size 2 (List.replicate 1 (.int .i64 0))=W2 at *;have d0:=m0.cell 0;have d1:=m0.cell 1;have d2:=m0.cell 2;have f0:=m1.frozen 0;have f1:=m1.frozen 1;have f2:=m1.frozen 2;have g0:_=some (Value.int .i64 0):=m1.cell 0;have g1:_=some (Value.int .i64 0):=m1.cell 1;have g2:_=some (Value.int .i64 0):=m1.cell 2;simp only[List.getElem?_toArray,List.getElem?_cons_zero,List.getElem?_cons_succ] at d0 d1 d2;obtain⟨WF,hWF⟩:∃WF,((W2.setCell ⟨w.heap.size+1,0,none⟩ (.int .i64 a)).setCell ⟨w.heap.size+1,1,none⟩ (.int .i64 ((b:Int)+1))).setCell ⟨w.heap.size+1,2,none⟩ (.int .i64 0)=WF:=⟨_,rfl⟩;have p1:Blk WF (w.heap.size+1) 33 #[(.int .i64 a),(.int .i64 ((b:Int)+1)),(.int .i64 0)]:=by rw[<-hWF];exact((m1.set (i:=0) (v:=(.int .i64 a))).set (i:=1) (v:=(.int .i64 ((b:Int)+1)))).set (i:=2) (v:=(.int .i64 0))
 have pB:zB w WF:=by rw[<-hWF];exact((mB.setCell (p:=⟨w.heap.size+1,0,none⟩) (Nat.le_succ _) _).setCell (p:=⟨w.heap.size+1,1,none⟩) (Nat.le_succ _) _).setCell (p:=⟨w.heap.size+1,2,none⟩) (Nat.le_succ _) _
 have HP1:=zH p1;have HPB:=zH pB;have HWF:=zH hWF;rw[<-HW1.out] at hcl;clear m0 m1 mB p1 pB hWF HK0 HK1 HB HW1;go_enter Tryz.func214,Tryz.ntmps214;go_wp2;rw[HWF.out];have r0:=HP1.out.cell 0;have r1:=HP1.out.cell 1;have r2:=HP1.out.cell 2;refine bodyPost_ret (v:=.agg #[(.int .i64 a),(.int .i64 ((b:Int)+1)),(.int .i64 0)]) (by simp[results,Tryz.results214,go_sem,r0,r1,r2]) rfl ?_;exact⟨rfl,HPB.out⟩
theorem zky(W:World)(b:Nat):(Builtin.clear_ #[24] 0 #[.slice (some ⟨b,0,none⟩) 0 0]).run Tryz.prog W=.ok (.tuple #[]) W:=by
 simp[Builtin.clear_,run_underlying Tryz.underlying24,go_sem]
theorem zfJ(a b c:Nat)(hc:c<=999)(w:World) :
  zR 214 #[.agg #[.int .i64 a,.int .i64 b,.int .i64 c],.int .i64 2] w (.agg #[.int .i64 a,.int .i64 b,.int .i64 ((c+1:Nat):Int)]):=by
 obtain⟨W1,hW1,k0,k1,hB⟩:=JP w (.int .i64 a) (.int .i64 b) (.int .i64 ((c:Int)+1));have HW1:=zH hW1;have HK0:=zH k0;have HK1:=zH k1;have HB:=zH hB;clear hW1 k0 k1 hB;obtain⟨W2,hW2⟩:∃W2,W1=W2:=⟨_,rfl⟩;have hcl:(Builtin.clear_ #[24] 0 #[.slice (some ⟨w.heap.size,0,none⟩) 0 0]).run Tryz.prog W1=.ok (.tuple #[]) W2:=hW2▸zky W1 w.heap.size;have m0:Blk W2 _ _ _:=hW2▸HK0.out;have m1:Blk W2 _ _ _:=hW2▸HK1.out;have mB:zB w W2:=hW2▸HB.out;clear hW2;have d0:=m0.cell 0;have d1:=m0.cell 1;have d2:=m0.cell 2;have f0:=m1.frozen 0;have f1:=m1.frozen 1;have f2:=m1.frozen 2;have g0:_=some (Value.int .i64 0):=m1.cell 0;have g1:_=some (Value.int .i64 0):=m1.cell 1;have g2:_=some (Value.int .i64 0):=m1.cell 2;simp only[List.getElem?_toArray,List.getElem?_cons_zero,List.getElem?_cons_succ] at d0 d1 d2;obtain⟨WF,hWF⟩:∃WF,((W2.setCell ⟨w.heap.size+1,0,none⟩ (.int .i64 a)).setCell ⟨w.heap.size+1,1,none⟩ (.int .i64 b)).setCell ⟨w.heap.size+1,2,none⟩ (.int .i64 ((c:Int)+1))=WF:=⟨_,rfl⟩;have p1:Blk WF (w.heap.size+1) 33 #[(.int .i64 a),(.int .i64 b),(.int .i64 ((c:Int)+1))]:=by rw[<-hWF];exact((m1.set (i:=0) (v:=(.int .i64 a))).set (i:=1) (v:=(.int .i64 b))).set (i:=2) (v:=(.int .i64 ((c:Int)+1)))
 have pB:zB w WF:=by rw[<-hWF];exact((mB.setCell (p:=⟨w.heap.size+1,0,none⟩) (Nat.le_succ _) _).setCell (p:=⟨w.heap.size+1,1,none⟩) (Nat.le_succ _) _).setCell (p:=⟨w.heap.size+1,2,none⟩) (Nat.le_succ _) _
 have HP1:=zH p1;have HPB:=zH pB;have HWF:=zH hWF;rw[<-HW1.out] at hcl;clear m0 m1 mB p1 pB hWF HK0 HK1 HB HW1;go_enter Tryz.func214,Tryz.ntmps214;go_wp2;rw[HWF.out];have r0:=HP1.out.cell 0;have r1:=HP1.out.cell 1;have r2:=HP1.out.cell 2;refine bodyPost_ret (v:=.agg #[(.int .i64 a),(.int .i64 b),(.int .i64 ((c:Int)+1))]) (by simp[results,Tryz.results214,go_sem,r0,r1,r2]) rfl ?_;exact⟨rfl,HPB.out⟩
theorem zaw(a b c:Nat)(w:World) :
  zR 215 #[.agg #[.int .i64 a,.int .i64 b,.int .i64 c]] w (.int .i64 (if a≠0 then 0 else if b≠0 then 1 else 2)):=by
 have hk:=Blk.new w 33 #[.int .i64 a,.int .i64 b,.int .i64 c];have hB:=(Below.refl w.heap.size w).alloc zN (.cells #[.int .i64 a,.int .i64 b,.int .i64 c] 33);have HB:=zH hB;have c0:(w.alloc (.cells #[.int .i64 a,.int .i64 b,.int .i64 c] 33)).cell? ⟨w.heap.size,0,none⟩=some (.int .i64 a):=hk.cell 0;have c1:(w.alloc (.cells #[.int .i64 a,.int .i64 b,.int .i64 c] 33)).cell? ⟨w.heap.size,1,none⟩=some (.int .i64 b):=hk.cell 1;clear hk hB;go_enter Tryz.func215,Tryz.ntmps215;go_wp2_with fail;generalize w.alloc (.cells #[.int .i64 a,.int .i64 b,.int .i64 c] 33)=W1 at *;go_loop [9] (fun i=>∃k:Nat,k<=2/\i=.int .i64 k/\(0<k->a=0)/\(1<k->b=0)) (fun i=>2-(intOf i).toNat)
 case atStart=>exact⟨0,by omega,rfl,fun h=>by omega,fun h=>by omega⟩
 case round =>
  obtain⟨k,hk,rfl,ha,hb⟩:=hrel
  match k,hk with
  |0,_ =>
   by_cases h:a=0
   ·have e:((a:Int)==0)=true:=by rw[beq_iff_eq];omega
    have HA:=zH h;clear h ha hb;go_wp2;go_round
    case rel=>exact⟨1,by omega,rfl,fun _=>HA.out,fun h=>by omega⟩
    case measure=>simp[intOf]
   ·have e:((a:Int)==0)=false:=by rw[beq_eq_false_iff_ne];omega
    have HH:=zH h;clear h ha hb;go_wp2;go_ret;exact⟨by first|rfl|(rw[if_pos HH.out];rfl),HB.out⟩
  |1,_ =>
   have ha0:=ha (by omega);have HA:=zH ha0
   by_cases h:b=0
   ·have e:((b:Int)==0)=true:=by rw[beq_iff_eq];omega
    have HBB:=zH h;clear h ha hb ha0;go_wp2;go_round
    case rel=>exact⟨2,by omega,rfl,fun _=>HA.out,fun _=>HBB.out⟩
    case measure=>simp[intOf]
   ·have e:((b:Int)==0)=false:=by rw[beq_eq_false_iff_ne];omega
    have HH:=zH h;clear h ha hb ha0;go_wp2;go_ret;exact⟨by first|rfl|(rw[if_neg (by simpa using HA.out),if_pos HH.out];rfl),HB.out⟩
  |2,_ =>have ha0:=ha (by omega);have hb0:=hb (by omega);have HA:=zH ha0;have HBB:=zH hb0;clear ha hb ha0 hb0;go_wp2;go_ret;exact⟨by first|rfl|(rw[if_neg (by simpa using HA.out),if_neg (by simpa using HBB.out)];rfl),HB.out⟩
end
section
open Go.RowKit Go.Shelf Sv
def zx(a b c:Nat):Nat:=(a*1000+b)*1000+c
def Xd(a b c:Nat):Nat:=if a≠0 then zx (a+1) 0 0 else if b≠0 then zx a (b+1) 0 else zx a b (c+1)
def ZT(g:List UInt8)(a b c:Nat):Except Int (List zh) :=
 if g=[]\/g=[61] then .ok (zG (zx a b c) (zx a b c+1))
 else if g=[33] then .ok (nt (zG (zx a b c) (zx a b c+1)))
 else if g=[60] then .ok (zG 0 (zx a b c))
 else if g=[60,61] then .ok (zG 0 (zx a b c+1))
 else if g=[62] then .ok (zG (zx a b c+1) ALL)
 else if g=[62,61] then .ok (zG (zx a b c) ALL)
 else if g=[94] then .ok (zG (zx a b c) (Xd a b c))
 else if g=[126] then .ok (zG (zx a b c) (zx a (b+1) 0))
 else .error 3
theorem Z1{a b c:Nat}(ha:a<=999)(hb:b<=999)(hc:c<=999):zx a b c<ALL:=by unfold zx ALL;omega
theorem zgQ{a b c:Nat}(ha:a<=999)(hb:b<=999)(hc:c<=999):Xd a b c<=ALL:=by
 unfold Xd zx ALL;split
 ·omega
 ·split<;>omega
theorem zm3{g:List UInt8}{a b c:Nat}(ha:a<=999)(hb:b<=999)(hc:c<=999){l:List zh}(h:ZT g a b c=.ok l):Rg l:=by
 have h1:=Z1 ha hb hc;have h2:=zgQ ha hb hc;have h3:zx a (b+1) 0<=ALL:=by unfold zx ALL;omega
 unfold ZT at h
 repeat' split at h
 all_goals first
  |(cases h;exact Xv (by omega))
  |(cases h;exact Xv zN)
  |(cases h;exact ZQ (Xv (by omega)))
  |cases h
def yp(w:World)(x:Except Int (List zh))(e:Ending)(w':World):Prop :=
 match x with
 |.ok l=>∃v',e=.returned (.tuple #[.agg #[v'],.nilIface])/\zi w' v' l/\(∀g,v'.ownBlock=some g->w.heap.size<=g)/\zB w w'
 |.error k=>e=.returned (.tuple #[.agg #[.slice none 0 0],.iface 64 (.int .i64 k)])/\zB w w'
theorem Zh(w:World)(A B C:Value):∃W0:World,((w.alloc (.cells #[A,B,C] 33)).alloc (.cells #[.slice none 0 0] 36))=W0/\Blk W0 w.heap.size 33 #[A,B,C]/\Blk W0 (w.heap.size+1) 36 #[.slice none 0 0]/\zB w W0/\W0.heap.size=w.heap.size+2:=by
 have k0:=(Blk.new w 33 #[A,B,C]).alloc (.cells #[.slice none 0 0] 36);have k1:=Blk.new (w.alloc (.cells #[A,B,C] 33)) 36 #[.slice none 0 0];rw[World.size_alloc] at k1;exact⟨_,rfl,k0,k1,((Below.refl _ w).alloc zN _).alloc (by simp only[World.size_alloc];omega) _,by simp only[World.size_alloc]⟩
theorem ZC(x y:Nat)(W:World):zC 179 #[.int .i64 x,.int .i64 y] W fun e w'=>∃a' c',e=.returned (.agg #[.slice a' (zG x y).length c'])/\zi w' (.slice a' (zG x y).length c') (zG x y)/\(∀g,(Value.slice a' (zG x y).length c').ownBlock=some g->W.heap.size<=g)/\zB W w' :=
 (zcB x y W).mono fun e w' ⟨v',he,hs,hn,hb⟩=>by obtain⟨a',c',rfl⟩:=hs.form;exact⟨a',c',he,hs,hn,hb⟩
theorem zmT(l:List zh)(hl:Rg l)(v:Value)(W:World)(hv:zi W v l):zC 148 #[.agg #[v]] W fun e w'=>∃a' c',e=.returned (.agg #[.slice a' (nt l).length c'])/\zi w' (.slice a' (nt l).length c') (nt l)/\(∀g,(Value.slice a' (nt l).length c').ownBlock=some g->W.heap.size<=g)/\zB W w' :=
 (Kt l hl v W hv).mono fun e w' ⟨v',he,hs,hn,hb⟩=>by obtain⟨a',c',rfl⟩:=hs.form;exact⟨a',c',he,hs,hn,hb⟩
theorem zhd(g:ByteArray)(a b c:Nat)(ha:a<=999)(hb:b<=999)(hc:c<=999)(w:World)(hg:g.toList=[]) :
  zC 181 #[.string g,.agg #[.int .i64 a,.int .i64 b,.int .i64 c]] w (yp w (.ok (zG (zx a b c) (zx a b c+1)))):=by
 have HN:Hid (∀W,zR 97 #[.agg #[.int .i64 a,.int .i64 b,.int .i64 c]] W (.int .i64 (zx a b c:Nat))):=fun W=>y9 a b c (by omega) (by omega) (by omega) W;have hlt:=Z1 ha hb hc;generalize zx a b c=n at *;have hlt':(n:Int)<1000000000:=by unfold ALL at hlt;omega
 obtain⟨W0,hW0,k0,k1,hB,hs0⟩:=Zh w (.int .i64 a) (.int .i64 b) (.int .i64 c);have HR:=zH (fun W=>ZC n (n+1) W);have HW0:=zH hW0;have HK0:=zH k0;have HK1:=zH k1;have HB:=zH hB;have HS:=zH hs0;have HLT:=zH hlt;clear hW0 k0 k1 hB hs0 hlt;go_enter Tryz.func181,Tryz.ntmps181;go_wp2_with fail;rw[HW0.out];refine(HN.out _).mono ?_;rintro e w1 ⟨rfl,hb1⟩;have D1:=zH hb1;clear hb1;go_wp2_with fail;refine(HR.out _).mono ?_;rintro e wK ⟨a',c',rfl,hsK,hnn,hbK⟩;have hn2:∀g,(Value.slice a' (zG n (n+1)).length c').ownBlock=some g->W0.heap.size<=g:=fun g hg=>Nat.le_trans D1.out.size (hnn g hg);have DK:zB W0 wK:=zT D1.out hbK;have hl1:w.heap.size+1<W0.heap.size:=by have:=HS.out;omega
 have hc4:wK.cell? ⟨w.heap.size+1,0,none⟩=some (.slice none 0 0):=(HK1.out.below DK hl1).cell 0;have hf4:=(HK1.out.below DK hl1).frozen 0;have HP:=zH (xK HB.out (HK1.out.cell 0) (Nat.le_succ _) hl1 hsK hn2 DK);clear hsK hnn hbK hn2 DK hl1;go_wp2;obtain⟨h3,h4,h5,h6⟩:=HP.out;refine bodyPost_ret (v:=.tuple #[.agg #[.slice a' (zG n (n+1)).length c'],.nilIface]) (by simp[results,Tryz.results181,go_sem,h3]) rfl ?_;exact⟨_,rfl,h4,h5,h6⟩
theorem zmF(g:ByteArray)(a b c:Nat)(ha:a<=999)(hb:b<=999)(hc:c<=999)(w:World)(hg:g.toList=[61]) :
  zC 181 #[.string g,.agg #[.int .i64 a,.int .i64 b,.int .i64 c]] w (yp w (.ok (zG (zx a b c) (zx a b c+1)))):=by
 have HN:Hid (∀W,zR 97 #[.agg #[.int .i64 a,.int .i64 b,.int .i64 c]] W (.int .i64 (zx a b c:Nat))):=fun W=>y9 a b c (by omega) (by omega) (by omega) W;have hlt:=Z1 ha hb hc;generalize zx a b c=n at *;have hlt':(n:Int)<1000000000:=by unfold ALL at hlt;omega
 obtain⟨W0,hW0,k0,k1,hB,hs0⟩:=Zh w (.int .i64 a) (.int .i64 b) (.int .i64 c);have HR:=zH (fun W=>ZC n (n+1) W);have HW0:=zH hW0;have HK0:=zH k0;have HK1:=zH k1;have HB:=zH hB;have HS:=zH hs0;have HLT:=zH hlt;clear hW0 k0 k1 hB hs0 hlt;go_enter Tryz.func181,Tryz.ntmps181;go_wp2_with fail;rw[HW0.out];refine(HN.out _).mono ?_;rintro e w1 ⟨rfl,hb1⟩;have D1:=zH hb1;clear hb1;go_wp2_with fail;refine(HR.out _).mono ?_;rintro e wK ⟨a',c',rfl,hsK,hnn,hbK⟩;have hn2:∀g,(Value.slice a' (zG n (n+1)).length c').ownBlock=some g->W0.heap.size<=g:=fun g hg=>Nat.le_trans D1.out.size (hnn g hg);have DK:zB W0 wK:=zT D1.out hbK;have hl1:w.heap.size+1<W0.heap.size:=by have:=HS.out;omega
 have hc4:wK.cell? ⟨w.heap.size+1,0,none⟩=some (.slice none 0 0):=(HK1.out.below DK hl1).cell 0;have hf4:=(HK1.out.below DK hl1).frozen 0;have HP:=zH (xK HB.out (HK1.out.cell 0) (Nat.le_succ _) hl1 hsK hn2 DK);clear hsK hnn hbK hn2 DK hl1;go_wp2;obtain⟨h3,h4,h5,h6⟩:=HP.out;refine bodyPost_ret (v:=.tuple #[.agg #[.slice a' (zG n (n+1)).length c'],.nilIface]) (by simp[results,Tryz.results181,go_sem,h3]) rfl ?_;exact⟨_,rfl,h4,h5,h6⟩
theorem zif(g:ByteArray)(a b c:Nat)(ha:a<=999)(hb:b<=999)(hc:c<=999)(w:World)(hg:g.toList=[60]) :
  zC 181 #[.string g,.agg #[.int .i64 a,.int .i64 b,.int .i64 c]] w (yp w (.ok (zG 0 (zx a b c)))):=by
 have HN:Hid (∀W,zR 97 #[.agg #[.int .i64 a,.int .i64 b,.int .i64 c]] W (.int .i64 (zx a b c:Nat))):=fun W=>y9 a b c (by omega) (by omega) (by omega) W;have hlt:=Z1 ha hb hc;generalize zx a b c=n at *;have hlt':(n:Int)<1000000000:=by unfold ALL at hlt;omega
 obtain⟨W0,hW0,k0,k1,hB,hs0⟩:=Zh w (.int .i64 a) (.int .i64 b) (.int .i64 c);have HR:=zH (fun W=>ZC 0 n W);have HW0:=zH hW0;have HK0:=zH k0;have HK1:=zH k1;have HB:=zH hB;have HS:=zH hs0;have HLT:=zH hlt;clear hW0 k0 k1 hB hs0 hlt;go_enter Tryz.func181,Tryz.ntmps181;go_wp2_with fail;rw[HW0.out];refine(HN.out _).mono ?_;rintro e w1 ⟨rfl,hb1⟩;have D1:=zH hb1;clear hb1;go_wp2_with fail;refine(HR.out _).mono ?_;rintro e wK ⟨a',c',rfl,hsK,hnn,hbK⟩;have hn2:∀g,(Value.slice a' (zG 0 n).length c').ownBlock=some g->W0.heap.size<=g:=fun g hg=>Nat.le_trans D1.out.size (hnn g hg);have DK:zB W0 wK:=zT D1.out hbK;have hl1:w.heap.size+1<W0.heap.size:=by have:=HS.out;omega
 have hc4:wK.cell? ⟨w.heap.size+1,0,none⟩=some (.slice none 0 0):=(HK1.out.below DK hl1).cell 0;have hf4:=(HK1.out.below DK hl1).frozen 0;have HP:=zH (xK HB.out (HK1.out.cell 0) (Nat.le_succ _) hl1 hsK hn2 DK);clear hsK hnn hbK hn2 DK hl1;go_wp2;obtain⟨h3,h4,h5,h6⟩:=HP.out;refine bodyPost_ret (v:=.tuple #[.agg #[.slice a' (zG 0 n).length c'],.nilIface]) (by simp[results,Tryz.results181,go_sem,h3]) rfl ?_;exact⟨_,rfl,h4,h5,h6⟩
theorem ziX(g:ByteArray)(a b c:Nat)(ha:a<=999)(hb:b<=999)(hc:c<=999)(w:World)(hg:g.toList=[60,61]) :
  zC 181 #[.string g,.agg #[.int .i64 a,.int .i64 b,.int .i64 c]] w (yp w (.ok (zG 0 (zx a b c+1)))):=by
 have HN:Hid (∀W,zR 97 #[.agg #[.int .i64 a,.int .i64 b,.int .i64 c]] W (.int .i64 (zx a b c:Nat))):=fun W=>y9 a b c (by omega) (by omega) (by omega) W;have hlt:=Z1 ha hb hc;generalize zx a b c=n at *;have hlt':(n:Int)<1000000000:=by unfold ALL at hlt;omega
 obtain⟨W0,hW0,k0,k1,hB,hs0⟩:=Zh w (.int .i64 a) (.int .i64 b) (.int .i64 c);have HR:=zH (fun W=>ZC 0 (n+1) W);have HW0:=zH hW0;have HK0:=zH k0;have HK1:=zH k1;have HB:=zH hB;have HS:=zH hs0;have HLT:=zH hlt;clear hW0 k0 k1 hB hs0 hlt;go_enter Tryz.func181,Tryz.ntmps181;go_wp2_with fail;rw[HW0.out];refine(HN.out _).mono ?_;rintro e w1 ⟨rfl,hb1⟩;have D1:=zH hb1;clear hb1;go_wp2_with fail;refine(HR.out _).mono ?_;rintro e wK ⟨a',c',rfl,hsK,hnn,hbK⟩;have hn2:∀g,(Value.slice a' (zG 0 (n+1)).length c').ownBlock=some g->W0.heap.size<=g:=fun g hg=>Nat.le_trans D1.out.size (hnn g hg);have DK:zB W0 wK:=zT D1.out hbK;have hl1:w.heap.size+1<W0.heap.size:=by have:=HS.out;omega
 have hc4:wK.cell? ⟨w.heap.size+1,0,none⟩=some (.slice none 0 0):=(HK1.out.below DK hl1).cell 0;have hf4:=(HK1.out.below DK hl1).frozen 0;have HP:=zH (xK HB.out (HK1.out.cell 0) (Nat.le_succ _) hl1 hsK hn2 DK);clear hsK hnn hbK hn2 DK hl1;go_wp2;obtain⟨h3,h4,h5,h6⟩:=HP.out;refine bodyPost_ret (v:=.tuple #[.agg #[.slice a' (zG 0 (n+1)).length c'],.nilIface]) (by simp[results,Tryz.results181,go_sem,h3]) rfl ?_;exact⟨_,rfl,h4,h5,h6⟩
theorem zhV(g:ByteArray)(a b c:Nat)(ha:a<=999)(hb:b<=999)(hc:c<=999)(w:World)(hg:g.toList=[62]) :
  zC 181 #[.string g,.agg #[.int .i64 a,.int .i64 b,.int .i64 c]] w (yp w (.ok (zG (zx a b c+1) 1000000000))):=by
 have HN:Hid (∀W,zR 97 #[.agg #[.int .i64 a,.int .i64 b,.int .i64 c]] W (.int .i64 (zx a b c:Nat))):=fun W=>y9 a b c (by omega) (by omega) (by omega) W;have hlt:=Z1 ha hb hc;generalize zx a b c=n at *;have hlt':(n:Int)<1000000000:=by unfold ALL at hlt;omega
 obtain⟨W0,hW0,k0,k1,hB,hs0⟩:=Zh w (.int .i64 a) (.int .i64 b) (.int .i64 c);have HR:=zH (fun W=>ZC (n+1) 1000000000 W);have HW0:=zH hW0;have HK0:=zH k0;have HK1:=zH k1;have HB:=zH hB;have HS:=zH hs0;have HLT:=zH hlt;clear hW0 k0 k1 hB hs0 hlt;go_enter Tryz.func181,Tryz.ntmps181;go_wp2_with fail;rw[HW0.out];refine(HN.out _).mono ?_;rintro e w1 ⟨rfl,hb1⟩;have D1:=zH hb1;clear hb1;go_wp2_with fail;refine(HR.out _).mono ?_;rintro e wK ⟨a',c',rfl,hsK,hnn,hbK⟩;have hn2:∀g,(Value.slice a' (zG (n+1) 1000000000).length c').ownBlock=some g->W0.heap.size<=g:=fun g hg=>Nat.le_trans D1.out.size (hnn g hg);have DK:zB W0 wK:=zT D1.out hbK;have hl1:w.heap.size+1<W0.heap.size:=by have:=HS.out;omega
 have hc4:wK.cell? ⟨w.heap.size+1,0,none⟩=some (.slice none 0 0):=(HK1.out.below DK hl1).cell 0;have hf4:=(HK1.out.below DK hl1).frozen 0;have HP:=zH (xK HB.out (HK1.out.cell 0) (Nat.le_succ _) hl1 hsK hn2 DK);clear hsK hnn hbK hn2 DK hl1;go_wp2;obtain⟨h3,h4,h5,h6⟩:=HP.out;refine bodyPost_ret (v:=.tuple #[.agg #[.slice a' (zG (n+1) 1000000000).length c'],.nilIface]) (by simp[results,Tryz.results181,go_sem,h3]) rfl ?_;exact⟨_,rfl,h4,h5,h6⟩
theorem zip(g:ByteArray)(a b c:Nat)(ha:a<=999)(hb:b<=999)(hc:c<=999)(w:World)(hg:g.toList=[62,61]) :
  zC 181 #[.string g,.agg #[.int .i64 a,.int .i64 b,.int .i64 c]] w (yp w (.ok (zG (zx a b c) 1000000000))):=by
 have HN:Hid (∀W,zR 97 #[.agg #[.int .i64 a,.int .i64 b,.int .i64 c]] W (.int .i64 (zx a b c:Nat))):=fun W=>y9 a b c (by omega) (by omega) (by omega) W;have hlt:=Z1 ha hb hc;generalize zx a b c=n at *;have hlt':(n:Int)<1000000000:=by unfold ALL at hlt;omega
 obtain⟨W0,hW0,k0,k1,hB,hs0⟩:=Zh w (.int .i64 a) (.int .i64 b) (.int .i64 c);have HR:=zH (fun W=>ZC n 1000000000 W);have HW0:=zH hW0;have HK0:=zH k0;have HK1:=zH k1;have HB:=zH hB;have HS:=zH hs0;have HLT:=zH hlt;clear hW0 k0 k1 hB hs0 hlt;go_enter Tryz.func181,Tryz.ntmps181;go_wp2_with fail;rw[HW0.out];refine(HN.out _).mono ?_;rintro e w1 ⟨rfl,hb1⟩;have D1:=zH hb1;clear hb1;go_wp2_with fail;refine(HR.out _).mono ?_;rintro e wK ⟨a',c',rfl,hsK,hnn,hbK⟩;have hn2:∀g,(Value.slice a' (zG n 1000000000).length c').ownBlock=some g->W0.heap.size<=g:=fun g hg=>Nat.le_trans D1.out.size (hnn g hg);have DK:zB W0 wK:=zT D1.out hbK;have hl1:w.heap.size+1<W0.heap.size:=by have:=HS.out;omega
 have hc4:wK.cell? ⟨w.heap.size+1,0,none⟩=some (.slice none 0 0):=(HK1.out.below DK hl1).cell 0;have hf4:=(HK1.out.below DK hl1).frozen 0;have HP:=zH (xK HB.out (HK1.out.cell 0) (Nat.le_succ _) hl1 hsK hn2 DK);clear hsK hnn hbK hn2 DK hl1;go_wp2;obtain⟨h3,h4,h5,h6⟩:=HP.out;refine bodyPost_ret (v:=.tuple #[.agg #[.slice a' (zG n 1000000000).length c'],.nilIface]) (by simp[results,Tryz.results181,go_sem,h3]) rfl ?_;exact⟨_,rfl,h4,h5,h6⟩
theorem zk8(g:ByteArray)(a b c:Nat)(ha:a<=999)(hb:b<=999)(hc:c<=999)(w:World)(hg:g.toList=[33]) :
  zC 181 #[.string g,.agg #[.int .i64 a,.int .i64 b,.int .i64 c]] w (yp w (.ok (nt (zG (zx a b c) (zx a b c+1))))):=by
 have HN:Hid (∀W,zR 97 #[.agg #[.int .i64 a,.int .i64 b,.int .i64 c]] W (.int .i64 (zx a b c:Nat))):=fun W=>y9 a b c (by omega) (by omega) (by omega) W;have hlt:=Z1 ha hb hc;generalize zx a b c=n at *;have hlt':(n:Int)<1000000000:=by unfold ALL at hlt;omega
 obtain⟨W0,hW0,k0,k1,hB,hs0⟩:=Zh w (.int .i64 a) (.int .i64 b) (.int .i64 c);have HR:=zH (fun W=>ZC n (n+1) W);have HT:Hid (∀v W,zi W v (zG n (n+1))->zC 148 #[.agg #[v]] W fun e w'=>∃a' c',e=.returned (.agg #[.slice a' (nt (zG n (n+1))).length c'])/\zi w' (.slice a' (nt (zG n (n+1))).length c') (nt (zG n (n+1)))/\(∀g,(Value.slice a' (nt (zG n (n+1))).length c').ownBlock=some g->W.heap.size<=g)/\zB W w'):=fun v W h=>zmT _ (Xv (by omega)) v W h;have HW0:=zH hW0;have HK0:=zH k0;have HK1:=zH k1;have HB:=zH hB;have HS:=zH hs0;have HLT:=zH hlt;clear hW0 k0 k1 hB hs0 hlt;go_enter Tryz.func181,Tryz.ntmps181;go_wp2_with fail;rw[HW0.out];refine(HN.out _).mono ?_;rintro e w1 ⟨rfl,hb1⟩;have D1:=zH hb1;clear hb1;go_wp2_with fail;refine(HR.out _).mono ?_;rintro e w2 ⟨a2,c2,rfl,hs2,-,hb2⟩;have D2:Hid (zB W0 w2):=zT D1.out hb2;have HT2:=zH (HT.out _ _ hs2);clear hs2 hb2 HT HR;go_wp2_with fail;refine HT2.out.mono ?_;rintro e wK ⟨a',c',rfl,hsK,hnn,hbK⟩;have hn2:∀g,(Value.slice a' (nt (zG n (n+1))).length c').ownBlock=some g->W0.heap.size<=g:=fun g hg=>Nat.le_trans D2.out.size (hnn g hg);have DK:zB W0 wK:=zT D2.out hbK;have hl1:w.heap.size+1<W0.heap.size:=by have:=HS.out;omega
 have hc4:wK.cell? ⟨w.heap.size+1,0,none⟩=some (.slice none 0 0):=(HK1.out.below DK hl1).cell 0;have hf4:=(HK1.out.below DK hl1).frozen 0;have HP:=zH (xK HB.out (HK1.out.cell 0) (Nat.le_succ _) hl1 hsK hn2 DK);clear hsK hnn hbK hn2 DK hl1;go_wp2;obtain⟨h3,h4,h5,h6⟩:=HP.out;refine bodyPost_ret (v:=.tuple #[.agg #[.slice a' (nt (zG n (n+1))).length c'],.nilIface]) (by simp[results,Tryz.results181,go_sem,h3]) rfl ?_;exact⟨_,rfl,h4,h5,h6⟩
end
end Go.Proofs.YtapobpgbcbplbaaGreatDoor
