import Derived.Test.YthifnefkdjkicaaGreatDoorSvAnd
set_option maxHeartbeats 2000000
set_option maxRecDepth 100000
namespace Go.Proofs.YthifnefkdjkicaaGreatDoor
section
open Go.RowKit Sv
theorem zex(a b:Nat)(w:World) :
  zC 195 #[a,b] w (Yd w (zh a b)):=by
 by_cases h:a<b
 ·have h':¬(b:Int)<=(a:Int):=by omega
  have hb:=((Below.refl w.heap.size w).alloc zN (.cells #[.slice (some ⟨w.heap.size+1,0,none⟩) 1 1] 95)).alloc (by rw[zA0];omega) (.cells #[a,b] 232);have h2:=KZ (w.alloc (.cells #[.slice (some ⟨w.heap.size+1,0,none⟩) 1 1] 95)) (.int .i64 a) (.int .i64 b) 232;rw[zA0] at h2;have h1:=Ym w (.slice (some ⟨w.heap.size+1,0,none⟩) 1 1) 95;have h3:((w.alloc (.cells #[.slice (some ⟨w.heap.size+1,0,none⟩) 1 1] 95)).alloc (.cells #[a,b] 232)).cell? w.heap.size=some (.slice (some ⟨w.heap.size+1,0,none⟩) 1 1):=(((Below.refl _ (w.alloc (.cells #[.slice (some ⟨w.heap.size+1,0,none⟩) 1 1] 95))).alloc zN _).cell (p:=w.heap.size) (by show w.heap.size<_;rw[zA0];omega)).trans h1;have hs:w.heap.size+1<((w.alloc (.cells #[.slice (some ⟨w.heap.size+1,0,none⟩) 1 1] 95)).alloc (.cells #[a,b] 232)).heap.size:=by rw[zA0,zA0];omega
  have HB:=zH hb;have H2:=zH h2;have H3:=zH h3;have HS:=zH hs;clear hb h2 h1 h3 hs;go_enter Tryz.func195,Tryz.ntmps195;go_wp2;have h3:=H3.out;refine bodyPost_ret (v:=.agg #[.slice (some ⟨w.heap.size+1,0,none⟩) 1 1]) (by simp[results,Tryz.results195,go_sem,h3]) rfl ?_;refine⟨_,rfl,?_,fun g hg=>by simp[Value.ownBlock] at hg;omega,HB.out⟩;rw[zh,zA2 h];exact⟨⟨_,_,rfl⟩,fun i hi=>⟨w.heap.size+1,1,rfl,HS.out,by obtain rfl:i=0:=(by simp at hi;exact hi);exact H2.out.1,by obtain rfl:i=0:=(by simp at hi;exact hi);exact H2.out.2⟩⟩
 ·have h':(b:Int)<=(a:Int):=by omega
  have h1:=Ym w (.slice none 0 0) 95;have H1:=zH h1;clear h1;go_enter Tryz.func195,Tryz.ntmps195;go_wp2;have h1:=H1.out;refine bodyPost_ret (v:=.agg #[.slice none 0 0]) (by simp[results,Tryz.results195,go_sem]) rfl ?_;refine⟨_,rfl,?_,fun g hg=>by simp[Value.ownBlock] at hg,zF.alloc zN _⟩;rw[zh,zA1 h];exact Jg _
theorem ZG{w w1 w':World}{v:Value}{l:List zf}{b:Nat}(hb:zB w w1)(h1:w1.cell? b=some (.slice none 0 0))(hB:w.heap.size<=b)(hl:b<w1.heap.size)(hs:zk w' v l)(hn:∀g,v.ownBlock=some g->w1.heap.size<=g)(h':zB w1 w') :
  (w'.setCell b v).cell? b=some v/\zk (w'.setCell b v) v l/\(∀g,v.ownBlock=some g->w.heap.size<=g)/\zB w (w'.setCell b v):=by
 refine⟨World.cell?_setCell_same' _ _ _ (by rw[h'.cell (p:=b) hl,h1];rfl),hs.set (fun e=>by have:=hn b e;omega),fun g hg=>Nat.le_trans hb.size (hn g hg),(zT hb h').setCell (p:=b) hB v⟩
theorem YT(w:World):zC 156 #[] w (Yd w zn):=by
 have HH:Hid (∀W:World,zC 195 #[(0:Int),(1000000000:Int)] W (fun e w'=>∃v',e=.returned (.agg #[v'])/\zk w' v' zn/\(∀g,v'.ownBlock=some g->W.heap.size<=g)/\zB W w')):=fun W=>zex 0 1000000000 W;have h1:=Ym w (.slice none 0 0) 95;have f1:=zdF w (.slice none 0 0) 95;have b1:zB w (w.alloc (.cells #[.slice none 0 0] 95)):=zF.alloc zN _;have l1:w.heap.size<(w.alloc (.cells #[.slice none 0 0] 95)).heap.size:=by rw[zA0];omega
 have H1:=zH h1;have F1:=zH f1;have B1:=zH b1;have L1:=zH l1;clear h1 f1 b1 l1;go_enter Tryz.func156,Tryz.ntmps156;go_wp2_with fail;generalize w.alloc (.cells #[.slice none 0 0] 95)=W1 at *;refine(HH.out _).mono ?_;rintro e w' ⟨v',rfl,hs,hn,hb⟩;obtain⟨va,vc,rfl⟩:=hs.form;have hc:=(hb.cell (p:=w.heap.size) L1.out).trans H1.out;have hf:=(hb.frozen (p:=w.heap.size) L1.out).trans F1.out;have HP:=zH (ZG B1.out H1.out zN L1.out hs hn hb);clear hs hn hb;go_wp2;obtain⟨h3,h4,h5,h6⟩:=HP.out;refine bodyPost_ret (v:=.agg #[.slice va zn.length vc]) (by simp[results,Tryz.results156,go_sem,h3]) rfl ?_;exact⟨_,rfl,h4,h5,h6⟩
end
section
open Go.RowKit Sv
theorem zmV(l m:List zf)(hl:Rg l)(hm:Rg m)(v u:Value)(w:World)(hv:zk w v l)(hu:zk w u m) :
  zC 114 #[.agg #[v],.agg #[u]] w (Yd w (orr l m)):=by
 obtain⟨a,o,rfl⟩:=hv.form;obtain⟨b,q,rfl⟩:=hu.form;have hB:=(zaM w (.slice a l.length o) (.slice b m.length q) (.slice none 0 0) 95 95 95).below;have R:Hid (∀W,zB w W->zC 159 #[.agg #[.slice a l.length o]] W (fun e w'=>∃a' c',e=.returned (.agg #[.slice a' (nt l).length c'])/\zk w' (.slice a' (nt l).length c') (nt l)/\zB W w')):=fun W hW=>(KC l hl _ W (hv.below hW zN)).mono fun e w' ⟨v',he,hs,hn,hb⟩=>by obtain⟨a',c',rfl⟩:=hs.form;exact⟨a',c',he,hs,hb⟩
 have U:Hid (∀W,zB w W->zC 159 #[.agg #[.slice b m.length q]] W (fun e w'=>∃a' c',e=.returned (.agg #[.slice a' (nt m).length c'])/\zk w' (.slice a' (nt m).length c') (nt m)/\zB W w')):=fun W hW=>(KC m hm _ W (hu.below hW zN)).mono fun e w' ⟨v',he,hs,hn,hb⟩=>by obtain⟨a',c',rfl⟩:=hs.form;exact⟨a',c',he,hs,hb⟩
 have HA:Hid (∀v1 v2 W,zk W v1 (nt l)->zk W v2 (nt m)->zC 158 #[.agg #[v1],.agg #[v2]] W (fun e w'=>∃a' c',e=.returned (.agg #[.slice a' (nd (nt l) (nt m)).length c'])/\zk w' (.slice a' (nd (nt l) (nt m)).length c') (nd (nt l) (nt m))/\zB W w')):=fun v1 v2 W h1 h2=>(zda _ _ (xK hl) (xK hm) v1 v2 W h1 h2).mono fun e w' ⟨v',he,hs,hn,hb⟩=>by obtain⟨a',c',rfl⟩:=hs.form;exact⟨a',c',he,hs,hb⟩
 have V:Hid (∀v1 W,zk W v1 (nd (nt l) (nt m))->zC 159 #[.agg #[v1]] W (fun e w'=>∃a' c',e=.returned (.agg #[.slice a' (orr l m).length c'])/\zk w' (.slice a' (orr l m).length c') (orr l m)/\(∀g,(Value.slice a' (orr l m).length c').ownBlock=some g->W.heap.size<=g)/\zB W w')):=fun v1 W h1=>(KC _ (Qg (xK hl) (xK hm)) v1 W h1).mono fun e w' ⟨v',he,hs,hn,hb⟩=>by obtain⟨a',c',rfl⟩:=hs.form;exact⟨a',c',he,hs,hn,hb⟩
 have j:=zaM w (.slice a l.length o) (.slice b m.length q) (.slice none 0 0) 95 95 95;clear hv hu hl hm hB;go_enter Tryz.func114,Tryz.ntmps114;go_wp2_with fail;generalize ((w.alloc (.cells #[.slice a l.length o] 95)).alloc (.cells #[.slice b m.length q] 95)).alloc (.cells #[.slice none 0 0] 95)=W0 at *;have a8:=j.size;have C:=j.below;have a7:=j.c0;have a6:=j.c1;have Z:=j.c2;have a0:=j.f2;have SC:Hid (∀W,Below (w.heap.size+2) W0 W->W.cell? w.heap.size=some (.slice a l.length o)/\W.cell? ⟨w.heap.size+1,0,none⟩=some (.slice b m.length q)):=fun W hb=>⟨(hb.cell (p:=w.heap.size) (by show w.heap.size<_;omega)).trans a7,(hb.cell (p:=⟨w.heap.size+1,0,none⟩) (by show w.heap.size+1<_;omega)).trans a6⟩;have ad:=zH C;have af:=zH a8;have M:=zH Z;have ae:=zH a0;have L0:Hid (w.heap.size+2<=W0.heap.size):=by show w.heap.size+2<=W0.heap.size;omega
 have L1:Hid (w.heap.size+1+1<W0.heap.size):=by show w.heap.size+1+1<W0.heap.size;omega
 have D0:zB W0 W0.drew:=zF.drew;have E0:zB w W0.drew:=C.drew;clear j a8 C a7 a6 Z a0;go_region_held3 (fun w'=>w'.cell? w.heap.size=some (.slice a l.length o)/\w'.cell? ⟨w.heap.size+1,0,none⟩=some (.slice b m.length q)) (first|exact SC.out _ (D0.mono L0.out)|exact SC.out _ (D1.mono L0.out)|exact SC.out _ (D2.mono L0.out)|exact SC.out _ (D3.mono L0.out)|exact SC.out _ (D4.mono L0.out)|exact SC.out _ D5)
  (first
   |((with_reducible refine(R.out _ E0).mono ?_);rintro e w1 ⟨a1,c1,rfl,a9,J⟩;have D1:zB W0 w1:=D0.trans J;have E1:zB w w1:=zT E0 J;clear R)
   |((with_reducible refine(U.out _ E1).mono ?_);rintro e w2 ⟨a2,c2,rfl,aa,K⟩;have D2:zB W0 w2:=zT D1 K;have y:=a9.below K zN;clear U)
   |((with_reducible refine(HA.out _ _ _ y aa).mono ?_);rintro e w3 ⟨a3,c3,rfl,ab,X⟩;have D3:zB W0 w3:=zT D2 X;clear HA)
   | ((with_reducible refine (V.out _ _ ab).mono ?_);rintro e w4 ⟨a4,c4,rfl,ac,a5,Y⟩;have D4:zB W0 w4:=zT D3 Y;have ag:=(D4.cell (p:=⟨w.heap.size + 1 + 1,0,none⟩) L1.out).trans M.out;have ah:=(D4.frozen (p:=⟨w.heap.size + 1 + 1,0,none⟩) L1.out).trans ae.out;have D5:Below (w.heap.size + 2) W0 (w4.setCell ⟨w.heap.size + 1 + 1,0,none⟩ (.slice a4 (orr l m).length c4)):=(D4.mono L0.out).setCell (p:=⟨w.heap.size + 1 + 1,0,none⟩) zN _;clear V))
 have hn:∀g,(Value.slice a4 (orr l m).length c4).ownBlock=some g->W0.heap.size<=g:=fun g hg=>Nat.le_trans D3.size (a5 g hg);have HP:=zH (ZG ad.out M.out (by omega) L1.out ac hn D4);clear a9 aa y ab ac a5 hn J K X Y D0 D1 D2 D3 D4 D5 E0 E1;go_wp2;obtain⟨h3,h4,h5,h6⟩:=HP.out;refine bodyPost_ret (v:=.agg #[.slice a4 (orr l m).length c4]) (by simp[results,Tryz.results114,go_sem,h3]) rfl ?_;exact⟨_,rfl,h4,h5,h6⟩
end
section
open Go.RowKit Go.Shelf Sv
theorem zjy(s:ByteArray)(w:World)(hc:s.data.toList.count 46≠2) :
  zR 75 #[s] w (Qq (.error 3)):=by
 have HC:Hid (∀W,zC 100 #[s,.string ⟨#[46]⟩] W fun e w'=>e=.returned (.int .i64 (s.data.toList.count 46:Nat))/\w'=W):=fun W=>Tryz.strings_Count_one s 46 W;have j:(((s.data.toList.count 46:Nat):Int)==2)=false:=by rw[beq_eq_false_iff_ne];omega
 generalize s.data.toList.count 46=n at *;clear hc;go_enter Tryz.func75,Tryz.ntmps75;go_wp2_with (go_at_call 100;refine(HC.out _).mono ?_;rintro e w' ⟨rfl,rfl⟩);have k0:=((Blk.new w 92 z3).alloc (.cells #[.iface 42 (.int .i64 3)] 33)).alloc (.cells z3 92);have k1:=(Blk.new (w.alloc (.cells z3 92)) 33 #[.iface 42 (.int .i64 3)]).alloc (.cells z3 92);rw[zA0] at k1;have hB:zB w (((w.alloc (.cells z3 92)).alloc (.cells #[.iface 42 (.int .i64 3)] 33)).alloc (.cells z3 92)):=(((Below.refl _ w).alloc zN _).alloc (by simp only[zA0];omega) _).alloc (by simp only[zA0];omega) _;generalize ((w.alloc (.cells z3 92)).alloc (.cells #[.iface 42 (.int .i64 3)] 33)).alloc (.cells z3 92)=WF at *;have r0:=k0.cell 0;have r1:=k0.cell 1;have r2:=k0.cell 2;have r3:=k1.cell 0;refine bodyPost_ret (v:=Qq (.error 3)) (by simp[results,Tryz.f75,go_sem,r0,r1,r2,r3,Qq]) rfl ?_;exact⟨rfl,hB⟩
theorem JA(s:ByteArray)(w:World)(hs:s.size<=100000)(hw:Lb w) :
  zR 75 #[s] w (Qq (zS s)):=by
 unfold zS
 by_cases hc:s.data.toList.count 46=2
 ·rw[zA2 hc];exact(callsIn_wide (n:=4)).1 (znd s w hs hw hc)
 ·rw[zA1 hc];exact zjy s w hc
theorem xL(a b c:Nat)(ha:a<=1000)(hb:b<=1000)(hc:c<=1000)(w:World) :
  zR 127 #[.agg #[a,b,c]] w (.int .i64 (((a*1000+b)*1000+c:Nat):Int)):=by
 have hB:=(Below.refl w.heap.size w).alloc zN (.cells #[a,b,c] 92);have he:(((a*1000+b)*1000+c:Nat):Int)=((a:Int)*1000+(b:Int))*1000+(c:Int):=by omega
 have HB:=zH hB;have HE:=zH he;clear hB he;go_enter Tryz.func127,Tryz.ntmps127;go_wp2;go_ret;exact⟨by rw[HE.out];rfl,HB.out⟩
theorem zaN(w:World)(x y z:Value):∃W1:World,((w.alloc (.cells #[x,y,z] 92)).alloc (.cells z3 92))=W1/\Blk W1 w.heap.size 92 #[x,y,z]/\Blk W1 (w.heap.size+1) 92 z3/\zB w W1:=by
 have k0:=(Blk.new w 92 #[x,y,z]).alloc (.cells z3 92);have k1:=Blk.new (w.alloc (.cells #[x,y,z] 92)) 92 z3;rw[zA0] at k1;exact⟨_,rfl,k0,k1,((Below.refl _ w).alloc zN _).alloc (by simp only[zA0];omega) _⟩
theorem zpx(a b c:Nat)(ha:a<=999)(w:World) :
  zR 223 #[.agg #[a,b,c],(0:Int)] w (.agg #[.int .i64 ((a+1:Nat):Int),(0:Int),(0:Int)]):=by
 obtain⟨W1,J,k0,k1,hB⟩:=zaN w (.int .i64 ((a:Int)+1)) (.int .i64 b) (.int .i64 c);have C:=zH J;have o:=zH k0;have y:=zH k1;have HB:=zH hB;clear J k0 k1 hB;have R:=Lib.run_clear_slice (P:=Tryz.prog) W1 23 3 0 (.int .i64 0) Tryz.underlying23 Tryz.zeroValue3 rfl rfl w.heap.size 1 2 2 (by omega) (fun j hj=>by
  match j,hj with
  |0,_=>rw[o.out.cell 1];rfl
  | 1,_=>rw [o.out.cell 2];rfl) (fun j _=>o.out.frozen _)
 have m0:Blk (W1.setCells w.heap.size 1 (List.replicate 2 (.int .i64 0))) w.heap.size 92 #[.int .i64 ((a:Int)+1),(0:Int),(0:Int)]:=(o.out.set (i:=1) (v:=.int .i64 0)).set (i:=2) (v:=.int .i64 0);have m1:Blk (W1.setCells w.heap.size 1 (List.replicate 2 (.int .i64 0))) (w.heap.size+1) 92 z3:=(y.out.other (by omega)).other (by omega);have mB:zB w (W1.setCells w.heap.size 1 (List.replicate 2 (.int .i64 0))):=(HB.out.setCell (p:=⟨w.heap.size,1,none⟩) zN _).setCell (p:=⟨w.heap.size,2,none⟩) zN _;generalize W1.setCells w.heap.size 1 (List.replicate 2 (.int .i64 0))=W2 at *;have d0:=m0.cell 0;have d1:=m0.cell 1;have d2:=m0.cell 2;have f0:=m1.frozen 0;have f1:=m1.frozen 1;have f2:=m1.frozen 2;have g0:_=some (Value.int .i64 0):=m1.cell 0;have g1:_=some (Value.int .i64 0):=m1.cell 1;have g2:_=some (Value.int .i64 0):=m1.cell 2;simp only[List.getElem?_toArray,List.getElem?_cons_zero,List.getElem?_cons_succ] at d0 d1 d2;obtain⟨WF,q⟩:∃WF,((W2.setCell ⟨w.heap.size+1,0,none⟩ (.int .i64 ((a:Int)+1))).setCell ⟨w.heap.size+1,1,none⟩ (.int .i64 0)).setCell ⟨w.heap.size+1,2,none⟩ (.int .i64 0)=WF:=⟨_,rfl⟩;have p1:Blk WF (w.heap.size+1) 92 #[(.int .i64 ((a:Int)+1)),(.int .i64 0),(.int .i64 0)]:=by rw[<-q];exact((m1.set (i:=0) (v:=(.int .i64 ((a:Int)+1)))).set (i:=1) (v:=(.int .i64 0))).set (i:=2) (v:=(.int .i64 0))
 have pB:zB w WF:=by rw[<-q];exact((mB.setCell (p:=⟨w.heap.size+1,0,none⟩) (Nat.le_succ _) _).setCell (p:=⟨w.heap.size+1,1,none⟩) (Nat.le_succ _) _).setCell (p:=⟨w.heap.size+1,2,none⟩) (Nat.le_succ _) _
 have u:=zH p1;have K:=zH pB;have M:=zH q;rw[<-C.out] at R;clear m0 m1 mB p1 pB q o y HB C;go_enter Tryz.func223,Tryz.ntmps223;go_wp2;rw[M.out];have r0:=u.out.cell 0;have r1:=u.out.cell 1;have r2:=u.out.cell 2;refine bodyPost_ret (v:=.agg #[(.int .i64 ((a:Int)+1)),(.int .i64 0),(.int .i64 0)]) (by simp[results,Tryz.results223,go_sem,r0,r1,r2]) rfl ?_;exact⟨rfl,K.out⟩
theorem zfG(a b c:Nat)(hb:b<=999)(w:World) :
  zR 223 #[.agg #[a,b,c],(1:Int)] w (.agg #[a,.int .i64 ((b+1:Nat):Int),(0:Int)]):=by
 obtain⟨W1,J,k0,k1,hB⟩:=zaN w (.int .i64 a) (.int .i64 ((b:Int)+1)) (.int .i64 c);have C:=zH J;have o:=zH k0;have y:=zH k1;have HB:=zH hB;clear J k0 k1 hB;have R:=Lib.run_clear_slice (P:=Tryz.prog) W1 23 3 0 (.int .i64 0) Tryz.underlying23 Tryz.zeroValue3 rfl rfl w.heap.size 2 1 1 (by omega) (fun j hj=>by
  match j,hj with
  | 0,_=>rw [o.out.cell 2];rfl) (fun j _=>o.out.frozen _)
 have m0:Blk (W1.setCells w.heap.size 2 (List.replicate 1 (.int .i64 0))) w.heap.size 92 #[a,.int .i64 ((b:Int)+1),(0:Int)]:=o.out.set (i:=2) (v:=.int .i64 0);have m1:Blk (W1.setCells w.heap.size 2 (List.replicate 1 (.int .i64 0))) (w.heap.size+1) 92 z3:=y.out.other (by omega);have mB:zB w (W1.setCells w.heap.size 2 (List.replicate 1 (.int .i64 0))):=HB.out.setCell (p:=⟨w.heap.size,2,none⟩) zN _;generalize W1.setCells w.heap.size 2 (List.replicate 1 (.int .i64 0))=W2 at *;have d0:=m0.cell 0;have d1:=m0.cell 1;have d2:=m0.cell 2;have f0:=m1.frozen 0;have f1:=m1.frozen 1;have f2:=m1.frozen 2;have g0:_=some (Value.int .i64 0):=m1.cell 0;have g1:_=some (Value.int .i64 0):=m1.cell 1;have g2:_=some (Value.int .i64 0):=m1.cell 2;simp only[List.getElem?_toArray,List.getElem?_cons_zero,List.getElem?_cons_succ] at d0 d1 d2;obtain⟨WF,q⟩:∃WF,((W2.setCell ⟨w.heap.size+1,0,none⟩ (.int .i64 a)).setCell ⟨w.heap.size+1,1,none⟩ (.int .i64 ((b:Int)+1))).setCell ⟨w.heap.size+1,2,none⟩ (.int .i64 0)=WF:=⟨_,rfl⟩;have p1:Blk WF (w.heap.size+1) 92 #[(.int .i64 a),(.int .i64 ((b:Int)+1)),(.int .i64 0)]:=by rw[<-q];exact((m1.set (i:=0) (v:=(.int .i64 a))).set (i:=1) (v:=(.int .i64 ((b:Int)+1)))).set (i:=2) (v:=(.int .i64 0))
 have pB:zB w WF:=by rw[<-q];exact((mB.setCell (p:=⟨w.heap.size+1,0,none⟩) (Nat.le_succ _) _).setCell (p:=⟨w.heap.size+1,1,none⟩) (Nat.le_succ _) _).setCell (p:=⟨w.heap.size+1,2,none⟩) (Nat.le_succ _) _
 have u:=zH p1;have K:=zH pB;have M:=zH q;rw[<-C.out] at R;clear m0 m1 mB p1 pB q o y HB C;go_enter Tryz.func223,Tryz.ntmps223;go_wp2;rw[M.out];have r0:=u.out.cell 0;have r1:=u.out.cell 1;have r2:=u.out.cell 2;refine bodyPost_ret (v:=.agg #[(.int .i64 a),(.int .i64 ((b:Int)+1)),(.int .i64 0)]) (by simp[results,Tryz.results223,go_sem,r0,r1,r2]) rfl ?_;exact⟨rfl,K.out⟩
theorem zod(W:World)(b:Nat):(Builtin.clear_ #[23] 0 #[.slice (some b) 0 0]).run Tryz.prog W=.ok (.tuple #[]) W:=by
 simp[Builtin.clear_,run_underlying Tryz.underlying23,go_sem]
theorem zmc(a b c:Nat)(hc:c<=999)(w:World) :
  zR 223 #[.agg #[a,b,c],(2:Int)] w (.agg #[a,b,.int .i64 ((c+1:Nat):Int)]):=by
 obtain⟨W1,J,k0,k1,hB⟩:=zaN w (.int .i64 a) (.int .i64 b) (.int .i64 ((c:Int)+1));have C:=zH J;have u:=zH k0;have y:=zH k1;have HB:=zH hB;clear J k0 k1 hB;obtain⟨W2,j⟩:∃W2,W1=W2:=⟨_,rfl⟩;have R:(Builtin.clear_ #[23] 0 #[.slice (some w.heap.size) 0 0]).run Tryz.prog W1=.ok (.tuple #[]) W2:=j▸zod W1 w.heap.size;have m0:Blk W2 _ _ _:=j▸u.out;have m1:Blk W2 _ _ _:=j▸y.out;have mB:zB w W2:=j▸HB.out;clear j;have d0:=m0.cell 0;have d1:=m0.cell 1;have d2:=m0.cell 2;have f0:=m1.frozen 0;have f1:=m1.frozen 1;have f2:=m1.frozen 2;have g0:_=some (Value.int .i64 0):=m1.cell 0;have g1:_=some (Value.int .i64 0):=m1.cell 1;have g2:_=some (Value.int .i64 0):=m1.cell 2;simp only[List.getElem?_toArray,List.getElem?_cons_zero,List.getElem?_cons_succ] at d0 d1 d2;obtain⟨WF,o⟩:∃WF,((W2.setCell ⟨w.heap.size+1,0,none⟩ (.int .i64 a)).setCell ⟨w.heap.size+1,1,none⟩ (.int .i64 b)).setCell ⟨w.heap.size+1,2,none⟩ (.int .i64 ((c:Int)+1))=WF:=⟨_,rfl⟩;have p1:Blk WF (w.heap.size+1) 92 #[(.int .i64 a),(.int .i64 b),(.int .i64 ((c:Int)+1))]:=by rw[<-o];exact((m1.set (i:=0) (v:=(.int .i64 a))).set (i:=1) (v:=(.int .i64 b))).set (i:=2) (v:=(.int .i64 ((c:Int)+1)))
 have pB:zB w WF:=by rw[<-o];exact((mB.setCell (p:=⟨w.heap.size+1,0,none⟩) (Nat.le_succ _) _).setCell (p:=⟨w.heap.size+1,1,none⟩) (Nat.le_succ _) _).setCell (p:=⟨w.heap.size+1,2,none⟩) (Nat.le_succ _) _
 have q:=zH p1;have K:=zH pB;have M:=zH o;rw[<-C.out] at R;clear m0 m1 mB p1 pB o u y HB C;go_enter Tryz.func223,Tryz.ntmps223;go_wp2;rw[M.out];have r0:=q.out.cell 0;have r1:=q.out.cell 1;have r2:=q.out.cell 2;refine bodyPost_ret (v:=.agg #[(.int .i64 a),(.int .i64 b),(.int .i64 ((c:Int)+1))]) (by simp[results,Tryz.results223,go_sem,r0,r1,r2]) rfl ?_;exact⟨rfl,K.out⟩
theorem zaL(a b c:Nat)(w:World) :
  zR 224 #[.agg #[a,b,c]] w (.int .i64 (if a≠0 then 0 else if b≠0 then 1 else 2)):=by
 have hk:=Blk.new w 92 #[a,b,c];have hB:=(Below.refl w.heap.size w).alloc zN (.cells #[a,b,c] 92);have HB:=zH hB;have c0:(w.alloc (.cells #[a,b,c] 92)).cell? w.heap.size=some (.int .i64 a):=hk.cell 0;have c1:(w.alloc (.cells #[a,b,c] 92)).cell? ⟨w.heap.size,1,none⟩=some (.int .i64 b):=hk.cell 1;clear hk hB;go_enter Tryz.func224,Tryz.ntmps224;go_wp2_with fail;generalize w.alloc (.cells #[a,b,c] 92)=W1 at *;go_loop [9] (fun i=>∃k:Nat,k<=2/\i=.int .i64 k/\(0<k->a=0)/\(1<k->b=0)) (fun i=>2-(intOf i).toNat)
 case atStart=>exact⟨0,by omega,rfl,fun h=>by omega,fun h=>by omega⟩
 case round =>
  obtain⟨k,hk,rfl,ha,hb⟩:=hrel
  match k,hk with
  |0,_ =>
   by_cases h:a=0
   ·have e:((a:Int)==0)=true:=by rw[beq_iff_eq];omega
    have HA:=zH h;clear h ha hb;go_wp2;go_round
    case rel=>exact⟨1,by omega,rfl,fun _=>HA.out,fun h=>by omega⟩
    case measure=>simp[intOf]
   ·have e:((a:Int)==0)=false:=by rw[beq_eq_false_iff_ne];omega
    have HH:=zH h;clear h ha hb;go_wp2;go_ret;exact⟨by first|rfl|(rw[zA2 HH.out];rfl),HB.out⟩
  |1,_ =>
   have j:=ha (by omega);have HA:=zH j
   by_cases h:b=0
   ·have e:((b:Int)==0)=true:=by rw[beq_iff_eq];omega
    have o:=zH h;clear h ha hb j;go_wp2;go_round
    case rel=>exact⟨2,by omega,rfl,fun _=>HA.out,fun _=>o.out⟩
    case measure=>simp[intOf]
   ·have e:((b:Int)==0)=false:=by rw[beq_eq_false_iff_ne];omega
    have HH:=zH h;clear h ha hb j;go_wp2;go_ret;exact⟨by first|rfl|(rw[zA1 (by simpa using HA.out),zA2 HH.out];rfl),HB.out⟩
  |2,_ =>have j:=ha (by omega);have p:=hb (by omega);have HA:=zH j;have o:=zH p;clear ha hb j p;go_wp2;go_ret;exact⟨by first|rfl|(rw[zA1 (by simpa using HA.out),zA1 (by simpa using o.out)];rfl),HB.out⟩
end
section
open Go.RowKit Go.Shelf Sv
def ze(a b c:Nat):Nat:=(a*1000+b)*1000+c
def Yw(a b c:Nat):Nat:=if a≠0 then ze (a+1) 0 0 else if b≠0 then ze a (b+1) 0 else ze a b (c+1)
def xQ(g:List UInt8)(a b c:Nat):Except Int (List zf) :=
 if g=[]\/g=[61] then .ok (zh (ze a b c) (ze a b c+1))
 else if g=[33] then .ok (nt (zh (ze a b c) (ze a b c+1)))
 else if g=[60] then .ok (zh 0 (ze a b c))
 else if g=[60,61] then .ok (zh 0 (ze a b c+1))
 else if g=[62] then .ok (zh (ze a b c+1) ALL)
 else if g=[62,61] then .ok (zh (ze a b c) ALL)
 else if g=[94] then .ok (zh (ze a b c) (Yw a b c))
 else if g=[126] then .ok (zh (ze a b c) (ze a (b+1) 0))
 else .error 3
theorem yr{a b c:Nat}(ha:a<=999)(hb:b<=999)(hc:c<=999):ze a b c<ALL:=by unfold ze ALL;omega
theorem zox{a b c:Nat}(ha:a<=999)(hb:b<=999)(hc:c<=999):Yw a b c<=ALL:=by
 unfold Yw ze ALL;split
 ·omega
 ·split<;>omega
theorem zgk{g:List UInt8}{a b c:Nat}(ha:a<=999)(hb:b<=999)(hc:c<=999){l:List zf}(h:xQ g a b c=.ok l):Rg l:=by
 have h1:=yr ha hb hc;have h2:=zox ha hb hc;have h3:ze a (b+1) 0<=ALL:=by unfold ze ALL;omega
 unfold xQ at h
 repeat' split at h
 all_goals first
  |(cases h;exact Xu (by omega))
  |(cases h;exact Xu zN)
  |(cases h;exact xK (Xu (by omega)))
  |cases h
def yN(w:World)(x:Except Int (List zf))(e:Ending)(w':World):Prop :=
 match x with
 |.ok l=>∃v',e=.returned (.tuple #[.agg #[v'],.nilIface])/\zk w' v' l/\(∀g,v'.ownBlock=some g->w.heap.size<=g)/\zB w w'
 |.error k=>e=.returned (.tuple #[.agg #[.slice none 0 0],.iface 42 (.int .i64 k)])/\zB w w'
theorem Qd(w:World)(A B C:Value):∃W0:World,((w.alloc (.cells #[A,B,C] 92)).alloc (.cells #[.slice none 0 0] 95))=W0/\Blk W0 w.heap.size 92 #[A,B,C]/\Blk W0 (w.heap.size+1) 95 #[.slice none 0 0]/\zB w W0/\W0.heap.size=w.heap.size+2:=by
 have k0:=(Blk.new w 92 #[A,B,C]).alloc (.cells #[.slice none 0 0] 95);have k1:=Blk.new (w.alloc (.cells #[A,B,C] 92)) 95 #[.slice none 0 0];rw[zA0] at k1;exact⟨_,rfl,k0,k1,((Below.refl _ w).alloc zN _).alloc (by simp only[zA0];omega) _,by simp only[zA0]⟩
theorem Qr(x y:Nat)(W:World):zC 195 #[x,y] W fun e w'=>∃a' c',e=.returned (.agg #[.slice a' (zh x y).length c'])/\zk w' (.slice a' (zh x y).length c') (zh x y)/\(∀g,(Value.slice a' (zh x y).length c').ownBlock=some g->W.heap.size<=g)/\zB W w' :=
 (zex x y W).mono fun e w' ⟨v',he,hs,hn,hb⟩=>by obtain⟨a',c',rfl⟩:=hs.form;exact⟨a',c',he,hs,hn,hb⟩
theorem znP(l:List zf)(hl:Rg l)(v:Value)(W:World)(hv:zk W v l):zC 159 #[.agg #[v]] W fun e w'=>∃a' c',e=.returned (.agg #[.slice a' (nt l).length c'])/\zk w' (.slice a' (nt l).length c') (nt l)/\(∀g,(Value.slice a' (nt l).length c').ownBlock=some g->W.heap.size<=g)/\zB W w' :=
 (KC l hl v W hv).mono fun e w' ⟨v',he,hs,hn,hb⟩=>by obtain⟨a',c',rfl⟩:=hs.form;exact⟨a',c',he,hs,hn,hb⟩
theorem znk(g:ByteArray)(a b c:Nat)(ha:a<=999)(hb:b<=999)(hc:c<=999)(w:World)(hg:g.toList=[]) :
  zC 196 #[.string g,.agg #[a,b,c]] w (yN w (.ok (zh (ze a b c) (ze a b c+1)))):=by
 have HN:Hid (∀W,zR 127 #[.agg #[a,b,c]] W (.int .i64 (ze a b c:Nat))):=fun W=>xL a b c (by omega) (by omega) (by omega) W;have p:=yr ha hb hc;generalize ze a b c=n at *;have hlt':(n:Int)<1000000000:=by unfold ALL at p;omega
 obtain⟨W0,q,k0,k1,hB,K⟩:=Qd w (.int .i64 a) (.int .i64 b) (.int .i64 c);have HR:=zH (fun W=>Qr n (n+1) W);have R:=zH q;have U:=zH k0;have o:=zH k1;have HB:=zH hB;have HS:=zH K;have V:=zH p;clear q k0 k1 hB K p;go_enter Tryz.func196,Tryz.ntmps196;go_wp2_with fail;rw[R.out];refine(HN.out _).mono ?_;rintro e w1 ⟨rfl,u⟩;have D1:=zH u;clear u;go_wp2_with fail;refine(HR.out _).mono ?_;rintro e wK ⟨a',c',rfl,M,J,y⟩;have C:∀g,(Value.slice a' (zh n (n+1)).length c').ownBlock=some g->W0.heap.size<=g:=fun g hg=>Nat.le_trans D1.out.size (J g hg);have DK:zB W0 wK:=zT D1.out y;have j:w.heap.size+1<W0.heap.size:=by have:=HS.out;omega
 have X:wK.cell? ⟨w.heap.size+1,0,none⟩=some (.slice none 0 0):=(o.out.below DK j).cell 0;have Y:=(o.out.below DK j).frozen 0;have HP:=zH (ZG HB.out (o.out.cell 0) (Nat.le_succ _) j M C DK);clear M J y C DK j;go_wp2;obtain⟨h3,h4,h5,h6⟩:=HP.out;refine bodyPost_ret (v:=.tuple #[.agg #[.slice a' (zh n (n+1)).length c'],.nilIface]) (by simp[results,Tryz.results196,go_sem,h3]) rfl ?_;exact⟨_,rfl,h4,h5,h6⟩
theorem zik(g:ByteArray)(a b c:Nat)(ha:a<=999)(hb:b<=999)(hc:c<=999)(w:World)(hg:g.toList=[61]) :
  zC 196 #[.string g,.agg #[a,b,c]] w (yN w (.ok (zh (ze a b c) (ze a b c+1)))):=by
 have HN:Hid (∀W,zR 127 #[.agg #[a,b,c]] W (.int .i64 (ze a b c:Nat))):=fun W=>xL a b c (by omega) (by omega) (by omega) W;have p:=yr ha hb hc;generalize ze a b c=n at *;have hlt':(n:Int)<1000000000:=by unfold ALL at p;omega
 obtain⟨W0,q,k0,k1,hB,K⟩:=Qd w (.int .i64 a) (.int .i64 b) (.int .i64 c);have HR:=zH (fun W=>Qr n (n+1) W);have R:=zH q;have U:=zH k0;have o:=zH k1;have HB:=zH hB;have HS:=zH K;have V:=zH p;clear q k0 k1 hB K p;go_enter Tryz.func196,Tryz.ntmps196;go_wp2_with fail;rw[R.out];refine(HN.out _).mono ?_;rintro e w1 ⟨rfl,u⟩;have D1:=zH u;clear u;go_wp2_with fail;refine(HR.out _).mono ?_;rintro e wK ⟨a',c',rfl,M,J,y⟩;have C:∀g,(Value.slice a' (zh n (n+1)).length c').ownBlock=some g->W0.heap.size<=g:=fun g hg=>Nat.le_trans D1.out.size (J g hg);have DK:zB W0 wK:=zT D1.out y;have j:w.heap.size+1<W0.heap.size:=by have:=HS.out;omega
 have X:wK.cell? ⟨w.heap.size+1,0,none⟩=some (.slice none 0 0):=(o.out.below DK j).cell 0;have Y:=(o.out.below DK j).frozen 0;have HP:=zH (ZG HB.out (o.out.cell 0) (Nat.le_succ _) j M C DK);clear M J y C DK j;go_wp2;obtain⟨h3,h4,h5,h6⟩:=HP.out;refine bodyPost_ret (v:=.tuple #[.agg #[.slice a' (zh n (n+1)).length c'],.nilIface]) (by simp[results,Tryz.results196,go_sem,h3]) rfl ?_;exact⟨_,rfl,h4,h5,h6⟩
theorem zps(g:ByteArray)(a b c:Nat)(ha:a<=999)(hb:b<=999)(hc:c<=999)(w:World)(hg:g.toList=[60]) :
  zC 196 #[.string g,.agg #[a,b,c]] w (yN w (.ok (zh 0 (ze a b c)))):=by
 have HN:Hid (∀W,zR 127 #[.agg #[a,b,c]] W (.int .i64 (ze a b c:Nat))):=fun W=>xL a b c (by omega) (by omega) (by omega) W;have p:=yr ha hb hc;generalize ze a b c=n at *;have hlt':(n:Int)<1000000000:=by unfold ALL at p;omega
 obtain⟨W0,q,k0,k1,hB,K⟩:=Qd w (.int .i64 a) (.int .i64 b) (.int .i64 c);have HR:=zH (fun W=>Qr 0 n W);have R:=zH q;have U:=zH k0;have o:=zH k1;have HB:=zH hB;have HS:=zH K;have V:=zH p;clear q k0 k1 hB K p;go_enter Tryz.func196,Tryz.ntmps196;go_wp2_with fail;rw[R.out];refine(HN.out _).mono ?_;rintro e w1 ⟨rfl,u⟩;have D1:=zH u;clear u;go_wp2_with fail;refine(HR.out _).mono ?_;rintro e wK ⟨a',c',rfl,M,J,y⟩;have C:∀g,(Value.slice a' (zh 0 n).length c').ownBlock=some g->W0.heap.size<=g:=fun g hg=>Nat.le_trans D1.out.size (J g hg);have DK:zB W0 wK:=zT D1.out y;have j:w.heap.size+1<W0.heap.size:=by have:=HS.out;omega
 have X:wK.cell? ⟨w.heap.size+1,0,none⟩=some (.slice none 0 0):=(o.out.below DK j).cell 0;have Y:=(o.out.below DK j).frozen 0;have HP:=zH (ZG HB.out (o.out.cell 0) (Nat.le_succ _) j M C DK);clear M J y C DK j;go_wp2;obtain⟨h3,h4,h5,h6⟩:=HP.out;refine bodyPost_ret (v:=.tuple #[.agg #[.slice a' (zh 0 n).length c'],.nilIface]) (by simp[results,Tryz.results196,go_sem,h3]) rfl ?_;exact⟨_,rfl,h4,h5,h6⟩
theorem zhi(g:ByteArray)(a b c:Nat)(ha:a<=999)(hb:b<=999)(hc:c<=999)(w:World)(hg:g.toList=[60,61]) :
  zC 196 #[.string g,.agg #[a,b,c]] w (yN w (.ok (zh 0 (ze a b c+1)))):=by
 have HN:Hid (∀W,zR 127 #[.agg #[a,b,c]] W (.int .i64 (ze a b c:Nat))):=fun W=>xL a b c (by omega) (by omega) (by omega) W;have p:=yr ha hb hc;generalize ze a b c=n at *;have hlt':(n:Int)<1000000000:=by unfold ALL at p;omega
 obtain⟨W0,q,k0,k1,hB,K⟩:=Qd w (.int .i64 a) (.int .i64 b) (.int .i64 c);have HR:=zH (fun W=>Qr 0 (n+1) W);have R:=zH q;have U:=zH k0;have o:=zH k1;have HB:=zH hB;have HS:=zH K;have V:=zH p;clear q k0 k1 hB K p;go_enter Tryz.func196,Tryz.ntmps196;go_wp2_with fail;rw[R.out];refine(HN.out _).mono ?_;rintro e w1 ⟨rfl,u⟩;have D1:=zH u;clear u;go_wp2_with fail;refine(HR.out _).mono ?_;rintro e wK ⟨a',c',rfl,M,J,y⟩;have C:∀g,(Value.slice a' (zh 0 (n+1)).length c').ownBlock=some g->W0.heap.size<=g:=fun g hg=>Nat.le_trans D1.out.size (J g hg);have DK:zB W0 wK:=zT D1.out y;have j:w.heap.size+1<W0.heap.size:=by have:=HS.out;omega
 have X:wK.cell? ⟨w.heap.size+1,0,none⟩=some (.slice none 0 0):=(o.out.below DK j).cell 0;have Y:=(o.out.below DK j).frozen 0;have HP:=zH (ZG HB.out (o.out.cell 0) (Nat.le_succ _) j M C DK);clear M J y C DK j;go_wp2;obtain⟨h3,h4,h5,h6⟩:=HP.out;refine bodyPost_ret (v:=.tuple #[.agg #[.slice a' (zh 0 (n+1)).length c'],.nilIface]) (by simp[results,Tryz.results196,go_sem,h3]) rfl ?_;exact⟨_,rfl,h4,h5,h6⟩
theorem zjo(g:ByteArray)(a b c:Nat)(ha:a<=999)(hb:b<=999)(hc:c<=999)(w:World)(hg:g.toList=[62]) :
  zC 196 #[.string g,.agg #[a,b,c]] w (yN w (.ok (zh (ze a b c+1) 1000000000))):=by
 have HN:Hid (∀W,zR 127 #[.agg #[a,b,c]] W (.int .i64 (ze a b c:Nat))):=fun W=>xL a b c (by omega) (by omega) (by omega) W;have p:=yr ha hb hc;generalize ze a b c=n at *;have hlt':(n:Int)<1000000000:=by unfold ALL at p;omega
 obtain⟨W0,q,k0,k1,hB,K⟩:=Qd w (.int .i64 a) (.int .i64 b) (.int .i64 c);have HR:=zH (fun W=>Qr (n+1) 1000000000 W);have R:=zH q;have U:=zH k0;have o:=zH k1;have HB:=zH hB;have HS:=zH K;have V:=zH p;clear q k0 k1 hB K p;go_enter Tryz.func196,Tryz.ntmps196;go_wp2_with fail;rw[R.out];refine(HN.out _).mono ?_;rintro e w1 ⟨rfl,u⟩;have D1:=zH u;clear u;go_wp2_with fail;refine(HR.out _).mono ?_;rintro e wK ⟨a',c',rfl,M,J,y⟩;have C:∀g,(Value.slice a' (zh (n+1) 1000000000).length c').ownBlock=some g->W0.heap.size<=g:=fun g hg=>Nat.le_trans D1.out.size (J g hg);have DK:zB W0 wK:=zT D1.out y;have j:w.heap.size+1<W0.heap.size:=by have:=HS.out;omega
 have X:wK.cell? ⟨w.heap.size+1,0,none⟩=some (.slice none 0 0):=(o.out.below DK j).cell 0;have Y:=(o.out.below DK j).frozen 0;have HP:=zH (ZG HB.out (o.out.cell 0) (Nat.le_succ _) j M C DK);clear M J y C DK j;go_wp2;obtain⟨h3,h4,h5,h6⟩:=HP.out;refine bodyPost_ret (v:=.tuple #[.agg #[.slice a' (zh (n+1) 1000000000).length c'],.nilIface]) (by simp[results,Tryz.results196,go_sem,h3]) rfl ?_;exact⟨_,rfl,h4,h5,h6⟩
theorem zkG(g:ByteArray)(a b c:Nat)(ha:a<=999)(hb:b<=999)(hc:c<=999)(w:World)(hg:g.toList=[62,61]) :
  zC 196 #[.string g,.agg #[a,b,c]] w (yN w (.ok (zh (ze a b c) 1000000000))):=by
 have HN:Hid (∀W,zR 127 #[.agg #[a,b,c]] W (.int .i64 (ze a b c:Nat))):=fun W=>xL a b c (by omega) (by omega) (by omega) W;have p:=yr ha hb hc;generalize ze a b c=n at *;have hlt':(n:Int)<1000000000:=by unfold ALL at p;omega
 obtain⟨W0,q,k0,k1,hB,K⟩:=Qd w (.int .i64 a) (.int .i64 b) (.int .i64 c);have HR:=zH (fun W=>Qr n 1000000000 W);have R:=zH q;have U:=zH k0;have o:=zH k1;have HB:=zH hB;have HS:=zH K;have V:=zH p;clear q k0 k1 hB K p;go_enter Tryz.func196,Tryz.ntmps196;go_wp2_with fail;rw[R.out];refine(HN.out _).mono ?_;rintro e w1 ⟨rfl,u⟩;have D1:=zH u;clear u;go_wp2_with fail;refine(HR.out _).mono ?_;rintro e wK ⟨a',c',rfl,M,J,y⟩;have C:∀g,(Value.slice a' (zh n 1000000000).length c').ownBlock=some g->W0.heap.size<=g:=fun g hg=>Nat.le_trans D1.out.size (J g hg);have DK:zB W0 wK:=zT D1.out y;have j:w.heap.size+1<W0.heap.size:=by have:=HS.out;omega
 have X:wK.cell? ⟨w.heap.size+1,0,none⟩=some (.slice none 0 0):=(o.out.below DK j).cell 0;have Y:=(o.out.below DK j).frozen 0;have HP:=zH (ZG HB.out (o.out.cell 0) (Nat.le_succ _) j M C DK);clear M J y C DK j;go_wp2;obtain⟨h3,h4,h5,h6⟩:=HP.out;refine bodyPost_ret (v:=.tuple #[.agg #[.slice a' (zh n 1000000000).length c'],.nilIface]) (by simp[results,Tryz.results196,go_sem,h3]) rfl ?_;exact⟨_,rfl,h4,h5,h6⟩
theorem zjV(g:ByteArray)(a b c:Nat)(ha:a<=999)(hb:b<=999)(hc:c<=999)(w:World)(hg:g.toList=[33]) :
  zC 196 #[.string g,.agg #[a,b,c]] w (yN w (.ok (nt (zh (ze a b c) (ze a b c+1))))):=by
 have HN:Hid (∀W,zR 127 #[.agg #[a,b,c]] W (.int .i64 (ze a b c:Nat))):=fun W=>xL a b c (by omega) (by omega) (by omega) W;have p:=yr ha hb hc;generalize ze a b c=n at *;have hlt':(n:Int)<1000000000:=by unfold ALL at p;omega
 obtain⟨W0,q,k0,k1,hB,M⟩:=Qd w (.int .i64 a) (.int .i64 b) (.int .i64 c);have HR:=zH (fun W=>Qr n (n+1) W);have HT:Hid (∀v W,zk W v (zh n (n+1))->zC 159 #[.agg #[v]] W fun e w'=>∃a' c',e=.returned (.agg #[.slice a' (nt (zh n (n+1))).length c'])/\zk w' (.slice a' (nt (zh n (n+1))).length c') (nt (zh n (n+1)))/\(∀g,(Value.slice a' (nt (zh n (n+1))).length c').ownBlock=some g->W.heap.size<=g)/\zB W w'):=fun v W h=>znP _ (Xu (by omega)) v W h;have X:=zH q;have Y:=zH k0;have o:=zH k1;have HB:=zH hB;have HS:=zH M;have Z:=zH p;clear q k0 k1 hB M p;go_enter Tryz.func196,Tryz.ntmps196;go_wp2_with fail;rw[X.out];refine(HN.out _).mono ?_;rintro e w1 ⟨rfl,u⟩;have D1:=zH u;clear u;go_wp2_with fail;refine(HR.out _).mono ?_;rintro e w2 ⟨a2,c2,rfl,R,-,y⟩;have D2:Hid (zB W0 w2):=zT D1.out y;have V:=zH (HT.out _ _ R);clear R y HT HR;go_wp2_with fail;refine V.out.mono ?_;rintro e wK ⟨a',c',rfl,U,K,C⟩;have J:∀g,(Value.slice a' (nt (zh n (n+1))).length c').ownBlock=some g->W0.heap.size<=g:=fun g hg=>Nat.le_trans D2.out.size (K g hg);have DK:zB W0 wK:=zT D2.out C;have j:w.heap.size+1<W0.heap.size:=by have:=HS.out;omega
 have a0:wK.cell? ⟨w.heap.size+1,0,none⟩=some (.slice none 0 0):=(o.out.below DK j).cell 0;have a1:=(o.out.below DK j).frozen 0;have HP:=zH (ZG HB.out (o.out.cell 0) (Nat.le_succ _) j U J DK);clear U K C J DK j;go_wp2;obtain⟨h3,h4,h5,h6⟩:=HP.out;refine bodyPost_ret (v:=.tuple #[.agg #[.slice a' (nt (zh n (n+1))).length c'],.nilIface]) (by simp[results,Tryz.results196,go_sem,h3]) rfl ?_;exact⟨_,rfl,h4,h5,h6⟩
end
end Go.Proofs.YthifnefkdjkicaaGreatDoor
