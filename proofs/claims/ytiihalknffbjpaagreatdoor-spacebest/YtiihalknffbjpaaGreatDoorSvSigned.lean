/- signed: a version with signs ahead. -/
import Derived.Test.YtiihalknffbjpaaGreatDoorSvAnd
import Derived.Lib.SliceRun
set_option maxHeartbeats 2000000
set_option maxRecDepth 100000
namespace Go.Proofs.YtiihalknffbjpaaGreatDoor
section
open Go.RowKit Sv
theorem row_any (a b:Nat) (w:World) :
  Calls Tryz.prog 303 #[.int .i64 (a:Int),.int .i64 (b:Int)] w (RgOut w (rowF a b)):=by
 by_cases h:a<b
 ·have h':¬ (b:Int)<=(a:Int):=by omega
  have hb:=((Below.refl w.heap.size w).alloc (Nat.le_refl _) (.cells #[.slice (some ⟨w.heap.size + 1,0,none⟩) 1 1] 128)).alloc (by rw [World.size_alloc];omega) (.cells #[.int .i64 (a:Int),.int .i64 (b:Int)] 402)
  have h2:=cell2 (w.alloc (.cells #[.slice (some ⟨w.heap.size + 1,0,none⟩) 1 1] 128)) (.int .i64 (a:Int)) (.int .i64 (b:Int)) 402
  rw [World.size_alloc] at h2
  have h1:=cell1 w (.slice (some ⟨w.heap.size + 1,0,none⟩) 1 1) 128
  have h3:((w.alloc (.cells #[.slice (some ⟨w.heap.size + 1,0,none⟩) 1 1] 128)).alloc (.cells #[.int .i64 (a:Int),.int .i64 (b:Int)] 402)).cell? ⟨w.heap.size,0,none⟩=some (.slice (some ⟨w.heap.size + 1,0,none⟩) 1 1):=(((Below.refl _ (w.alloc (.cells #[.slice (some ⟨w.heap.size + 1,0,none⟩) 1 1] 128))).alloc (Nat.le_refl _) _).cell (p:=⟨w.heap.size,0,none⟩) (by show w.heap.size<_;rw [World.size_alloc];omega)).trans h1
  have hs:w.heap.size + 1<((w.alloc (.cells #[.slice (some ⟨w.heap.size + 1,0,none⟩) 1 1] 128)).alloc (.cells #[.int .i64 (a:Int),.int .i64 (b:Int)] 402)).heap.size:=by rw [World.size_alloc,World.size_alloc];omega
  have HB:=Lib.hid hb
  have H2:=Lib.hid h2
  have H3:=Lib.hid h3
  have HS:=Lib.hid hs
  clear hb h2 h1 h3 hs
  go_enter Tryz.func303,Tryz.ntmps303
  go_wp2
  have h3:=H3.out
  refine bodyPost_ret (v:=.agg #[.slice (some ⟨w.heap.size + 1,0,none⟩) 1 1]) (by simp [results,Tryz.results303,go_sem,h3]) rfl ?_
  refine ⟨_,rfl,?_,fun g hg=>by simp [Value.ownBlock] at hg;omega,HB.out⟩
  rw [rowF,if_pos h]
  exact ⟨⟨_,_,rfl⟩,fun i hi=>⟨w.heap.size + 1,1,rfl,HS.out,by obtain rfl:i=0:=(by simp at hi;exact hi);exact H2.out.1,by obtain rfl:i=0:=(by simp at hi;exact hi);exact H2.out.2⟩⟩
 ·have h':(b:Int)<=(a:Int):=by omega
  have h1:=cell1 w (.slice none 0 0) 128
  have H1:=Lib.hid h1
  clear h1
  go_enter Tryz.func303,Tryz.ntmps303
  go_wp2
  have h1:=H1.out
  refine bodyPost_ret (v:=.agg #[.slice none 0 0]) (by simp [results,Tryz.results303,go_sem]) rfl ?_
  refine ⟨_,rfl,?_,fun g hg=>by simp [Value.ownBlock] at hg,(Below.refl _ _).alloc (Nat.le_refl _) _⟩
  rw [rowF,if_neg h]
  exact spAt_nil _
theorem put_out {w w1 w':World} {v:Value} {l:List Span} {b:Nat} (hb:Below w.heap.size w w1) (h1:w1.cell? ⟨b,0,none⟩=some (.slice none 0 0)) (hB:w.heap.size<=b) (hl:b<w1.heap.size) (hs:SpAt w' v l) (hn:∀ g,v.ownBlock=some g->w1.heap.size<=g) (h':Below w1.heap.size w1 w') :
  (w'.setCell ⟨b,0,none⟩ v).cell? ⟨b,0,none⟩=some v/\SpAt (w'.setCell ⟨b,0,none⟩ v) v l/\(∀ g,v.ownBlock=some g->w.heap.size<=g)/\Below w.heap.size w (w'.setCell ⟨b,0,none⟩ v):=by
 refine ⟨World.cell?_setCell_same' _ _ _ (by rw [h'.cell (p:=⟨b,0,none⟩) hl,h1];rfl),hs.set (fun e=>by have:=hn b e;omega),fun g hg=>Nat.le_trans hb.size (hn g hg),(hb.trans (h'.mono hb.size)).setCell (p:=⟨b,0,none⟩) hB v⟩
theorem any_any (w:World):Calls Tryz.prog 259 #[] w (RgOut w anyF):=by
 have HH:Hid (∀ W:World,Calls Tryz.prog 303 #[.int .i64 0,.int .i64 1000000000] W (fun e w'=>∃ v',e=.returned (.agg #[v'])/\SpAt w' v' anyF/\(∀ g,v'.ownBlock=some g->W.heap.size<=g)/\Below W.heap.size W w')):=fun W=>row_any 0 1000000000 W
 have h1:=cell1 w (.slice none 0 0) 128
 have f1:=frozen1 w (.slice none 0 0) 128
 have b1:Below w.heap.size w (w.alloc (.cells #[.slice none 0 0] 128)):=(Below.refl _ _).alloc (Nat.le_refl _) _
 have l1:w.heap.size<(w.alloc (.cells #[.slice none 0 0] 128)).heap.size:=by rw [World.size_alloc];omega
 have H1:=Lib.hid h1
 have F1:=Lib.hid f1
 have B1:=Lib.hid b1
 have L1:=Lib.hid l1
 clear h1 f1 b1 l1
 go_enter Tryz.func259,Tryz.ntmps259
 go_wp2_with fail
 generalize w.alloc (.cells #[.slice none 0 0] 128)=W1 at *
 refine (HH.out _).mono ?_
 rintro e w' ⟨v',rfl,hs,hn,hb⟩
 obtain ⟨va,vc,rfl⟩:=hs.form
 have hc:=(hb.cell (p:=⟨w.heap.size,0,none⟩) L1.out).trans H1.out
 have hf:=(hb.frozen (p:=⟨w.heap.size,0,none⟩) L1.out).trans F1.out
 have HP:=Lib.hid (put_out B1.out H1.out (Nat.le_refl _) L1.out hs hn hb)
 clear hs hn hb
 go_wp2
 obtain ⟨h3,h4,h5,h6⟩:=HP.out
 refine bodyPost_ret (v:=.agg #[.slice va anyF.length vc]) (by simp [results,Tryz.results259,go_sem,h3]) rfl ?_
 exact ⟨_,rfl,h4,h5,h6⟩
end
section
open Go.RowKit Sv
theorem or_any (l m:List Span) (hl:Rg l) (hm:Rg m) (v u:Value) (w:World) (hv:SpAt w v l) (hu:SpAt w u m) :
  Calls Tryz.prog 198 #[.agg #[v],.agg #[u]] w (RgOut w (orr l m)):=by
 obtain ⟨a,cap,rfl⟩:=hv.form
 obtain ⟨b,cbp,rfl⟩:=hu.form
 have hB:=(box3 w (.slice a l.length cap) (.slice b m.length cbp) (.slice none 0 0) 128 128 128).below
 have HN1:Hid (∀ W,Below w.heap.size w W->Calls Tryz.prog 262 #[.agg #[.slice a l.length cap]] W (fun e w'=>∃ a' c',e=.returned (.agg #[.slice a' (nt l).length c'])/\SpAt w' (.slice a' (nt l).length c') (nt l)/\Below W.heap.size W w')):=fun W hW=>(not_any l hl _ W (hv.below hW (Nat.le_refl _))).mono fun e w' ⟨v',he,hs,hn,hb⟩=>by obtain ⟨a',c',rfl⟩:=hs.form;exact ⟨a',c',he,hs,hb⟩
 have HN2:Hid (∀ W,Below w.heap.size w W->Calls Tryz.prog 262 #[.agg #[.slice b m.length cbp]] W (fun e w'=>∃ a' c',e=.returned (.agg #[.slice a' (nt m).length c'])/\SpAt w' (.slice a' (nt m).length c') (nt m)/\Below W.heap.size W w')):=fun W hW=>(not_any m hm _ W (hu.below hW (Nat.le_refl _))).mono fun e w' ⟨v',he,hs,hn,hb⟩=>by obtain ⟨a',c',rfl⟩:=hs.form;exact ⟨a',c',he,hs,hb⟩
 have HA:Hid (∀ v1 v2 W,SpAt W v1 (nt l)->SpAt W v2 (nt m)->Calls Tryz.prog 261 #[.agg #[v1],.agg #[v2]] W (fun e w'=>∃ a' c',e=.returned (.agg #[.slice a' (nd (nt l) (nt m)).length c'])/\SpAt w' (.slice a' (nd (nt l) (nt m)).length c') (nd (nt l) (nt m))/\Below W.heap.size W w')):=fun v1 v2 W h1 h2=>(and_any _ _ (rg_nt hl) (rg_nt hm) v1 v2 W h1 h2).mono fun e w' ⟨v',he,hs,hn,hb⟩=>by obtain ⟨a',c',rfl⟩:=hs.form;exact ⟨a',c',he,hs,hb⟩
 have HN3:Hid (∀ v1 W,SpAt W v1 (nd (nt l) (nt m))->Calls Tryz.prog 262 #[.agg #[v1]] W (fun e w'=>∃ a' c',e=.returned (.agg #[.slice a' (orr l m).length c'])/\SpAt w' (.slice a' (orr l m).length c') (orr l m)/\(∀ g,(Value.slice a' (orr l m).length c').ownBlock=some g->W.heap.size<=g)/\Below W.heap.size W w')):=fun v1 W h1=>(not_any _ (rg_nd (rg_nt hl) (rg_nt hm)) v1 W h1).mono fun e w' ⟨v',he,hs,hn,hb⟩=>by obtain ⟨a',c',rfl⟩:=hs.form;exact ⟨a',c',he,hs,hn,hb⟩
 have hbox:=box3 w (.slice a l.length cap) (.slice b m.length cbp) (.slice none 0 0) 128 128 128
 clear hv hu hl hm hB
 go_enter Tryz.func198,Tryz.ntmps198
 go_wp2_with fail
 generalize ((w.alloc (.cells #[.slice a l.length cap] 128)).alloc (.cells #[.slice b m.length cbp] 128)).alloc (.cells #[.slice none 0 0] 128)=W0 at *
 have hs0:=hbox.size
 have hB0:=hbox.below
 have hr0:=hbox.c0
 have ho0:=hbox.c1
 have hc0:=hbox.c2
 have hf0:=hbox.f2
 have SC:Hid (∀ W,Below (w.heap.size + 2) W0 W->W.cell? ⟨w.heap.size,0,none⟩=some (.slice a l.length cap)/\W.cell? ⟨w.heap.size + 1,0,none⟩=some (.slice b m.length cbp)):=fun W hb=>⟨(hb.cell (p:=⟨w.heap.size,0,none⟩) (by show w.heap.size<_;omega)).trans hr0,(hb.cell (p:=⟨w.heap.size + 1,0,none⟩) (by show w.heap.size + 1<_;omega)).trans ho0⟩
 have HB0:=Lib.hid hB0
 have HS0:=Lib.hid hs0
 have HC0:=Lib.hid hc0
 have HF0:=Lib.hid hf0
 have L0:Hid (w.heap.size + 2<=W0.heap.size):=by show w.heap.size + 2<=W0.heap.size;omega
 have L1:Hid (w.heap.size + 1 + 1<W0.heap.size):=by show w.heap.size + 1 + 1<W0.heap.size;omega
 have D0:Below W0.heap.size W0 W0.drew:=(Below.refl _ _).drew
 have E0:Below w.heap.size w W0.drew:=hB0.drew
 clear hbox hs0 hB0 hr0 ho0 hc0 hf0
 go_region_held3 (fun w'=>w'.cell? ⟨w.heap.size,0,none⟩=some (.slice a l.length cap)/\w'.cell? ⟨w.heap.size + 1,0,none⟩=some (.slice b m.length cbp)) (first | exact SC.out _ (D0.mono L0.out) | exact SC.out _ (D1.mono L0.out) | exact SC.out _ (D2.mono L0.out) | exact SC.out _ (D3.mono L0.out) | exact SC.out _ (D4.mono L0.out) | exact SC.out _ D5)
  (first
   | ((with_reducible refine (HN1.out _ E0).mono ?_);rintro e w1 ⟨a1,c1,rfl,hs1,hb1⟩;have D1:Below W0.heap.size W0 w1:=D0.trans hb1;have E1:Below w.heap.size w w1:=E0.trans (hb1.mono E0.size);clear HN1)
   | ((with_reducible refine (HN2.out _ E1).mono ?_);rintro e w2 ⟨a2,c2,rfl,hs2,hb2⟩;have D2:Below W0.heap.size W0 w2:=D1.trans (hb2.mono D1.size);have hs12:=hs1.below hb2 (Nat.le_refl _);clear HN2)
   | ((with_reducible refine (HA.out _ _ _ hs12 hs2).mono ?_);rintro e w3 ⟨a3,c3,rfl,hs3,hb3⟩;have D3:Below W0.heap.size W0 w3:=D2.trans (hb3.mono D2.size);clear HA)
   | ((with_reducible refine (HN3.out _ _ hs3).mono ?_);rintro e w4 ⟨a4,c4,rfl,hs4,hn4,hb4⟩;have D4:Below W0.heap.size W0 w4:=D3.trans (hb4.mono D3.size);have hc4:=(D4.cell (p:=⟨w.heap.size + 1 + 1,0,none⟩) L1.out).trans HC0.out;have hf4:=(D4.frozen (p:=⟨w.heap.size + 1 + 1,0,none⟩) L1.out).trans HF0.out;have D5:Below (w.heap.size + 2) W0 (w4.setCell ⟨w.heap.size + 1 + 1,0,none⟩ (.slice a4 (orr l m).length c4)):=(D4.mono L0.out).setCell (p:=⟨w.heap.size + 1 + 1,0,none⟩) (Nat.le_refl _) _;clear HN3))
 have hn:∀ g,(Value.slice a4 (orr l m).length c4).ownBlock=some g->W0.heap.size<=g:=fun g hg=>Nat.le_trans D3.size (hn4 g hg)
 have HP:=Lib.hid (put_out HB0.out HC0.out (by omega) L1.out hs4 hn D4)
 clear hs1 hs2 hs12 hs3 hs4 hn4 hn hb1 hb2 hb3 hb4 D0 D1 D2 D3 D4 D5 E0 E1
 go_wp2
 obtain ⟨h3,h4,h5,h6⟩:=HP.out
 refine bodyPost_ret (v:=.agg #[.slice a4 (orr l m).length c4]) (by simp [results,Tryz.results198,go_sem,h3]) rfl ?_
 exact ⟨_,rfl,h4,h5,h6⟩
end
section
open Go.RowKit Go.Shelf Sv
theorem parse_no (s:ByteArray) (w:World) (hc:s.data.toList.count 46 ≠ 2) :
  Calls Tryz.prog 134 #[.string s] w fun e w'=>e=.returned (versV (.error 3))/\Below w.heap.size w w':=by
 have HC:Hid (∀ W,Calls Tryz.prog 207 #[.string s,.string ⟨#[46]⟩] W fun e w'=>e=.returned (.int .i64 (s.data.toList.count 46:Nat))/\w'=W):=fun W=>Tryz.strings_Count_one s 46 W
 have hne:(((s.data.toList.count 46:Nat):Int) == 2)=false:=by rw [beq_eq_false_iff_ne];omega
 generalize s.data.toList.count 46=n at *
 clear hc
 go_enter Tryz.func134,Tryz.ntmps134
 go_wp2_with (go_at_call 207;refine (HC.out _).mono ?_;rintro e w' ⟨rfl,rfl⟩)
 have k0:=((Blk.new w 84 z3).alloc (.cells #[.iface 57 (.int .i64 3)] 31)).alloc (.cells z3 84)
 have k1:=(Blk.new (w.alloc (.cells z3 84)) 31 #[.iface 57 (.int .i64 3)]).alloc (.cells z3 84)
 rw [World.size_alloc] at k1
 have hB:Below w.heap.size w (((w.alloc (.cells z3 84)).alloc (.cells #[.iface 57 (.int .i64 3)] 31)).alloc (.cells z3 84)):=(((Below.refl _ w).alloc (Nat.le_refl _) _).alloc (by simp only [World.size_alloc];omega) _).alloc (by simp only [World.size_alloc];omega) _
 generalize ((w.alloc (.cells z3 84)).alloc (.cells #[.iface 57 (.int .i64 3)] 31)).alloc (.cells z3 84)=WF at *
 have r0:=k0.cell 0
 have r1:=k0.cell 1
 have r2:=k0.cell 2
 have r3:=k1.cell 0
 refine bodyPost_ret (v:=versV (.error 3)) (by simp [results,Tryz.f134,go_sem,r0,r1,r2,r3,versV]) rfl ?_
 exact ⟨rfl,hB⟩
theorem parse_any (s:ByteArray) (w:World) (hs:s.size<=100000) (hw:Lb w) :
  Calls Tryz.prog 134 #[.string s] w fun e w'=>e=.returned (versV (versF s))/\Below w.heap.size w w':=by
 unfold versF
 by_cases hc:s.data.toList.count 46=2
 ·rw [if_pos hc];exact (callsIn_wide (n:=4)).1 (parse_yes s w hs hw hc)
 ·rw [if_neg hc];exact parse_no s w hc
theorem number_any (a b c:Nat) (ha:a<=1000) (hb:b<=1000) (hc:c<=1000) (w:World) :
  Calls Tryz.prog 278 #[.agg #[.int .i64 (a:Int),.int .i64 (b:Int),.int .i64 (c:Int)]] w fun e w'=>e=.returned (.int .i64 (((a * 1000 + b) * 1000 + c:Nat):Int))/\Below w.heap.size w w':=by
 have hB:=(Below.refl w.heap.size w).alloc (Nat.le_refl _) (.cells #[.int .i64 (a:Int),.int .i64 (b:Int),.int .i64 (c:Int)] 84)
 have he:(((a * 1000 + b) * 1000 + c:Nat):Int)=((a:Int) * 1000 + (b:Int)) * 1000 + (c:Int):=by omega
 have HB:=Lib.hid hB
 have HE:=Lib.hid he
 clear hB he
 go_enter Tryz.func278,Tryz.ntmps278
 go_wp2
 go_ret
 exact ⟨by rw [HE.out];rfl,HB.out⟩
theorem next_end (w:World) (x y z:Value):∃ W1:World,((w.alloc (.cells #[x,y,z] 84)).alloc (.cells z3 84))=W1/\Blk W1 w.heap.size 84 #[x,y,z]/\Blk W1 (w.heap.size + 1) 84 z3/\Below w.heap.size w W1:=by
 have k0:=(Blk.new w 84 #[x,y,z]).alloc (.cells z3 84)
 have k1:=Blk.new (w.alloc (.cells #[x,y,z] 84)) 84 z3
 rw [World.size_alloc] at k1
 exact ⟨_,rfl,k0,k1,((Below.refl _ w).alloc (Nat.le_refl _) _).alloc (by simp only [World.size_alloc];omega) _⟩
theorem next_0 (a b c:Nat) (ha:a<=999) (w:World) :
  Calls Tryz.prog 331 #[.agg #[.int .i64 (a:Int),.int .i64 (b:Int),.int .i64 (c:Int)],.int .i64 0] w fun e w'=>e=.returned (.agg #[.int .i64 ((a + 1:Nat):Int),.int .i64 0,.int .i64 0])/\Below w.heap.size w w':=by
 obtain ⟨W1,hW1,k0,k1,hB⟩:=next_end w (.int .i64 ((a:Int) + 1)) (.int .i64 (b:Int)) (.int .i64 (c:Int))
 have HW1:=Lib.hid hW1
 have HK0:=Lib.hid k0
 have HK1:=Lib.hid k1
 have HB:=Lib.hid hB
 clear hW1 k0 k1 hB
 have hcl:=Lib.run_clear_slice (P:=Tryz.prog) W1 47 3 0 (.int .i64 0) Tryz.underlying47 Tryz.zeroValue3 rfl rfl w.heap.size 1 2 2 (by omega) (fun j hj=>by
  match j,hj with
  | 0,_=>rw [HK0.out.cell 1];rfl
  | 1,_=>rw [HK0.out.cell 2];rfl) (fun j _=>HK0.out.frozen _)
 have m0:Blk (W1.setCells w.heap.size 1 (List.replicate 2 (.int .i64 0))) w.heap.size 84 #[.int .i64 ((a:Int) + 1),.int .i64 0,.int .i64 0]:=(HK0.out.set (i:=1) (v:=.int .i64 0)).set (i:=2) (v:=.int .i64 0)
 have m1:Blk (W1.setCells w.heap.size 1 (List.replicate 2 (.int .i64 0))) (w.heap.size + 1) 84 z3:=(HK1.out.other (by omega)).other (by omega)
 have mB:Below w.heap.size w (W1.setCells w.heap.size 1 (List.replicate 2 (.int .i64 0))):=(HB.out.setCell (p:=⟨w.heap.size,1,none⟩) (Nat.le_refl _) _).setCell (p:=⟨w.heap.size,2,none⟩) (Nat.le_refl _) _
 generalize W1.setCells w.heap.size 1 (List.replicate 2 (.int .i64 0))=W2 at *
 have d0:=m0.cell 0
 have d1:=m0.cell 1
 have d2:=m0.cell 2
 have f0:=m1.frozen 0
 have f1:=m1.frozen 1
 have f2:=m1.frozen 2
 have g0:W2.cell? ⟨w.heap.size + 1,0,none⟩=some (.int .i64 0):=m1.cell 0
 have g1:W2.cell? ⟨w.heap.size + 1,1,none⟩=some (.int .i64 0):=m1.cell 1
 have g2:W2.cell? ⟨w.heap.size + 1,2,none⟩=some (.int .i64 0):=m1.cell 2
 simp only [List.getElem?_toArray,List.getElem?_cons_zero,List.getElem?_cons_succ] at d0 d1 d2
 obtain ⟨WF,hWF⟩:∃ WF,((W2.setCell ⟨w.heap.size + 1,0,none⟩ (.int .i64 ((a:Int) + 1))).setCell ⟨w.heap.size + 1,1,none⟩ (.int .i64 0)).setCell ⟨w.heap.size + 1,2,none⟩ (.int .i64 0)=WF:=⟨_,rfl⟩
 have p1:Blk WF (w.heap.size + 1) 84 #[(.int .i64 ((a:Int) + 1)),(.int .i64 0),(.int .i64 0)]:=by rw [<- hWF];exact ((m1.set (i:=0) (v:=(.int .i64 ((a:Int) + 1)))).set (i:=1) (v:=(.int .i64 0))).set (i:=2) (v:=(.int .i64 0))
 have pB:Below w.heap.size w WF:=by rw [<- hWF];exact ((mB.setCell (p:=⟨w.heap.size + 1,0,none⟩) (Nat.le_succ _) _).setCell (p:=⟨w.heap.size + 1,1,none⟩) (Nat.le_succ _) _).setCell (p:=⟨w.heap.size + 1,2,none⟩) (Nat.le_succ _) _
 have HP1:=Lib.hid p1
 have HPB:=Lib.hid pB
 have HWF:=Lib.hid hWF
 rw [<- HW1.out] at hcl
 clear m0 m1 mB p1 pB hWF HK0 HK1 HB HW1
 go_enter Tryz.func331,Tryz.ntmps331
 go_wp2
 rw [HWF.out]
 have r0:=HP1.out.cell 0
 have r1:=HP1.out.cell 1
 have r2:=HP1.out.cell 2
 refine bodyPost_ret (v:=.agg #[(.int .i64 ((a:Int) + 1)),(.int .i64 0),(.int .i64 0)]) (by simp [results,Tryz.results331,go_sem,r0,r1,r2]) rfl ?_
 exact ⟨rfl,HPB.out⟩
theorem next_1 (a b c:Nat) (hb:b<=999) (w:World) :
  Calls Tryz.prog 331 #[.agg #[.int .i64 (a:Int),.int .i64 (b:Int),.int .i64 (c:Int)],.int .i64 1] w fun e w'=>e=.returned (.agg #[.int .i64 (a:Int),.int .i64 ((b + 1:Nat):Int),.int .i64 0])/\Below w.heap.size w w':=by
 obtain ⟨W1,hW1,k0,k1,hB⟩:=next_end w (.int .i64 (a:Int)) (.int .i64 ((b:Int) + 1)) (.int .i64 (c:Int))
 have HW1:=Lib.hid hW1
 have HK0:=Lib.hid k0
 have HK1:=Lib.hid k1
 have HB:=Lib.hid hB
 clear hW1 k0 k1 hB
 have hcl:=Lib.run_clear_slice (P:=Tryz.prog) W1 47 3 0 (.int .i64 0) Tryz.underlying47 Tryz.zeroValue3 rfl rfl w.heap.size 2 1 1 (by omega) (fun j hj=>by
  match j,hj with
  | 0,_=>rw [HK0.out.cell 2];rfl) (fun j _=>HK0.out.frozen _)
 have m0:Blk (W1.setCells w.heap.size 2 (List.replicate 1 (.int .i64 0))) w.heap.size 84 #[.int .i64 (a:Int),.int .i64 ((b:Int) + 1),.int .i64 0]:=HK0.out.set (i:=2) (v:=.int .i64 0)
 have m1:Blk (W1.setCells w.heap.size 2 (List.replicate 1 (.int .i64 0))) (w.heap.size + 1) 84 z3:=HK1.out.other (by omega)
 have mB:Below w.heap.size w (W1.setCells w.heap.size 2 (List.replicate 1 (.int .i64 0))):=HB.out.setCell (p:=⟨w.heap.size,2,none⟩) (Nat.le_refl _) _
 generalize W1.setCells w.heap.size 2 (List.replicate 1 (.int .i64 0))=W2 at *
 have d0:=m0.cell 0
 have d1:=m0.cell 1
 have d2:=m0.cell 2
 have f0:=m1.frozen 0
 have f1:=m1.frozen 1
 have f2:=m1.frozen 2
 have g0:W2.cell? ⟨w.heap.size + 1,0,none⟩=some (.int .i64 0):=m1.cell 0
 have g1:W2.cell? ⟨w.heap.size + 1,1,none⟩=some (.int .i64 0):=m1.cell 1
 have g2:W2.cell? ⟨w.heap.size + 1,2,none⟩=some (.int .i64 0):=m1.cell 2
 simp only [List.getElem?_toArray,List.getElem?_cons_zero,List.getElem?_cons_succ] at d0 d1 d2
 obtain ⟨WF,hWF⟩:∃ WF,((W2.setCell ⟨w.heap.size + 1,0,none⟩ (.int .i64 (a:Int))).setCell ⟨w.heap.size + 1,1,none⟩ (.int .i64 ((b:Int) + 1))).setCell ⟨w.heap.size + 1,2,none⟩ (.int .i64 0)=WF:=⟨_,rfl⟩
 have p1:Blk WF (w.heap.size + 1) 84 #[(.int .i64 (a:Int)),(.int .i64 ((b:Int) + 1)),(.int .i64 0)]:=by rw [<- hWF];exact ((m1.set (i:=0) (v:=(.int .i64 (a:Int)))).set (i:=1) (v:=(.int .i64 ((b:Int) + 1)))).set (i:=2) (v:=(.int .i64 0))
 have pB:Below w.heap.size w WF:=by rw [<- hWF];exact ((mB.setCell (p:=⟨w.heap.size + 1,0,none⟩) (Nat.le_succ _) _).setCell (p:=⟨w.heap.size + 1,1,none⟩) (Nat.le_succ _) _).setCell (p:=⟨w.heap.size + 1,2,none⟩) (Nat.le_succ _) _
 have HP1:=Lib.hid p1
 have HPB:=Lib.hid pB
 have HWF:=Lib.hid hWF
 rw [<- HW1.out] at hcl
 clear m0 m1 mB p1 pB hWF HK0 HK1 HB HW1
 go_enter Tryz.func331,Tryz.ntmps331
 go_wp2
 rw [HWF.out]
 have r0:=HP1.out.cell 0
 have r1:=HP1.out.cell 1
 have r2:=HP1.out.cell 2
 refine bodyPost_ret (v:=.agg #[(.int .i64 (a:Int)),(.int .i64 ((b:Int) + 1)),(.int .i64 0)]) (by simp [results,Tryz.results331,go_sem,r0,r1,r2]) rfl ?_
 exact ⟨rfl,HPB.out⟩
theorem clear_none (W:World) (b:Nat):(Builtin.clear_ #[47] 0 #[.slice (some ⟨b,0,none⟩) 0 0]).run Tryz.prog W=.ok (.tuple #[]) W:=by
 simp [Builtin.clear_,run_underlying Tryz.underlying47,go_sem]
theorem next_2 (a b c:Nat) (hc:c<=999) (w:World) :
  Calls Tryz.prog 331 #[.agg #[.int .i64 (a:Int),.int .i64 (b:Int),.int .i64 (c:Int)],.int .i64 2] w fun e w'=>e=.returned (.agg #[.int .i64 (a:Int),.int .i64 (b:Int),.int .i64 ((c + 1:Nat):Int)])/\Below w.heap.size w w':=by
 obtain ⟨W1,hW1,k0,k1,hB⟩:=next_end w (.int .i64 (a:Int)) (.int .i64 (b:Int)) (.int .i64 ((c:Int) + 1))
 have HW1:=Lib.hid hW1
 have HK0:=Lib.hid k0
 have HK1:=Lib.hid k1
 have HB:=Lib.hid hB
 clear hW1 k0 k1 hB
 obtain ⟨W2,hW2⟩:∃ W2,W1=W2:=⟨_,rfl⟩
 have hcl:(Builtin.clear_ #[47] 0 #[.slice (some ⟨w.heap.size,0,none⟩) 0 0]).run Tryz.prog W1=.ok (.tuple #[]) W2:=hW2 ▸ clear_none W1 w.heap.size
 have m0:Blk W2 _ _ _:=hW2 ▸ HK0.out
 have m1:Blk W2 _ _ _:=hW2 ▸ HK1.out
 have mB:Below w.heap.size w W2:=hW2 ▸ HB.out
 clear hW2
 have d0:=m0.cell 0
 have d1:=m0.cell 1
 have d2:=m0.cell 2
 have f0:=m1.frozen 0
 have f1:=m1.frozen 1
 have f2:=m1.frozen 2
 have g0:W2.cell? ⟨w.heap.size + 1,0,none⟩=some (.int .i64 0):=m1.cell 0
 have g1:W2.cell? ⟨w.heap.size + 1,1,none⟩=some (.int .i64 0):=m1.cell 1
 have g2:W2.cell? ⟨w.heap.size + 1,2,none⟩=some (.int .i64 0):=m1.cell 2
 simp only [List.getElem?_toArray,List.getElem?_cons_zero,List.getElem?_cons_succ] at d0 d1 d2
 obtain ⟨WF,hWF⟩:∃ WF,((W2.setCell ⟨w.heap.size + 1,0,none⟩ (.int .i64 (a:Int))).setCell ⟨w.heap.size + 1,1,none⟩ (.int .i64 (b:Int))).setCell ⟨w.heap.size + 1,2,none⟩ (.int .i64 ((c:Int) + 1))=WF:=⟨_,rfl⟩
 have p1:Blk WF (w.heap.size + 1) 84 #[(.int .i64 (a:Int)),(.int .i64 (b:Int)),(.int .i64 ((c:Int) + 1))]:=by rw [<- hWF];exact ((m1.set (i:=0) (v:=(.int .i64 (a:Int)))).set (i:=1) (v:=(.int .i64 (b:Int)))).set (i:=2) (v:=(.int .i64 ((c:Int) + 1)))
 have pB:Below w.heap.size w WF:=by rw [<- hWF];exact ((mB.setCell (p:=⟨w.heap.size + 1,0,none⟩) (Nat.le_succ _) _).setCell (p:=⟨w.heap.size + 1,1,none⟩) (Nat.le_succ _) _).setCell (p:=⟨w.heap.size + 1,2,none⟩) (Nat.le_succ _) _
 have HP1:=Lib.hid p1
 have HPB:=Lib.hid pB
 have HWF:=Lib.hid hWF
 rw [<- HW1.out] at hcl
 clear m0 m1 mB p1 pB hWF HK0 HK1 HB HW1
 go_enter Tryz.func331,Tryz.ntmps331
 go_wp2
 rw [HWF.out]
 have r0:=HP1.out.cell 0
 have r1:=HP1.out.cell 1
 have r2:=HP1.out.cell 2
 refine bodyPost_ret (v:=.agg #[(.int .i64 (a:Int)),(.int .i64 (b:Int)),(.int .i64 ((c:Int) + 1))]) (by simp [results,Tryz.results331,go_sem,r0,r1,r2]) rfl ?_
 exact ⟨rfl,HPB.out⟩
theorem lead_any (a b c:Nat) (w:World) :
  Calls Tryz.prog 332 #[.agg #[.int .i64 (a:Int),.int .i64 (b:Int),.int .i64 (c:Int)]] w fun e w'=>e=.returned (.int .i64 (if a ≠ 0 then 0 else if b ≠ 0 then 1 else 2))/\Below w.heap.size w w':=by
 have hk:=Blk.new w 84 #[.int .i64 (a:Int),.int .i64 (b:Int),.int .i64 (c:Int)]
 have hB:=(Below.refl w.heap.size w).alloc (Nat.le_refl _) (.cells #[.int .i64 (a:Int),.int .i64 (b:Int),.int .i64 (c:Int)] 84)
 have HB:=Lib.hid hB
 have c0:(w.alloc (.cells #[.int .i64 (a:Int),.int .i64 (b:Int),.int .i64 (c:Int)] 84)).cell? ⟨w.heap.size,0,none⟩=some (.int .i64 (a:Int)):=hk.cell 0
 have c1:(w.alloc (.cells #[.int .i64 (a:Int),.int .i64 (b:Int),.int .i64 (c:Int)] 84)).cell? ⟨w.heap.size,1,none⟩=some (.int .i64 (b:Int)):=hk.cell 1
 clear hk hB
 go_enter Tryz.func332,Tryz.ntmps332
 go_wp2_with fail
 generalize w.alloc (.cells #[.int .i64 (a:Int),.int .i64 (b:Int),.int .i64 (c:Int)] 84)=W1 at *
 go_loop [9] (fun i=>∃ k:Nat,k<=2/\i=.int .i64 (k:Int)/\(0<k->a=0)/\(1<k->b=0)) (fun i=>2 - (intOf i).toNat)
 case atStart=>exact ⟨0,by omega,rfl,fun h=>by omega,fun h=>by omega⟩
 case round =>
  obtain ⟨k,hk,rfl,ha,hb⟩:=hrel
  match k,hk with
  | 0,_ =>
   by_cases h:a=0
   ·have e:((a:Int) == 0)=true:=by rw [beq_iff_eq];omega
    have HA:=Lib.hid h
    clear h ha hb
    go_wp2
    go_round
    case rel=>exact ⟨1,by omega,rfl,fun _=>HA.out,fun h=>by omega⟩
    case measure=>simp [intOf]
   ·have e:((a:Int) == 0)=false:=by rw [beq_eq_false_iff_ne];omega
    have HH:=Lib.hid h
    clear h ha hb
    go_wp2
    go_ret
    exact ⟨by first | rfl | (rw [if_pos HH.out];rfl),HB.out⟩
  | 1,_ =>
   have ha0:=ha (by omega)
   have HA:=Lib.hid ha0
   by_cases h:b=0
   ·have e:((b:Int) == 0)=true:=by rw [beq_iff_eq];omega
    have HBB:=Lib.hid h
    clear h ha hb ha0
    go_wp2
    go_round
    case rel=>exact ⟨2,by omega,rfl,fun _=>HA.out,fun _=>HBB.out⟩
    case measure=>simp [intOf]
   ·have e:((b:Int) == 0)=false:=by rw [beq_eq_false_iff_ne];omega
    have HH:=Lib.hid h
    clear h ha hb ha0
    go_wp2
    go_ret
    exact ⟨by first | rfl | (rw [if_neg (by simpa using HA.out),if_pos HH.out];rfl),HB.out⟩
  | 2,_ =>
   have ha0:=ha (by omega)
   have hb0:=hb (by omega)
   have HA:=Lib.hid ha0
   have HBB:=Lib.hid hb0
   clear ha hb ha0 hb0
   go_wp2
   go_ret
   exact ⟨by first | rfl | (rw [if_neg (by simpa using HA.out),if_neg (by simpa using HBB.out)];rfl),HB.out⟩
end
section
open Go.RowKit Go.Shelf Sv
def numN (a b c:Nat):Nat:=(a * 1000 + b) * 1000 + c
def careN (a b c:Nat):Nat:=if a ≠ 0 then numN (a + 1) 0 0 else if b ≠ 0 then numN a (b + 1) 0 else numN a b (c + 1)
def signF (g:List UInt8) (a b c:Nat):Except Int (List Span) :=
 if g=[]\/g=[61] then .ok (rowF (numN a b c) (numN a b c + 1))
 else if g=[33] then .ok (nt (rowF (numN a b c) (numN a b c + 1)))
 else if g=[60] then .ok (rowF 0 (numN a b c))
 else if g=[60,61] then .ok (rowF 0 (numN a b c + 1))
 else if g=[62] then .ok (rowF (numN a b c + 1) ALL)
 else if g=[62,61] then .ok (rowF (numN a b c) ALL)
 else if g=[94] then .ok (rowF (numN a b c) (careN a b c))
 else if g=[126] then .ok (rowF (numN a b c) (numN a (b + 1) 0))
 else .error 3
theorem numN_lt {a b c:Nat} (ha:a<=999) (hb:b<=999) (hc:c<=999):numN a b c<ALL:=by unfold numN ALL;omega
theorem careN_le {a b c:Nat} (ha:a<=999) (hb:b<=999) (hc:c<=999):careN a b c<=ALL:=by
 unfold careN numN ALL
 split
 ·omega
 ·split <;> omega
theorem signF_rg {g:List UInt8} {a b c:Nat} (ha:a<=999) (hb:b<=999) (hc:c<=999) {l:List Span} (h:signF g a b c=.ok l):Rg l:=by
 have h1:=numN_lt ha hb hc
 have h2:=careN_le ha hb hc
 have h3:numN a (b + 1) 0<=ALL:=by unfold numN ALL;omega
 unfold signF at h
 repeat' split at h
 all_goals first
  | (cases h;exact rg_row (by omega))
  | (cases h;exact rg_row (Nat.le_refl _))
  | (cases h;exact rg_nt (rg_row (by omega)))
  | cases h
def RgErr (w:World) (x:Except Int (List Span)) (e:Ending) (w':World):Prop :=
 match x with
 | .ok l=>∃ v',e=.returned (.tuple #[.agg #[v'],.nilIface])/\SpAt w' v' l/\(∀ g,v'.ownBlock=some g->w.heap.size<=g)/\Below w.heap.size w w'
 | .error k=>e=.returned (.tuple #[.agg #[.slice none 0 0],.iface 57 (.int .i64 k)])/\Below w.heap.size w w'
theorem sign_box (w:World) (A B C:Value):∃ W0:World,((w.alloc (.cells #[A,B,C] 84)).alloc (.cells #[.slice none 0 0] 128))=W0/\Blk W0 w.heap.size 84 #[A,B,C]/\Blk W0 (w.heap.size + 1) 128 #[.slice none 0 0]/\Below w.heap.size w W0/\W0.heap.size=w.heap.size + 2:=by
 have k0:=(Blk.new w 84 #[A,B,C]).alloc (.cells #[.slice none 0 0] 128)
 have k1:=Blk.new (w.alloc (.cells #[A,B,C] 84)) 128 #[.slice none 0 0]
 rw [World.size_alloc] at k1
 exact ⟨_,rfl,k0,k1,((Below.refl _ w).alloc (Nat.le_refl _) _).alloc (by simp only [World.size_alloc];omega) _,by simp only [World.size_alloc]⟩
theorem row_form' (x y:Nat) (W:World):Calls Tryz.prog 303 #[.int .i64 (x:Int),.int .i64 (y:Int)] W fun e w'=>∃ a' c',e=.returned (.agg #[.slice a' (rowF x y).length c'])/\SpAt w' (.slice a' (rowF x y).length c') (rowF x y)/\(∀ g,(Value.slice a' (rowF x y).length c').ownBlock=some g->W.heap.size<=g)/\Below W.heap.size W w' :=
 (row_any x y W).mono fun e w' ⟨v',he,hs,hn,hb⟩=>by obtain ⟨a',c',rfl⟩:=hs.form;exact ⟨a',c',he,hs,hn,hb⟩
theorem not_form (l:List Span) (hl:Rg l) (v:Value) (W:World) (hv:SpAt W v l):Calls Tryz.prog 262 #[.agg #[v]] W fun e w'=>∃ a' c',e=.returned (.agg #[.slice a' (nt l).length c'])/\SpAt w' (.slice a' (nt l).length c') (nt l)/\(∀ g,(Value.slice a' (nt l).length c').ownBlock=some g->W.heap.size<=g)/\Below W.heap.size W w' :=
 (not_any l hl v W hv).mono fun e w' ⟨v',he,hs,hn,hb⟩=>by obtain ⟨a',c',rfl⟩:=hs.form;exact ⟨a',c',he,hs,hn,hb⟩
theorem sign_none (g:ByteArray) (a b c:Nat) (ha:a<=999) (hb:b<=999) (hc:c<=999) (w:World) (hg:g.toList=[]) :
  Calls Tryz.prog 304 #[.string g,.agg #[.int .i64 (a:Int),.int .i64 (b:Int),.int .i64 (c:Int)]] w (RgErr w (.ok (rowF (numN a b c) (numN a b c + 1)))):=by
 have HN:Hid (∀ W,Calls Tryz.prog 278 #[.agg #[.int .i64 (a:Int),.int .i64 (b:Int),.int .i64 (c:Int)]] W fun e w'=>e=.returned (.int .i64 (numN a b c:Nat))/\Below W.heap.size W w'):=fun W=>number_any a b c (by omega) (by omega) (by omega) W
 have hlt:=numN_lt ha hb hc
 generalize numN a b c=n at *
 have hlt':(n:Int)<1000000000:=by unfold ALL at hlt;omega
 obtain ⟨W0,hW0,k0,k1,hB,hs0⟩:=sign_box w (.int .i64 (a:Int)) (.int .i64 (b:Int)) (.int .i64 (c:Int))
 have HR:=Lib.hid (fun W=>row_form' n (n + 1) W)
 have HW0:=Lib.hid hW0
 have HK0:=Lib.hid k0
 have HK1:=Lib.hid k1
 have HB:=Lib.hid hB
 have HS:=Lib.hid hs0
 have HLT:=Lib.hid hlt
 clear hW0 k0 k1 hB hs0 hlt
 go_enter Tryz.func304,Tryz.ntmps304
 go_wp2_with fail
 rw [HW0.out]
 refine (HN.out _).mono ?_
 rintro e w1 ⟨rfl,hb1⟩
 have D1:=Lib.hid hb1
 clear hb1
 go_wp2_with fail
 refine (HR.out _).mono ?_
 rintro e wK ⟨a',c',rfl,hsK,hnn,hbK⟩
 have hn2:∀ g,(Value.slice a' (rowF n (n + 1)).length c').ownBlock=some g->W0.heap.size<=g:=fun g hg=>Nat.le_trans D1.out.size (hnn g hg)
 have DK:Below W0.heap.size W0 wK:=D1.out.trans (hbK.mono D1.out.size)
 have hl1:w.heap.size + 1<W0.heap.size:=by have:=HS.out;omega
 have hc4:wK.cell? ⟨w.heap.size + 1,0,none⟩=some (.slice none 0 0):=(HK1.out.below DK hl1).cell 0
 have hf4:=(HK1.out.below DK hl1).frozen 0
 have HP:=Lib.hid (put_out HB.out (HK1.out.cell 0) (Nat.le_succ _) hl1 hsK hn2 DK)
 clear hsK hnn hbK hn2 DK hl1
 go_wp2
 obtain ⟨h3,h4,h5,h6⟩:=HP.out
 refine bodyPost_ret (v:=.tuple #[.agg #[.slice a' (rowF n (n + 1)).length c'],.nilIface]) (by simp [results,Tryz.results304,go_sem,h3]) rfl ?_
 exact ⟨_,rfl,h4,h5,h6⟩
theorem sign_eq (g:ByteArray) (a b c:Nat) (ha:a<=999) (hb:b<=999) (hc:c<=999) (w:World) (hg:g.toList=[61]) :
  Calls Tryz.prog 304 #[.string g,.agg #[.int .i64 (a:Int),.int .i64 (b:Int),.int .i64 (c:Int)]] w (RgErr w (.ok (rowF (numN a b c) (numN a b c + 1)))):=by
 have HN:Hid (∀ W,Calls Tryz.prog 278 #[.agg #[.int .i64 (a:Int),.int .i64 (b:Int),.int .i64 (c:Int)]] W fun e w'=>e=.returned (.int .i64 (numN a b c:Nat))/\Below W.heap.size W w'):=fun W=>number_any a b c (by omega) (by omega) (by omega) W
 have hlt:=numN_lt ha hb hc
 generalize numN a b c=n at *
 have hlt':(n:Int)<1000000000:=by unfold ALL at hlt;omega
 obtain ⟨W0,hW0,k0,k1,hB,hs0⟩:=sign_box w (.int .i64 (a:Int)) (.int .i64 (b:Int)) (.int .i64 (c:Int))
 have HR:=Lib.hid (fun W=>row_form' n (n + 1) W)
 have HW0:=Lib.hid hW0
 have HK0:=Lib.hid k0
 have HK1:=Lib.hid k1
 have HB:=Lib.hid hB
 have HS:=Lib.hid hs0
 have HLT:=Lib.hid hlt
 clear hW0 k0 k1 hB hs0 hlt
 go_enter Tryz.func304,Tryz.ntmps304
 go_wp2_with fail
 rw [HW0.out]
 refine (HN.out _).mono ?_
 rintro e w1 ⟨rfl,hb1⟩
 have D1:=Lib.hid hb1
 clear hb1
 go_wp2_with fail
 refine (HR.out _).mono ?_
 rintro e wK ⟨a',c',rfl,hsK,hnn,hbK⟩
 have hn2:∀ g,(Value.slice a' (rowF n (n + 1)).length c').ownBlock=some g->W0.heap.size<=g:=fun g hg=>Nat.le_trans D1.out.size (hnn g hg)
 have DK:Below W0.heap.size W0 wK:=D1.out.trans (hbK.mono D1.out.size)
 have hl1:w.heap.size + 1<W0.heap.size:=by have:=HS.out;omega
 have hc4:wK.cell? ⟨w.heap.size + 1,0,none⟩=some (.slice none 0 0):=(HK1.out.below DK hl1).cell 0
 have hf4:=(HK1.out.below DK hl1).frozen 0
 have HP:=Lib.hid (put_out HB.out (HK1.out.cell 0) (Nat.le_succ _) hl1 hsK hn2 DK)
 clear hsK hnn hbK hn2 DK hl1
 go_wp2
 obtain ⟨h3,h4,h5,h6⟩:=HP.out
 refine bodyPost_ret (v:=.tuple #[.agg #[.slice a' (rowF n (n + 1)).length c'],.nilIface]) (by simp [results,Tryz.results304,go_sem,h3]) rfl ?_
 exact ⟨_,rfl,h4,h5,h6⟩
theorem sign_lt (g:ByteArray) (a b c:Nat) (ha:a<=999) (hb:b<=999) (hc:c<=999) (w:World) (hg:g.toList=[60]) :
  Calls Tryz.prog 304 #[.string g,.agg #[.int .i64 (a:Int),.int .i64 (b:Int),.int .i64 (c:Int)]] w (RgErr w (.ok (rowF 0 (numN a b c)))):=by
 have HN:Hid (∀ W,Calls Tryz.prog 278 #[.agg #[.int .i64 (a:Int),.int .i64 (b:Int),.int .i64 (c:Int)]] W fun e w'=>e=.returned (.int .i64 (numN a b c:Nat))/\Below W.heap.size W w'):=fun W=>number_any a b c (by omega) (by omega) (by omega) W
 have hlt:=numN_lt ha hb hc
 generalize numN a b c=n at *
 have hlt':(n:Int)<1000000000:=by unfold ALL at hlt;omega
 obtain ⟨W0,hW0,k0,k1,hB,hs0⟩:=sign_box w (.int .i64 (a:Int)) (.int .i64 (b:Int)) (.int .i64 (c:Int))
 have HR:=Lib.hid (fun W=>row_form' 0 n W)
 have HW0:=Lib.hid hW0
 have HK0:=Lib.hid k0
 have HK1:=Lib.hid k1
 have HB:=Lib.hid hB
 have HS:=Lib.hid hs0
 have HLT:=Lib.hid hlt
 clear hW0 k0 k1 hB hs0 hlt
 go_enter Tryz.func304,Tryz.ntmps304
 go_wp2_with fail
 rw [HW0.out]
 refine (HN.out _).mono ?_
 rintro e w1 ⟨rfl,hb1⟩
 have D1:=Lib.hid hb1
 clear hb1
 go_wp2_with fail
 refine (HR.out _).mono ?_
 rintro e wK ⟨a',c',rfl,hsK,hnn,hbK⟩
 have hn2:∀ g,(Value.slice a' (rowF 0 n).length c').ownBlock=some g->W0.heap.size<=g:=fun g hg=>Nat.le_trans D1.out.size (hnn g hg)
 have DK:Below W0.heap.size W0 wK:=D1.out.trans (hbK.mono D1.out.size)
 have hl1:w.heap.size + 1<W0.heap.size:=by have:=HS.out;omega
 have hc4:wK.cell? ⟨w.heap.size + 1,0,none⟩=some (.slice none 0 0):=(HK1.out.below DK hl1).cell 0
 have hf4:=(HK1.out.below DK hl1).frozen 0
 have HP:=Lib.hid (put_out HB.out (HK1.out.cell 0) (Nat.le_succ _) hl1 hsK hn2 DK)
 clear hsK hnn hbK hn2 DK hl1
 go_wp2
 obtain ⟨h3,h4,h5,h6⟩:=HP.out
 refine bodyPost_ret (v:=.tuple #[.agg #[.slice a' (rowF 0 n).length c'],.nilIface]) (by simp [results,Tryz.results304,go_sem,h3]) rfl ?_
 exact ⟨_,rfl,h4,h5,h6⟩
theorem sign_le (g:ByteArray) (a b c:Nat) (ha:a<=999) (hb:b<=999) (hc:c<=999) (w:World) (hg:g.toList=[60,61]) :
  Calls Tryz.prog 304 #[.string g,.agg #[.int .i64 (a:Int),.int .i64 (b:Int),.int .i64 (c:Int)]] w (RgErr w (.ok (rowF 0 (numN a b c + 1)))):=by
 have HN:Hid (∀ W,Calls Tryz.prog 278 #[.agg #[.int .i64 (a:Int),.int .i64 (b:Int),.int .i64 (c:Int)]] W fun e w'=>e=.returned (.int .i64 (numN a b c:Nat))/\Below W.heap.size W w'):=fun W=>number_any a b c (by omega) (by omega) (by omega) W
 have hlt:=numN_lt ha hb hc
 generalize numN a b c=n at *
 have hlt':(n:Int)<1000000000:=by unfold ALL at hlt;omega
 obtain ⟨W0,hW0,k0,k1,hB,hs0⟩:=sign_box w (.int .i64 (a:Int)) (.int .i64 (b:Int)) (.int .i64 (c:Int))
 have HR:=Lib.hid (fun W=>row_form' 0 (n + 1) W)
 have HW0:=Lib.hid hW0
 have HK0:=Lib.hid k0
 have HK1:=Lib.hid k1
 have HB:=Lib.hid hB
 have HS:=Lib.hid hs0
 have HLT:=Lib.hid hlt
 clear hW0 k0 k1 hB hs0 hlt
 go_enter Tryz.func304,Tryz.ntmps304
 go_wp2_with fail
 rw [HW0.out]
 refine (HN.out _).mono ?_
 rintro e w1 ⟨rfl,hb1⟩
 have D1:=Lib.hid hb1
 clear hb1
 go_wp2_with fail
 refine (HR.out _).mono ?_
 rintro e wK ⟨a',c',rfl,hsK,hnn,hbK⟩
 have hn2:∀ g,(Value.slice a' (rowF 0 (n + 1)).length c').ownBlock=some g->W0.heap.size<=g:=fun g hg=>Nat.le_trans D1.out.size (hnn g hg)
 have DK:Below W0.heap.size W0 wK:=D1.out.trans (hbK.mono D1.out.size)
 have hl1:w.heap.size + 1<W0.heap.size:=by have:=HS.out;omega
 have hc4:wK.cell? ⟨w.heap.size + 1,0,none⟩=some (.slice none 0 0):=(HK1.out.below DK hl1).cell 0
 have hf4:=(HK1.out.below DK hl1).frozen 0
 have HP:=Lib.hid (put_out HB.out (HK1.out.cell 0) (Nat.le_succ _) hl1 hsK hn2 DK)
 clear hsK hnn hbK hn2 DK hl1
 go_wp2
 obtain ⟨h3,h4,h5,h6⟩:=HP.out
 refine bodyPost_ret (v:=.tuple #[.agg #[.slice a' (rowF 0 (n + 1)).length c'],.nilIface]) (by simp [results,Tryz.results304,go_sem,h3]) rfl ?_
 exact ⟨_,rfl,h4,h5,h6⟩
theorem sign_gt (g:ByteArray) (a b c:Nat) (ha:a<=999) (hb:b<=999) (hc:c<=999) (w:World) (hg:g.toList=[62]) :
  Calls Tryz.prog 304 #[.string g,.agg #[.int .i64 (a:Int),.int .i64 (b:Int),.int .i64 (c:Int)]] w (RgErr w (.ok (rowF (numN a b c + 1) 1000000000))):=by
 have HN:Hid (∀ W,Calls Tryz.prog 278 #[.agg #[.int .i64 (a:Int),.int .i64 (b:Int),.int .i64 (c:Int)]] W fun e w'=>e=.returned (.int .i64 (numN a b c:Nat))/\Below W.heap.size W w'):=fun W=>number_any a b c (by omega) (by omega) (by omega) W
 have hlt:=numN_lt ha hb hc
 generalize numN a b c=n at *
 have hlt':(n:Int)<1000000000:=by unfold ALL at hlt;omega
 obtain ⟨W0,hW0,k0,k1,hB,hs0⟩:=sign_box w (.int .i64 (a:Int)) (.int .i64 (b:Int)) (.int .i64 (c:Int))
 have HR:=Lib.hid (fun W=>row_form' (n + 1) 1000000000 W)
 have HW0:=Lib.hid hW0
 have HK0:=Lib.hid k0
 have HK1:=Lib.hid k1
 have HB:=Lib.hid hB
 have HS:=Lib.hid hs0
 have HLT:=Lib.hid hlt
 clear hW0 k0 k1 hB hs0 hlt
 go_enter Tryz.func304,Tryz.ntmps304
 go_wp2_with fail
 rw [HW0.out]
 refine (HN.out _).mono ?_
 rintro e w1 ⟨rfl,hb1⟩
 have D1:=Lib.hid hb1
 clear hb1
 go_wp2_with fail
 refine (HR.out _).mono ?_
 rintro e wK ⟨a',c',rfl,hsK,hnn,hbK⟩
 have hn2:∀ g,(Value.slice a' (rowF (n + 1) 1000000000).length c').ownBlock=some g->W0.heap.size<=g:=fun g hg=>Nat.le_trans D1.out.size (hnn g hg)
 have DK:Below W0.heap.size W0 wK:=D1.out.trans (hbK.mono D1.out.size)
 have hl1:w.heap.size + 1<W0.heap.size:=by have:=HS.out;omega
 have hc4:wK.cell? ⟨w.heap.size + 1,0,none⟩=some (.slice none 0 0):=(HK1.out.below DK hl1).cell 0
 have hf4:=(HK1.out.below DK hl1).frozen 0
 have HP:=Lib.hid (put_out HB.out (HK1.out.cell 0) (Nat.le_succ _) hl1 hsK hn2 DK)
 clear hsK hnn hbK hn2 DK hl1
 go_wp2
 obtain ⟨h3,h4,h5,h6⟩:=HP.out
 refine bodyPost_ret (v:=.tuple #[.agg #[.slice a' (rowF (n + 1) 1000000000).length c'],.nilIface]) (by simp [results,Tryz.results304,go_sem,h3]) rfl ?_
 exact ⟨_,rfl,h4,h5,h6⟩
theorem sign_ge (g:ByteArray) (a b c:Nat) (ha:a<=999) (hb:b<=999) (hc:c<=999) (w:World) (hg:g.toList=[62,61]) :
  Calls Tryz.prog 304 #[.string g,.agg #[.int .i64 (a:Int),.int .i64 (b:Int),.int .i64 (c:Int)]] w (RgErr w (.ok (rowF (numN a b c) 1000000000))):=by
 have HN:Hid (∀ W,Calls Tryz.prog 278 #[.agg #[.int .i64 (a:Int),.int .i64 (b:Int),.int .i64 (c:Int)]] W fun e w'=>e=.returned (.int .i64 (numN a b c:Nat))/\Below W.heap.size W w'):=fun W=>number_any a b c (by omega) (by omega) (by omega) W
 have hlt:=numN_lt ha hb hc
 generalize numN a b c=n at *
 have hlt':(n:Int)<1000000000:=by unfold ALL at hlt;omega
 obtain ⟨W0,hW0,k0,k1,hB,hs0⟩:=sign_box w (.int .i64 (a:Int)) (.int .i64 (b:Int)) (.int .i64 (c:Int))
 have HR:=Lib.hid (fun W=>row_form' n 1000000000 W)
 have HW0:=Lib.hid hW0
 have HK0:=Lib.hid k0
 have HK1:=Lib.hid k1
 have HB:=Lib.hid hB
 have HS:=Lib.hid hs0
 have HLT:=Lib.hid hlt
 clear hW0 k0 k1 hB hs0 hlt
 go_enter Tryz.func304,Tryz.ntmps304
 go_wp2_with fail
 rw [HW0.out]
 refine (HN.out _).mono ?_
 rintro e w1 ⟨rfl,hb1⟩
 have D1:=Lib.hid hb1
 clear hb1
 go_wp2_with fail
 refine (HR.out _).mono ?_
 rintro e wK ⟨a',c',rfl,hsK,hnn,hbK⟩
 have hn2:∀ g,(Value.slice a' (rowF n 1000000000).length c').ownBlock=some g->W0.heap.size<=g:=fun g hg=>Nat.le_trans D1.out.size (hnn g hg)
 have DK:Below W0.heap.size W0 wK:=D1.out.trans (hbK.mono D1.out.size)
 have hl1:w.heap.size + 1<W0.heap.size:=by have:=HS.out;omega
 have hc4:wK.cell? ⟨w.heap.size + 1,0,none⟩=some (.slice none 0 0):=(HK1.out.below DK hl1).cell 0
 have hf4:=(HK1.out.below DK hl1).frozen 0
 have HP:=Lib.hid (put_out HB.out (HK1.out.cell 0) (Nat.le_succ _) hl1 hsK hn2 DK)
 clear hsK hnn hbK hn2 DK hl1
 go_wp2
 obtain ⟨h3,h4,h5,h6⟩:=HP.out
 refine bodyPost_ret (v:=.tuple #[.agg #[.slice a' (rowF n 1000000000).length c'],.nilIface]) (by simp [results,Tryz.results304,go_sem,h3]) rfl ?_
 exact ⟨_,rfl,h4,h5,h6⟩
theorem sign_not (g:ByteArray) (a b c:Nat) (ha:a<=999) (hb:b<=999) (hc:c<=999) (w:World) (hg:g.toList=[33]) :
  Calls Tryz.prog 304 #[.string g,.agg #[.int .i64 (a:Int),.int .i64 (b:Int),.int .i64 (c:Int)]] w (RgErr w (.ok (nt (rowF (numN a b c) (numN a b c + 1))))):=by
 have HN:Hid (∀ W,Calls Tryz.prog 278 #[.agg #[.int .i64 (a:Int),.int .i64 (b:Int),.int .i64 (c:Int)]] W fun e w'=>e=.returned (.int .i64 (numN a b c:Nat))/\Below W.heap.size W w'):=fun W=>number_any a b c (by omega) (by omega) (by omega) W
 have hlt:=numN_lt ha hb hc
 generalize numN a b c=n at *
 have hlt':(n:Int)<1000000000:=by unfold ALL at hlt;omega
 obtain ⟨W0,hW0,k0,k1,hB,hs0⟩:=sign_box w (.int .i64 (a:Int)) (.int .i64 (b:Int)) (.int .i64 (c:Int))
 have HR:=Lib.hid (fun W=>row_form' n (n + 1) W)
 have HT:Hid (∀ v W,SpAt W v (rowF n (n + 1))->Calls Tryz.prog 262 #[.agg #[v]] W fun e w'=>∃ a' c',e=.returned (.agg #[.slice a' (nt (rowF n (n + 1))).length c'])/\SpAt w' (.slice a' (nt (rowF n (n + 1))).length c') (nt (rowF n (n + 1)))/\(∀ g,(Value.slice a' (nt (rowF n (n + 1))).length c').ownBlock=some g->W.heap.size<=g)/\Below W.heap.size W w'):=fun v W h=>not_form _ (rg_row (by omega)) v W h
 have HW0:=Lib.hid hW0
 have HK0:=Lib.hid k0
 have HK1:=Lib.hid k1
 have HB:=Lib.hid hB
 have HS:=Lib.hid hs0
 have HLT:=Lib.hid hlt
 clear hW0 k0 k1 hB hs0 hlt
 go_enter Tryz.func304,Tryz.ntmps304
 go_wp2_with fail
 rw [HW0.out]
 refine (HN.out _).mono ?_
 rintro e w1 ⟨rfl,hb1⟩
 have D1:=Lib.hid hb1
 clear hb1
 go_wp2_with fail
 refine (HR.out _).mono ?_
 rintro e w2 ⟨a2,c2,rfl,hs2,-,hb2⟩
 have D2:Hid (Below W0.heap.size W0 w2):=D1.out.trans (hb2.mono D1.out.size)
 have HT2:=Lib.hid (HT.out _ _ hs2)
 clear hs2 hb2 HT HR
 go_wp2_with fail
 refine HT2.out.mono ?_
 rintro e wK ⟨a',c',rfl,hsK,hnn,hbK⟩
 have hn2:∀ g,(Value.slice a' (nt (rowF n (n + 1))).length c').ownBlock=some g->W0.heap.size<=g:=fun g hg=>Nat.le_trans D2.out.size (hnn g hg)
 have DK:Below W0.heap.size W0 wK:=D2.out.trans (hbK.mono D2.out.size)
 have hl1:w.heap.size + 1<W0.heap.size:=by have:=HS.out;omega
 have hc4:wK.cell? ⟨w.heap.size + 1,0,none⟩=some (.slice none 0 0):=(HK1.out.below DK hl1).cell 0
 have hf4:=(HK1.out.below DK hl1).frozen 0
 have HP:=Lib.hid (put_out HB.out (HK1.out.cell 0) (Nat.le_succ _) hl1 hsK hn2 DK)
 clear hsK hnn hbK hn2 DK hl1
 go_wp2
 obtain ⟨h3,h4,h5,h6⟩:=HP.out
 refine bodyPost_ret (v:=.tuple #[.agg #[.slice a' (nt (rowF n (n + 1))).length c'],.nilIface]) (by simp [results,Tryz.results304,go_sem,h3]) rfl ?_
 exact ⟨_,rfl,h4,h5,h6⟩
end
end Go.Proofs.YtiihalknffbjpaaGreatDoor
