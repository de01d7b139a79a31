/- drop. -/
import Derived.Test.YtapobpgbcbplbaaGreatDoorArMake
namespace Go.Proofs.YtapobpgbcbplbaaGreatDoor
set_option maxHeartbeats 4000000
set_option maxRecDepth 100000
namespace Bd
open Go.RowKit Go.Maps
section
variable {B b bm:Nat} {w:World} {v:Value} {ns:List Nd} {L:List (Nd × Int)} {room next:Int}
theorem zn8(hA:zM B w b bm v ns L room next)(hl:ns.length<=1000000)(n:Nd)(hn:n.Ok)(hf:Fit ns n)(h:Int)(hin:(n,h)∈L) :
  zR 162 #[.pointer (some ⟨b,0,none⟩),n.val] w (.tuple #[.int .i64 h,.nilIface]):=by
 obtain⟨x,lo,hi⟩:=n;obtain⟨h0,h1,h2,h3,h4,h5⟩:=hf;simp only at h0 h1 h2 h3 h4 h5;have hbn:=zf w (.cells #[.int .i64 x,.int .i64 lo,.int .i64 hi] 166);have HL:=zH (Kb hA (.cells #[.int .i64 x,.int .i64 lo,.int .i64 hi] 166) lo hn.2.1 hl);have HH:=zH (Kb hA (.cells #[.int .i64 x,.int .i64 lo,.int .i64 hi] 166) hi hn.2.2 hl);have TL:=zH (KC hA (.cells #[.int .i64 x,.int .i64 lo,.int .i64 hi] 166) lo hn.2.1 hl);have TH:=zH (KC hA (.cells #[.int .i64 x,.int .i64 lo,.int .i64 hi] 166) hi hn.2.2 hl);have hA1:=hA.kept (zc.alloc (fun _=>False) w (.cells #[.int .i64 x,.int .i64 lo,.int .i64 hi] 166)) (fun _ _ h=>h);obtain⟨D,hD,hR⟩:=hA1.hmap;have HLK:Hid (∀W:World,zc (fun _=>False) (w.alloc (.cells #[.int .i64 x,.int .i64 lo,.int .i64 hi] 166)) W->(Instr.lookup 141 (.map (some bm)) (.agg #[.int .i64 x,.int .i64 lo,.int .i64 hi]) true).run Tryz.prog W=.ok (.tuple #[.int .i64 h,.bool true]) W):=fun W hW=>zoi (p:=(⟨x,lo,hi⟩,h)) (xX hD hW (fun h=>h)) hR hin;have cm:=hA1.cmap;obtain⟨c0,c1,c2,-⟩:=Zj w (.int .i64 x) (.int .i64 lo) (.int .i64 hi) 166;rw[h2] at HL;rw[h3] at HH;clear hA hn hl h2 h3 hA1 hD hR hin;unfold Nd.val;generalize zb ns lo=tl at *;generalize zb ns hi=th at *;have d1:decide (tl<=x)=false:=decide_eq_false (by omega);have d2:decide (th<=x)=false:=decide_eq_false (by omega);go_enter Tryz.func162,Tryz.ntmps162;go_wp2_with fail;refine HL.out.mono ?_;rintro e w1 ⟨rfl,rfl⟩;go_wp2_with fail;refine HH.out.mono ?_;rintro e w1 ⟨rfl,rfl⟩;clear HL HH;go_wp2_with fail;go_quiet (first|(go_at_call 125;with_reducible exact TL.out _)|(go_at_call 125;with_reducible exact TH.out _));clear TL TH;go_wp2_with fail;have hk:=Z0 (fun _=>False) (w.alloc (.cells #[.int .i64 x,.int .i64 lo,.int .i64 hi] 166)) nq;have hbE:=hbn.trans (Qi w.heap.size _ nq);have cmE:((w.alloc (.cells #[.int .i64 x,.int .i64 lo,.int .i64 hi] 166)).drewN nq).cell? ⟨b,2,none⟩=some (.map (some bm)):=cm;have c0E:((w.alloc (.cells #[.int .i64 x,.int .i64 lo,.int .i64 hi] 166)).drewN nq).cell? ⟨w.heap.size,0,none⟩=some (.int .i64 x):=c0;have c1E:((w.alloc (.cells #[.int .i64 x,.int .i64 lo,.int .i64 hi] 166)).drewN nq).cell? ⟨w.heap.size,1,none⟩=some (.int .i64 lo):=c1;have c2E:((w.alloc (.cells #[.int .i64 x,.int .i64 lo,.int .i64 hi] 166)).drewN nq).cell? ⟨w.heap.size,2,none⟩=some (.int .i64 hi):=c2;have hrun:=HLK.out _ hk.drew;clear hk HLK hbn cm c0 c1 c2 d1 d2 h4 h5;generalize (w.alloc (.cells #[.int .i64 x,.int .i64 lo,.int .i64 hi] 166)).drewN nq=W at *;go_region_held3 (fun w'=>w'.cell? ⟨b,2,none⟩=some (.map (some bm))/\w'.cell? ⟨w.heap.size,0,none⟩=some (.int .i64 x)/\w'.cell? ⟨w.heap.size,1,none⟩=some (.int .i64 lo)/\w'.cell? ⟨w.heap.size,2,none⟩=some (.int .i64 hi)) (exact⟨cmE,c0E,c1E,c2E⟩) (first|fail);go_wp2;go_ret2;exact⟨rfl,hbE.drew⟩
end
end Bd
namespace Bd
open Go.RowKit Go.Maps
theorem zbo:∀(ns:List Nd) (k:Nat) (n:Nd),k<ns.length->(((ym ns).set (k*3) (.int .i64 n.v)).set (k*3+1) (.int .i64 n.l)).set (k*3+2) (.int .i64 n.h)=ym (ns.set k n)
 |[],k,n,h=>by simp at h
 |m :: ns,0,n,_=>by simp[ym]
 |m :: ns,k+1,n,h=>by
  have ih:=zbo ns k n (by simpa using h);have e2:∀(j:Nat) (xs:List Value) (u:Value),(Value.int .i64 m.v :: .int .i64 m.l :: .int .i64 m.h :: xs).set (j+3) u=Value.int .i64 m.v :: .int .i64 m.l :: .int .i64 m.h :: xs.set j u:=fun j xs u=>rfl;show ((((Value.int .i64 m.v :: .int .i64 m.l :: .int .i64 m.h :: ym ns):List Value).set ((k+1)*3) _).set ((k+1)*3+1) _).set ((k+1)*3+2) _=(Value.int .i64 m.v :: .int .i64 m.l :: .int .i64 m.h :: ym (ns.set k n));rw[show (k+1)*3=k*3+3 by omega,show k*3+3+1=(k*3+1)+3 by omega,show k*3+3+2=(k*3+2)+3 by omega,e2,e2,e2,ih]
section
variable {B b bm g m cap k:Nat} {w w':World} {v:Value} {ns:List Nd} {L L':List (Nd × Int)} {room next:Int}
theorem zM.setNode(h:zM B w b bm (.slice (some ⟨g,0,none⟩) m cap) ns L room next)(hk:k<ns.length)(n:Nd) :
  zM B (((w.setCell ⟨g,k*3,none⟩ (.int .i64 n.v)).setCell ⟨g,k*3+1,none⟩ (.int .i64 n.l)).setCell ⟨g,k*3+2,none⟩ (.int .i64 n.h)) b bm (.slice (some ⟨g,0,none⟩) m cap) (ns.set k n) L room next:=by
 obtain⟨D,hD,hR⟩:=h.hmap;have hgb:b≠g:=fun e=>h.d1 (by rw[e];rfl);have hgm:bm≠g:=fun e=>h.d3 (by rw[e];rfl);have hm:m=ns.length:=by
  rcases h.row.2 with ⟨h1,-⟩|⟨_,_,_,h1,-⟩<;>cases h1;rfl
 have hK:zc (fun j=>j=g) w (((w.setCell ⟨g,k*3,none⟩ (.int .i64 n.v)).setCell ⟨g,k*3+1,none⟩ (.int .i64 n.l)).setCell ⟨g,k*3+2,none⟩ (.int .i64 n.h)) :=
  ((zc.setCell (S:=fun j=>j=g) w ⟨g,k*3,none⟩ _ rfl).trans (zc.setCell (S:=fun j=>j=g) _ ⟨g,k*3+1,none⟩ _ rfl)).trans (zc.setCell (S:=fun j=>j=g) _ ⟨g,k*3+2,none⟩ _ rfl)
 have hrow:=h.row;rw[hm] at hrow;have hr2:=(((hrow.stored (k*3) (.int .i64 n.v)).1.stored (k*3+1) (.int .i64 n.l)).1.stored (k*3+2) (.int .i64 n.h)).1;rw[zbo ns k n hk] at hr2;refine⟨Nat.lt_of_lt_of_le h.lt hK.size,(hK.cell (a:=⟨b,0,none⟩) h.lt hgb).trans h.croom,(hK.cell (a:=⟨b,1,none⟩) h.lt hgb).trans h.cnodes,(hK.cell (a:=⟨b,2,none⟩) h.lt hgb).trans h.cmap,(hK.cell (a:=⟨b,3,none⟩) h.lt hgb).trans h.cnext,fun i=>(hK.frozen (a:=⟨b,i,none⟩) h.lt hgb).trans (h.froz i),?_,⟨D,xX hD hK hgm,hR⟩,h.d1,h.d2,h.d3,h.B1,h.B2⟩;rw[List.length_set,hm];exact hr2
theorem zM.setMap{D':DataW Unit}(h:zM B w b bm v ns L room next)(hk:zc (fun j=>j=bm) w w')(hD:w'.ownsMap Tryz.prog 166 (plainElem Tryz.prog 3) bm L'.length D')(hR:Rep Nd.Ok Nd.lit (fun x:Int=>.lit (.int .i64 x)) D' L'):zM B w' b bm v ns L' room next:=by
 have hb:b≠bm:=fun e=>h.d2 e.symm;exact ⟨Nat.lt_of_lt_of_le h.lt hk.size,(hk.cell (a:=⟨b,0,none⟩) h.lt hb).trans h.croom,(hk.cell (a:=⟨b,1,none⟩) h.lt hb).trans h.cnodes,(hk.cell (a:=⟨b,2,none⟩) h.lt hb).trans h.cmap,(hk.cell (a:=⟨b,3,none⟩) h.lt hb).trans h.cnext,fun i=>(hk.frozen (a:=⟨b,i,none⟩) h.lt hb).trans (h.froz i),
  Zp h.row hk (fun k hv e=>h.d3 (e ▸ hv)),⟨D',hD,hR⟩,h.d1,h.d2,h.d3,h.B1,h.B2⟩
def zgY(B:Nat)(w:World)(b bm:Nat)(v:Value)(ns:List Nd)(L:List (Nd × Int))(room:Int)(i:Nat)(n:Nd)(e:Ending)(w':World):Prop :=
 ∃(k:Nat) (v':Value),e=.returned (.tuple #[.int .i64 (2+(k:Int)),.nilIface])/\k<=ns.length/\(∀j,i<=j->j<k->(nd ns j).v<24)/\(k<ns.length->¬(nd ns k).v<24) /\
  zM B w' b bm v' ((if k=ns.length then ns++[⟨24,0,0⟩] else ns).set k n) (L++[(n,2+(k:Int))]) room (2+(k:Int))/\zc (Own b bm v) w w'/\(v'.ownBlock=v.ownBlock\/∃g,v'.ownBlock=some g/\w.heap.size<=g)
theorem zfU(hA:zM B w b bm v ns L room next)(hl:ns.length<=100000)(n:Nd)(hn:n.Ok)(hf:Fit ns n)(hnin:n∉L.map Prod.fst)(hroom:(L.length:Int)<room)(hLl:L.length<=100000)(i:Nat)(hnext:next=2+(i:Int))(hil:i<=ns.length)(hB:B<=w.heap.size) :
  zC 162 #[.pointer (some ⟨b,0,none⟩),n.val] w (zgY B w b bm v ns L room i n):=by
 have hl':ns.length<=1000000:=by omega
 obtain⟨x,lo,hi⟩:=n;obtain⟨h0,h1,h2,h3,h4,h5⟩:=hf;simp only at h0 h1 h2 h3 h4 h5;have hbn:=zf w (.cells #[.int .i64 x,.int .i64 lo,.int .i64 hi] 166);have HL:=zH (Kb hA (.cells #[.int .i64 x,.int .i64 lo,.int .i64 hi] 166) lo hn.2.1 hl');have HH:=zH (Kb hA (.cells #[.int .i64 x,.int .i64 lo,.int .i64 hi] 166) hi hn.2.2 hl');have TL:=zH (KC hA (.cells #[.int .i64 x,.int .i64 lo,.int .i64 hi] 166) lo hn.2.1 hl');have TH:=zH (KC hA (.cells #[.int .i64 x,.int .i64 lo,.int .i64 hi] 166) hi hn.2.2 hl');have hA1:=hA.kept (zc.alloc (fun _=>False) w (.cells #[.int .i64 x,.int .i64 lo,.int .i64 hi] 166)) (fun _ _ h=>h);obtain⟨D,hD,hR⟩:=hA1.hmap;have HLK:Hid (∀W:World,zc (fun _=>False) (w.alloc (.cells #[.int .i64 x,.int .i64 lo,.int .i64 hi] 166)) W->(Instr.lookup 141 (.map (some bm)) (.agg #[.int .i64 x,.int .i64 lo,.int .i64 hi]) true).run Tryz.prog W=.ok (.tuple #[.int .i64 0,.bool false]) W):=fun W hW=>ziS (a:=⟨x,lo,hi⟩) (xX hD hW (fun h=>h)) hR hn hnin;have cm:=hA1.cmap;obtain⟨c0,c1,c2,-⟩:=Zj w (.int .i64 x) (.int .i64 lo) (.int .i64 hi) 166;rw[h2] at HL;rw[h3] at HH;clear h2 h3 hD hR;unfold Nd.val;generalize zb ns lo=tl at *;generalize zb ns hi=th at *;have d1:decide (tl<=x)=false:=decide_eq_false (by omega);have d2:decide (th<=x)=false:=decide_eq_false (by omega);go_enter Tryz.func162,Tryz.ntmps162;go_wp2_with fail;refine HL.out.mono ?_;rintro e w1 ⟨rfl,rfl⟩;go_wp2_with fail;refine HH.out.mono ?_;rintro e w1 ⟨rfl,rfl⟩;clear HL HH;go_wp2_with fail;go_quiet (first|(go_at_call 125;with_reducible exact TL.out _)|(go_at_call 125;with_reducible exact TH.out _));clear TL TH;go_wp2_with fail;have hk:=Z0 (fun _=>False) (w.alloc (.cells #[.int .i64 x,.int .i64 lo,.int .i64 hi] 166)) nq;have hbE:=hbn.trans (Qi w.heap.size _ nq);have cmE:((w.alloc (.cells #[.int .i64 x,.int .i64 lo,.int .i64 hi] 166)).drewN nq).cell? ⟨b,2,none⟩=some (.map (some bm)):=cm;have c0E:((w.alloc (.cells #[.int .i64 x,.int .i64 lo,.int .i64 hi] 166)).drewN nq).cell? ⟨w.heap.size,0,none⟩=some (.int .i64 x):=c0;have c1E:((w.alloc (.cells #[.int .i64 x,.int .i64 lo,.int .i64 hi] 166)).drewN nq).cell? ⟨w.heap.size,1,none⟩=some (.int .i64 lo):=c1;have c2E:((w.alloc (.cells #[.int .i64 x,.int .i64 lo,.int .i64 hi] 166)).drewN nq).cell? ⟨w.heap.size,2,none⟩=some (.int .i64 hi):=c2;have hrun:=HLK.out _ hk.drew;have hAE:=hA1.kept hk (fun _ _ h=>h);have HNIN:=zH hnin;have HOK:=zH hn;have HB0:=zH hA;clear hk HLK hbn cm c0 c1 c2 d1 d2 h4 h5 hA hA1 hnin hn;generalize (w.alloc (.cells #[.int .i64 x,.int .i64 lo,.int .i64 hi] 166)).drewN nq=W at *;go_region_held3 (fun w'=>w'.cell? ⟨b,2,none⟩=some (.map (some bm))/\w'.cell? ⟨w.heap.size,0,none⟩=some (.int .i64 x)/\w'.cell? ⟨w.heap.size,1,none⟩=some (.int .i64 lo)/\w'.cell? ⟨w.heap.size,2,none⟩=some (.int .i64 hi)) (exact⟨cmE,c0E,c1E,c2E⟩) (first|fail);clear hrun;have hAF:=hAE.kept (Z0 (fun _=>False) W 1) (fun _ _ h=>h);have hcr:W.drew.cell? ⟨b,0,none⟩=some (.int .i64 room):=hAE.croom;have HLN:Hid (∀m,zC 115 #[.pointer (some ⟨b,0,none⟩)] (W.drew.drewN m) fun e w'=>e=.returned (.int .i64 L.length)/\∃m',w'=W.drew.drewN m'):=fun m=>(KW (hAF.kept (Z0 (fun _=>False) _ m) (fun _ _ h=>h))).mono fun _ _ ⟨h1,h2⟩=>⟨h1,m,h2.symm⟩;have hbF:=hbE.drew;have c0F:W.drew.cell? ⟨w.heap.size,0,none⟩=some (.int .i64 x):=c0E;have c1F:W.drew.cell? ⟨w.heap.size,1,none⟩=some (.int .i64 lo):=c1E;have c2F:W.drew.cell? ⟨w.heap.size,2,none⟩=some (.int .i64 hi):=c2E;have HAF:=zH hAF;clear hAE hAF cmE c0E c1E c2E hbE;have e0:W.drewN 1=W.drew:=rfl;rw[e0] at HAF;clear e0;generalize W.drew=W3 at *;obtain⟨len,hlen⟩:∃len,len=L.length:=⟨_,rfl⟩;rw[<-hlen] at HLN hroom;have HLEN:=zH hlen;clear hlen;go_wp2_with fail;go_quiet (first|(go_at_call 115;with_reducible exact HLN.out _));go_wp2_with fail;have hA4:=HAF.out.kept (Z0 (fun _=>False) _ nq) (fun _ _ h=>h);have hb4:=hbF.trans (Qi w.heap.size _ nq);have c04:(W3.drewN nq).cell? ⟨w.heap.size,0,none⟩=some (.int .i64 x):=c0F;have c14:(W3.drewN nq).cell? ⟨w.heap.size,1,none⟩=some (.int .i64 lo):=c1F;have c24:(W3.drewN nq).cell? ⟨w.heap.size,2,none⟩=some (.int .i64 hi):=c2F;clear c0F c1F c2F HAF HLN hbF hcr;generalize W3.drewN nq=W4 at *;have hs4:=hb4.size;have hs4':=World.block_lt_of_cell? W4 ⟨w.heap.size,0,none⟩ c04;refine(KX hA4 hl i hnext hil (by omega)).mono ?_;rintro e w5 ⟨k,v',rfl,hk,hocc,hfree,hA5,hK5,hv5⟩;have hbox:¬Own b bm v w.heap.size:=by
  have hlt:=HB0.out.lt;obtain⟨D,hD,-⟩:=HB0.out.hmap;have hbm:=hD.lt;rintro (h|h|h)
  ·omega
  ·omega
  ·have:=(HB0.out.row.lt _ h).2;omega
 have c05:=(hK5.cell (a:=⟨w.heap.size,0,none⟩) hs4' hbox).trans c04;have c15:=(hK5.cell (a:=⟨w.heap.size,1,none⟩) hs4' hbox).trans c14;have c25:=(hK5.cell (a:=⟨w.heap.size,2,none⟩) hs4' hbox).trans c24;obtain⟨ns',hns'⟩:∃ns',ns'=(if k=ns.length then ns++[(⟨24,0,0⟩:Nd)] else ns):=⟨_,rfl⟩;rw[<-hns'] at hA5;have hkl:k<ns'.length:=by rw[hns'];split<;>(try simp)<;>omega
 have hnl:ns'.length<=100001:=by rw[hns'];split<;>(try simp)<;>omega
 obtain⟨a',cap',hve,hg'⟩:=hA5.form;obtain⟨g',rfl,hBg,hgl⟩:=hg' (by omega);subst hve;have hA5d:zM B w5.drew b bm (.slice (some ⟨g',0,none⟩) ns'.length cap') ns' L room (2+(k:Int)):=hA5.kept (zc.refl (fun _=>False) w5).drew (fun _ _ h=>h);have hbg:b≠g':=fun e=>hA5.d1 (by rw[e];rfl);have hxg:w.heap.size≠g':=by
  rcases hv5 with h|⟨g2,h,hg2⟩
  ·intro e;exact hbox (.inr (.inr (by rw[<-h,e];rfl)))
  ·have h':g'=g2:=Option.some.inj h;have hs5:w.heap.size<W4.heap.size:=hs4';omega
 obtain⟨n1,n2,n3⟩:=Yp ns' k hkl;have s0:=hA5d.row.cellAt (k*3) (by omega);have s1:=hA5d.row.cellAt (k*3+1) (by omega);have s2:=hA5d.row.cellAt (k*3+2) (by omega);rw[n1] at s0;rw[n2] at s1;rw[n3] at s2;have t0:=hA5d.row.frozenAt (k*3);have t1:=hA5d.row.frozenAt (k*3+1);have t2:=hA5d.row.frozenAt (k*3+2);have cn:=hA5d.cnodes;have c05d:w5.drew.cell? ⟨w.heap.size,0,none⟩=some (.int .i64 x):=c05;have c15d:w5.drew.cell? ⟨w.heap.size,1,none⟩=some (.int .i64 lo):=c15;have c25d:w5.drew.cell? ⟨w.heap.size,2,none⟩=some (.int .i64 hi):=c25;have hA6:=hA5d.setNode hkl ⟨x,lo,hi⟩;have HK6:zc (fun j=>j=g') w5.drew (((w5.drew.setCell ⟨g',k*3,none⟩ (.int .i64 x)).setCell ⟨g',k*3+1,none⟩ (.int .i64 lo)).setCell ⟨g',k*3+2,none⟩ (.int .i64 hi)) :=
  ((zc.setCell (S:=fun j=>j=g') w5.drew ⟨g',k*3,none⟩ _ rfl).trans (zc.setCell (S:=fun j=>j=g') _ ⟨g',k*3+1,none⟩ _ rfl)).trans (zc.setCell (S:=fun j=>j=g') _ ⟨g',k*3+2,none⟩ _ rfl)
 have hlt5:=hA5d.lt;have hbx5:=World.block_lt_of_cell? w5.drew ⟨w.heap.size,0,none⟩ c05d;have c06:=(HK6.cell (a:=⟨w.heap.size,0,none⟩) hbx5 hxg).trans c05d;have c16:=(HK6.cell (a:=⟨w.heap.size,1,none⟩) hbx5 hxg).trans c15d;have c26:=(HK6.cell (a:=⟨w.heap.size,2,none⟩) hbx5 hxg).trans c25d;have cn6:=hA6.cnodes;have e2:2+(k:Int)-2=(k:Int):=by omega
 have ib0:(0:Int)<=(k:Int):=by omega
 have ib1:(k:Int)<(ns'.length:Int):=by omega
 have s0':w5.cell? ⟨g',k*3,none⟩=some (.int .i64 (nd ns' k).v):=s0;have s1':(w5.setCell ⟨g',k*3,none⟩ (.int .i64 x)).cell? ⟨g',k*3+1,none⟩=some (.int .i64 (nd ns' k).l):=by
  rw[World.cell?_setCell_other _ _ _ _ (by simp)];exact s1
 have s2':((w5.setCell ⟨g',k*3,none⟩ (.int .i64 x)).setCell ⟨g',k*3+1,none⟩ (.int .i64 lo)).cell? ⟨g',k*3+2,none⟩=some (.int .i64 (nd ns' k).h):=by
  rw[World.cell?_setCell_other _ _ _ _ (by simp),World.cell?_setCell_other _ _ _ _ (by simp)];exact s2
 have t0':w5.frozen? ⟨g',k*3,none⟩=false:=t0;have t1':(w5.setCell ⟨g',k*3,none⟩ (.int .i64 x)).frozen? ⟨g',k*3+1,none⟩=false:=by rw[World.frozen?_setCell];exact t1
 have t2':((w5.setCell ⟨g',k*3,none⟩ (.int .i64 x)).setCell ⟨g',k*3+1,none⟩ (.int .i64 lo)).frozen? ⟨g',k*3+2,none⟩=false:=by rw[World.frozen?_setCell,World.frozen?_setCell];exact t2
 have ew:IntKind.i64.wrap (k:Int)=(k:Int):=IntWalk.i64_in _ ⟨by omega,by omega⟩;have HN1:=zH hns';have HOC:=zH hocc;have HFR:=zH hfree;have HA6:=zH hA6;have HK5:=zH hK5;have HV5:=zH hv5;have HK6':=zH HK6;have HB4:=zH hb4;clear hns' hocc hfree hA6 hK5 hv5 HK6 hb4 hA5 hA5d hA4 c04 c14 c24 c05 c15 c25 n1 n2 n3;go_wp2_with fail;go_region_held3 (fun w'=>w'.cell? ⟨b,1,none⟩=some (.slice (some ⟨g',0,none⟩) ns'.length cap')/\w'.cell? ⟨w.heap.size,0,none⟩=some (.int .i64 x)/\w'.cell? ⟨w.heap.size,1,none⟩=some (.int .i64 lo)/\w'.cell? ⟨w.heap.size,2,none⟩=some (.int .i64 hi)) (first|exact⟨cn,c05d,c15d,c25d⟩|exact⟨cn6,c06,c16,c26⟩) (first|fail);go_wp2_with fail;have hA6:zM B (((w5.setCell ⟨g',k*3,none⟩ (.int .i64 x)).setCell ⟨g',k*3+1,none⟩ (.int .i64 lo)).setCell ⟨g',k*3+2,none⟩ (.int .i64 hi)).drew b bm (.slice (some ⟨g',0,none⟩) ns'.length cap') (ns'.set k ⟨x,lo,hi⟩) L room (2+(k:Int)):=HA6.out;have d06:(((w5.setCell ⟨g',k*3,none⟩ (.int .i64 x)).setCell ⟨g',k*3+1,none⟩ (.int .i64 lo)).setCell ⟨g',k*3+2,none⟩ (.int .i64 hi)).drew.cell? ⟨w.heap.size,0,none⟩=some (.int .i64 x):=c06;have d16:(((w5.setCell ⟨g',k*3,none⟩ (.int .i64 x)).setCell ⟨g',k*3+1,none⟩ (.int .i64 lo)).setCell ⟨g',k*3+2,none⟩ (.int .i64 hi)).drew.cell? ⟨w.heap.size,1,none⟩=some (.int .i64 lo):=c16;have d26:(((w5.setCell ⟨g',k*3,none⟩ (.int .i64 x)).setCell ⟨g',k*3+1,none⟩ (.int .i64 lo)).setCell ⟨g',k*3+2,none⟩ (.int .i64 hi)).drew.cell? ⟨w.heap.size,2,none⟩=some (.int .i64 hi):=c26;have HK6:Hid (zc (fun j=>j=g') w5 (((w5.setCell ⟨g',k*3,none⟩ (.int .i64 x)).setCell ⟨g',k*3+1,none⟩ (.int .i64 lo)).setCell ⟨g',k*3+2,none⟩ (.int .i64 hi)).drew):=⟨HK6'.out.os,HK6'.out.tape,HK6'.out.output,HK6'.out.size,HK6'.out.block⟩;clear s0 s1 s2 t0 t1 t2 s0' s1' s2' t0' t1' t2' c05d c15d c25d c06 c16 c26 cn cn6 HA6 HK6' hlt5 hbx5;generalize (((w5.setCell ⟨g',k*3,none⟩ (.int .i64 x)).setCell ⟨g',k*3+1,none⟩ (.int .i64 lo)).setCell ⟨g',k*3+2,none⟩ (.int .i64 hi)).drew=W6 at *;have hA6d:=hA6.kept (zc.refl (fun _=>False) W6).drew (fun _ _ h=>h);obtain⟨D6,hD6,hR6⟩:=hA6d.hmap;obtain⟨W7,D7,hrun7,hD7,hR7,hK7⟩:=zlv hD6 hR6 (by have:=HLEN.out;omega) HOK.out HNIN.out (x:=2+(k:Int)) ⟨by omega,by omega⟩;have hA7:=hA6d.setMap hK7 hD7 hR7;have cm6:W6.drew.cell? ⟨b,2,none⟩=some (.map (some bm)):=hA6.cmap;have d06d:W6.drew.cell? ⟨w.heap.size,0,none⟩=some (.int .i64 x):=d06;have d16d:W6.drew.cell? ⟨w.heap.size,1,none⟩=some (.int .i64 lo):=d16;have d26d:W6.drew.cell? ⟨w.heap.size,2,none⟩=some (.int .i64 hi):=d26;have hlt6:=World.block_lt_of_cell? W6.drew ⟨w.heap.size,0,none⟩ d06d;have hxm:w.heap.size≠bm:=fun e=>hbox (.inr (.inl e));have d07:=(hK7.cell (a:=⟨w.heap.size,0,none⟩) hlt6 hxm).trans d06d;have d17:=(hK7.cell (a:=⟨w.heap.size,1,none⟩) hlt6 hxm).trans d16d;have d27:=(hK7.cell (a:=⟨w.heap.size,2,none⟩) hlt6 hxm).trans d26d;have cm7:=hA7.cmap;have HA7:=zH hA7;have HK7:=zH hK7;clear hA6 hA6d hD6 hR6 hD7 hR7 hA7 hK7 d06 d16 d26;go_region_held3 (fun w'=>w'.cell? ⟨b,2,none⟩=some (.map (some bm))/\w'.cell? ⟨w.heap.size,0,none⟩=some (.int .i64 x)/\w'.cell? ⟨w.heap.size,1,none⟩=some (.int .i64 lo)/\w'.cell? ⟨w.heap.size,2,none⟩=some (.int .i64 hi)) (first|exact⟨cm6,d06d,d16d,d26d⟩|exact⟨cm7,d07,d17,d27⟩) (first|fail);go_wp2;go_ret2;have hsz:=HB4.out.size;refine⟨k,_,rfl,hk,HOC.out,fun h=>by have:=HFR.out h;omega,by rw[<-HN1.out];exact HA7.out,?_,?_⟩
 ·refine((((zc.of_below HB4.out _).trans HK5.out).andThen HK6.out (fun j hj hlt=>?_)).drew).andThen HK7.out (fun j hj _=>.inr (.inl hj));subst hj;rcases HV5.out with h|⟨g2,h,hg2⟩
  ·exact .inr (.inr (by rw[<-h];rfl))
  ·have h':j=g2:=Option.some.inj h;omega
 ·rcases HV5.out with h|⟨g2,h,hg2⟩
  ·exact .inl h
  ·exact .inr ⟨g2,h,by omega⟩
end
end Bd
namespace Bd
open Go.RowKit Go.Maps
def yw(m:List Bool):List Value:=m.map Value.bool
theorem zcb(m:List Bool)(i:Nat)(h:i<m.length):(yw m)[i]?=some (.bool (mk m i)):=by rw[zgu m i h];simp[yw,h]
theorem zoH(m:List Bool)(i:Nat):(yw m).set i (.bool true)=yw (m.set i true):=by simp[yw,List.map_set]
theorem za2{ns:List Nd}{h:Int}{m:List Bool}(hc:zb ns h=24\/mk m (h-2).toNat=true)(d:Nat):qa d ns h m=m:=by
 cases d with
 |zero=>rfl
 |succ d=>unfold qa;rw[if_pos hc]
theorem zao{B e size n:Nat}{w w':World}{v:Value}{xs:List Value}(h:w.ownsRow B e size v n xs)(hb:zB w w'):w'.ownsRow B e size v n xs :=
 Zp (S:=fun _=>False) h (zc.of_below hb _) (fun _ _ h=>h)
section
variable {B b bm g cap:Nat} {v:Value} {ns:List Nd} {L:List (Nd × Int)} {room next:Int}
theorem zcQ(hl:ns.length<=100000)(h:Int)(m:List Bool)(w:World)(hA:zM B w b bm v ns L room next)(hrow:w.ownsRow B 4 1 (.slice (some ⟨g,0,none⟩) ns.length cap) ns.length (yw m))(hi:I64 h)(ht:zb ns h=24) :
  zC 163 #[.pointer (some ⟨b,0,none⟩),.int .i64 h,.slice (some ⟨g,0,none⟩) ns.length cap] w fun e w'=>e=.returned (.tuple #[])/\w'.ownsRow B 4 1 (.slice (some ⟨g,0,none⟩) ns.length cap) ns.length (yw m)/\zc (fun k=>k=g) w w':=by
 have HG:=zH (Xb hA h hi (by omega));have hgn:qm ns h=⟨0,0,0⟩:=by unfold qm;rw[if_pos ht]
 rw[hgn,ht] at HG;have HROW:=zH hrow;clear hA hgn ht hrow;have e1:decide ((24:Int)≠24)=false:=by decide
 rw[e1] at HG;unfold Nd.val at HG;go_enter Tryz.func163,Tryz.ntmps163;go_wp2_with fail;refine HG.out.mono ?_;rintro e w1 ⟨rfl,hb1⟩;go_wp2;refine bodyPost_ret (v:=.tuple #[]) (by simp[results,Tryz.results163,go_sem]) rfl ?_;have hbE:=hb1.trans ((zf w1 (.cells #[.int .i64 0,.int .i64 0,.int .i64 0] 166)).mono hb1.size);exact⟨rfl,zao HROW.out hbE,zc.of_below hbE _⟩
def K8(B b bm g cap:Nat)(v:Value)(ns:List Nd)(L:List (Nd × Int))(room next:Int)(d:Nat):Prop :=
 ∀(h:Int) (m:List Bool) (w:World),zM B w b bm v ns L room next->m.length=ns.length->w.ownsRow B 4 1 (.slice (some ⟨g,0,none⟩) ns.length cap) ns.length (yw m)->I64 h->24<=zb ns h+d ->
  zC 163 #[.pointer (some ⟨b,0,none⟩),.int .i64 h,.slice (some ⟨g,0,none⟩) ns.length cap] w fun e w'=>e=.returned (.tuple #[])/\w'.ownsRow B 4 1 (.slice (some ⟨g,0,none⟩) ns.length cap) ns.length (yw (qa d ns h m))/\zc (fun k=>k=g) w w'
theorem zfG(hr:zw ns)(hl:ns.length<=100000)(hg:¬Own b bm v g)(d:Nat)(ih:K8 B b bm g cap v ns L room next d):K8 B b bm g cap v ns L room next (d+1):=by
 intro h m w hA hml hrow hi hd
 by_cases ht:zb ns h=24
 ·rw[za2 (.inl ht) (d+1)];exact zcQ hl h m w hA hrow hi ht
 have HG:=zH (Xb hA h hi (by omega));obtain⟨hi0,hi1⟩:=hi;obtain⟨b1,b2,b3⟩:=Z2 ht;have hv24:(nd ns (h-2).toNat).v<24:=by have:=(qh hr h).2;omega
 obtain⟨i,e2⟩:∃i:Nat,h-2=(i:Int):=⟨(h-2).toNat,by omega⟩;have e1:(h-2).toNat=i:=by omega
 have hgn:qm ns h=nd ns i:=by unfold qm;rw[if_neg ht,e1]
 rw[e1] at b2 b3 hv24;rw[hgn,decide_eq_true ht] at HG;unfold Nd.val at HG;have hok:=hr.ok i b2;have hfl:24<=zb ns (nd ns i).l+d:=by have:=(hr.l i b2 hv24).1;omega
 have hfh:24<=zb ns (nd ns i).h+d:=by have:=(hr.h i b2 hv24).1;omega
 have hgw:g<w.heap.size:=(hrow.lt g rfl).2;have hBg:B<=g:=(hrow.lt g rfl).1;have HSTOP:Hid (mk m i=true->qa (d+1) ns h m=m):=fun hm=>za2 (.inr (by rw[e1];exact hm)) (d+1);have HGO:Hid (mk m i=false->qa (d+1) ns h m=qa d ns (nd ns i).h (qa d ns (nd ns i).l (m.set i true))):=fun hm=>by
  show qa (d+1) ns h m=_;rw[qa,e1,if_neg (by rw[hm];simp[ht])]
 generalize nd ns i=n at *;obtain⟨nv,nl,nh⟩:=n;simp only at HG HGO hfl hfh hok hv24 b3;have IL:Hid (∀ (m:List Bool) (W:World),zM B W b bm v ns L room next->m.length=ns.length->W.ownsRow B 4 1 (.slice (some ⟨g,0,none⟩) ns.length cap) ns.length (yw m) ->
   zC 163 #[.pointer (some ⟨b,0,none⟩),.int .i64 nl,.slice (some ⟨g,0,none⟩) ns.length cap] W fun e w'=>e=.returned (.tuple #[])/\w'.ownsRow B 4 1 (.slice (some ⟨g,0,none⟩) ns.length cap) ns.length (yw (qa d ns nl m))/\zc (fun k=>k=g) W w'):=fun m W h1 h2 h3=>ih nl m W h1 h2 h3 hok.2.1 hfl
 have IH:Hid (∀ (m:List Bool) (W:World),zM B W b bm v ns L room next->m.length=ns.length->W.ownsRow B 4 1 (.slice (some ⟨g,0,none⟩) ns.length cap) ns.length (yw m) ->
   zC 163 #[.pointer (some ⟨b,0,none⟩),.int .i64 nh,.slice (some ⟨g,0,none⟩) ns.length cap] W fun e w'=>e=.returned (.tuple #[])/\w'.ownsRow B 4 1 (.slice (some ⟨g,0,none⟩) ns.length cap) ns.length (yw (qa d ns nh m))/\zc (fun k=>k=g) W w'):=fun m W h1 h2 h3=>ih nh m W h1 h2 h3 hok.2.2 hfh
 have HA:=zH hA;have HR:=zH hrow;have HOWN:=zH hg;have HML:=zH hml;have hil:(i:Int)<(ns.length:Int):=by omega
 clear ht hgn e1 b3 hfl hfh hok ih hA hrow hg hr hd hml;go_enter Tryz.func163,Tryz.ntmps163;go_wp2_with fail;refine HG.out.mono ?_;rintro e w1 ⟨rfl,hb1⟩;clear HG;have hbN:=zf w1 (.cells #[.int .i64 nv,.int .i64 nl,.int .i64 nh] 166);obtain⟨c0,c1,c2,-⟩:=Zj w1 (.int .i64 nv) (.int .i64 nl) (.int .i64 nh) 166;have hb2:=zT hb1 hbN;have hr2:=zao HR.out hb2;have hA2:=HA.out.kept (zc.of_below hb2 (fun _=>False)) (fun _ _ h=>h);have hs1:=hb1.size;have cm:=hr2.cellAt i (by omega);rw[zcb m i (by rw[HML.out];exact b2)] at cm;have fm:=hr2.frozenAt i;have lN:w1.heap.size<(w1.alloc (.cells #[.int .i64 nv,.int .i64 nl,.int .i64 nh] 166)).heap.size:=by simp
 have HB2:=zH hb2;have HR2:=zH hr2;have HA2:=zH hA2;clear hb1 hbN hr2 hA2 HA HR hb2
 by_cases hm:mk m i=true
 ·rw[hm] at cm;have HE:=zH (HSTOP.out hm);clear hm;go_wp2;refine bodyPost_ret (v:=.tuple #[]) (by simp[results,Tryz.results163,go_sem]) rfl ?_;rw[HE.out];exact⟨rfl,HR2.out,zc.of_below HB2.out _⟩
 ·have hm':mk m i=false:=by simpa using hm
  rw[hm'] at cm;have HE:=zH (HGO.out hm');clear hm hm' HSTOP HGO;have hr3:=(HR2.out.stored i (.bool true)).1;rw[zoH] at hr3;have hk3:zc (fun k=>k=g) (w1.alloc (.cells #[.int .i64 nv,.int .i64 nl,.int .i64 nh] 166)) ((w1.alloc (.cells #[.int .i64 nv,.int .i64 nl,.int .i64 nh] 166)).setCell ⟨g,i,none⟩ (.bool true)):=zc.setCell _ _ _ rfl;have hng:w1.heap.size≠g:=by omega
  have c13:=(hk3.cell (a:=⟨w1.heap.size,1,none⟩) lN hng).trans c1;have c23:=(hk3.cell (a:=⟨w1.heap.size,2,none⟩) lN hng).trans c2;have hA3:=HA2.out.kept hk3 (fun k hk e=>HOWN.out (e▸hk));have hK3:=(zc.of_below HB2.out (fun k=>k=g)).trans hk3;have lN3:=Nat.lt_of_lt_of_le lN hk3.size;have I1:=zH (IL.out _ _ hA3 (by rw[List.length_set];exact HML.out) hr3);have HK3:=zH hK3;have HA3:=zH hA3;clear hr3 hk3 hA3 hK3 IL c0 c1 c2;go_wp2_with fail;refine I1.out.mono ?_;rintro e w4 ⟨rfl,hr4,hk4⟩;have c24:=(hk4.cell (a:=⟨w1.heap.size,2,none⟩) lN3 hng).trans c23;have I2:=zH (IH.out _ _ (HA3.out.kept hk4 (fun k hk e=>HOWN.out (e▸hk))) (by rw[Zx,List.length_set];exact HML.out) hr4);have HK4:=zH (HK3.out.trans hk4);clear I1 hr4 hk4 IH;go_wp2_with fail;refine I2.out.mono ?_;rintro e w5 ⟨rfl,hr5,hk5⟩;go_wp2;refine bodyPost_end (v:=.tuple #[]) (by simp[results,Tryz.results163,go_sem]) rfl ?_;rw[HE.out];exact⟨rfl,hr5,HK4.out.trans hk5⟩
theorem zdt(hr:zw ns)(hl:ns.length<=100000)(hg:¬Own b bm v g):∀d,K8 B b bm g cap v ns L room next d
 |0=>fun h m w hA hml hrow hi hd=>by
  have ht:zb ns h=24:=by have:=(qh hr h).2;omega
  rw[za2 (.inl ht) 0];exact zcQ hl h m w hA hrow hi ht
 |d+1=>zfG hr hl hg d (zdt hr hl hg d)
end
end Bd
namespace Bd
open Go.RowKit Go.Maps
def qc(ns:List Nd)(fs:List Int):List Bool:=fs.foldl (fun m h=>qa 24 ns h m) (List.replicate ns.length false)
theorem zc9(ns:List Nd)(fs:List Int):(qc ns fs).length=ns.length:=by
 unfold qc;have:∀(fs:List Int) (m:List Bool),(fs.foldl (fun m h=>qa 24 ns h m) m).length=m.length:=by
  intro fs
  induction fs with
  |nil=>intro m;rfl
  |cons f fs ih=>intro m;rw[List.foldl_cons,ih,Zx]
 rw[this];simp
theorem zlu(ns:List Nd)(fs:List Int)(k:Nat)(h:k<fs.length):qc ns (fs.take (k+1))=qa 24 ns fs[k] (qc ns (fs.take k)):=by
 unfold qc;rw[List.take_succ_eq_append_getElem h,List.foldl_append];rfl
theorem yu{w:World}{B B' e size n:Nat}{v:Value}{xs:List Value}(h:w.ownsRow B e size v n xs)(hB:B'<=B):w.ownsRow B' e size v n xs:=by
 refine⟨h.1,?_⟩;rcases h.2 with h1|⟨g,cap,cur,h1,h2,h3⟩
 ·exact .inl h1
 ·exact .inr ⟨g,cap,cur,h1,Nat.le_trans hB h2,h3⟩
theorem zgC:(Tryz.prog.info? 4).map (fun i=>(i.zero,i.size,i.bytes))=some (some (.bool false),1,1):=by kernel_rfl
theorem zhx(n:Nat):(madeCells #[Value.bool false] n).toList=yw (List.replicate n false):=by rw[toList_madeCells_one];simp[yw]
structure xG(w:World)(bf:Nat)(fs:List Int):Prop where
 lt:bf<w.heap.size
 cells:∀i (h:i<fs.length),w.cell? ⟨bf,i,none⟩=some (.int .i64 fs[i])
 ok:∀x∈fs,I64 x
theorem xG.kept{S:Nat->Prop}{w w':World}{bf:Nat}{fs:List Int}(h:xG w bf fs)(hk:zc S w w')(hn:¬S bf):xG w' bf fs :=
 ⟨Nat.lt_of_lt_of_le h.lt hk.size,fun i hi=>(hk.cell (a:=⟨bf,i,none⟩) h.lt hn).trans (h.cells i hi),h.ok⟩
section
variable {B b bm:Nat} {v:Value} {ns:List Nd} {L:List (Nd × Int)} {room next:Int} {w:World}
theorem zlT(hr:zw ns)(hl:ns.length<=100000)(hA:zM B w b bm v ns L room next)(bf:Nat){cp:Nat}(fs:List Int)(hF:xG w bf fs)(hfl:fs.length<=1000)(hB:B<=w.heap.size) :
  zC 116 #[.pointer (some ⟨b,0,none⟩),.slice (some ⟨bf,0,none⟩) fs.length cp] w fun e w'=>e=.returned (.slice (some ⟨w.heap.size,0,none⟩) ns.length ns.length)/\w'.ownsRow B 4 1 (.slice (some ⟨w.heap.size,0,none⟩) ns.length ns.length) ns.length (yw (qc ns fs))/\zB w w':=by
 obtain⟨a,cap,rfl,-⟩:=hA.form;have hg:¬Own b bm (.slice a ns.length cap) w.heap.size:=by
  obtain⟨D,hD,-⟩:=hA.hmap;have hbm:=hD.lt;have hlt:=hA.lt;rintro (h|h|h)
  ·omega
  ·omega
  ·have:=(hA.row.lt _ h).2;omega
 have cn:=hA.cnodes;obtain⟨i0,hi,hz0,hz1,hz2⟩:=info_parts zgC;have HA:=zH hA;have HF:=zH hF;have HG:=zH hg;have HR:=zH hr;clear hA hF hg hr;go_enter Tryz.func116,Tryz.ntmps116;go_wp2_with (at_make;refine wpList_make_full _ rfl _ _ 65 rfl w.heap.size 4 i0 (.bool false) 1 Tryz.underlying65 hi hz0 hz1 .i64 .i64 _ _ ns.length rfl rfl ?c1 ?c2 ?c3 ?c4 ?c5 ?_)
 case c1=>rfl
 case c2=>rfl
 case c3=>rw[hz2];omega
 case c4=>unfold maxLen;omega
 case c5=>omega
 intro w1 hown hgrow;rw[zhx] at hown;have hbel:zB w w1:=zF.grown hgrow zN (fun k hk=>by cases hk);clear hgrow;go_wp2_with fail;go_loopw [7,16] (fun _ i wr=>∃k:Nat,k<=fs.length/\i=.int .i64 k/\wr.ownsRow w.heap.size 4 1 (.slice (some ⟨w.heap.size,0,none⟩) ns.length ns.length) ns.length (yw (qc ns (fs.take k)))/\zB w wr)
  (fun _ i _=>fs.length-(intOf i).toNat)
 case atStart=>exact⟨0,Nat.zero_le _,rfl,hown,hbel⟩
 case round =>
  obtain⟨k,hk,rfl,hownr,hbelr⟩:=hrel;clear hown hbel
  by_cases hlt:k<fs.length
  ·have ck:=(hbelr.cell (p:=⟨bf,k,none⟩) HF.out.lt).trans (HF.out.cells k hlt);have HC:Hid (zC 163 #[.pointer (some ⟨b,0,none⟩),.int .i64 fs[k],.slice (some ⟨w.heap.size,0,none⟩) ns.length ns.length] wr fun e w'=>e=.returned (.tuple #[])/\w'.ownsRow w.heap.size 4 1 (.slice (some ⟨w.heap.size,0,none⟩) ns.length ns.length) ns.length (yw (qc ns (fs.take (k+1))))/\zc (fun k=>k=w.heap.size) wr w'):=by
    have hr':=HR.out;have:=zdt (B:=B) (L:=L) (room:=room) (next:=next) hr' hl HG.out 24 fs[k] (qc ns (fs.take k)) wr (HA.out.kept (zc.of_below hbelr (fun _=>False)) (fun _ _ h=>h)) (zc9 _ _) (yu hownr hB) (HF.out.ok _ (List.getElem_mem hlt)) (by have:=(qh hr' fs[k]).1;omega);rw[<-zlu ns fs k hlt] at this;refine this.mono ?_;rintro e w' ⟨h1,h2,h3⟩;refine⟨h1,⟨h2.1,?_⟩,h3⟩;rcases h2.2 with h4|⟨g,cp,cur,h4,h5⟩
    ·exact .inl h4
    ·refine .inr ⟨g,cp,cur,h4,?_,h5.2⟩;cases h4;exact Nat.le_refl _
   have HB:=zH hbelr;clear hownr hbelr;generalize fs[k]=x at *;go_wp2_with fail;refine HC.out.mono ?_;rintro e w2 ⟨rfl,hr2,hk2⟩;have hb2:=HB.out.trans (hk2.below HB.out.size (fun i hi=>by omega));clear HC hk2;go_wp2;go_roundw
   case rel=>exact⟨k+1,by omega,by go_num,hr2,hb2⟩
   case measure=>simp[intOf];omega
  ·obtain rfl:k=fs.length:=by omega
   rw[List.take_length] at hownr;go_wp2;go_ret;exact⟨rfl,yu hownr hB,hbelr⟩
end
end Bd
namespace Bd
open Go.RowKit Go.Maps
def zn(l:List Int):List Value:=l.map (Value.int .i64)
theorem xu(l:List Int):(zn l).length=l.length:=by simp[zn]
theorem xU(l:List Int)(i:Nat)(h:i<l.length):(zn l)[i]?=some (.int .i64 l[i]):=by simp[zn,h]
theorem Zm:(Tryz.prog.info? 3).map (fun i=>(i.zero,i.size,i.bytes))=some (some (.int .i64 0),1,8):=by kernel_rfl
end Bd
namespace Bd
open Go.RowKit Go.Maps
def J9(L:List (Nd × Int))(n:Nd):List (Nd × Int):=L.filter fun q=>decide (q.1≠n)
theorem ziR{P:Program}{ops:Array Oper}{o:Oper}{a:Act}{w w':World}{K:Act->World->Prop}{Q:Exit->Act->World->Prop}{E:Prop}
  (hg:o.guard=none) (m x:Operand) (t k:TypeId) (hop:o.op=Op.call { callee:=Callee.builtin Builtin.delete,args:=#[m,x],argTypes:=#[t,k] })
  {b:Nat} {key:Value} (hm:a.eval m=.map (some b)) (hx:a.eval x=key) (hrun:∀ty,(Builtin.delete_ #[t,k] ty #[.map (some b),key]).run P w=.ok (.tuple #[]) w')
  (hK:K (a.put o.dst (.tuple #[])) w'):if Region.wanted o (yielded ops a.tmps)=true then Oper.wp P o a w K Q else E:=by
 have hw:Region.wanted o (yielded ops a.tmps)=true:=by simp[Region.wanted,hg]
 rw[if_pos hw];unfold Oper.wp;simp[execOp,hop,resolve,invoke,builtin,hm,hx,hrun,Result.andThen];exact hK
section
variable {B b bm:Nat} {v:Value} {ns:List Nd} {L:List (Nd × Int)} {room next:Int} {w:World}
theorem zi9{D:DataW Unit}(hD:w.ownsMap Tryz.prog 166 (plainElem Tryz.prog 3) bm L.length D)(hR:Rep Nd.Ok Nd.lit (fun x:Int=>.lit (.int .i64 x)) D L){p:Nd × Int}(hp:p∈L) :
  ∃w' D',(∀ty,(Builtin.delete_ #[141,166] ty #[.map (some bm),.agg #[.int .i64 p.1.v,.int .i64 p.1.l,.int .i64 p.1.h]]).run Tryz.prog w=.ok (.tuple #[]) w')/\w'.ownsMap Tryz.prog 166 (plainElem Tryz.prog 3) bm (L.filter fun q=>decide (q.1≠p.1)).length D'/\Rep Nd.Ok Nd.lit (fun x:Int=>.lit (.int .i64 x)) D' (L.filter fun q=>decide (q.1≠p.1))/\zc (fun k=>k=bm) w w':=by
 obtain⟨w',hrun,h1,h2⟩:=hD.drop QY Tryz.underlying141 (QB p.1 (hR.oks p hp)) 0;have hR':=hR.del (fun _ _=>zbM) hp;refine⟨w',_,?_,hR'.size▸Qt h1,hR',zc.of_grown h2.grown (fun i h=>by cases h;rfl)⟩;intro ty;obtain⟨w'',hrun2,h3,h4⟩:=hD.drop QY Tryz.underlying141 (QB p.1 (hR.oks p hp)) ty;have e:w''=w':=by
  have:=hrun.symm.trans ((show (Builtin.delete_ #[141,166] 0 #[.map (some bm),p.1.val]).run Tryz.prog w=(Builtin.delete_ #[141,166] ty #[.map (some bm),p.1.val]).run Tryz.prog w from rfl).trans hrun2);injection this with _ e;exact e.symm
 rw[<-e];exact hrun2
theorem zly(hA:zM B w b bm v ns L room next)(hl:ns.length<=100000)(h:Int)(hi:I64 h)(ht:zb ns h=24) :
  zR 117 #[.pointer (some ⟨b,0,none⟩),.int .i64 h] w (.tuple #[]):=by
 have HG:=zH (Xb hA h hi (by omega));have hgn:qm ns h=⟨0,0,0⟩:=by unfold qm;rw[if_pos ht]
 rw[hgn,ht] at HG;clear hA hgn ht;have e1:decide ((24:Int)≠24)=false:=by decide
 rw[e1] at HG;unfold Nd.val at HG;go_enter Tryz.func117,Tryz.ntmps117;go_wp2_with fail;refine HG.out.mono ?_;rintro e w1 ⟨rfl,hb1⟩;go_wp2;refine bodyPost_end (v:=.tuple #[]) (by simp[results,Tryz.results117,go_sem]) rfl ?_;exact⟨rfl,hb1.trans ((zf w1 (.cells #[.int .i64 0,.int .i64 0,.int .i64 0] 166)).mono hb1.size)⟩
theorem zje(hA:zM B w b bm v ns L room next)(hl:ns.length<=100000)(k:Nat)(hk:k<ns.length)(hv:(nd ns k).v≠24)(hin:(nd ns k,2+(k:Int))∈L) :
  zC 117 #[.pointer (some ⟨b,0,none⟩),.int .i64 (2+(k:Int))] w fun e w'=>e=.returned (.tuple #[])/\zM B w' b bm v (ns.set k ⟨24,0,0⟩) (J9 L (nd ns k)) room next/\zc (Own b bm v) w w':=by
 have ht:zb ns (2+(k:Int))≠24:=by rw[QI hk];exact hv
 have HG:=zH (Xb hA (2+(k:Int)) ⟨by omega,by omega⟩ (by omega));have hgn:qm ns (2+(k:Int))=nd ns k:=by unfold qm;rw[if_neg ht,show (2+(k:Int)-2).toNat=k by omega]
 rw[hgn,decide_eq_true ht] at HG;unfold Nd.val at HG;obtain⟨a,cap,rfl,hgg⟩:=hA.form;obtain⟨g,rfl,hBg,hgl⟩:=hgg (by omega);have HA:=zH hA;have HIN:=zH hin;obtain⟨n,hne⟩:∃n,n=nd ns k:=⟨_,rfl⟩;rw[<-hne] at HG HIN ⊢;have e2:2+(k:Int)-2=(k:Int):=by omega
 have ib:(k:Int)<(ns.length:Int):=by omega
 clear ht hgn hA hin hv hne;obtain⟨nv,nl,nh⟩:=n;simp only at HG;go_enter Tryz.func117,Tryz.ntmps117;go_wp2_with fail;refine HG.out.mono ?_;rintro e w1 ⟨rfl,hb1⟩;clear HG;have hs1:=hb1.size;have hbN:=zf w1 (.cells #[.int .i64 nv,.int .i64 nl,.int .i64 nh] 166);obtain⟨c0,c1,c2,-⟩:=Zj w1 (.int .i64 nv) (.int .i64 nl) (.int .i64 nh) 166;have hb2:=zT hb1 hbN;have hA2:=HA.out.kept (zc.of_below hb2 (fun _=>False)) (fun _ _ h=>h);have hnotown:∀j,w.heap.size<=j->¬Own b bm (.slice (some ⟨g,0,none⟩) ns.length cap) j:=by
  have hlt:=HA.out.lt;obtain⟨D,hD,-⟩:=HA.out.hmap;have hbm:=hD.lt;rintro j hj (h|h|h)
  ·omega
  ·omega
  ·have:=(HA.out.row.lt _ h).2;omega
 have lN:w1.heap.size<(w1.alloc (.cells #[.int .i64 nv,.int .i64 nl,.int .i64 nh] 166)).heap.size:=by simp
 go_wp2_with fail;generalize w1.alloc (.cells #[.int .i64 nv,.int .i64 nl,.int .i64 nh] 166)=W2 at *;have hA2d:zM B W2.drew b bm (.slice (some ⟨g,0,none⟩) ns.length cap) ns L room next:=hA2.kept (zc.refl (fun _=>False) W2).drew (fun _ _ h=>h);obtain⟨D,hD,hR⟩:=hA2d.hmap;obtain⟨W3,D3,hrun,hD3,hR3,hK3⟩:=zi9 hD hR HIN.out;simp only at hrun;have hA3:=hA2d.setMap hK3 hD3 hR3;have cm:W2.drew.cell? ⟨b,2,none⟩=some (.map (some bm)):=hA2.cmap;have c0d:W2.drew.cell? ⟨w1.heap.size,0,none⟩=some (.int .i64 nv):=c0;have c1d:W2.drew.cell? ⟨w1.heap.size,1,none⟩=some (.int .i64 nl):=c1;have c2d:W2.drew.cell? ⟨w1.heap.size,2,none⟩=some (.int .i64 nh):=c2;have hxm:w1.heap.size≠bm:=fun e=>hnotown w1.heap.size hs1 (.inr (.inl e));have c03:=(hK3.cell (a:=⟨w1.heap.size,0,none⟩) lN hxm).trans c0d;have c13:=(hK3.cell (a:=⟨w1.heap.size,1,none⟩) lN hxm).trans c1d;have c23:=(hK3.cell (a:=⟨w1.heap.size,2,none⟩) lN hxm).trans c2d;have cm3:=hA3.cmap;have HA3:=zH hA3;have HK3:=zH (((zc.of_below hb2 (Own b bm (.slice (some ⟨g,0,none⟩) ns.length cap))).drew).andThen hK3 (fun j hj _=>.inr (.inl hj)));clear hA2 hA2d hD hR hD3 hR3 hK3 hA3 c0 c1 c2 hbN hb1 hb2;go_region_held3 (fun w'=>w'.cell? ⟨b,2,none⟩=some (.map (some bm))/\w'.cell? ⟨w1.heap.size,0,none⟩=some (.int .i64 nv)/\w'.cell? ⟨w1.heap.size,1,none⟩=some (.int .i64 nl)/\w'.cell? ⟨w1.heap.size,2,none⟩=some (.int .i64 nh)) (first|exact⟨cm,c0d,c1d,c2d⟩|exact⟨cm3,c03,c13,c23⟩)
  (first|(refine ziR rfl _ _ 141 166 rfl rfl rfl hrun ?_))
 have cn3:=HA3.out.cnodes;obtain⟨n1,n2,n3⟩:=Yp ns k hk;have s0:=HA3.out.row.cellAt (k*3) (by omega);have s1:=HA3.out.row.cellAt (k*3+1) (by omega);have s2:=HA3.out.row.cellAt (k*3+2) (by omega);rw[n1] at s0;rw[n2] at s1;rw[n3] at s2;have t0:=HA3.out.row.frozenAt (k*3);have t1:=HA3.out.row.frozenAt (k*3+1);have t2:=HA3.out.row.frozenAt (k*3+2);have s1':(W3.setCell ⟨g,k*3,none⟩ (.int .i64 24)).cell? ⟨g,k*3+1,none⟩=some (.int .i64 (nd ns k).l):=by
  rw[World.cell?_setCell_other _ _ _ _ (by simp)];exact s1
 have s2':((W3.setCell ⟨g,k*3,none⟩ (.int .i64 24)).setCell ⟨g,k*3+1,none⟩ (.int .i64 0)).cell? ⟨g,k*3+2,none⟩=some (.int .i64 (nd ns k).h):=by
  rw[World.cell?_setCell_other _ _ _ _ (by simp),World.cell?_setCell_other _ _ _ _ (by simp)];exact s2
 have t1':(W3.setCell ⟨g,k*3,none⟩ (.int .i64 24)).frozen? ⟨g,k*3+1,none⟩=false:=by rw[World.frozen?_setCell];exact t1
 have t2':((W3.setCell ⟨g,k*3,none⟩ (.int .i64 24)).setCell ⟨g,k*3+1,none⟩ (.int .i64 0)).frozen? ⟨g,k*3+2,none⟩=false:=by rw[World.frozen?_setCell,World.frozen?_setCell];exact t2
 have hA4:=HA3.out.setNode hk ⟨24,0,0⟩;have hk4:zc (Own b bm (.slice (some ⟨g,0,none⟩) ns.length cap)) W3 (((W3.setCell ⟨g,k*3,none⟩ (.int .i64 24)).setCell ⟨g,k*3+1,none⟩ (.int .i64 0)).setCell ⟨g,k*3+2,none⟩ (.int .i64 0)) :=
  ((zc.setCell (S:=Own b bm (.slice (some ⟨g,0,none⟩) ns.length cap)) W3 ⟨g,k*3,none⟩ _ (.inr (.inr rfl))).trans (zc.setCell _ ⟨g,k*3+1,none⟩ _ (.inr (.inr rfl)))).trans (zc.setCell _ ⟨g,k*3+2,none⟩ _ (.inr (.inr rfl)))
 have ew:IntKind.i64.wrap (k:Int)=(k:Int):=IntWalk.i64_in _ ⟨by omega,by omega⟩;have HA4:=zH hA4;have HK4:=zH (HK3.out.trans hk4);clear hA4 hk4 n1 n2 n3 s1 s2 t1 t2 HA3 HK3;go_wp2;refine bodyPost_end (v:=.tuple #[]) (by simp[results,Tryz.results117,go_sem]) rfl ?_;exact⟨rfl,HA4.out,HK4.out⟩
end
end Bd
end Go.Proofs.YtapobpgbcbplbaaGreatDoor
