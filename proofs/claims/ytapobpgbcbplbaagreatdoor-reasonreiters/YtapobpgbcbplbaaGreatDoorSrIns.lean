/- Insertion sort. -/
import Derived.Test.YtapobpgbcbplbaaGreatDoorSrPins
open Go.Proofs.YtapobpgbcbplbaaGreatDoor
set_option maxHeartbeats 8000000
set_option maxRecDepth 100000
namespace Go.Proofs.YtapobpgbcbplbaaGreatDoor.Sr
open Go.RowKit Go.Maps Go.Proofs.YtapobpgbcbplbaaGreatDoor.Bd Go.Proofs.YtapobpgbcbplbaaGreatDoor.Fm Go.Sort
structure SW(w:World)(sb:Nat)(s:Nat):Prop where
 cell:w.cell? ⟨sb,0,none⟩=some (.int .i64 s)
 froz:w.frozen? ⟨sb,0,none⟩=false
section
variable {w w':World} {g sb s:Nat} {d:Array Int}
theorem SW.lt(h:SW w sb s):sb<w.heap.size:=(Zv h.cell).lt
theorem UR.kept{S:Nat->Prop}(h:UR w g d)(hk:zc S w w')(hn:¬S g):UR w' g d :=
 ⟨Nat.lt_of_lt_of_le h.lt hk.size,fun j hj=>(hk.cell (a:=⟨g,j,none⟩) h.lt hn).trans (h.cell j hj),fun j hj=>(hk.frozen (a:=⟨g,j,none⟩) h.lt hn).trans (h.froz j hj)⟩
theorem SW.kept{S:Nat->Prop}(h:SW w sb s)(hk:zc S w w')(hn:¬S sb):SW w' sb s :=
 ⟨(hk.cell (a:=⟨sb,0,none⟩) h.lt hn).trans h.cell,(hk.frozen (a:=⟨sb,0,none⟩) h.lt hn).trans h.froz⟩
theorem SW.set(h:SW w sb s)(t:Nat):SW (w.setCell ⟨sb,0,none⟩ (.int .i64 t)) sb t :=
 ⟨World.cell?_setCell_same _ _ _ h.cell,by rw[World.frozen?_setCell];exact h.froz⟩
end
abbrev KS(sb:Nat)(w w':World):Prop:=zc (fun j=>j=sb) w w'
theorem YM(d:Array Int)(a b s:Nat):((order2 ltInt d a b s).1=a\/(order2 ltInt d a b s).1=b)/\((order2 ltInt d a b s).2.1=a\/(order2 ltInt d a b s).2.1=b)/\(order2 ltInt d a b s).2.2<=s+1:=by
 unfold order2;split<;>simp
theorem zat(g cap sb:Nat)(d:Array Int)(a b s:Nat)(w:World)(h:UR w g d)(hs:SW w sb s)(ha:a<d.size)(hb:b<d.size)(hs2:s<=1000) :
  zC 198 #[.slice (some ⟨g,0,none⟩) d.size cap,.int .i64 a,.int .i64 b,.pointer (some ⟨sb,0,none⟩)] w fun e w'=>e=.returned (.tuple #[.int .i64 ((order2 ltInt d a b s).1:Int),.int .i64 ((order2 ltInt d a b s).2.1:Int)])/\SW w' sb (order2 ltInt d a b s).2.2/\KS sb w w':=by
 have cx:=h.cell b hb;have cy:=h.cell a ha;obtain⟨x,hx⟩:∃x,x=d[b]! := ⟨_,rfl⟩;obtain⟨y,hy⟩:∃y,y=d[a]! := ⟨_,rfl⟩;obtain⟨n,hn⟩:∃n,n=d.size:=⟨_,rfl⟩;have ho:order2 ltInt d a b s=if decide (x<y)=true then (b,a,s+1) else (a,b,s):=by rw[hx,hy];rfl
 rw[<-hx] at cx;rw[<-hy] at cy;rw[<-hn] at ha hb ⊢;rw[ho];have i1:(a:Int)<(n:Int):=by omega
 have i2:(b:Int)<(n:Int):=by omega
 have HK:Hid (∀m,KS sb w (w.drewN m)):=fun m=>zc.of_below (Qi zF m) _;have hc:∀m,(w.drewN m).cell? ⟨sb,0,none⟩=some (.int .i64 s):=fun m=>hs.cell;have hf:∀m,(w.drewN m).frozen? ⟨sb,0,none⟩=false:=fun m=>hs.froz;have HS:Hid (∀m t,SW (w.drewN m) sb s/\SW ((w.drewN m).setCell ⟨sb,0,none⟩ (.int .i64 ((t:Nat):Int))) sb t):=fun m t=>⟨⟨hs.cell,hs.froz⟩,SW.set (w:=w.drewN m) ⟨hs.cell,hs.froz⟩ t⟩;clear h hs hx hy hn ho
 by_cases hxy:x<y
 ·have hd:decide (x<y)=true:=by simpa using hxy
  have w3:IntKind.i64.wrap ((s:Int)+1)=((s+1:Nat):Int):=by rw[IntKind.wrap_i64];omega
  rw[if_pos hd];go_enter Tryz.func198,Tryz.ntmps198;go_wp2_with fail;go_quiet (first|(go_at_call 133;refine Calls.quiet_of_same (qR _ _ _)));have c0:=hc nq;have f0:=hf nq;clear hc hf;go_wp2;refine bodyPost_ret (v:=.tuple #[.int .i64 b,.int .i64 a]) (by simp[results,Tryz.results198,go_sem]) rfl ⟨rfl,(HS.out _ (s+1)).2,(HK.out _).trans (zc.setCell _ ⟨sb,0,none⟩ _ rfl)⟩
 ·have hd:decide (x<y)=false:=by simpa using hxy
  rw[if_neg (by rw[hd];decide)];go_enter Tryz.func198,Tryz.ntmps198;go_wp2_with fail;go_quiet (first|(go_at_call 133;refine Calls.quiet_of_same (qR _ _ _)));clear hc hf;go_wp2;refine bodyPost_ret (v:=.tuple #[.int .i64 a,.int .i64 b]) (by simp[results,Tryz.results198,go_sem]) rfl ⟨rfl,(HS.out _ 0).1,HK.out _⟩
theorem Jp(d:Array Int)(a b c s n:Nat)(ha:a<n)(hb:b<n)(hc:c<n):(median ltInt d a b c s).1<n/\(median ltInt d a b c s).2<=s+3:=by
 have h1:=YM d a b s;have h2:=YM d (order2 ltInt d a b s).2.1 c (order2 ltInt d a b s).2.2;have h3:=YM d (order2 ltInt d a b s).1 (order2 ltInt d (order2 ltInt d a b s).2.1 c (order2 ltInt d a b s).2.2).1 (order2 ltInt d (order2 ltInt d a b s).2.1 c (order2 ltInt d a b s).2.2).2.2;show (order2 ltInt d (order2 ltInt d a b s).1 (order2 ltInt d (order2 ltInt d a b s).2.1 c (order2 ltInt d a b s).2.2).1 (order2 ltInt d (order2 ltInt d a b s).2.1 c (order2 ltInt d a b s).2.2).2.2).2.1<n/\(order2 ltInt d (order2 ltInt d a b s).1 (order2 ltInt d (order2 ltInt d a b s).2.1 c (order2 ltInt d a b s).2.2).1 (order2 ltInt d (order2 ltInt d a b s).2.1 c (order2 ltInt d a b s).2.2).2.2).2.2<=s+3;omega
theorem KO(g cap sb:Nat)(d:Array Int)(a b c s:Nat)(w:World)(h:UR w g d)(hs:SW w sb s)(hne:sb≠g)(ha:a<d.size)(hb:b<d.size)(hc:c<d.size)(hs2:s<=900) :
  zC 170 #[.slice (some ⟨g,0,none⟩) d.size cap,.int .i64 a,.int .i64 b,.int .i64 c,.pointer (some ⟨sb,0,none⟩)] w fun e w'=>e=.returned (.int .i64 ((median ltInt d a b c s).1:Int))/\SW w' sb (median ltInt d a b c s).2/\KS sb w w':=by
 have h0:=zH h;have HM:Hid (median ltInt d a b c s=(let r1:=order2 ltInt d a b s;let r2:=order2 ltInt d r1.2.1 c r1.2.2;let r3:=order2 ltInt d r1.1 r2.1 r2.2.2;(r3.2.1,r3.2.2))):=rfl;have m1:=YM d a b s;have H1:=zH (zat g cap sb d a b s w h hs ha hb (by omega));rw[HM.out];clear h hs HM;obtain⟨p1,hp1⟩:∃p,p=order2 ltInt d a b s:=⟨_,rfl⟩;rw[<-hp1] at H1 m1 ⊢;obtain⟨x1,y1,s1⟩:=p1;clear hp1;simp only at H1 m1 ⊢;have m2:=YM d y1 c s1;have H2:Hid (∀W,KS sb w W->SW W sb s1->_):=fun W hW hS=>zat g cap sb d y1 c s1 W (h0.out.kept hW (fun e=>hne e.symm)) hS (by omega) (by omega) (by omega);obtain⟨p2,hp2⟩:∃p,p=order2 ltInt d y1 c s1:=⟨_,rfl⟩;rw[<-hp2] at H2 m2 ⊢;obtain⟨x2,y2,s2⟩:=p2;clear hp2;simp only at H2 m2 ⊢;have H3:Hid (∀W,KS sb w W->SW W sb s2->_):=fun W hW hS=>zat g cap sb d x1 x2 s2 W (h0.out.kept hW (fun e=>hne e.symm)) hS (by omega) (by omega) (by omega);obtain⟨p3,hp3⟩:∃p,p=order2 ltInt d x1 x2 s2:=⟨_,rfl⟩;rw[<-hp3] at H3 ⊢;obtain⟨x3,y3,s3⟩:=p3;clear hp3;simp only at H3 ⊢;clear m1 m2 ha hb hc;go_enter Tryz.func170,Tryz.ntmps170;go_wp2_with fail;refine H1.out.mono ?_;rintro e w1 ⟨rfl,hS1,hK1⟩;have H2':=zH (H2.out w1 hK1 hS1);have K1:=zH hK1;clear hS1 hK1 H1 H2;go_wp2_with fail;refine H2'.out.mono ?_;rintro e w2 ⟨rfl,hS2,hK2⟩;have H3':=zH (H3.out w2 (K1.out.trans hK2) hS2);have K2:=zH (K1.out.trans hK2);clear hS2 hK2 H2' H3 K1;go_wp2_with fail;refine H3'.out.mono ?_;rintro e w3 ⟨rfl,hS3,hK3⟩;have HF:=zH (⟨hS3,K2.out.trans hK3⟩:SW w3 sb s3/\KS sb w w3);clear hS3 hK3 H3' K2;go_wp2;go_ret;exact⟨rfl,HF.out⟩
theorem JQ(g cap sb:Nat)(d:Array Int)(a s:Nat)(w:World)(h:UR w g d)(hs:SW w sb s)(hne:sb≠g)(ha:0<a)(hb:a+1<d.size)(hsz:d.size<=1000000)(hs2:s<=900) :
  zC 169 #[.slice (some ⟨g,0,none⟩) d.size cap,.int .i64 a,.pointer (some ⟨sb,0,none⟩)] w fun e w'=>e=.returned (.int .i64 ((medianAdjacent ltInt d a s).1:Int))/\SW w' sb (medianAdjacent ltInt d a s).2/\KS sb w w':=by
 have H:=zH (KO g cap sb d (a-1) a (a+1) s w h hs hne (by omega) (by omega) hb hs2);have e:medianAdjacent ltInt d a s=median ltInt d (a-1) a (a+1) s:=rfl;have w1:IntKind.i64.wrap ((a:Int)-1)=((a-1:Nat):Int):=by rw[IntKind.wrap_i64];omega
 have w2:IntKind.i64.wrap ((a:Int)+1)=((a+1:Nat):Int):=by rw[IntKind.wrap_i64];omega
 rw[e];clear h hs e;go_enter Tryz.func169,Tryz.ntmps169;go_wp2_with fail;refine H.out.mono ?_;rintro e w1 ⟨rfl,hS⟩;have HF:=zH hS;clear hS H;go_wp2;go_ret;exact⟨rfl,HF.out⟩
def zbp:Hint->Int
 |.unknown=>0
 |.increasing=>1
 |.decreasing=>2
def Xi(s:Nat):Hint:=if s=0 then .increasing else if s=12 then .decreasing else .unknown
theorem zaM(d:Array Int)(a s n:Nat)(ha:a+1<n):(medianAdjacent ltInt d a s).1<n/\(medianAdjacent ltInt d a s).2<=s+3:=Jp d (a-1) a (a+1) s n (by omega) (by omega) ha
theorem zoL(g cap:Nat)(d:Array Int)(a b:Nat)(w:World)(h:UR w g d)(hab:a+8<=b)(hb:b<=d.size)(hsz:d.size<=1000000) :
  zR 130 #[.slice (some ⟨g,0,none⟩) d.size cap,.int .i64 a,.int .i64 b] w (.tuple #[.int .i64 ((choosePivot ltInt d a b).1:Int),.int .i64 (zbp (choosePivot ltInt d a b).2)]):=by
 have h0:=zH h;have gl:=h.lt;obtain⟨l,hl⟩:∃l,l=b-a:=⟨_,rfl⟩;obtain⟨i,hi⟩:∃i,i=a+l/4*1:=⟨_,rfl⟩;obtain⟨j,hj⟩:∃j,j=a+l/4*2:=⟨_,rfl⟩;obtain⟨k,hk⟩:∃k,k=a+l/4*3:=⟨_,rfl⟩;have HP:Hid (choosePivot ltInt d a b=(let r:Nat × Nat:=if l≥8 then (if l≥50 then (let ri:=medianAdjacent ltInt d i 0;let rj:=medianAdjacent ltInt d j ri.2;let rk:=medianAdjacent ltInt d k rj.2;median ltInt d ri.1 rj.1 rk.1 rk.2) else median ltInt d i j k 0) else (j,0);(r.1,Xi r.2))):=by
  subst hi hj hk hl;rfl
 have w1:IntKind.i64.wrap ((b:Int)-(a:Int))=(l:Int):=by rw[IntKind.wrap_i64];omega
 have e1:(a:Int)+(l:Int)/4=(i:Int):=by omega
 have e2:(a:Int)+(l:Int)/4*2=(j:Int):=by omega
 have e3:(a:Int)+(l:Int)/4*3=(k:Int):=by omega
 have l8:l≥8:=by omega
 have bi:i<d.size/\i+1<j/\0<i:=by omega
 have bj:j+1<k:=by omega
 have bk:k+1<d.size:=by omega
 have hb2:l<=1000000:=by omega
 have ha2:a<=1000000:=by omega
 have hbox:=zf w (.cells #[.int .i64 0] 3);have hU1:=zH (h.kept (zc.of_below hbox (fun _=>False)) (fun h=>h));have hS1:SW (w.alloc (.cells #[.int .i64 0] 3)) w.heap.size 0:=⟨by simp,by simp⟩;have hne:w.heap.size≠g:=by omega
 have HB:=zH hbox;have HI:=zH hi;have HL:=zH hl;rw[HP.out,if_pos l8];clear h hi hj hk hl hbox HP;generalize hW:w.alloc (.cells #[.int .i64 0] 3)=W at *
 by_cases l50:l≥50
 ·rw[if_pos l50];have m1:=zaM d i 0 d.size (by omega);have H1:=zH (JQ g cap w.heap.size d i 0 W hU1.out hS1 hne (by omega) (by omega) hsz (by omega));obtain⟨p1,hp1⟩:∃p,p=medianAdjacent ltInt d i 0:=⟨_,rfl⟩;rw[<-hp1] at H1 m1 ⊢;obtain⟨x1,s1⟩:=p1;clear hp1;simp only at H1 m1 ⊢;have m2:=zaM d j s1 d.size (by omega);have H2:Hid (∀X,KS w.heap.size W X->SW X w.heap.size s1->_):=fun X hX hS=>JQ g cap w.heap.size d j s1 X (hU1.out.kept hX (fun e=>hne e.symm)) hS hne (by omega) (by omega) hsz (by omega);obtain⟨p2,hp2⟩:∃p,p=medianAdjacent ltInt d j s1:=⟨_,rfl⟩;rw[<-hp2] at H2 m2 ⊢;obtain⟨x2,s2⟩:=p2;clear hp2;simp only at H2 m2 ⊢;have m3:=zaM d k s2 d.size (by omega);have H3:Hid (∀X,KS w.heap.size W X->SW X w.heap.size s2->_):=fun X hX hS=>JQ g cap w.heap.size d k s2 X (hU1.out.kept hX (fun e=>hne e.symm)) hS hne (by omega) (by omega) hsz (by omega);obtain⟨p3,hp3⟩:∃p,p=medianAdjacent ltInt d k s2:=⟨_,rfl⟩;rw[<-hp3] at H3 m3 ⊢;obtain⟨x3,s3⟩:=p3;clear hp3;simp only at H3 m3 ⊢;have hm:=Jp d x1 x2 x3 s3 d.size m1.1 m2.1 m3.1;have H4:Hid (∀X,KS w.heap.size W X->SW X w.heap.size s3->_):=fun X hX hS=>KO g cap w.heap.size d x1 x2 x3 s3 X (hU1.out.kept hX (fun e=>hne e.symm)) hS hne m1.1 m2.1 m3.1 (by omega);obtain⟨p4,hp4⟩:∃p,p=median ltInt d x1 x2 x3 s3:=⟨_,rfl⟩;rw[<-hp4] at H4 hm ⊢;obtain⟨x,s⟩:=p4;clear hp4;simp only at H4 hm ⊢;have i50:(50:Int)<=(l:Int):=by omega
  have i8:(8:Int)<=(l:Int):=by omega
  go_enter Tryz.func130,Tryz.ntmps130;go_wp2_with fail;refine H1.out.mono ?_;rintro e w2 ⟨rfl,hS1,hK1⟩;have H2':=zH (H2.out w2 hK1 hS1);have K1:=zH hK1;clear hS1 hK1 H1 H2;go_wp2_with fail;refine H2'.out.mono ?_;rintro e w3 ⟨rfl,hS2,hK2⟩;have H3':=zH (H3.out w3 (K1.out.trans hK2) hS2);have K2:=zH (K1.out.trans hK2);clear hS2 hK2 H2' H3 K1;go_wp2_with fail;refine H3'.out.mono ?_;rintro e w4 ⟨rfl,hS3,hK3⟩;have H4':=zH (H4.out w4 (K2.out.trans hK3) hS3);have K3:=zH (K2.out.trans hK3);clear hS3 hK3 H3' H4 K2;go_wp2_with fail;refine H4'.out.mono ?_;rintro e w5 ⟨rfl,hS4,hK4⟩;have cs:=hS4.cell;have HBF:=zH ((HB.out.trans (((K3.out.trans hK4).below (B:=w.heap.size) (by have:=HB.out.size;omega) (fun i h=>by omega)))):zB w w5);clear hS4 hK4 H4' K3;have HSS:=zH hm
  by_cases h0s:s=0
  ·subst h0s;have cs2:w5.cell? ⟨w.heap.size,0,none⟩=some (.int .i64 0):=cs;clear cs;go_wp2;refine bodyPost_ret (v:=.tuple #[.int .i64 x,.int .i64 1]) (by simp[results,Tryz.results130,go_sem]) rfl ⟨rfl,HBF.out⟩
  by_cases h12:s=12
  ·subst h12;have cs2:w5.cell? ⟨w.heap.size,0,none⟩=some (.int .i64 12):=cs;clear cs;go_wp2;refine bodyPost_ret (v:=.tuple #[.int .i64 x,.int .i64 2]) (by simp[results,Tryz.results130,go_sem]) rfl ⟨rfl,HBF.out⟩
  ·have n0:(((s:Int))==0)=false:=by rw[beq_eq_false_iff_ne];omega
   have n12:(((s:Int))==12)=false:=by rw[beq_eq_false_iff_ne];omega
   have eh:Xi s=.unknown:=by unfold Xi;rw[if_neg h0s,if_neg h12]
   go_wp2;refine bodyPost_ret (v:=.tuple #[.int .i64 x,.int .i64 0]) (by simp[results,Tryz.results130,go_sem]) rfl ⟨by rw[eh];rfl,HBF.out⟩
 ·rw[if_neg l50];have i50:¬(50:Int)<=(l:Int):=by omega
  have i8:(8:Int)<=(l:Int):=by omega
  have H:=zH (KO g cap w.heap.size d i j k 0 W hU1.out hS1 hne (by omega) (by omega) (by omega) (by omega));have hm:=Jp d i j k 0 d.size (by omega) (by omega) (by omega);obtain⟨p,hp⟩:∃p,p=median ltInt d i j k 0:=⟨_,rfl⟩;rw[<-hp] at H hm ⊢;obtain⟨x,s⟩:=p;clear hp;simp only at H hm ⊢;go_enter Tryz.func130,Tryz.ntmps130;go_wp2_with fail;refine H.out.mono ?_;rintro e w2 ⟨rfl,hS2,hK2⟩;have cs:=hS2.cell;have HB2:=zH ((HB.out.trans ((hK2.below (B:=w.heap.size) (by have:=HB.out.size;omega) (fun i h=>by omega)))):zB w w2);clear hS2 hK2 H;have HBF:=HB2;have HSS:=zH hm
  by_cases h0s:s=0
  ·subst h0s;have cs2:w2.cell? ⟨w.heap.size,0,none⟩=some (.int .i64 0):=cs;clear cs;go_wp2;refine bodyPost_ret (v:=.tuple #[.int .i64 x,.int .i64 1]) (by simp[results,Tryz.results130,go_sem]) rfl ⟨rfl,HBF.out⟩
  by_cases h12:s=12
  ·subst h12;have cs2:w2.cell? ⟨w.heap.size,0,none⟩=some (.int .i64 12):=cs;clear cs;go_wp2;refine bodyPost_ret (v:=.tuple #[.int .i64 x,.int .i64 2]) (by simp[results,Tryz.results130,go_sem]) rfl ⟨rfl,HBF.out⟩
  ·have n0:(((s:Int))==0)=false:=by rw[beq_eq_false_iff_ne];omega
   have n12:(((s:Int))==12)=false:=by rw[beq_eq_false_iff_ne];omega
   have eh:Xi s=.unknown:=by unfold Xi;rw[if_neg h0s,if_neg h12]
   go_wp2;refine bodyPost_ret (v:=.tuple #[.int .i64 x,.int .i64 0]) (by simp[results,Tryz.results130,go_sem]) rfl ⟨by rw[eh];rfl,HBF.out⟩
end Go.Proofs.YtapobpgbcbplbaaGreatDoor.Sr
namespace Go.Proofs
open Go.Shelf
def Tryz.lays125_ren:Go.Shelf.Ren:=⟨fun|125=>80|128=>136|129=>137|n=>n,fun|46=>68|3=>3|51=>236|53=>223|4=>4|5=>5|9=>9|n=>n,fun|n=>n⟩
theorem Tryz.lays125:Go.Proofs.Lays.n125 Tryz.prog Tryz.lays125_ren:={
 mixed:=by kernel_rfl
 f125:=zK Tryz.func80 (by kernel_rfl)
 f128:=zK Tryz.func136 (by kernel_rfl)
 f129:=zK Tryz.func137 (by kernel_rfl)
 t3:=Tryz.underlying3
 a3:=Tryz.isAgg3
 z3:=Tryz.sizeOf3
 v3:=Tryz.zeroValue3
 t4:=Tryz.underlying4
 a4:=Tryz.isAgg4
 z4:=Tryz.sizeOf4
 v4:=Tryz.zeroValue4
 t5:=Tryz.underlying5
 a5:=Tryz.isAgg5
 z5:=Tryz.sizeOf5
 v5:=Tryz.zeroValue5
 t9:=Tryz.underlying9
 a9:=Tryz.isAgg9
 z9:=Tryz.sizeOf9
 v9:=Tryz.zeroValue9
 t46:=Tryz.underlying68
 a46:=Tryz.isAgg68
 z46:=Tryz.sizeOf68
 v46:=Tryz.zeroValue68
 t51:=Tryz.underlying236
 a51:=Tryz.isAgg236
 z51:=Tryz.sizeOf236
 v51:=Tryz.zeroValue236
 t53:=Tryz.underlying223
 a53:=Tryz.isAgg223
 z53:=Tryz.sizeOf223
 v53:=Tryz.zeroValue223 }
theorem Tryz.bits_Len(x:Int)(w:World)(h0:0<=x)(h1:x<=18446744073709551615) :
  zC 80 #[.int .u64 x] w fun e w'=>e=.returned (.int .i64 (Lib.bitLen x.toNat))/\w'=w:=Any.bits_Len Tryz.lays125 x w h0 h1
end Go.Proofs
namespace Go.Proofs.YtapobpgbcbplbaaGreatDoor.Sr
open Go.RowKit Go.Maps Go.Proofs.YtapobpgbcbplbaaGreatDoor.Bd Go.Proofs.YtapobpgbcbplbaaGreatDoor.Fm Go.Sort
theorem zdg:∀x:Fin 256,Lib.bitLen x.val=bitsLen x.val:=by decide +kernel
theorem zkB(n:Nat)(h0:0<n)(hn:n<256)(w:World):zC 167 #[.int .i64 n] w fun e w'=>(∃M:Nat,e=.returned (.int .u64 M)/\n<M/\M<=2*n)/\w'=w:=by
 have hL:=Tryz.bits_Len (n:Int) w (by omega) (by omega);have e:Lib.bitLen ((n:Int).toNat)=bitsLen n:=by rw[Int.toNat_natCast];exact zdg ⟨n,hn⟩
 have h1:=lt_two_pow_bitsLen n;have h2:=two_pow_bitsLen_le h0;rw[e] at hL;generalize bitsLen n=k at *;have hk:k<10:=by
  have:2^k<2^10:=by omega
  exact(Nat.pow_lt_pow_iff_right (by decide)).1 this
 have w1:IntKind.u64.wrap (n:Int)=(n:Int):=IntWalk.u64_in _ ⟨by omega,by omega⟩;have e2:(2:Int)^k=((2^k:Nat):Int):=by simp
 have w2:IntKind.u64.wrap ((2:Int)^k)=((2^k:Nat):Int):=by rw[e2];exact IntWalk.u64_in _ ⟨by omega,by omega⟩
 have HL:=zH hL;have HF:Hid (n<2^k/\2^k<=2*n):=⟨h1,h2⟩;clear hL e h1 h2 e2;go_enter Tryz.func167,Tryz.ntmps167;go_wp2_with fail;refine HL.out.mono ?_;rintro e w' ⟨rfl,rfl⟩;go_wp2;go_ret;exact⟨⟨2^k,by first|rfl|simp,HF.out.1,HF.out.2⟩,rfl⟩
theorem zcZ(x:Nat)(z:Int)(hx:x<18446744073709551616)(h0:0<=z)(h1:z<18446744073709551616):∃y:Nat,y<18446744073709551616/\bits .xor .u64 (x:Int) z=(y:Int):=by
 obtain⟨m,rfl⟩:∃m:Nat,z=(m:Int):=⟨z.toNat,by omega⟩;have hm:m<18446744073709551616:=by omega
 exact⟨x^^^m,Nat.xor_lt_two_pow (n:=64) hx hm,u64_xor_nat x m hx hm⟩
theorem za8(x:Nat)(s:Int)(hx:x<18446744073709551616):∃y:Nat,y<18446744073709551616/\bits .xor .u64 (x:Int) (IntKind.u64.wrap ((x:Int)*s))=(y:Int) :=
 zcZ x _ hx (by rw[IntKind.wrap_u64];omega) (by rw[IntKind.wrap_u64];omega)
theorem zmO(x:Nat)(hx:x<18446744073709551616):∃y:Nat,y<18446744073709551616/\bits .xor .u64 (x:Int) ((x:Int)/128)=(y:Int) :=
 zcZ x _ hx (by omega) (by omega)
theorem Jf(rb x:Nat)(hx:x<18446744073709551616)(w:World)(c:w.cell? ⟨rb,0,none⟩=some (.int .u64 x))(f:w.frozen? ⟨rb,0,none⟩=false) :
  zC 168 #[.pointer (some ⟨rb,0,none⟩)] w fun e w'=>∃v:Nat,v<18446744073709551616/\e=.returned (.int .u64 v)/\w'.cell? ⟨rb,0,none⟩=some (.int .u64 v)/\w'.frozen? ⟨rb,0,none⟩=false/\zc (fun j=>j=rb) w w':=by
 go_enter Tryz.func168,Tryz.ntmps168;go_wp2_with fail;have HK1:Hid (∀v:Nat,(((w.setCell ⟨rb,0,none⟩ (.int .u64 v)).drew).cell? ⟨rb,0,none⟩=some (.int .u64 v)/\((w.setCell ⟨rb,0,none⟩ (.int .u64 v)).drew).frozen? ⟨rb,0,none⟩=false)/\zc (fun j=>j=rb) w (w.setCell ⟨rb,0,none⟩ (.int .u64 v)).drew):=fun v=>⟨⟨World.cell?_setCell_same _ _ _ c,by show (World.setCell _ _ _).frozen? _=false;rw[World.frozen?_setCell];exact f⟩,(zc.setCell (S:=fun j=>j=rb) w ⟨rb,0,none⟩ _ rfl).drew⟩;obtain⟨x1,hx1,e1⟩:=za8 x 8192 hx;go_region;obtain⟨⟨c1,f1⟩,k1⟩:=HK1.out x1;clear e1 c f HK1;generalize (w.setCell ⟨rb,0,none⟩ (.int .u64 x1)).drew=w1 at *;have c:=c1;have f:=f1;have K1:=zH k1;clear c1 f1 k1;go_wp2_with fail;have HK2:Hid (∀v:Nat,(((w1.setCell ⟨rb,0,none⟩ (.int .u64 v)).drew).cell? ⟨rb,0,none⟩=some (.int .u64 v)/\((w1.setCell ⟨rb,0,none⟩ (.int .u64 v)).drew).frozen? ⟨rb,0,none⟩=false)/\zc (fun j=>j=rb) w1 (w1.setCell ⟨rb,0,none⟩ (.int .u64 v)).drew):=fun v=>⟨⟨World.cell?_setCell_same _ _ _ c,by show (World.setCell _ _ _).frozen? _=false;rw[World.frozen?_setCell];exact f⟩,(zc.setCell (S:=fun j=>j=rb) w1 ⟨rb,0,none⟩ _ rfl).drew⟩;obtain⟨x2,hx2,e2⟩:=zmO x1 hx1;go_region;obtain⟨⟨c2,f2⟩,k2⟩:=HK2.out x2;clear e2 c f HK2;generalize (w1.setCell ⟨rb,0,none⟩ (.int .u64 x2)).drew=w2 at *;have c:=c2;have f:=f2;have K2:=zH (K1.out.trans k2);clear c2 f2 k2;go_wp2_with fail;have HK3:Hid (∀v:Nat,(((w2.setCell ⟨rb,0,none⟩ (.int .u64 v)).drew).cell? ⟨rb,0,none⟩=some (.int .u64 v)/\((w2.setCell ⟨rb,0,none⟩ (.int .u64 v)).drew).frozen? ⟨rb,0,none⟩=false)/\zc (fun j=>j=rb) w2 (w2.setCell ⟨rb,0,none⟩ (.int .u64 v)).drew):=fun v=>⟨⟨World.cell?_setCell_same _ _ _ c,by show (World.setCell _ _ _).frozen? _=false;rw[World.frozen?_setCell];exact f⟩,(zc.setCell (S:=fun j=>j=rb) w2 ⟨rb,0,none⟩ _ rfl).drew⟩;obtain⟨x3,hx3,e3⟩:=za8 x2 131072 hx2;go_region;obtain⟨⟨c3,f3⟩,k3⟩:=HK3.out x3;clear e3 c f HK3;generalize (w2.setCell ⟨rb,0,none⟩ (.int .u64 x3)).drew=w3 at *;have c:=c3;have f:=f3;have K3:=zH (K2.out.trans k3);clear c3 f3 k3;go_wp2_with fail;go_ret;exact⟨x3,hx3,rfl,c,f,K3.out⟩
theorem zie(g cap:Nat)(d:Array Int)(a b:Nat)(w:World)(h:UR w g d)(hab:a+8<=b)(hb:b<=d.size)(hsz:d.size<256) :
  zC 129 #[.slice (some ⟨g,0,none⟩) d.size cap,.int .i64 a,.int .i64 b] w fun e w'=>∃d',e=.returned (.tuple #[])/\UR w' g d'/\PermIn a b d d'/\KG g w w':=by
 have gl:=h.lt;have h0:=zH h;obtain⟨n,hn⟩:∃n,n=d.size:=⟨_,rfl⟩;obtain⟨l,hl⟩:∃l,l=b-a:=⟨_,rfl⟩;obtain⟨q,hq⟩:∃q,q=l/4*2:=⟨_,rfl⟩;rw[<-hn] at hb hsz ⊢;have HN:=zH hn;have w1:IntKind.i64.wrap ((b:Int)-(a:Int))=(l:Int):=by rw[IntKind.wrap_i64];omega
 have w2:IntKind.u64.wrap (l:Int)=(l:Int):=IntWalk.u64_in _ ⟨by omega,by omega⟩;have q1:(l:Int)/4*2=(q:Int):=by omega
 have bl:8<=l/\a+l<=n/\l<256/\0<q/\q+2<=l:=by omega
 have bl8:(8:Int)<=(l:Int):=by omega
 have bl9:l<=256:=by omega
 have HL:=zH hl;have HAB:Hid (a+l=b):=by show _=_;omega
 have HP:=fun W=>zH (zkB l (by omega) (by omega) W);clear h hn hl hq;have hbox:=zf w (.cells #[.int .u64 l] 272);go_enter Tryz.func129,Tryz.ntmps129;go_wp2_with fail;refine(HP _).out.mono ?_;rintro e w3 ⟨⟨M,rfl,hM1,hM2⟩,rfl⟩;have hb8:(w.alloc (.cells #[.int .u64 l] 272)).cell? ⟨w.heap.size,0,none⟩=some (.int .u64 l)/\(w.alloc (.cells #[.int .u64 l] 272)).frozen? ⟨w.heap.size,0,none⟩=false:=by simp
 have HU1:=zH (h0.out.kept (zc.of_below hbox (fun j=>j=g/\False)) (fun h=>h.2));have HK1:Hid (KG g w (w.alloc (.cells #[.int .u64 l] 272))):=zc.of_below hbox _;have HB8:=zH hb8;clear hbox hb8 HP;generalize (w.alloc (.cells #[.int .u64 l] 272))=W1 at *;have hrg:w.heap.size≠g:=by omega
 obtain⟨I0,hI0⟩:∃I0,I0=a+q-1:=⟨_,rfl⟩;obtain⟨I2,hI2⟩:∃I2,I2=a+q+1:=⟨_,rfl⟩;have r1:(a:Int)+(q:Int)-1=(I0:Int):=by omega
 have r2:(a:Int)+(q:Int)+1=(I2:Int):=by omega
 have bI:I0+2=I2/\a<=I0/\I2<a+l:=by omega
 clear hI0 hI2;go_wp2_with fail;go_loopw [9] (fun iV wr=>∃(i x:Nat) (dk:Array Int),iV=.int .i64 i/\I0<=i/\i<=I2+1/\dk.size=n/\x<18446744073709551616/\wr.cell? ⟨w.heap.size,0,none⟩=some (.int .u64 x)/\wr.frozen? ⟨w.heap.size,0,none⟩=false/\UR wr g dk/\PermIn a b d dk/\KG g w wr) (fun iV _=>I2+1-(intOf iV).toNat)
 case atStart=>exact⟨I0,l,d,by first|rfl|go_num|(congr 1;omega),by omega,by omega,HN.out.symm,by omega,HB8.out.1,HB8.out.2,HU1.out,permIn_refl d a b,HK1.out⟩
 case round =>
  obtain⟨i,x,dk,rfl,b1,b2,hdk,hx,hcx,hfx,hU,hPM,hK⟩:=hrel;clear HU1 HK1 HB8;have hdsz:=zH hdk;have HPM:=zH hPM
  by_cases hle:i<=I2
  ·have hle2:(i:Int)<=(I2:Int):=by omega
   have HNX:=zH (Jf w.heap.size x hx wr hcx hfx);have HU:=zH hU;have HK:=zH hK;have HLT:=zH (Zv hcx).lt;clear hcx hfx hU hK hPM hdk hx;go_wp2_with fail;refine HNX.out.mono ?_;rintro e w4 ⟨v,hv,rfl,hc4,hf4,hk4⟩;have HU4:=zH (HU.out.kept hk4 (fun e=>hrg e.symm));have HK4:Hid (KG g w w4):=HK.out.andThen hk4 (fun j hj hl=>by omega);have HC4:=zH hc4;have HF4:=zH hf4;have HV:=zH hv;obtain⟨o,ho⟩:∃o,o=v&&&(M-1):=⟨_,rfl⟩;have ea:bits .and .u64 (v:Int) ((M:Int)-1)=(o:Int):=by
    rw[show (M:Int)-1=((M-1:Nat):Int) by omega,ho];exact bits_and_u64_nat v (M-1) hv (by omega)
   have hoM:o<=M-1:=by rw[ho];exact Nat.and_le_right
   clear hc4 hf4 hk4 hv ho HNX HU HK;have hi2:i<n/\a<=i/\i<b:=by have:=HAB.out;omega
   by_cases hol:l<=o
   ·have io:(l:Int)<=(o:Int):=by omega
    obtain⟨o2,ho2⟩:∃o2,o2=o-l:=⟨_,rfl⟩;have wo1:(o:Int)-(l:Int)=(o2:Int):=by omega
    have bo2:o2<l:=by omega
    clear ho2
    by_cases hij:i=a+o2
    ·subst hij;have hdi:a+o2<dk.size:=by have:=hdsz.out;omega
     have hU:=HU4.out;have cx:=hU.cell (a+o2) hdi;have fx:=hU.froz (a+o2) hdi;have ij2:(a:Int)+(o2:Int)<(n:Int):=by omega
     obtain⟨x1,hx1⟩:∃x,x=dk[a+o2]! := ⟨_,rfl⟩;have kk:=(KG.swp (g:=g) w4 (a+o2) (a+o2) (.int .u64 x1) (.int .u64 x1)).drew;have lt4:w.heap.size<w4.heap.size:=(Zv HC4.out).lt;have h1:=(kk.cell (a:=⟨w.heap.size,0,none⟩) lt4 hrg).trans HC4.out;have h2:=(kk.frozen (a:=⟨w.heap.size,0,none⟩) lt4 hrg).trans HF4.out;have h3:=(hU.swp hdi hdi hx1 hx1).drew;have h4:=permIn_trans _ _ _ a b HPM.out (swp_permIn dk a b (a+o2) (a+o2) (by omega) (by have:=HAB.out;omega) (by omega) (by have:=HAB.out;omega) (by have:=hdsz.out;have:=HAB.out;omega));have HR:=zH (⟨h1,h2,h3,h4,HK4.out.trans kk⟩:_/\_/\_/\_/\_);rw[<-hx1] at cx;clear hU hx1 h1 h2 h3 h4 kk;go_wp2_with fail;go_region;go_wp2;go_roundw
     case rel =>
      obtain⟨h1,h2,h3,h4,h5⟩:=HR.out
      first|exact⟨a+o2+1,v,_,by first|rfl|go_num|(congr 1;omega),by omega,by omega,by rw[qP];exact hdsz.out,HV.out,h1,h2,h3,h4,h5⟩|((repeat apply Exists.intro);exact⟨⟨a+o2+1,v,_,by first|rfl|go_num|(congr 1;omega),by omega,by omega,by rw[qP];exact hdsz.out,HV.out,h1,h2,h3,h4,h5⟩,rfl⟩)
     case measure=>first|(simp[intOf];done)|(simp[intOf];omega)
    ·have bj:i<dk.size/\(a+o2)<dk.size:=by have:=hdsz.out;omega
     have hU:=HU4.out;have cx:=hU.cell i bj.1;have fx:=hU.froz i bj.1;have cy:=hU.cell (a+o2) bj.2;have fy:=hU.froz (a+o2) bj.2;have ij1:(i:Int)<(n:Int):=by omega
     have ij2:(a:Int)+(o2:Int)<(n:Int):=by omega
     obtain⟨x1,hx1⟩:∃x,x=dk[i]! := ⟨_,rfl⟩;obtain⟨y1,hy1⟩:∃y,y=dk[a+o2]! := ⟨_,rfl⟩;have HR:Hid (∃(i2 x2:Nat) (de:Array Int),Value.int .i64 ((i:Int)+1)=.int .i64 i2/\I0<=i2/\i2<=I2+1/\de.size=n/\x2<18446744073709551616/\((w4.setCell ⟨g,i,none⟩ (.int .u64 y1)).setCell ⟨g,(a+o2),none⟩ (.int .u64 x1)).drew.cell? ⟨w.heap.size,0,none⟩=some (.int .u64 x2)/\((w4.setCell ⟨g,i,none⟩ (.int .u64 y1)).setCell ⟨g,(a+o2),none⟩ (.int .u64 x1)).drew.frozen? ⟨w.heap.size,0,none⟩=false/\UR ((w4.setCell ⟨g,i,none⟩ (.int .u64 y1)).setCell ⟨g,(a+o2),none⟩ (.int .u64 x1)).drew g de/\PermIn a b d de/\KG g w ((w4.setCell ⟨g,i,none⟩ (.int .u64 y1)).setCell ⟨g,(a+o2),none⟩ (.int .u64 x1)).drew):=by
      have kk:=(KG.swp (g:=g) w4 i (a+o2) (.int .u64 y1) (.int .u64 x1)).drew;have lt4:w.heap.size<w4.heap.size:=(Zv HC4.out).lt;exact⟨i+1,v,swp dk i (a+o2),by first|rfl|go_num|(congr 1;omega),by omega,by omega,by rw[qP];exact hdsz.out,HV.out,(kk.cell (a:=⟨w.heap.size,0,none⟩) lt4 hrg).trans HC4.out,(kk.frozen (a:=⟨w.heap.size,0,none⟩) lt4 hrg).trans HF4.out,(hU.swp bj.1 bj.2 hx1 hy1).drew,permIn_trans _ _ _ a b HPM.out (swp_permIn dk a b i (a+o2) (by omega) (by omega) (by have:=HAB.out;omega) (by have:=HAB.out;omega) (by have:=hdsz.out;omega)),HK4.out.trans kk⟩
     rw[<-hx1] at cx;rw[<-hy1] at cy;clear hU hx1 hy1 bj;go_wp2_with fail;go_region;go_wp2;go_roundw
     case rel=>first|exact HR.out|((repeat apply Exists.intro);exact⟨HR.out,rfl⟩)
     case measure=>first|(simp[intOf];done)|(simp[intOf];omega)
   ·have io:¬(l:Int)<=(o:Int):=by omega
    have bo2:o<l:=by omega
    by_cases hij:i=a+o
    ·subst hij;have hdi:a+o<dk.size:=by have:=hdsz.out;omega
     have hU:=HU4.out;have cx:=hU.cell (a+o) hdi;have fx:=hU.froz (a+o) hdi;have ij2:(a:Int)+(o:Int)<(n:Int):=by omega
     obtain⟨x1,hx1⟩:∃x,x=dk[a+o]! := ⟨_,rfl⟩;have kk:=(KG.swp (g:=g) w4 (a+o) (a+o) (.int .u64 x1) (.int .u64 x1)).drew;have lt4:w.heap.size<w4.heap.size:=(Zv HC4.out).lt;have h1:=(kk.cell (a:=⟨w.heap.size,0,none⟩) lt4 hrg).trans HC4.out;have h2:=(kk.frozen (a:=⟨w.heap.size,0,none⟩) lt4 hrg).trans HF4.out;have h3:=(hU.swp hdi hdi hx1 hx1).drew;have h4:=permIn_trans _ _ _ a b HPM.out (swp_permIn dk a b (a+o) (a+o) (by omega) (by have:=HAB.out;omega) (by omega) (by have:=HAB.out;omega) (by have:=hdsz.out;have:=HAB.out;omega));have HR:=zH (⟨h1,h2,h3,h4,HK4.out.trans kk⟩:_/\_/\_/\_/\_);rw[<-hx1] at cx;clear hU hx1 h1 h2 h3 h4 kk;go_wp2_with fail;go_region;go_wp2;go_roundw
     case rel =>
      obtain⟨h1,h2,h3,h4,h5⟩:=HR.out
      first|exact⟨a+o+1,v,_,by first|rfl|go_num|(congr 1;omega),by omega,by omega,by rw[qP];exact hdsz.out,HV.out,h1,h2,h3,h4,h5⟩|((repeat apply Exists.intro);exact⟨⟨a+o+1,v,_,by first|rfl|go_num|(congr 1;omega),by omega,by omega,by rw[qP];exact hdsz.out,HV.out,h1,h2,h3,h4,h5⟩,rfl⟩)
     case measure=>first|(simp[intOf];done)|(simp[intOf];omega)
    ·have bj:i<dk.size/\(a+o)<dk.size:=by have:=hdsz.out;omega
     have hU:=HU4.out;have cx:=hU.cell i bj.1;have fx:=hU.froz i bj.1;have cy:=hU.cell (a+o) bj.2;have fy:=hU.froz (a+o) bj.2;have ij1:(i:Int)<(n:Int):=by omega
     have ij2:(a:Int)+(o:Int)<(n:Int):=by omega
     obtain⟨x1,hx1⟩:∃x,x=dk[i]! := ⟨_,rfl⟩;obtain⟨y1,hy1⟩:∃y,y=dk[a+o]! := ⟨_,rfl⟩;have HR:Hid (∃(i2 x2:Nat) (de:Array Int),Value.int .i64 ((i:Int)+1)=.int .i64 i2/\I0<=i2/\i2<=I2+1/\de.size=n/\x2<18446744073709551616/\((w4.setCell ⟨g,i,none⟩ (.int .u64 y1)).setCell ⟨g,(a+o),none⟩ (.int .u64 x1)).drew.cell? ⟨w.heap.size,0,none⟩=some (.int .u64 x2)/\((w4.setCell ⟨g,i,none⟩ (.int .u64 y1)).setCell ⟨g,(a+o),none⟩ (.int .u64 x1)).drew.frozen? ⟨w.heap.size,0,none⟩=false/\UR ((w4.setCell ⟨g,i,none⟩ (.int .u64 y1)).setCell ⟨g,(a+o),none⟩ (.int .u64 x1)).drew g de/\PermIn a b d de/\KG g w ((w4.setCell ⟨g,i,none⟩ (.int .u64 y1)).setCell ⟨g,(a+o),none⟩ (.int .u64 x1)).drew):=by
      have kk:=(KG.swp (g:=g) w4 i (a+o) (.int .u64 y1) (.int .u64 x1)).drew;have lt4:w.heap.size<w4.heap.size:=(Zv HC4.out).lt;exact⟨i+1,v,swp dk i (a+o),by first|rfl|go_num|(congr 1;omega),by omega,by omega,by rw[qP];exact hdsz.out,HV.out,(kk.cell (a:=⟨w.heap.size,0,none⟩) lt4 hrg).trans HC4.out,(kk.frozen (a:=⟨w.heap.size,0,none⟩) lt4 hrg).trans HF4.out,(hU.swp bj.1 bj.2 hx1 hy1).drew,permIn_trans _ _ _ a b HPM.out (swp_permIn dk a b i (a+o) (by omega) (by omega) (by have:=HAB.out;omega) (by have:=HAB.out;omega) (by have:=hdsz.out;omega)),HK4.out.trans kk⟩
     rw[<-hx1] at cx;rw[<-hy1] at cy;clear hU hx1 hy1 bj;go_wp2_with fail;go_region;go_wp2;go_roundw
     case rel=>first|exact HR.out|((repeat apply Exists.intro);exact⟨HR.out,rfl⟩)
     case measure=>first|(simp[intOf];done)|(simp[intOf];omega)
  ·have hle2:¬(i:Int)<=(I2:Int):=by omega
   clear hcx hfx;go_wp2
   first|refine bodyPost_end (v:=.tuple #[]) (by simp[results,go_sem]) rfl ?_|refine bodyPost_end (v:=.tuple #[]) (by simp[results,Tryz.results129,go_sem]) rfl ?_
   first|exact⟨rfl,dk,hU,hPM,hK⟩|exact⟨dk,rfl,hU,hPM,hK⟩
  end Go.Proofs.YtapobpgbcbplbaaGreatDoor.Sr
namespace Go.Proofs.YtapobpgbcbplbaaGreatDoor.Sr
open Go.RowKit Go.Maps Go.Proofs.YtapobpgbcbplbaaGreatDoor.Bd Go.Proofs.YtapobpgbcbplbaaGreatDoor.Fm Go.Sort
theorem zjO{a j:Nat}{d:Array Int}(hj:a<j)(hl:ltInt d[j]! d[j-1]! = true):insInner ltInt a j d=insInner ltInt a (j-1) (swp d j (j-1)):=by
 obtain⟨k,rfl⟩:∃k,j=k+1:=⟨j-1,by omega⟩;have hl':ltInt d[k+1]! d[k]! = true:=hl;show (if (decide (k+1>a)&&ltInt d[k+1]! d[k]!)=true then _ else _)=_;rw[if_pos (by simp[hl'];omega)];rfl
theorem zb2{a j:Nat}{d:Array Int}(h:a<j->ltInt d[j]! d[j-1]! = false):insInner ltInt a j d=d:=by
 cases j with
 |zero=>rfl
 |succ k =>
  show (if (decide (k+1>a)&&ltInt d[k+1]! d[k]!)=true then _ else _)=_
  by_cases e:a<k+1
  ·rw[if_neg (by have:=h e;simp at this;simp[this])]
  ·rw[if_neg (by simp;omega)]
theorem zjd(g cap:Nat)(d:Array Int)(a b:Nat)(w:World)(h:UR w g d)(hab:a<=b)(hb:b<=d.size)(hsz:d.size<=1000000) :
  zC 127 #[.slice (some ⟨g,0,none⟩) d.size cap,.int .i64 a,.int .i64 b] w fun e w'=>e=.returned (.tuple #[])/\UR w' g (insertionSort ltInt d a b)/\KG g w w':=by
 have h0:=zH h;obtain⟨n,hn⟩:∃n,n=d.size:=⟨_,rfl⟩;rw[<-hn] at hb hsz ⊢;have HN:=zH hn;have hw1:IntKind.i64.wrap ((a:Int)+1)=((a+1:Nat):Int):=by rw[IntKind.wrap_i64];omega
 clear h hn;go_enter Tryz.func127,Tryz.ntmps127;go_wp2_with fail;go_loopw [6] (fun iV wr=>∃(i:Nat) (dk:Array Int),iV=.int .i64 i/\a<i/\i<=b+1/\dk.size=n/\UR wr g dk/\KG g w wr/\insOuter ltInt a b i dk=insOuter ltInt a b (a+1) d) (fun iV _=>b+1-(intOf iV).toNat)
 case atStart=>exact⟨a+1,d,rfl,by omega,by omega,HN.out.symm,h0.out,zc.refl _ _,rfl⟩
 case round =>
  obtain⟨i,dk,rfl,hai,hi,hdk,hU,hK,heq⟩:=hrel;clear hw1
  by_cases hlt:i<b
  ·have i1:(i:Int)<(b:Int):=by omega
   have HO:Hid (insOuter ltInt a b (i+1) (insInner ltInt a i dk)=insOuter ltInt a b (a+1) d):=by
    have e:insOuter ltInt a b i dk=insOuter ltInt a b (i+1) (insInner ltInt a i dk):=by rw[insOuter,if_pos hlt]
    rw[<-e];exact heq
   have HST:Hid (∃(j:Nat) (dj:Array Int),Value.int .i64 i=.int .i64 j/\j<=i/\dj.size=n/\UR wr g dj/\KG g w wr/\insInner ltInt a j dj=insInner ltInt a i dk):=⟨i,dk,rfl,Nat.le_refl _,hdk,hU,hK,rfl⟩;clear heq hU hK hdk;go_wp2_with fail;go_loopw [7] (fun jV wq=>∃(j:Nat) (dj:Array Int),jV=.int .i64 j/\j<=i/\dj.size=n/\UR wq g dj/\KG g w wq/\insInner ltInt a j dj=insInner ltInt a i dk) (fun jV _=>(intOf jV).toNat)
   case atStart=>exact HST.out
   case round =>
    obtain⟨j,dj,rfl,hji,hdj,hU,hK,heq⟩:=hrel;clear HST;have hwi:IntKind.i64.wrap ((i:Int)+1)=((i+1:Nat):Int):=by rw[IntKind.wrap_i64];omega
    by_cases haj:a<j
    ·have k1:(a:Int)<(j:Int):=by omega
     have cx:=hU.cell j (by omega);have cy:=hU.cell (j-1) (by omega);have fx:=hU.froz j (by omega);have fy:=hU.froz (j-1) (by omega);have HU:Hid (∀m x y,x=dj[j]! -> y=dj[j-1]! -> UR (((wr.drewN m).setCell ⟨g,j,none⟩ (.int .u64 y)).setCell ⟨g,j-1,none⟩ (.int .u64 x)) g (swp dj j (j-1))):=fun m x y hx hy=>(hU.drewN m).swp (by omega) (by omega) hx hy;have HK:Hid (∀m u v,KG g w (((wr.drewN m).setCell ⟨g,j,none⟩ u).setCell ⟨g,j-1,none⟩ v)):=fun m u v=>(hK.drewN m).trans (KG.swp _ _ _ _ _);obtain⟨x,hx⟩:∃x,x=dj[j]! := ⟨_,rfl⟩;obtain⟨y,hy⟩:∃y,y=dj[j-1]! := ⟨_,rfl⟩;have HU2:Hid (∀m,UR (((wr.drewN m).setCell ⟨g,j,none⟩ (.int .u64 y)).setCell ⟨g,j-1,none⟩ (.int .u64 x)) g (swp dj j (j-1))):=fun m=>HU.out m x y hx hy;have w3:IntKind.i64.wrap ((j:Int)-1)=((j-1:Nat):Int):=by rw[IntKind.wrap_i64];omega
     have hne:¬j=j-1:=by omega
     have i2:(j:Int)<(n:Int):=by omega
     have i3:((j-1:Nat):Int)<(n:Int):=by omega
     have hjm:j-1<j:=by omega
     have hds:Hid ((swp dj j (j-1)).size=n):=by show _=_;rw[qP,hdj]
     have HUD:Hid (∀m,UR (wr.drewN m) g dj):=hU.drewN;have HKD:Hid (∀m,KG g w (wr.drewN m)):=hK.drewN;have hds2:=zH hdj;have HLT:Hid (∀B:Bool,decide (x<y)=B->ltInt dj[j]! dj[j-1]! = B):=fun B hB=>by rw[<-hx,<-hy];exact hB
     have HEQ:=zH heq;rw[<-hx] at cx;rw[<-hy] at cy;obtain⟨jm,hjm2⟩:∃jm,jm=j-1:=⟨_,rfl⟩;have HJM:=zH hjm2;rw[<-hjm2] at cy fy w3 hne i3 hjm hds HU2 HK;clear hU hK HU heq hx hy hdj hjm2
     by_cases hxy:x<y
     ·have hl:=HLT.out true (by simpa using hxy);have HQ:=zH ((zjO haj hl).symm.trans HEQ.out);have hd:decide (x<y)=true:=by simpa using hxy
      clear HLT HEQ hl HUD HKD;go_wp2_with fail;go_quiet (first|(go_at_call 133;refine Calls.quiet_of_same (qR _ _ _)));go_wp2_with fail;go_region;go_wp2;go_roundw
      case rel=>exact⟨jm,swp dj j jm,rfl,by omega,hds.out,HU2.out _,HK.out _ _ _,by rw[HJM.out];exact HQ.out⟩
      case measure=>simp[intOf];omega
     ·have hl:=HLT.out false (by simpa using hxy);have HQ:=zH ((zb2 (a:=a) (fun _=>hl)).symm.trans HEQ.out);have hd:decide (x<y)=false:=by simpa using hxy
      clear HLT HEQ hl HU2 HK;go_wp2_with fail;go_quiet (first|(go_at_call 133;refine Calls.quiet_of_same (qR _ _ _)));go_wp2;go_roundw
      case rel=>exact⟨i+1,dj,by go_num,by omega,by omega,hds2.out,HUD.out _,HKD.out _,by rw[HQ.out];exact HO.out⟩
      case measure=>simp[intOf];omega
    ·have k1:decide ((a:Int)<(j:Int))=false:=by simp;omega
     have HQ:=zH ((zb2 (a:=a) (j:=j) (d:=dj) (fun h=>absurd h haj)).symm.trans heq);have HUD:Hid (∀m,UR (wr.drewN m) g dj):=hU.drewN;have HKD:Hid (∀m,KG g w (wr.drewN m)):=hK.drewN;have hds2:=zH hdj;clear hU hK heq hdj;go_wp2_with fail;go_quiet (fail);go_wp2;go_roundw
     case rel=>exact⟨i+1,dj,by go_num,by omega,by omega,hds2.out,HUD.out _,HKD.out _,by rw[HQ.out];exact HO.out⟩
     case measure=>simp[intOf];omega
  ·have HD:=zH heq;clear heq;have i1:¬(i:Int)<(b:Int):=by omega
   go_wp2;refine bodyPost_end (v:=.tuple #[]) (by simp[results,Tryz.results127,go_sem]) rfl ⟨rfl,?_,hK⟩;have:=HD.out;rw[insOuter,if_neg hlt] at this;rw[insertionSort,<-this];exact hU
end Go.Proofs.YtapobpgbcbplbaaGreatDoor.Sr
