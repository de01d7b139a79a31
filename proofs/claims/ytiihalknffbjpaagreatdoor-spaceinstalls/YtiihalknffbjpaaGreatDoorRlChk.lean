/- The reference: lineCheck. -/
import Derived.Test.YtiihalknffbjpaaGreatDoorSvRParW
set_option maxHeartbeats 4000000
set_option maxRecDepth 100000
namespace Go.Proofs.YtiihalknffbjpaaGreatDoor
section
open Go.RowKit Go.Shelf Sv
structure zbN(w:World)(ad:Addr)(cap:Nat):Prop where
 c:w.cell? ⟨1,0,none⟩=some (.slice (some ad) 5 cap)
 s:∀j,j<5->w.cell? (ad.add j)=some (.string ⟨(wl j).toArray⟩)
 lt:1<w.heap.size
 la:ad.block<w.heap.size
theorem zbN.below{w w':World}{ad:Addr}{cap:Nat}(h:zbN w ad cap)(hb:zB w w'):zbN w' ad cap :=
 ⟨(hb.cell (p:=⟨1,0,none⟩) h.lt).trans h.c,fun j hj=>(hb.cell (p:=ad.add j) (by rw[zb8];exact h.la)).trans (h.s j hj),Nat.lt_of_lt_of_le h.lt hb.size,Nat.lt_of_lt_of_le h.la hb.size⟩
def zhq:Option Nat->Int
 |none=>-1
 |some i=>(i:Int)
def zl0:Ln:=⟨0,⟨#[]⟩,0,0,0,⟨#[]⟩,[]⟩
def zym(x:Ln)(k p:Int):Except (Int × Option Nat) Ln->Prop
 |.ok y=>x=y/\k=0/\p=-1
 |.error (q,o)=>x=zl0/\k=q/\p=zhq o
def zne(w:World)(r:Except (Int × Option Nat) Ln)(e:Ending)(w':World):Prop:=∃(x:Ln) (a:Option Addr) (c:Nat) (k p:Int),e=.returned (.tuple #[.agg #[.int .i64 x.kind,.string x.name,.int .i64 x.a,.int .i64 x.b,.int .i64 x.c,.string x.other,.slice a (tp x.rng).length c],.agg #[.int .i64 k,.int .i64 p]])/\zcj w' (.slice a (tp x.rng).length c) (tp x.rng)/\Rg x.rng/\(∀g,(Value.slice a (tp x.rng).length c).ownBlock=some g->w.heap.size<=g)/\zB w w'/\zym x k p r
theorem zlU(s:ByteArray)(W:World)(hs:s.size<=100000)(hw:Lb W)(hF:zdz W):zC 47 #[.string s] W fun e w'=>∃ (l:List zau) (a:Option Addr) (c:Nat) (k p:Int),e=.returned (.tuple #[.slice a (tp l).length c,.agg #[.int .i64 k,.int .i64 p]])/\zcj w' (.slice a (tp l).length c) (tp l)/\Rg l/\(∀ g,(Value.slice a (tp l).length c).ownBlock=some g->W.heap.size<=g)/\zB W w'/\(match znL s with
  |.ok m=>l=m/\k=0/\p=-1
  | .error (q,o)=>l=[]/\k=q/\p=zhq o):=by
 unfold znL
 by_cases h:1000<s.size
 ·rw[if_pos h];exact(zkR s W (by omega)).mono fun e w' ⟨he,hb⟩=>⟨[],none,0,4,-1,he,zbz _,zdB,(fun g hg=>by simp[Value.ownBlock] at hg),hb,rfl,rfl,rfl⟩
 ·rw[if_neg h];refine(zn2 s W (by omega) hw hF).mono fun e w' ⟨m,a,c,k,p,he,h1,h2,h3,h4⟩=>?_;cases hx:zc7 s with
  |ok l =>rw[hx] at h4;obtain⟨rfl,rfl,rfl⟩:=h4;exact⟨l,a,c,0,-1,he,h1,zjf hx,h2,h3,rfl,rfl,rfl⟩
  |error q =>obtain⟨q1,q2⟩:=q;rw[hx] at h4;obtain⟨rfl,rfl,rfl⟩:=h4;exact⟨[],a,c,_,_,he,h1,zdB,h2,h3,rfl,rfl,rfl⟩
theorem zgJ{s:ByteArray}{k:Nat}(hk:1<=k)(hk4:k<=4):((⟨(wl k).toArray⟩:ByteArray).toList==s.toList)=decide (za6 s=k):=by
 have e:(⟨(wl k).toArray⟩:ByteArray).toList=wl k:=ByteArray.toList_eq _;rw[e,Bool.eq_iff_iff,beq_iff_eq,decide_eq_true_iff];constructor
 ·intro h;exact zlW hk hk4 h.symm
 ·intro h;unfold za6 at h;split at h
  ·rename_i h1;subst h;rw[h1];rfl
  ·split at h
   ·rename_i h1;subst h;rw[h1];rfl
   ·split at h
    ·rename_i h1;subst h;rw[h1];rfl
    ·split at h
     ·rename_i h1;subst h;rw[h1];rfl
     ·omega
structure LR(w W:World)(b:Nat)(cs:Array Value):Prop where
 z:Blk W w.heap.size 101 z7
 f:Blk W (w.heap.size+1) 96 #[.int .i64 0,.int .i64 0]
 x:Blk W b 101 cs
 ne:w.heap.size+1<b
 B:zB w W
theorem LR.step{w W W':World}{b:Nat}{cs:Array Value}(h:LR w W b cs)(hb:zB W W'):LR w W' b cs:=⟨h.z.below hb h.z.lt,h.f.below hb h.f.lt,h.x.below hb h.x.lt,h.ne,zT h.B hb⟩
theorem LR.set{w W:World}{b:Nat}{cs:Array Value}(h:LR w W b cs)(i:Nat)(v:Value):LR w (W.setCell ⟨b,i,none⟩ v) b (cs.setIfInBounds i v) :=
 ⟨h.z.other (by have:=h.ne;omega),h.f.other (by have:=h.ne;omega),h.x.set,h.ne,h.B.setCell (p:=⟨b,i,none⟩) (by have:=h.ne;show w.heap.size<=b;omega) _⟩
theorem LR.done{w W:World}{b:Nat}{cs:Array Value}(h:LR w W b cs)(v0 v1 v2 v3 v4 v5 v6 u0 u1:Value):∃Z,(((((((((W.setCell ⟨w.heap.size,0,none⟩ v0).setCell ⟨w.heap.size,1,none⟩ v1).setCell ⟨w.heap.size,2,none⟩ v2).setCell ⟨w.heap.size,3,none⟩ v3).setCell ⟨w.heap.size,4,none⟩ v4).setCell ⟨w.heap.size,5,none⟩ v5).setCell ⟨w.heap.size,6,none⟩ v6).setCell ⟨w.heap.size+1,0,none⟩ u0).setCell ⟨w.heap.size+1,1,none⟩ u1)=Z /\
  Blk Z w.heap.size 101 #[v0,v1,v2,v3,v4,v5,v6]/\Blk Z (w.heap.size+1) 96 #[u0,u1]/\zB w Z/\(∀(v:Value) (l:List Nat),(∀g,v.ownBlock=some g->w.heap.size+1<g)->zcj W v l->zcj Z v l):=by
 refine⟨_,rfl,?_,?_,?_,?_⟩
 ·exact((((((((h.z.set (i:=0) (v:=v0)).set (i:=1) (v:=v1)).set (i:=2) (v:=v2)).set (i:=3) (v:=v3)).set (i:=4) (v:=v4)).set (i:=5) (v:=v5)).set (i:=6) (v:=v6)).other (by omega)).other (by omega)
 ·exact(((((((((h.f.other (by omega)).other (by omega)).other (by omega)).other (by omega)).other (by omega)).other (by omega)).other (by omega)).set (i:=0) (v:=u0)).set (i:=1) (v:=u1))
 ·exact((((((((h.B.setCell (p:=⟨w.heap.size,0,none⟩) zN _).setCell (p:=⟨w.heap.size,1,none⟩) zN _).setCell (p:=⟨w.heap.size,2,none⟩) zN _).setCell (p:=⟨w.heap.size,3,none⟩) zN _).setCell (p:=⟨w.heap.size,4,none⟩) zN _).setCell (p:=⟨w.heap.size,5,none⟩) zN _).setCell (p:=⟨w.heap.size,6,none⟩) zN _).setCell (p:=⟨w.heap.size+1,0,none⟩) (Nat.le_succ _) _).setCell (p:=⟨w.heap.size+1,1,none⟩) (Nat.le_succ _) _
 ·intro v l hv hn;refine⟨hn.form,fun i hi=>?_⟩;obtain⟨g,cap,e,hg,hc⟩:=hn.cells i hi;have hgt:=hv g (by rw[e];rfl);refine⟨g,cap,e,by simp[World.setCell];exact hg,?_⟩;rw[zab (by omega),zab (by omega),zab (by omega),zab (by omega),zab (by omega),zab (by omega),zab (by omega),zab (by omega),zab (by omega)];exact hc
def kup(K k:Nat):Nat:=if K<k then K else 0
abbrev x7(K:Nat)(nm:ByteArray)(a b c:Int)(ot:ByteArray)(r:Value):Array Value:=#[.int .i64 K,.string nm,.int .i64 a,.int .i64 b,.int .i64 c,.string ot,r]
theorem zng(s:ByteArray)(w:World)(hs:s.size<=100000)(hw:Lb w)(hF:zdz w)(ad:Addr)(cap:Nat)(hK:zbN w ad cap)(hk:za6 (zar s 32).1=0):zC 56 #[.string s] w (zne w (.error (3,none))):=by
 have k0:=(Blk.new w 101 z7).alloc (.cells #[.int .i64 0,.int .i64 0] 96);have k1:=Blk.new (w.alloc (.cells z7 101)) 96 #[.int .i64 0,.int .i64 0];rw[World.size_alloc] at k1;have hB0:zB w ((w.alloc (.cells z7 101)).alloc (.cells #[.int .i64 0,.int .i64 0] 96)):=((Below.refl _ w).alloc zN _).alloc (by simp) _;have HK0:=zH k0;have HK1:=zH k1;have HB0:=zH hB0;have HN1:=zH (fun W=>zby s W hs);have hz2:=(zaJ s 32).2;have HLW:=zH hw;have HFN:=zH hF;have HKD:=zH hK;obtain⟨w1,hw1⟩:∃w1,(zar s 32).1=w1:=⟨_,rfl⟩;obtain⟨s2,hs2⟩:∃s2,(zar s 32).2=s2:=⟨_,rfl⟩;rw[hw1] at hk HN1;rw[hs2] at hz2 HN1;have hz2':s2.size<=100000:=by omega
 have HKX:Hid (∀k,1<=k->k<=4->((⟨(wl k).toArray⟩:ByteArray).toList==w1.toList)=decide (za6 w1=k)):=fun k h1 h4=>zgJ h1 h4;rw[hk] at HKX;clear k0 k1 hB0 hw hF hK hz2 hs;go_enter Tryz.func56,Tryz.ntmps56;go_wp2_with fail;generalize (w.alloc (.cells z7 101)).alloc (.cells #[.int .i64 0,.int .i64 0] 96)=W0 at *;refine(HN1.out _).mono ?_;rintro e wA ⟨rfl,hbA⟩;have hx:=Blk.new wA 101 z7;have hA:zB wA (wA.alloc (.cells z7 101)):=zF.alloc zN _;have hA0:zB W0 (wA.alloc (.cells z7 101)):=zT hbA hA;have hLR:LR w (wA.alloc (.cells z7 101)) wA.heap.size z7:=⟨HK0.out.below hA0 HK0.out.lt,HK1.out.below hA0 HK1.out.lt,hx,Nat.lt_of_lt_of_le HK1.out.lt hbA.size,zT HB0.out hA0⟩;have HLR:=zH hLR;clear hbA hx hA hA0 hLR HN1 HK0 HK1 HB0;go_wp2_with fail;generalize wA.alloc (.cells z7 101)=W1 at *;obtain⟨b,hb⟩:∃b,wA.heap.size=b:=⟨_,rfl⟩;rw[hb] at HLR ⊢;clear hb;go_loopw [7] (fun kV wr=>∃k:Nat,1<=k/\k<=5/\kV=.int .i64 k/\LR w wr b (x7 (kup 0 k) ⟨#[]⟩ 0 0 0 ⟨#[]⟩ (.slice none 0 0))) (fun kV _=>5-(intOf kV).toNat)
 case atStart=>exact⟨1,by omega,by omega,rfl,by rw[show kup 0 1=0 by unfold kup;split<;>omega];exact HLR.out⟩
 case round =>
  clear HLR;obtain⟨k,hk1,hk5,rfl,hLR⟩:=hrel;have HL:=zH hLR;clear hLR
  by_cases hlt:k<=4
  ·have hkd:=HKD.out.below HL.out.B;have g0:=hkd.c;have g1:=hkd.s k (by omega);have hc:=HKX.out k hk1 hlt;have x0:_=some (Value.int .i64 ((kup 0 k:Nat):Int)):=HL.out.x.cell 0;have xf:=HL.out.x.frozen 0;clear hkd
   by_cases he:0=k
   ·have hst:=HL.out.set 0 (.int .i64 k);have HST:Hid (LR w (wr.setCell ⟨b,0,none⟩ (.int .i64 k)) b (x7 (kup 0 (k+1)) ⟨#[]⟩ 0 0 0 ⟨#[]⟩ (.slice none 0 0))):=by
     have e:kup 0 (k+1)=k:=by unfold kup;rw[if_pos (by omega)];exact he
     rw[e];exact hst
    rw[decide_eq_true he] at hc;generalize kup 0 k=KU at *;generalize (⟨(wl k).toArray⟩:ByteArray)=WK at *;clear hst he;go_wp2;go_roundw
    case rel=>exact⟨k+1,by omega,by omega,by go_num,HST.out⟩
    case measure=>simp[intOf];omega
   ·have HST:Hid (LR w wr b (x7 (kup 0 (k+1)) ⟨#[]⟩ 0 0 0 ⟨#[]⟩ (.slice none 0 0))):=by
     have e:kup 0 (k+1)=kup 0 k:=by
      unfold kup
      by_cases h:0<k
      ·rw[if_pos h,if_pos (by omega)]
      ·rw[if_neg h,if_neg (by omega)]
     rw[e];exact HL.out
    rw[decide_eq_false he] at hc;generalize kup 0 k=KU at *;generalize (⟨(wl k).toArray⟩:ByteArray)=WK at *;clear he;go_wp2;go_roundw
    case rel=>exact⟨k+1,by omega,by omega,by go_num,HST.out⟩
    case measure=>simp[intOf];omega
  ·obtain rfl:k=5:=by omega
   have hku:kup 0 5=0:=by unfold kup;rw[if_pos (by omega)]
   rw[hku] at HL;clear hku;have xc0:_=some (Value.int .i64 (0:Int)):=HL.out.x.cell 0;have HBR:=zH (zgM 3 wr);go_wp2_with fail;refine HBR.out.mono ?_;rintro e wE ⟨rfl,hbE⟩;have hE:=HL.out.step hbE;have zc0:_=some (Value.int .i64 0):=hE.z.cell 0;have zc1:_=some (Value.string ⟨#[]⟩):=hE.z.cell 1;have zc2:_=some (Value.int .i64 0):=hE.z.cell 2;have zc3:_=some (Value.int .i64 0):=hE.z.cell 3;have zc4:_=some (Value.int .i64 0):=hE.z.cell 4;have zc5:_=some (Value.string ⟨#[]⟩):=hE.z.cell 5;have zc6:_=some (Value.slice none 0 0):=hE.z.cell 6;have zf0:=hE.z.frozen 0;have zf1:=hE.z.frozen 1;have zf2:=hE.z.frozen 2;have zf3:=hE.z.frozen 3;have zf4:=hE.z.frozen 4;have zf5:=hE.z.frozen 5;have zf6:=hE.z.frozen 6;have fc0:_=some (Value.int .i64 0):=hE.f.cell 0;have fc1:_=some (Value.int .i64 0):=hE.f.cell 1;have ff0:=hE.f.frozen 0;have ff1:=hE.f.frozen 1;obtain⟨Z,hZ,qz,qf,qB,-⟩:=hE.done (.int .i64 0) (.string ⟨#[]⟩) (.int .i64 0) (.int .i64 0) (.int .i64 0) (.string ⟨#[]⟩) (.slice none 0 0) (.int .i64 3) (.int .i64 (-1));have HZ:=zH hZ;have HQZ:=zH qz;have HQF:=zH qf;have HQB:=zH qB;clear hZ qz qf qB hE hbE HBR HL;go_wp2;clear zc0 zc1 zc2 zc3 zc4 zc5 zc6 zf0 zf1 zf2 zf3 zf4 zf5 zf6 fc0 fc1 ff0 ff1;rw[HZ.out];have r0:=HQZ.out.cell 0;have r1:=HQZ.out.cell 1;have r2:=HQZ.out.cell 2;have r3:=HQZ.out.cell 3;have r4:=HQZ.out.cell 4;have r5:=HQZ.out.cell 5;have r6:=HQZ.out.cell 6;have s0:=HQF.out.cell 0;have s1:=HQF.out.cell 1;refine bodyPost_ret (v:=.tuple #[.agg z7,.agg #[.int .i64 3,.int .i64 (-1)]]) (by simp[results,Tryz.results56,go_sem,r0,r1,r2,r3,r4,r5,r6,s0,s1]) rfl ?_;exact⟨zl0,none,0,3,-1,rfl,zbz _,zdB,fun g hg=>by simp[Value.ownBlock] at hg,HQB.out,rfl,rfl,rfl⟩
end
section
open Go.RowKit Go.Shelf Sv
def okP(x:Int):Bool:=decide (0<=x/\x<=999)
def zaP(l:List zau)(a b c:Int):Bool:=if okP a&&okP b&&okP c then inP (tp l) (zqL a.toNat b.toNat c.toNat) else false
theorem zo6(A B C:Int)(W:World):(Instr.index 91 (.agg #[.int .i64 A,.int .i64 B,.int .i64 C]) (.int .i64 0)).run Tryz.prog W=.ok (.int .i64 A) W:=by kernel_rfl
theorem zqw(A B C:Int)(W:World):(Instr.index 91 (.agg #[.int .i64 A,.int .i64 B,.int .i64 C]) (.int .i64 1)).run Tryz.prog W=.ok (.int .i64 B) W:=by kernel_rfl
theorem zpg(A B C:Int)(W:World):(Instr.index 91 (.agg #[.int .i64 A,.int .i64 B,.int .i64 C]) (.int .i64 2)).run Tryz.prog W=.ok (.int .i64 C) W:=by kernel_rfl
theorem zsU(l:List zau)(hl:Rg l)(v:Value)(a b c:Int)(w:World)(hv:zcj w v (tp l)) :
  zR 217 #[v,.agg #[.int .i64 a,.int .i64 b,.int .i64 c]] w (.bool (zaP l a b c)):=by
 obtain⟨va,vc,rfl⟩:=hv.form;have kv:=Blk.new w 91 #[.int .i64 a,.int .i64 b,.int .i64 c];have hB0:zB w (w.alloc (.cells #[.int .i64 a,.int .i64 b,.int .i64 c] 91)):=(Below.refl _ w).alloc zN _;have HV:=zH hv;have HKV:=zH kv;have HB0:=zH hB0;have HTL:=zH (zd1 hl);have HWI:Hid (∀x W,zC 209 #[.int .i64 x,.int .i64 0,.int .i64 999] W fun e w'=>e=.returned (.bool (okP x))/\W=w'):=fun x W=>zae x 0 999 W;have HHB:Hid (zaP l a b c=if okP a&&okP b&&okP c then inP (tp l) (zqL a.toNat b.toNat c.toNat) else false):=rfl;clear hv kv hB0 hl;generalize zaP l a b c=RB at *;go_enter Tryz.func217,Tryz.ntmps217;go_wp2_with fail;generalize w.alloc (.cells #[.int .i64 a,.int .i64 b,.int .i64 c] 91)=W0 at *;go_loopw [8] (fun iV wr=>∃k:Nat,k<=3/\iV=.int .i64 k/\(∀j,j<k->okP (tI a b c j)=true)/\wr=W0) (fun iV _=>3-(intOf iV).toNat)
 case atStart=>exact⟨0,by omega,rfl,fun j h=>by omega,rfl⟩
 case round =>
  obtain⟨k,hk,rfl,hall,rfl⟩:=hrel;have HALL:=zH hall;clear hall
  match k,hk with
  |0,_ =>
   have hix:=zo6 a b c wr;cases hok:okP a with
   |true =>
    have HW1:=zH (HWI.out a wr);rw[hok] at HW1;have HN:Hid (∀j,j<1->okP (tI a b c j)=true):=fun j h=>by
     obtain rfl:j=0:=by omega
     exact hok
    clear hok;go_wp2_with fail;refine HW1.out.mono ?_;rintro e w1 ⟨rfl,hw1⟩;rw[<-hw1];clear hw1;go_wp2;go_roundw
    case rel=>exact⟨1,by omega,rfl,HN.out,trivial⟩
    case measure=>simp[intOf]
   |false =>
    have HW1:=zH (HWI.out a wr);rw[hok] at HW1;have hR:RB=false:=by rw[HHB.out,hok];rfl
    clear hok;go_wp2_with fail;refine HW1.out.mono ?_;rintro e w1 ⟨rfl,hw1⟩;rw[<-hw1];clear hw1;go_wp2;go_ret;exact⟨by rw[hR];rfl,HB0.out⟩
  |1,_ =>
   have hix:=zqw a b c wr;cases hok:okP b with
   |true =>
    have HW1:=zH (HWI.out b wr);rw[hok] at HW1;have HN:Hid (∀j,j<2->okP (tI a b c j)=true):=fun j h=>by
     match j,h with
     |0,_=>exact HALL.out 0 (by omega)
     |1,_=>exact hok
    clear hok;go_wp2_with fail;refine HW1.out.mono ?_;rintro e w1 ⟨rfl,hw1⟩;rw[<-hw1];clear hw1;go_wp2;go_roundw
    case rel=>exact⟨2,by omega,rfl,HN.out,trivial⟩
    case measure=>simp[intOf]
   |false =>
    have HW1:=zH (HWI.out b wr);rw[hok] at HW1;have hR:RB=false:=by rw[HHB.out,hok];simp
    clear hok;go_wp2_with fail;refine HW1.out.mono ?_;rintro e w1 ⟨rfl,hw1⟩;rw[<-hw1];clear hw1;go_wp2;go_ret;exact⟨by rw[hR];rfl,HB0.out⟩
  |2,_ =>
   have hix:=zpg a b c wr;cases hok:okP c with
   |true =>
    have HW1:=zH (HWI.out c wr);rw[hok] at HW1;have HN:Hid (∀j,j<3->okP (tI a b c j)=true):=fun j h=>by
     match j,h with
     |0,_=>exact HALL.out 0 (by omega)
     |1,_=>exact HALL.out 1 (by omega)
     |2,_=>exact hok
    clear hok;go_wp2_with fail;refine HW1.out.mono ?_;rintro e w1 ⟨rfl,hw1⟩;rw[<-hw1];clear hw1;go_wp2;go_roundw
    case rel=>exact⟨3,by omega,rfl,HN.out,trivial⟩
    case measure=>simp[intOf]
   |false =>
    have HW1:=zH (HWI.out c wr);rw[hok] at HW1;have hR:RB=false:=by rw[HHB.out,hok];simp
    clear hok;go_wp2_with fail;refine HW1.out.mono ?_;rintro e w1 ⟨rfl,hw1⟩;rw[<-hw1];clear hw1;go_wp2;go_ret;exact⟨by rw[hR];rfl,HB0.out⟩
  |3,_ =>
   have oa:okP a=true:=HALL.out 0 (by omega);have ob:okP b=true:=HALL.out 1 (by omega);have oc:okP c=true:=HALL.out 2 (by omega);have ia:0<=a/\a<=999:=of_decide_eq_true oa;have ib:0<=b/\b<=999:=of_decide_eq_true ob;have ic:0<=c/\c<=999:=of_decide_eq_true oc;have HR:Hid (RB=inP (tp l) (zqL a.toNat b.toNat c.toNat)):=by show _=_;rw[HHB.out,oa,ob,oc];rfl
   have HN:Hid (zR 189 #[.agg #[.int .i64 a,.int .i64 b,.int .i64 c]] wr (.int .i64 (zqL a.toNat b.toNat c.toNat))):=by
    have:=ziD a.toNat b.toNat c.toNat (by omega) (by omega) (by omega) wr;rw[Int.toNat_of_nonneg ia.1,Int.toNat_of_nonneg ib.1,Int.toNat_of_nonneg ic.1] at this;exact this
   have d0:_=some (Value.int .i64 a):=HKV.out.cell 0;have d1:_=some (Value.int .i64 b):=HKV.out.cell 1;have d2:_=some (Value.int .i64 c):=HKV.out.cell 2;clear oa ob oc ia ib ic;generalize zqL a.toNat b.toNat c.toNat=N at *;go_wp2_with fail;refine HN.out.mono ?_;rintro e w1 ⟨rfl,hb1⟩;have HB1:Hid (zB w w1):=zT HB0.out hb1;have HI:=zH (zoM (tp l) N _ w1 (HV.out.below HB1.out zN) HTL.out);rw[<-HR.out] at HI;clear hb1 HN d0 d1 d2 HV;go_wp2_with fail;refine HI.out.mono ?_;rintro e w2 ⟨rfl,hw2⟩;rw[hw2];clear hw2;go_wp2;go_ret;exact⟨rfl,HB1.out⟩
end
section
open Go.RowKit Sv
theorem zbK(s:ByteArray)(w:World)(h:zaj s):zC 210 #[.string s] w fun e w'=>e=.returned (.bool true)/\w=w':=(zmP s w).mono fun _ _ ⟨h1,h2⟩=>⟨h1.1 h,h2⟩
theorem zfm(s:ByteArray)(w:World)(h:¬zaj s):zC 210 #[.string s] w fun e w'=>e=.returned (.bool false)/\w=w':=(zmP s w).mono fun _ _ ⟨h1,h2⟩=>⟨h1.2 h,h2⟩
theorem zxZ(a b c a' b' c':Int)(w:World):(Op.equalIn 10000 91 (.agg #[.int .i64 a,.int .i64 b,.int .i64 c]) (.agg #[.int .i64 a',.int .i64 b',.int .i64 c'])).run Tryz.prog w=.ok (a==a'&&(b==b'&&c==c')) w:=by
 have u3:=Tryz.underlying3;have a3:=Tryz.isAgg3;have z3:=Tryz.sizeOf3;rw[show (10000:Nat)=9999+1 from rfl,Op.equalIn];simp only[Sem.run_bind,run_underlying Tryz.underlying91,Result.andThen_ok];simp only[Std.Legacy.Range.forIn_eq_forIn_range',Std.Legacy.Range.size,Nat.sub_zero,Nat.add_sub_cancel,Nat.div_one,List.range'_succ,List.range'_zero,List.forIn_cons,List.forIn_nil]
 by_cases h1:a=a'
 ·by_cases h2:b=b'
  ·by_cases h3:c=c'
   ·subst h1 h2 h3;go_simp
   ·have e3:(c==c')=false:=by simpa using h3
    subst h1 h2;go_simp
  ·have e2:(b==b')=false:=by simpa using h2
   subst h1;go_simp
 ·have e1:(a==a')=false:=by simpa using h1
  go_simp
theorem zpn(k:Int)(n o:ByteArray)(a b c:Int)(ra:Option Addr)(rn rc:Nat)(w:World)(hk:¬(1<=k/\k<=4)) :
  ChkRr w (1) #[.int .i64 k,.string n,.int .i64 a,.int .i64 b,.int .i64 c,.string o,.slice ra rn rc]:=by
 obtain⟨W0,hW0,k0,hb0⟩:=lboxr w #[.int .i64 k,.string n,.int .i64 a,.int .i64 b,.int .i64 c,.string o,.slice ra rn rc];go_enter Tryz.func136,Tryz.ntmps136;go_upto_region 1 with fail;clear hW0;obtain⟨xc0,xc1,xc2,xc3,xc4,xc5,xc6⟩:=cells7r k0;have HB:=zH hb0;clear k0 hb0;have HWI:Hid (zC 209 #[.int .i64 k,.int .i64 1,.int .i64 4] W0 fun e w'=>e=.returned (.bool false)/\W0=w'):=(zae k 1 4 W0).mono fun e w' ⟨h1,h2⟩=>⟨by rw[h1,decide_eq_false hk],h2⟩;clear hk;go_wp2_with fail;refine HWI.out.mono ?_;rintro e w1 ⟨rfl,hwx⟩;subst hwx;clear HWI;go_wp2;go_ret;exact⟨rfl,HB.out⟩
theorem zu8(n o:ByteArray)(a b c:Int)(ra:Option Addr)(rn rc:Nat)(w:World)(hn:¬zaj n) :
  ChkRr w (5) #[.int .i64 1,.string n,.int .i64 a,.int .i64 b,.int .i64 c,.string o,.slice ra rn rc]:=by
 obtain⟨W0,hW0,k0,hb0⟩:=lboxr w #[.int .i64 1,.string n,.int .i64 a,.int .i64 b,.int .i64 c,.string o,.slice ra rn rc];go_enter Tryz.func136,Tryz.ntmps136;go_upto_region 1 with fail;clear hW0;obtain⟨xc0,xc1,xc2,xc3,xc4,xc5,xc6⟩:=cells7r k0;have HB:=zH hb0;clear k0 hb0;have HWI:Hid (zC 209 #[.int .i64 1,.int .i64 1,.int .i64 4] W0 fun e w'=>e=.returned (.bool true)/\W0=w'):=(zae 1 1 4 W0).mono fun e w' ⟨h1,h2⟩=>⟨by rw[h1];rfl,h2⟩;go_wp2_with fail;refine HWI.out.mono ?_;rintro e w1 ⟨rfl,hwx⟩;subst hwx;clear HWI;go_wp2_with fail;refine(zfm n W0 hn).mono ?_;rintro e w1 ⟨rfl,hwx⟩;subst hwx;go_wp2;go_ret;exact⟨rfl,HB.out⟩
theorem zvX(n o:ByteArray)(a b c:Int)(ra:Option Addr)(rn rc:Nat)(w:World)(hn:¬zaj n) :
  ChkRr w (5) #[.int .i64 2,.string n,.int .i64 a,.int .i64 b,.int .i64 c,.string o,.slice ra rn rc]:=by
 obtain⟨W0,hW0,k0,hb0⟩:=lboxr w #[.int .i64 2,.string n,.int .i64 a,.int .i64 b,.int .i64 c,.string o,.slice ra rn rc];go_enter Tryz.func136,Tryz.ntmps136;go_upto_region 1 with fail;clear hW0;obtain⟨xc0,xc1,xc2,xc3,xc4,xc5,xc6⟩:=cells7r k0;have HB:=zH hb0;clear k0 hb0;have HWI:Hid (zC 209 #[.int .i64 2,.int .i64 1,.int .i64 4] W0 fun e w'=>e=.returned (.bool true)/\W0=w'):=(zae 2 1 4 W0).mono fun e w' ⟨h1,h2⟩=>⟨by rw[h1];rfl,h2⟩;go_wp2_with fail;refine HWI.out.mono ?_;rintro e w1 ⟨rfl,hwx⟩;subst hwx;clear HWI;go_wp2_with fail;refine(zfm n W0 hn).mono ?_;rintro e w1 ⟨rfl,hwx⟩;subst hwx;go_wp2;go_ret;exact⟨rfl,HB.out⟩
theorem zvh(n o:ByteArray)(a b c:Int)(ra:Option Addr)(rn rc:Nat)(w:World)(hn:¬zaj n) :
  ChkRr w (5) #[.int .i64 3,.string n,.int .i64 a,.int .i64 b,.int .i64 c,.string o,.slice ra rn rc]:=by
 obtain⟨W0,hW0,k0,hb0⟩:=lboxr w #[.int .i64 3,.string n,.int .i64 a,.int .i64 b,.int .i64 c,.string o,.slice ra rn rc];go_enter Tryz.func136,Tryz.ntmps136;go_upto_region 1 with fail;clear hW0;obtain⟨xc0,xc1,xc2,xc3,xc4,xc5,xc6⟩:=cells7r k0;have HB:=zH hb0;clear k0 hb0;have HWI:Hid (zC 209 #[.int .i64 3,.int .i64 1,.int .i64 4] W0 fun e w'=>e=.returned (.bool true)/\W0=w'):=(zae 3 1 4 W0).mono fun e w' ⟨h1,h2⟩=>⟨by rw[h1];rfl,h2⟩;go_wp2_with fail;refine HWI.out.mono ?_;rintro e w1 ⟨rfl,hwx⟩;subst hwx;clear HWI;go_wp2_with fail;refine(zfm n W0 hn).mono ?_;rintro e w1 ⟨rfl,hwx⟩;subst hwx;go_wp2;go_ret;exact⟨rfl,HB.out⟩
theorem zwf(n o:ByteArray)(a b c:Int)(ra:Option Addr)(rn rc:Nat)(w:World)(hn:¬zaj n) :
  ChkRr w (5) #[.int .i64 4,.string n,.int .i64 a,.int .i64 b,.int .i64 c,.string o,.slice ra rn rc]:=by
 obtain⟨W0,hW0,k0,hb0⟩:=lboxr w #[.int .i64 4,.string n,.int .i64 a,.int .i64 b,.int .i64 c,.string o,.slice ra rn rc];go_enter Tryz.func136,Tryz.ntmps136;go_upto_region 1 with fail;clear hW0;obtain⟨xc0,xc1,xc2,xc3,xc4,xc5,xc6⟩:=cells7r k0;have HB:=zH hb0;clear k0 hb0;have HWI:Hid (zC 209 #[.int .i64 4,.int .i64 1,.int .i64 4] W0 fun e w'=>e=.returned (.bool true)/\W0=w'):=(zae 4 1 4 W0).mono fun e w' ⟨h1,h2⟩=>⟨by rw[h1];rfl,h2⟩;go_wp2_with fail;refine HWI.out.mono ?_;rintro e w1 ⟨rfl,hwx⟩;subst hwx;clear HWI;go_wp2_with fail;refine(zfm n W0 hn).mono ?_;rintro e w1 ⟨rfl,hwx⟩;subst hwx;go_wp2;go_ret;exact⟨rfl,HB.out⟩
theorem zuY(n o:ByteArray)(a b c:Int)(ra:Option Addr)(rn rc:Nat)(w:World)(hn:zaj n)(ho:¬zaj o) :
  ChkRr w (5) #[.int .i64 2,.string n,.int .i64 a,.int .i64 b,.int .i64 c,.string o,.slice ra rn rc]:=by
 obtain⟨W0,hW0,k0,hb0⟩:=lboxr w #[.int .i64 2,.string n,.int .i64 a,.int .i64 b,.int .i64 c,.string o,.slice ra rn rc];go_enter Tryz.func136,Tryz.ntmps136;go_upto_region 1 with fail;clear hW0;obtain⟨xc0,xc1,xc2,xc3,xc4,xc5,xc6⟩:=cells7r k0;have HB:=zH hb0;clear k0 hb0;have HWI:Hid (zC 209 #[.int .i64 2,.int .i64 1,.int .i64 4] W0 fun e w'=>e=.returned (.bool true)/\W0=w'):=(zae 2 1 4 W0).mono fun e w' ⟨h1,h2⟩=>⟨by rw[h1];rfl,h2⟩;go_wp2_with fail;refine HWI.out.mono ?_;rintro e w1 ⟨rfl,hwx⟩;subst hwx;clear HWI;go_wp2_with fail;refine(zbK n W0 hn).mono ?_;rintro e w1 ⟨rfl,hwx⟩;subst hwx;go_wp2_with fail;refine(zfm o W0 ho).mono ?_;rintro e w1 ⟨rfl,hwx⟩;subst hwx;go_wp2;go_ret;exact⟨rfl,HB.out⟩
theorem zuw(n o:ByteArray)(a b c:Int)(ra:Option Addr)(rn rc:Nat)(w:World)(hn:zaj n)(ho:zaj o) :
  zR 136 #[.agg #[.int .i64 2,.string n,.int .i64 a,.int .i64 b,.int .i64 c,.string o,.slice ra rn rc]] w (.int .i64 (if InV a b c then 0 else 2)):=by
 obtain⟨W0,hW0,k0,hb0⟩:=lboxr w #[.int .i64 2,.string n,.int .i64 a,.int .i64 b,.int .i64 c,.string o,.slice ra rn rc];obtain⟨Z,hZ⟩:∃Z:Int,(if InV a b c then (0:Int) else 2)=Z:=⟨_,rfl⟩;rw[hZ];have HZ:=zH hZ;clear hZ;go_enter Tryz.func136,Tryz.ntmps136;go_upto_region 1 with fail;clear hW0;obtain⟨xc0,xc1,xc2,xc3,xc4,xc5,xc6⟩:=cells7r k0;have HB:=zH hb0;clear k0 hb0;have HWI:Hid (zC 209 #[.int .i64 2,.int .i64 1,.int .i64 4] W0 fun e w'=>e=.returned (.bool true)/\W0=w'):=(zae 2 1 4 W0).mono fun e w' ⟨h1,h2⟩=>⟨by rw[h1];rfl,h2⟩;go_wp2_with fail;refine HWI.out.mono ?_;rintro e w1 ⟨rfl,hwx⟩;subst hwx;clear HWI;go_wp2_with fail;refine(zbK n W0 hn).mono ?_;rintro e w1 ⟨rfl,hwx⟩;subst hwx;go_wp2_with fail;refine(zbK o W0 ho).mono ?_;rintro e w1 ⟨rfl,hwx⟩;subst hwx;go_wp2_with fail;go_loopw [62] (fun kV wz=>wz=W0/\∃k:Int,kV=.int .i64 k/\(k=0\/(k=1/\0<=a/\a<=999)\/(k=2/\(0<=a/\a<=999)/\0<=b/\b<=999)\/(k=3/\(0<=a/\a<=999)/\(0<=b/\b<=999)/\0<=c/\c<=999))) (fun kV _=>3-(intOf kV).toNat)
 case atStart=>exact⟨rfl,0,rfl,Or.inl rfl⟩
 case round =>
  obtain⟨rfl,k,rfl,hk⟩:=hrel;rcases hk with rfl|⟨rfl,h1⟩|⟨rfl,h1,h2⟩|⟨rfl,h1,h2,h3⟩
  ·have hix:=zo6 a b c wr;go_wp2_with fail;clear hix
   by_cases hv:0<=a/\a<=999
   ·have HWV:Hid (zC 209 #[.int .i64 a,.int .i64 0,.int .i64 999] wr fun e w'=>e=.returned (.bool true)/\wr=w'):=(zae a 0 999 wr).mono fun e w' ⟨h1,h2⟩=>⟨by rw[h1,decide_eq_true hv],h2⟩;have HV:=zH hv;clear hv;refine HWV.out.mono ?_;rintro e w1 ⟨rfl,hwx⟩;subst hwx;clear HWV;go_wp2;go_roundw
    case rel=>exact⟨trivial,1,by go_num,Or.inr (Or.inl ⟨rfl,HV.out⟩)⟩
    case measure=>simp[intOf]
   ·have HWV:Hid (zC 209 #[.int .i64 a,.int .i64 0,.int .i64 999] wr fun e w'=>e=.returned (.bool false)/\wr=w'):=(zae a 0 999 wr).mono fun e w' ⟨h1,h2⟩=>⟨by rw[h1,decide_eq_false hv],h2⟩;have HC:Hid (Z=2):=by show _=_;rw[<-HZ.out];exact if_neg (fun h=>hv h.1)
    clear hv HZ;refine HWV.out.mono ?_;rintro e w1 ⟨rfl,hwx⟩;subst hwx;clear HWV;go_wp2;go_ret;exact⟨by rw[HC.out];rfl,HB.out⟩
  ·have hix:=zqw a b c wr;go_wp2_with fail;clear hix
   by_cases hv:0<=b/\b<=999
   ·have HWV:Hid (zC 209 #[.int .i64 b,.int .i64 0,.int .i64 999] wr fun e w'=>e=.returned (.bool true)/\wr=w'):=(zae b 0 999 wr).mono fun e w' ⟨h1,h2⟩=>⟨by rw[h1,decide_eq_true hv],h2⟩;have HV:=zH hv;clear hv;refine HWV.out.mono ?_;rintro e w1 ⟨rfl,hwx⟩;subst hwx;clear HWV;go_wp2;go_roundw
    case rel=>exact⟨trivial,2,by go_num,Or.inr (Or.inr (Or.inl ⟨rfl,h1,HV.out⟩))⟩
    case measure=>simp[intOf]
   ·have HWV:Hid (zC 209 #[.int .i64 b,.int .i64 0,.int .i64 999] wr fun e w'=>e=.returned (.bool false)/\wr=w'):=(zae b 0 999 wr).mono fun e w' ⟨h1,h2⟩=>⟨by rw[h1,decide_eq_false hv],h2⟩;have HC:Hid (Z=2):=by show _=_;rw[<-HZ.out];exact if_neg (fun h=>hv h.2.1)
    clear hv HZ;refine HWV.out.mono ?_;rintro e w1 ⟨rfl,hwx⟩;subst hwx;clear HWV;go_wp2;go_ret;exact⟨by rw[HC.out];rfl,HB.out⟩
  ·have hix:=zpg a b c wr;go_wp2_with fail;clear hix
   by_cases hv:0<=c/\c<=999
   ·have HWV:Hid (zC 209 #[.int .i64 c,.int .i64 0,.int .i64 999] wr fun e w'=>e=.returned (.bool true)/\wr=w'):=(zae c 0 999 wr).mono fun e w' ⟨h1,h2⟩=>⟨by rw[h1,decide_eq_true hv],h2⟩;have HV:=zH hv;clear hv;refine HWV.out.mono ?_;rintro e w1 ⟨rfl,hwx⟩;subst hwx;clear HWV;go_wp2;go_roundw
    case rel=>exact⟨trivial,3,by go_num,Or.inr (Or.inr (Or.inr ⟨rfl,h1,h2,HV.out⟩))⟩
    case measure=>simp[intOf]
   ·have HWV:Hid (zC 209 #[.int .i64 c,.int .i64 0,.int .i64 999] wr fun e w'=>e=.returned (.bool false)/\wr=w'):=(zae c 0 999 wr).mono fun e w' ⟨h1,h2⟩=>⟨by rw[h1,decide_eq_false hv],h2⟩;have HC:Hid (Z=2):=by show _=_;rw[<-HZ.out];exact if_neg (fun h=>hv h.2.2)
    clear hv HZ;refine HWV.out.mono ?_;rintro e w1 ⟨rfl,hwx⟩;subst hwx;clear HWV;go_wp2;go_ret;exact⟨by rw[HC.out];rfl,HB.out⟩
  ·have HC:Hid (Z=0):=by show _=_;rw[<-HZ.out];exact if_pos ⟨h1,h2,h3⟩
   clear HZ h1 h2 h3;go_wp2;go_ret;exact⟨by rw[HC.out];rfl,HB.out⟩
theorem zvd(n o:ByteArray)(a b c:Int)(ra:Option Addr)(rn rc:Nat)(w:World)(hn:zaj n)(ho:¬zaj o) :
  ChkRr w (5) #[.int .i64 3,.string n,.int .i64 a,.int .i64 b,.int .i64 c,.string o,.slice ra rn rc]:=by
 obtain⟨W0,hW0,k0,hb0⟩:=lboxr w #[.int .i64 3,.string n,.int .i64 a,.int .i64 b,.int .i64 c,.string o,.slice ra rn rc];go_enter Tryz.func136,Tryz.ntmps136;go_upto_region 1 with fail;clear hW0;obtain⟨xc0,xc1,xc2,xc3,xc4,xc5,xc6⟩:=cells7r k0;have HB:=zH hb0;clear k0 hb0;have HWI:Hid (zC 209 #[.int .i64 3,.int .i64 1,.int .i64 4] W0 fun e w'=>e=.returned (.bool true)/\W0=w'):=(zae 3 1 4 W0).mono fun e w' ⟨h1,h2⟩=>⟨by rw[h1];rfl,h2⟩;go_wp2_with fail;refine HWI.out.mono ?_;rintro e w1 ⟨rfl,hwx⟩;subst hwx;clear HWI;go_wp2_with fail;refine(zbK n W0 hn).mono ?_;rintro e w1 ⟨rfl,hwx⟩;subst hwx;go_wp2_with fail;refine(zfm o W0 ho).mono ?_;rintro e w1 ⟨rfl,hwx⟩;subst hwx;go_wp2;go_ret;exact⟨rfl,HB.out⟩
theorem zvF(n o:ByteArray)(a b c:Int)(ra:Option Addr)(rn rc:Nat)(w:World)(hn:zaj n)(ho:zaj o) :
  zR 136 #[.agg #[.int .i64 3,.string n,.int .i64 a,.int .i64 b,.int .i64 c,.string o,.slice ra rn rc]] w (.int .i64 (if InV a b c then 0 else 2)):=by
 obtain⟨W0,hW0,k0,hb0⟩:=lboxr w #[.int .i64 3,.string n,.int .i64 a,.int .i64 b,.int .i64 c,.string o,.slice ra rn rc];obtain⟨Z,hZ⟩:∃Z:Int,(if InV a b c then (0:Int) else 2)=Z:=⟨_,rfl⟩;rw[hZ];have HZ:=zH hZ;clear hZ;go_enter Tryz.func136,Tryz.ntmps136;go_upto_region 1 with fail;clear hW0;obtain⟨xc0,xc1,xc2,xc3,xc4,xc5,xc6⟩:=cells7r k0;have HB:=zH hb0;clear k0 hb0;have HWI:Hid (zC 209 #[.int .i64 3,.int .i64 1,.int .i64 4] W0 fun e w'=>e=.returned (.bool true)/\W0=w'):=(zae 3 1 4 W0).mono fun e w' ⟨h1,h2⟩=>⟨by rw[h1];rfl,h2⟩;go_wp2_with fail;refine HWI.out.mono ?_;rintro e w1 ⟨rfl,hwx⟩;subst hwx;clear HWI;go_wp2_with fail;refine(zbK n W0 hn).mono ?_;rintro e w1 ⟨rfl,hwx⟩;subst hwx;go_wp2_with fail;refine(zbK o W0 ho).mono ?_;rintro e w1 ⟨rfl,hwx⟩;subst hwx;go_wp2_with fail;go_loopw [62] (fun kV wz=>wz=W0/\∃k:Int,kV=.int .i64 k/\(k=0\/(k=1/\0<=a/\a<=999)\/(k=2/\(0<=a/\a<=999)/\0<=b/\b<=999)\/(k=3/\(0<=a/\a<=999)/\(0<=b/\b<=999)/\0<=c/\c<=999))) (fun kV _=>3-(intOf kV).toNat)
 case atStart=>exact⟨rfl,0,rfl,Or.inl rfl⟩
 case round =>
  obtain⟨rfl,k,rfl,hk⟩:=hrel;rcases hk with rfl|⟨rfl,h1⟩|⟨rfl,h1,h2⟩|⟨rfl,h1,h2,h3⟩
  ·have hix:=zo6 a b c wr;go_wp2_with fail;clear hix
   by_cases hv:0<=a/\a<=999
   ·have HWV:Hid (zC 209 #[.int .i64 a,.int .i64 0,.int .i64 999] wr fun e w'=>e=.returned (.bool true)/\wr=w'):=(zae a 0 999 wr).mono fun e w' ⟨h1,h2⟩=>⟨by rw[h1,decide_eq_true hv],h2⟩;have HV:=zH hv;clear hv;refine HWV.out.mono ?_;rintro e w1 ⟨rfl,hwx⟩;subst hwx;clear HWV;go_wp2;go_roundw
    case rel=>exact⟨trivial,1,by go_num,Or.inr (Or.inl ⟨rfl,HV.out⟩)⟩
    case measure=>simp[intOf]
   ·have HWV:Hid (zC 209 #[.int .i64 a,.int .i64 0,.int .i64 999] wr fun e w'=>e=.returned (.bool false)/\wr=w'):=(zae a 0 999 wr).mono fun e w' ⟨h1,h2⟩=>⟨by rw[h1,decide_eq_false hv],h2⟩;have HC:Hid (Z=2):=by show _=_;rw[<-HZ.out];exact if_neg (fun h=>hv h.1)
    clear hv HZ;refine HWV.out.mono ?_;rintro e w1 ⟨rfl,hwx⟩;subst hwx;clear HWV;go_wp2;go_ret;exact⟨by rw[HC.out];rfl,HB.out⟩
  ·have hix:=zqw a b c wr;go_wp2_with fail;clear hix
   by_cases hv:0<=b/\b<=999
   ·have HWV:Hid (zC 209 #[.int .i64 b,.int .i64 0,.int .i64 999] wr fun e w'=>e=.returned (.bool true)/\wr=w'):=(zae b 0 999 wr).mono fun e w' ⟨h1,h2⟩=>⟨by rw[h1,decide_eq_true hv],h2⟩;have HV:=zH hv;clear hv;refine HWV.out.mono ?_;rintro e w1 ⟨rfl,hwx⟩;subst hwx;clear HWV;go_wp2;go_roundw
    case rel=>exact⟨trivial,2,by go_num,Or.inr (Or.inr (Or.inl ⟨rfl,h1,HV.out⟩))⟩
    case measure=>simp[intOf]
   ·have HWV:Hid (zC 209 #[.int .i64 b,.int .i64 0,.int .i64 999] wr fun e w'=>e=.returned (.bool false)/\wr=w'):=(zae b 0 999 wr).mono fun e w' ⟨h1,h2⟩=>⟨by rw[h1,decide_eq_false hv],h2⟩;have HC:Hid (Z=2):=by show _=_;rw[<-HZ.out];exact if_neg (fun h=>hv h.2.1)
    clear hv HZ;refine HWV.out.mono ?_;rintro e w1 ⟨rfl,hwx⟩;subst hwx;clear HWV;go_wp2;go_ret;exact⟨by rw[HC.out];rfl,HB.out⟩
  ·have hix:=zpg a b c wr;go_wp2_with fail;clear hix
   by_cases hv:0<=c/\c<=999
   ·have HWV:Hid (zC 209 #[.int .i64 c,.int .i64 0,.int .i64 999] wr fun e w'=>e=.returned (.bool true)/\wr=w'):=(zae c 0 999 wr).mono fun e w' ⟨h1,h2⟩=>⟨by rw[h1,decide_eq_true hv],h2⟩;have HV:=zH hv;clear hv;refine HWV.out.mono ?_;rintro e w1 ⟨rfl,hwx⟩;subst hwx;clear HWV;go_wp2;go_roundw
    case rel=>exact⟨trivial,3,by go_num,Or.inr (Or.inr (Or.inr ⟨rfl,h1,h2,HV.out⟩))⟩
    case measure=>simp[intOf]
   ·have HWV:Hid (zC 209 #[.int .i64 c,.int .i64 0,.int .i64 999] wr fun e w'=>e=.returned (.bool false)/\wr=w'):=(zae c 0 999 wr).mono fun e w' ⟨h1,h2⟩=>⟨by rw[h1,decide_eq_false hv],h2⟩;have HC:Hid (Z=2):=by show _=_;rw[<-HZ.out];exact if_neg (fun h=>hv h.2.2)
    clear hv HZ;refine HWV.out.mono ?_;rintro e w1 ⟨rfl,hwx⟩;subst hwx;clear HWV;go_wp2;go_ret;exact⟨by rw[HC.out];rfl,HB.out⟩
  ·have HC:Hid (Z=0):=by show _=_;rw[<-HZ.out];exact if_pos ⟨h1,h2,h3⟩
   clear HZ h1 h2 h3;go_wp2;go_ret;exact⟨by rw[HC.out];rfl,HB.out⟩
theorem zxg(n o:ByteArray)(a b c:Int)(ra:Option Addr)(rn rc:Nat)(w:World)(hn:zaj n)(ho:0<o.size) :
  ChkRr w (1) #[.int .i64 1,.string n,.int .i64 a,.int .i64 b,.int .i64 c,.string o,.slice ra rn rc]:=by
 obtain⟨W0,hW0,k0,hb0⟩:=lboxr w #[.int .i64 1,.string n,.int .i64 a,.int .i64 b,.int .i64 c,.string o,.slice ra rn rc];go_enter Tryz.func136,Tryz.ntmps136;go_upto_region 1 with fail;clear hW0;obtain⟨xc0,xc1,xc2,xc3,xc4,xc5,xc6⟩:=cells7r k0;have HB:=zH hb0;clear k0 hb0;have HWI:Hid (zC 209 #[.int .i64 1,.int .i64 1,.int .i64 4] W0 fun e w'=>e=.returned (.bool true)/\W0=w'):=(zae 1 1 4 W0).mono fun e w' ⟨h1,h2⟩=>⟨by rw[h1];rfl,h2⟩;go_wp2_with fail;refine HWI.out.mono ?_;rintro e w1 ⟨rfl,hwx⟩;subst hwx;clear HWI;go_wp2_with fail;refine(zbK n W0 hn).mono ?_;rintro e w1 ⟨rfl,hwx⟩;subst hwx;have he1:o.toList.isEmpty=false:=zaE ho;have he2:(o.toList==[])=false:=by rw[beq_eq_false_iff_ne];intro h;rw[h] at he1;cases he1
 go_wp2;go_ret;exact⟨rfl,HB.out⟩
theorem zwC(n o:ByteArray)(a b c:Int)(ra:Option Addr)(rn rc:Nat)(w:World)(hn:zaj n)(ho:0<o.size) :
  ChkRr w (1) #[.int .i64 4,.string n,.int .i64 a,.int .i64 b,.int .i64 c,.string o,.slice ra rn rc]:=by
 obtain⟨W0,hW0,k0,hb0⟩:=lboxr w #[.int .i64 4,.string n,.int .i64 a,.int .i64 b,.int .i64 c,.string o,.slice ra rn rc];go_enter Tryz.func136,Tryz.ntmps136;go_upto_region 1 with fail;clear hW0;obtain⟨xc0,xc1,xc2,xc3,xc4,xc5,xc6⟩:=cells7r k0;have HB:=zH hb0;clear k0 hb0;have HWI:Hid (zC 209 #[.int .i64 4,.int .i64 1,.int .i64 4] W0 fun e w'=>e=.returned (.bool true)/\W0=w'):=(zae 4 1 4 W0).mono fun e w' ⟨h1,h2⟩=>⟨by rw[h1];rfl,h2⟩;go_wp2_with fail;refine HWI.out.mono ?_;rintro e w1 ⟨rfl,hwx⟩;subst hwx;clear HWI;go_wp2_with fail;refine(zbK n W0 hn).mono ?_;rintro e w1 ⟨rfl,hwx⟩;subst hwx;have he1:o.toList.isEmpty=false:=zaE ho;have he2:(o.toList==[])=false:=by rw[beq_eq_false_iff_ne];intro h;rw[h] at he1;cases he1
 go_wp2;go_ret;exact⟨rfl,HB.out⟩
theorem zwo(n:ByteArray)(a b c:Int)(ra:Option Addr)(rn rc:Nat)(w:World)(hn:zaj n)(hr:0<rn) :
  ChkRr w (1) #[.int .i64 1,.string n,.int .i64 a,.int .i64 b,.int .i64 c,.string ⟨#[]⟩,.slice ra rn rc]:=by
 obtain⟨W0,hW0,k0,hb0⟩:=lboxr w #[.int .i64 1,.string n,.int .i64 a,.int .i64 b,.int .i64 c,.string ⟨#[]⟩,.slice ra rn rc];go_enter Tryz.func136,Tryz.ntmps136;go_upto_region 1 with fail;clear hW0;obtain⟨xc0,xc1,xc2,xc3,xc4,xc5,xc6⟩:=cells7r k0;have HB:=zH hb0;clear k0 hb0;have HWI:Hid (zC 209 #[.int .i64 1,.int .i64 1,.int .i64 4] W0 fun e w'=>e=.returned (.bool true)/\W0=w'):=(zae 1 1 4 W0).mono fun e w' ⟨h1,h2⟩=>⟨by rw[h1];rfl,h2⟩;go_wp2_with fail;refine HWI.out.mono ?_;rintro e w1 ⟨rfl,hwx⟩;subst hwx;clear HWI;go_wp2_with fail;refine(zbK n W0 hn).mono ?_;rintro e w1 ⟨rfl,hwx⟩;subst hwx;have hr2:(0:Int)<(rn:Int):=by omega
 go_wp2;go_ret;exact⟨rfl,HB.out⟩
theorem zv6(n:ByteArray)(a b c:Int)(ra:Option Addr)(rc:Nat)(w:World)(hn:zaj n) :
  zR 136 #[.agg #[.int .i64 1,.string n,.int .i64 a,.int .i64 b,.int .i64 c,.string ⟨#[]⟩,.slice ra 0 rc]] w (.int .i64 (if InV a b c then 0 else 2)):=by
 obtain⟨W0,hW0,k0,hb0⟩:=lboxr w #[.int .i64 1,.string n,.int .i64 a,.int .i64 b,.int .i64 c,.string ⟨#[]⟩,.slice ra 0 rc];obtain⟨Z,hZ⟩:∃Z:Int,(if InV a b c then (0:Int) else 2)=Z:=⟨_,rfl⟩;rw[hZ];have HZ:=zH hZ;clear hZ;go_enter Tryz.func136,Tryz.ntmps136;go_upto_region 1 with fail;clear hW0;obtain⟨xc0,xc1,xc2,xc3,xc4,xc5,xc6⟩:=cells7r k0;have HB:=zH hb0;clear k0 hb0;have HWI:Hid (zC 209 #[.int .i64 1,.int .i64 1,.int .i64 4] W0 fun e w'=>e=.returned (.bool true)/\W0=w'):=(zae 1 1 4 W0).mono fun e w' ⟨h1,h2⟩=>⟨by rw[h1];rfl,h2⟩;go_wp2_with fail;refine HWI.out.mono ?_;rintro e w1 ⟨rfl,hwx⟩;subst hwx;clear HWI;go_wp2_with fail;refine(zbK n W0 hn).mono ?_;rintro e w1 ⟨rfl,hwx⟩;subst hwx;go_wp2_with fail;go_loopw [62] (fun kV wz=>wz=W0/\∃k:Int,kV=.int .i64 k/\(k=0\/(k=1/\0<=a/\a<=999)\/(k=2/\(0<=a/\a<=999)/\0<=b/\b<=999)\/(k=3/\(0<=a/\a<=999)/\(0<=b/\b<=999)/\0<=c/\c<=999))) (fun kV _=>3-(intOf kV).toNat)
 case atStart=>exact⟨rfl,0,rfl,Or.inl rfl⟩
 case round =>
  obtain⟨rfl,k,rfl,hk⟩:=hrel;rcases hk with rfl|⟨rfl,h1⟩|⟨rfl,h1,h2⟩|⟨rfl,h1,h2,h3⟩
  ·have hix:=zo6 a b c wr;go_wp2_with fail;clear hix
   by_cases hv:0<=a/\a<=999
   ·have HWV:Hid (zC 209 #[.int .i64 a,.int .i64 0,.int .i64 999] wr fun e w'=>e=.returned (.bool true)/\wr=w'):=(zae a 0 999 wr).mono fun e w' ⟨h1,h2⟩=>⟨by rw[h1,decide_eq_true hv],h2⟩;have HV:=zH hv;clear hv;refine HWV.out.mono ?_;rintro e w1 ⟨rfl,hwx⟩;subst hwx;clear HWV;go_wp2;go_roundw
    case rel=>exact⟨trivial,1,by go_num,Or.inr (Or.inl ⟨rfl,HV.out⟩)⟩
    case measure=>simp[intOf]
   ·have HWV:Hid (zC 209 #[.int .i64 a,.int .i64 0,.int .i64 999] wr fun e w'=>e=.returned (.bool false)/\wr=w'):=(zae a 0 999 wr).mono fun e w' ⟨h1,h2⟩=>⟨by rw[h1,decide_eq_false hv],h2⟩;have HC:Hid (Z=2):=by show _=_;rw[<-HZ.out];exact if_neg (fun h=>hv h.1)
    clear hv HZ;refine HWV.out.mono ?_;rintro e w1 ⟨rfl,hwx⟩;subst hwx;clear HWV;go_wp2;go_ret;exact⟨by rw[HC.out];rfl,HB.out⟩
  ·have hix:=zqw a b c wr;go_wp2_with fail;clear hix
   by_cases hv:0<=b/\b<=999
   ·have HWV:Hid (zC 209 #[.int .i64 b,.int .i64 0,.int .i64 999] wr fun e w'=>e=.returned (.bool true)/\wr=w'):=(zae b 0 999 wr).mono fun e w' ⟨h1,h2⟩=>⟨by rw[h1,decide_eq_true hv],h2⟩;have HV:=zH hv;clear hv;refine HWV.out.mono ?_;rintro e w1 ⟨rfl,hwx⟩;subst hwx;clear HWV;go_wp2;go_roundw
    case rel=>exact⟨trivial,2,by go_num,Or.inr (Or.inr (Or.inl ⟨rfl,h1,HV.out⟩))⟩
    case measure=>simp[intOf]
   ·have HWV:Hid (zC 209 #[.int .i64 b,.int .i64 0,.int .i64 999] wr fun e w'=>e=.returned (.bool false)/\wr=w'):=(zae b 0 999 wr).mono fun e w' ⟨h1,h2⟩=>⟨by rw[h1,decide_eq_false hv],h2⟩;have HC:Hid (Z=2):=by show _=_;rw[<-HZ.out];exact if_neg (fun h=>hv h.2.1)
    clear hv HZ;refine HWV.out.mono ?_;rintro e w1 ⟨rfl,hwx⟩;subst hwx;clear HWV;go_wp2;go_ret;exact⟨by rw[HC.out];rfl,HB.out⟩
  ·have hix:=zpg a b c wr;go_wp2_with fail;clear hix
   by_cases hv:0<=c/\c<=999
   ·have HWV:Hid (zC 209 #[.int .i64 c,.int .i64 0,.int .i64 999] wr fun e w'=>e=.returned (.bool true)/\wr=w'):=(zae c 0 999 wr).mono fun e w' ⟨h1,h2⟩=>⟨by rw[h1,decide_eq_true hv],h2⟩;have HV:=zH hv;clear hv;refine HWV.out.mono ?_;rintro e w1 ⟨rfl,hwx⟩;subst hwx;clear HWV;go_wp2;go_roundw
    case rel=>exact⟨trivial,3,by go_num,Or.inr (Or.inr (Or.inr ⟨rfl,h1,h2,HV.out⟩))⟩
    case measure=>simp[intOf]
   ·have HWV:Hid (zC 209 #[.int .i64 c,.int .i64 0,.int .i64 999] wr fun e w'=>e=.returned (.bool false)/\wr=w'):=(zae c 0 999 wr).mono fun e w' ⟨h1,h2⟩=>⟨by rw[h1,decide_eq_false hv],h2⟩;have HC:Hid (Z=2):=by show _=_;rw[<-HZ.out];exact if_neg (fun h=>hv h.2.2)
    clear hv HZ;refine HWV.out.mono ?_;rintro e w1 ⟨rfl,hwx⟩;subst hwx;clear HWV;go_wp2;go_ret;exact⟨by rw[HC.out];rfl,HB.out⟩
  ·have HC:Hid (Z=0):=by show _=_;rw[<-HZ.out];exact if_pos ⟨h1,h2,h3⟩
   clear HZ h1 h2 h3;go_wp2;go_ret;exact⟨by rw[HC.out];rfl,HB.out⟩
theorem zw0(n:ByteArray)(a b c:Int)(ra:Option Addr)(rn rc:Nat)(w:World)(hn:zaj n)(hz:(a==0&&(b==0&&c==0))=false) :
  ChkRr w (1) #[.int .i64 4,.string n,.int .i64 a,.int .i64 b,.int .i64 c,.string ⟨#[]⟩,.slice ra rn rc]:=by
 obtain⟨W0,hW0,k0,hb0⟩:=lboxr w #[.int .i64 4,.string n,.int .i64 a,.int .i64 b,.int .i64 c,.string ⟨#[]⟩,.slice ra rn rc];go_enter Tryz.func136,Tryz.ntmps136;go_upto_region 1 with fail;clear hW0;obtain⟨xc0,xc1,xc2,xc3,xc4,xc5,xc6⟩:=cells7r k0;have HB:=zH hb0;clear k0 hb0;have HWI:Hid (zC 209 #[.int .i64 4,.int .i64 1,.int .i64 4] W0 fun e w'=>e=.returned (.bool true)/\W0=w'):=(zae 4 1 4 W0).mono fun e w' ⟨h1,h2⟩=>⟨by rw[h1];rfl,h2⟩;go_wp2_with fail;refine HWI.out.mono ?_;rintro e w1 ⟨rfl,hwx⟩;subst hwx;clear HWI;go_wp2_with fail;refine(zbK n W0 hn).mono ?_;rintro e w1 ⟨rfl,hwx⟩;subst hwx;have h3:=zxZ a b c 0 0 0;rw[hz] at h3;go_wp2;go_ret;exact⟨rfl,HB.out⟩
theorem zvD(n:ByteArray)(a b c:Int)(ra:Option Addr)(rn rc:Nat)(w:World)(hn:zaj n)(hz:(a==0&&(b==0&&c==0))=true) :
  zR 136 #[.agg #[.int .i64 4,.string n,.int .i64 a,.int .i64 b,.int .i64 c,.string ⟨#[]⟩,.slice ra rn rc]] w (.int .i64 (if InV a b c then 0 else 2)):=by
 obtain⟨W0,hW0,k0,hb0⟩:=lboxr w #[.int .i64 4,.string n,.int .i64 a,.int .i64 b,.int .i64 c,.string ⟨#[]⟩,.slice ra rn rc];obtain⟨Z,hZ⟩:∃Z:Int,(if InV a b c then (0:Int) else 2)=Z:=⟨_,rfl⟩;rw[hZ];have HZ:=zH hZ;clear hZ;go_enter Tryz.func136,Tryz.ntmps136;go_upto_region 1 with fail;clear hW0;obtain⟨xc0,xc1,xc2,xc3,xc4,xc5,xc6⟩:=cells7r k0;have HB:=zH hb0;clear k0 hb0;have HWI:Hid (zC 209 #[.int .i64 4,.int .i64 1,.int .i64 4] W0 fun e w'=>e=.returned (.bool true)/\W0=w'):=(zae 4 1 4 W0).mono fun e w' ⟨h1,h2⟩=>⟨by rw[h1];rfl,h2⟩;go_wp2_with fail;refine HWI.out.mono ?_;rintro e w1 ⟨rfl,hwx⟩;subst hwx;clear HWI;go_wp2_with fail;refine(zbK n W0 hn).mono ?_;rintro e w1 ⟨rfl,hwx⟩;subst hwx;have h3:=zxZ a b c 0 0 0;rw[hz] at h3;go_wp2_with fail;clear h3;go_loopw [62] (fun kV wz=>wz=W0/\∃k:Int,kV=.int .i64 k/\(k=0\/(k=1/\0<=a/\a<=999)\/(k=2/\(0<=a/\a<=999)/\0<=b/\b<=999)\/(k=3/\(0<=a/\a<=999)/\(0<=b/\b<=999)/\0<=c/\c<=999))) (fun kV _=>3-(intOf kV).toNat)
 case atStart=>exact⟨rfl,0,rfl,Or.inl rfl⟩
 case round =>
  obtain⟨rfl,k,rfl,hk⟩:=hrel;rcases hk with rfl|⟨rfl,h1⟩|⟨rfl,h1,h2⟩|⟨rfl,h1,h2,h3⟩
  ·have hix:=zo6 a b c wr;go_wp2_with fail;clear hix
   by_cases hv:0<=a/\a<=999
   ·have HWV:Hid (zC 209 #[.int .i64 a,.int .i64 0,.int .i64 999] wr fun e w'=>e=.returned (.bool true)/\wr=w'):=(zae a 0 999 wr).mono fun e w' ⟨h1,h2⟩=>⟨by rw[h1,decide_eq_true hv],h2⟩;have HV:=zH hv;clear hv;refine HWV.out.mono ?_;rintro e w1 ⟨rfl,hwx⟩;subst hwx;clear HWV;go_wp2;go_roundw
    case rel=>exact⟨trivial,1,by go_num,Or.inr (Or.inl ⟨rfl,HV.out⟩)⟩
    case measure=>simp[intOf]
   ·have HWV:Hid (zC 209 #[.int .i64 a,.int .i64 0,.int .i64 999] wr fun e w'=>e=.returned (.bool false)/\wr=w'):=(zae a 0 999 wr).mono fun e w' ⟨h1,h2⟩=>⟨by rw[h1,decide_eq_false hv],h2⟩;have HC:Hid (Z=2):=by show _=_;rw[<-HZ.out];exact if_neg (fun h=>hv h.1)
    clear hv HZ;refine HWV.out.mono ?_;rintro e w1 ⟨rfl,hwx⟩;subst hwx;clear HWV;go_wp2;go_ret;exact⟨by rw[HC.out];rfl,HB.out⟩
  ·have hix:=zqw a b c wr;go_wp2_with fail;clear hix
   by_cases hv:0<=b/\b<=999
   ·have HWV:Hid (zC 209 #[.int .i64 b,.int .i64 0,.int .i64 999] wr fun e w'=>e=.returned (.bool true)/\wr=w'):=(zae b 0 999 wr).mono fun e w' ⟨h1,h2⟩=>⟨by rw[h1,decide_eq_true hv],h2⟩;have HV:=zH hv;clear hv;refine HWV.out.mono ?_;rintro e w1 ⟨rfl,hwx⟩;subst hwx;clear HWV;go_wp2;go_roundw
    case rel=>exact⟨trivial,2,by go_num,Or.inr (Or.inr (Or.inl ⟨rfl,h1,HV.out⟩))⟩
    case measure=>simp[intOf]
   ·have HWV:Hid (zC 209 #[.int .i64 b,.int .i64 0,.int .i64 999] wr fun e w'=>e=.returned (.bool false)/\wr=w'):=(zae b 0 999 wr).mono fun e w' ⟨h1,h2⟩=>⟨by rw[h1,decide_eq_false hv],h2⟩;have HC:Hid (Z=2):=by show _=_;rw[<-HZ.out];exact if_neg (fun h=>hv h.2.1)
    clear hv HZ;refine HWV.out.mono ?_;rintro e w1 ⟨rfl,hwx⟩;subst hwx;clear HWV;go_wp2;go_ret;exact⟨by rw[HC.out];rfl,HB.out⟩
  ·have hix:=zpg a b c wr;go_wp2_with fail;clear hix
   by_cases hv:0<=c/\c<=999
   ·have HWV:Hid (zC 209 #[.int .i64 c,.int .i64 0,.int .i64 999] wr fun e w'=>e=.returned (.bool true)/\wr=w'):=(zae c 0 999 wr).mono fun e w' ⟨h1,h2⟩=>⟨by rw[h1,decide_eq_true hv],h2⟩;have HV:=zH hv;clear hv;refine HWV.out.mono ?_;rintro e w1 ⟨rfl,hwx⟩;subst hwx;clear HWV;go_wp2;go_roundw
    case rel=>exact⟨trivial,3,by go_num,Or.inr (Or.inr (Or.inr ⟨rfl,h1,h2,HV.out⟩))⟩
    case measure=>simp[intOf]
   ·have HWV:Hid (zC 209 #[.int .i64 c,.int .i64 0,.int .i64 999] wr fun e w'=>e=.returned (.bool false)/\wr=w'):=(zae c 0 999 wr).mono fun e w' ⟨h1,h2⟩=>⟨by rw[h1,decide_eq_false hv],h2⟩;have HC:Hid (Z=2):=by show _=_;rw[<-HZ.out];exact if_neg (fun h=>hv h.2.2)
    clear hv HZ;refine HWV.out.mono ?_;rintro e w1 ⟨rfl,hwx⟩;subst hwx;clear HWV;go_wp2;go_ret;exact⟨by rw[HC.out];rfl,HB.out⟩
  ·have HC:Hid (Z=0):=by show _=_;rw[<-HZ.out];exact if_pos ⟨h1,h2,h3⟩
   clear HZ h1 h2 h3;go_wp2;go_ret;exact⟨by rw[HC.out];rfl,HB.out⟩
end
end Go.Proofs.YtiihalknffbjpaaGreatDoor
