/- space: better. -/
import Derived.Test.YtjmfeefogikdfaaGreatDoorCtReadP
import Derived.Test.YtjmfeefogikdfaaGreatDoorCtParse
set_option maxHeartbeats 4000000
set_option maxRecDepth 100000
namespace Go.Proofs.YtjmfeefogikdfaaGreatDoor
open Go.RowKit Go.Deep Sv
def zmK(w:World)(r:Option (List Ln × List It))(e:Ending)(w':World):Prop :=
 match r with
 |none=>e=.returned (.tuple #[.pointer none,.agg #[.int .i64 0,.slice none 0 0,.slice none 0 0],.bool false])/\zB w w'
 |some (ls,its)=>∃bc cv fv,e=.returned (.tuple #[.pointer (some ⟨bc,0,none⟩),.agg #[.int .i64 its.length,cv,fv],.bool true])/\y9 w' bc ls its/\RS w.heap.size w' cv fv ((ofL its ls).map Prod.snd) ((ofL its ls).map Prod.fst)/\zB w w'
theorem set3{W:World}{b:Nat}{t:TypeId}{x y z:Value}(h:Blk W b t #[x,y,z])(p q r:Value):Blk (((W.setCell ⟨b,0,none⟩ p).setCell ⟨b,1,none⟩ q).setCell ⟨b,2,none⟩ r) b t #[p,q,r]:=((h.set (i:=0)).set (i:=1)).set (i:=2)
theorem YS{w W:World}(h:zB w W)(p q r:Value):zB w (((W.setCell ⟨w.heap.size,0,none⟩ p).setCell ⟨w.heap.size,1,none⟩ q).setCell ⟨w.heap.size,2,none⟩ r) :=
 ((h.setCell (p:=⟨w.heap.size,0,none⟩) zN _).setCell (p:=⟨w.heap.size,1,none⟩) zN _).setCell (p:=⟨w.heap.size,2,none⟩) zN _
theorem zdi(s:ByteArray)(most:Nat)(w:World)(hw:Lw w):zC 4 #[.string s,.int .i64 most] w (zmK w (Zg s most)):=by
 obtain⟨R,hR⟩:∃R,Zg s most=R:=⟨_,rfl⟩;rw[hR];have HRF:=zH hR;have hb0:=below_new w (.cells #[.int .i64 0,.slice none 0 0,.slice none 0 0] 27);have k5:=Blk.new w 27 #[.int .i64 0,.slice none 0 0,.slice none 0 0];have HPA:=zH (zep s (w.alloc (.cells #[.int .i64 0,.slice none 0 0,.slice none 0 0] 27)) (hw.below hb0));clear hR hw;have K5:=zH k5;have HB0:=zH hb0;have hsz:(w.alloc (.cells #[.int .i64 0,.slice none 0 0,.slice none 0 0] 27)).heap.size=w.heap.size+1:=World.size_alloc _ _;go_enter Tryz.func4,Tryz.ntmps4;go_upto_region 1 with fail;generalize w.alloc (.cells #[.int .i64 0,.slice none 0 0,.slice none 0 0] 27)=W0 at *;have hzs:(0:Nat)=0:=rfl
 by_cases hs:1500<s.size
 ·obtain rfl:R=none:=by rw[<-HRF.out];unfold Zg;rw[if_pos hs]
  have hsi:(1500:Int)<(s.size:Int):=by omega
  have f0:=k5.frozen 0;have f1:=k5.frozen 1;have f2:=k5.frozen 2;have c0:_=some (Value.int .i64 0):=k5.cell 0;have c1:_=some (Value.slice none 0 0):=k5.cell 1;have c2:_=some (Value.slice none 0 0):=k5.cell 2;have Q0:=zH (set3 K5.out (.int .i64 0) (.slice none 0 0) (.slice none 0 0));have HB:=zH (YS HB0.out (.int .i64 0) (.slice none 0 0) (.slice none 0 0));clear k5 hb0 HPA;go_wp2;generalize ((W0.setCell ⟨w.heap.size,0,none⟩ (.int .i64 0)).setCell ⟨w.heap.size,1,none⟩ (.slice none 0 0)).setCell ⟨w.heap.size,2,none⟩ (.slice none 0 0)=WG at *;have r0:=Q0.out.cell 0;have r1:=Q0.out.cell 1;have r2:=Q0.out.cell 2;refine bodyPost_ret (v:=.tuple #[.pointer none,.agg #[.int .i64 0,.slice none 0 0,.slice none 0 0],.bool false]) (by simp[results,Tryz.f4,go_sem,r0,r1,r2]) rfl ?_;exact⟨rfl,HB.out⟩
 ·have hsi:¬(1500:Int)<(s.size:Int):=by omega
  cases hp:xU s with
  |error e2 =>
   obtain⟨pk,pp⟩:=e2;obtain rfl:R=none:=by rw[<-HRF.out];unfold Zg;rw[if_neg hs,hp]
   rw[hp] at HPA;have HP2:Hid (zC 12 #[.string s] W0 fun e w'=>∃er,e=.returned (.tuple #[.pointer none,er])/\qO w' er pk pp/\zB W0 w'):=HPA.out;clear hp HPA k5 hb0;go_wp2_with fail;refine HP2.out.mono ?_;rintro e w1 ⟨er,rfl,herr,hb1⟩;obtain⟨et,ev,rfl⟩:=herr.form;have hlt:w.heap.size<W0.heap.size:=K5.out.lt;have k5:=K5.out.below hb1 hlt;have f0:=k5.frozen 0;have f1:=k5.frozen 1;have f2:=k5.frozen 2;have c0:_=some (Value.int .i64 0):=k5.cell 0;have c1:_=some (Value.slice none 0 0):=k5.cell 1;have c2:_=some (Value.slice none 0 0):=k5.cell 2;have Q0:=zH (set3 k5 (.int .i64 0) (.slice none 0 0) (.slice none 0 0));have HB:=zH (YS (zT HB0.out hb1) (.int .i64 0) (.slice none 0 0) (.slice none 0 0));clear k5 hb1 HP2 herr;go_wp2;generalize ((w1.setCell ⟨w.heap.size,0,none⟩ (.int .i64 0)).setCell ⟨w.heap.size,1,none⟩ (.slice none 0 0)).setCell ⟨w.heap.size,2,none⟩ (.slice none 0 0)=WG at *;have r0:=Q0.out.cell 0;have r1:=Q0.out.cell 1;have r2:=Q0.out.cell 2;refine bodyPost_ret (v:=.tuple #[.pointer none,.agg #[.int .i64 0,.slice none 0 0,.slice none 0 0],.bool false]) (by simp[results,Tryz.f4,go_sem,r0,r1,r2]) rfl ?_;exact⟨rfl,HB.out⟩
  |ok li =>
   obtain⟨ls,its⟩:=li;have hnw:=XI (zdY hp);have hrf:R=if 200<(ofL its ls).length\/most<its.length then none else some (ls,its):=by rw[<-HRF.out];unfold Zg;rw[if_neg hs,hp]
   rw[hp] at HPA;have HP2:Hid (zC 12 #[.string s] W0 fun e w'=>∃bc vs,e=.returned (.tuple #[.pointer (some ⟨bc,0,none⟩),.nilIface])/\yD w' bc ls vs its W0.heap.size/\(∀k,k<W0.heap.size->RgN ls vs (some k))/\zB W0 w'):=HPA.out;have HRR:=zH hrf;clear hp HPA k5 hb0 HRF hrf;go_wp2_with fail;refine HP2.out.mono ?_;rintro e w1 ⟨bc,vs,rfl,hcat,hlow,hb1⟩;have HOF:=zH (za1 bc ls its w1 hcat.cat hnw.1 (by omega) (fun x hx=>zdX (hnw.2.2 x hx)));have HCAT:=zH hcat;have HLOW:=zH hlow;have HB1:=zH hb1;have hs1:=hb1.size;have hlt:w.heap.size<W0.heap.size:=K5.out.lt;have K51:=zH (K5.out.below hb1 hlt);have hn24:=hnw.1;clear HP2 hcat hlow hb1 hnw K5;obtain⟨PF,hPF⟩:∃PF,ofL its ls=PF:=⟨_,rfl⟩;rw[hPF] at HOF HRR;have HPF:=zH hPF;clear hPF;go_wp2_with fail;refine HOF.out.mono ?_;intro e w2 hres;rcases hres with ⟨hbig,rfl,hb2⟩|⟨hbig,cv,fv,rfl,hrs,hb2⟩
   ·obtain rfl:R=none:=by rw[HRR.out,if_pos (Or.inl hbig)]
    have k5:=((K51.out.below hb2 K51.out.lt).alloc (.cells #[.int .i64 0,.slice none 0 0,.slice none 0 0] 27));have hbn:=below_new w2 (.cells #[.int .i64 0,.slice none 0 0,.slice none 0 0] 27);have HBX:=zH ((zT HB0.out HB1.out).trans (hb2.mono (by have:=HB0.out.size;omega)));have HBY:=zH (zT HBX.out hbn);have K5:=zH k5;clear k5 hbn hb2 HOF K51 HCAT HLOW HB1;go_upto_region 7 with fail;generalize w2.alloc (.cells #[.int .i64 0,.slice none 0 0,.slice none 0 0] 27)=W3 at *;have k5:=K5.out;have f0:=k5.frozen 0;have f1:=k5.frozen 1;have f2:=k5.frozen 2;have c0:_=some (Value.int .i64 0):=k5.cell 0;have c1:_=some (Value.slice none 0 0):=k5.cell 1;have c2:_=some (Value.slice none 0 0):=k5.cell 2;have Q0:=zH (set3 k5 (.int .i64 0) (.slice none 0 0) (.slice none 0 0));have HB:=zH (YS HBY.out (.int .i64 0) (.slice none 0 0) (.slice none 0 0));clear k5;go_wp2;generalize ((W3.setCell ⟨w.heap.size,0,none⟩ (.int .i64 0)).setCell ⟨w.heap.size,1,none⟩ (.slice none 0 0)).setCell ⟨w.heap.size,2,none⟩ (.slice none 0 0)=WG at *;have r0:=Q0.out.cell 0;have r1:=Q0.out.cell 1;have r2:=Q0.out.cell 2;refine bodyPost_ret (v:=.tuple #[.pointer none,.agg #[.int .i64 0,.slice none 0 0,.slice none 0 0],.bool false]) (by simp[results,Tryz.f4,go_sem,r0,r1,r2]) rfl ?_;exact⟨rfl,HB.out⟩
   ·obtain⟨ca,cc,rfl⟩:∃a c,cv=.slice a PF.length c:=by obtain⟨cs,h1,_⟩:=hrs.crow;obtain⟨a,c,e,_⟩:=(qj h1).form;exact⟨a,c,by simpa using e⟩
    obtain⟨fa,fc,rfl⟩:∃a c,fv=.slice a PF.length c:=by obtain⟨a,c,e,_⟩:=(qj hrs.frow).form;exact⟨a,c,by simpa using e⟩
    have hbn:=below_new w2 (.cells #[.int .i64 its.length,.slice ca PF.length cc,.slice fa PF.length fc] 27);have k5:=((K51.out.below hb2 K51.out.lt).alloc (.cells #[.int .i64 its.length,.slice ca PF.length cc,.slice fa PF.length fc] 27));have k9:=Blk.new w2 27 #[.int .i64 its.length,.slice ca PF.length cc,.slice fa PF.length fc];have HBX:=zH ((zT HB0.out HB1.out).trans (hb2.mono (by have:=HB0.out.size;omega)));have HBY:=zH (zT HBX.out hbn);have HRS:=zH (hrs.new hbn);have HCA:=zH ((HCAT.out.below hb2 zN).below hbn zN);have K5:=zH k5;have K9:=zH k9;have h29:w1.heap.size<=w2.heap.size:=hb2.size;clear k5 k9 hbn hb2 HOF K51 HCAT hrs HB1;go_upto_region 7 with fail;generalize w2.alloc (.cells #[.int .i64 its.length,.slice ca PF.length cc,.slice fa PF.length fc] 27)=W3 at *;generalize w2.heap.size=b9 at *;have k5:=K5.out;have f0:=k5.frozen 0;have f1:=k5.frozen 1;have f2:=k5.frozen 2;have c0:_=some (Value.int .i64 0):=k5.cell 0;have c1:_=some (Value.slice none 0 0):=k5.cell 1;have c2:_=some (Value.slice none 0 0):=k5.cell 2;have e0:_=some (Value.int .i64 its.length):=K9.out.cell 0;have e1:_=some (Value.slice ca PF.length cc):=K9.out.cell 1;have e2:_=some (Value.slice fa PF.length fc):=K9.out.cell 2;clear k5
    by_cases hmo:most<its.length
    ·obtain rfl:R=none:=by rw[HRR.out,if_pos (Or.inr hmo)]
     have hmi:(most:Int)<(its.length:Int):=by omega
     have Q0:=zH (set3 K5.out (.int .i64 0) (.slice none 0 0) (.slice none 0 0));have HB:=zH (YS HBY.out (.int .i64 0) (.slice none 0 0) (.slice none 0 0));clear HCA HRS HLOW;go_wp2;generalize ((W3.setCell ⟨w.heap.size,0,none⟩ (.int .i64 0)).setCell ⟨w.heap.size,1,none⟩ (.slice none 0 0)).setCell ⟨w.heap.size,2,none⟩ (.slice none 0 0)=WG at *;have r0:=Q0.out.cell 0;have r1:=Q0.out.cell 1;have r2:=Q0.out.cell 2;refine bodyPost_ret (v:=.tuple #[.pointer none,.agg #[.int .i64 0,.slice none 0 0,.slice none 0 0],.bool false]) (by simp[results,Tryz.f4,go_sem,r0,r1,r2]) rfl ?_;exact⟨rfl,HB.out⟩
    ·obtain rfl:R=some (ls,its):=by rw[HRR.out,if_neg (by omega)]
     have hmi:¬(most:Int)<(its.length:Int):=by omega
     have hkl:w.heap.size<w1.heap.size:=by omega
     have q0:=set3 K5.out (.int .i64 its.length) (.slice ca PF.length cc) (.slice fa PF.length fc);have hB:=YS HBY.out (.int .i64 its.length) (.slice ca PF.length cc) (.slice fa PF.length fc);have hR:=((HRS.out.set (i:=0) (v:=.int .i64 its.length) K5.out hkl).set (i:=1) (v:=.slice ca PF.length cc) (K5.out.set (i:=0)) hkl).set (i:=2) (v:=.slice fa PF.length fc) ((K5.out.set (i:=0)).set (i:=1)) hkl;have hCA:=((HCA.out.set (k:=w.heap.size) (i:=0) (x:=.int .i64 its.length) hlt (HLOW.out _ hlt)).set (k:=w.heap.size) (i:=1) (x:=.slice ca PF.length cc) hlt (HLOW.out _ hlt)).set (k:=w.heap.size) (i:=2) (x:=.slice fa PF.length fc) hlt (HLOW.out _ hlt);have Q0:Hid (Blk (((W3.setCell ⟨w.heap.size,0,none⟩ (.int .i64 its.length)).setCell ⟨w.heap.size,1,none⟩ (.slice ca PF.length cc)).setCell ⟨w.heap.size,2,none⟩ (.slice fa PF.length fc)).drew w.heap.size 27 #[.int .i64 its.length,.slice ca PF.length cc,.slice fa PF.length fc]):=q0;have HB:Hid (zB w (((W3.setCell ⟨w.heap.size,0,none⟩ (.int .i64 its.length)).setCell ⟨w.heap.size,1,none⟩ (.slice ca PF.length cc)).setCell ⟨w.heap.size,2,none⟩ (.slice fa PF.length fc)).drew):=hB.drew;have hbd:Below (((W3.setCell ⟨w.heap.size,0,none⟩ (.int .i64 its.length)).setCell ⟨w.heap.size,1,none⟩ (.slice ca PF.length cc)).setCell ⟨w.heap.size,2,none⟩ (.slice fa PF.length fc)).heap.size (((W3.setCell ⟨w.heap.size,0,none⟩ (.int .i64 its.length)).setCell ⟨w.heap.size,1,none⟩ (.slice ca PF.length cc)).setCell ⟨w.heap.size,2,none⟩ (.slice fa PF.length fc)) (((W3.setCell ⟨w.heap.size,0,none⟩ (.int .i64 its.length)).setCell ⟨w.heap.size,1,none⟩ (.slice ca PF.length cc)).setCell ⟨w.heap.size,2,none⟩ (.slice fa PF.length fc)).drew:=zF.drew;have HR3:Hid (RS w.heap.size (((W3.setCell ⟨w.heap.size,0,none⟩ (.int .i64 its.length)).setCell ⟨w.heap.size,1,none⟩ (.slice ca PF.length cc)).setCell ⟨w.heap.size,2,none⟩ (.slice fa PF.length fc)).drew (.slice ca PF.length cc) (.slice fa PF.length fc) (PF.map Prod.snd) (PF.map Prod.fst)):=(hR.new hbd).base (Nat.le_of_lt hkl);have HC3:Hid (y9 (((W3.setCell ⟨w.heap.size,0,none⟩ (.int .i64 its.length)).setCell ⟨w.heap.size,1,none⟩ (.slice ca PF.length cc)).setCell ⟨w.heap.size,2,none⟩ (.slice fa PF.length fc)).drew bc ls its):=(hCA.below hbd zN).cat;clear q0 hB hR hCA hbd HRS HCA HLOW;go_upto_region 9 with fail;go_big_region;generalize (((W3.setCell ⟨w.heap.size,0,none⟩ (.int .i64 its.length)).setCell ⟨w.heap.size,1,none⟩ (.slice ca PF.length cc)).setCell ⟨w.heap.size,2,none⟩ (.slice fa PF.length fc)).drew=WG at *;go_wp2;have r0:=Q0.out.cell 0;have r1:=Q0.out.cell 1;have r2:=Q0.out.cell 2;refine bodyPost_ret (v:=.tuple #[.pointer (some ⟨bc,0,none⟩),.agg #[.int .i64 its.length,.slice ca PF.length cc,.slice fa PF.length fc],.bool true]) (by simp[results,Tryz.f4,go_sem,r0,r1,r2]) rfl ?_;refine⟨bc,_,_,rfl,HC3.out,?_,HB.out⟩;rw[HPF.out];exact HR3.out
end Go.Proofs.YtjmfeefogikdfaaGreatDoor
namespace Go.Proofs.YtjmfeefogikdfaaGreatDoor.Bd
open Go.RowKit Go.Maps Go.Deep
def Wy.val(x:Wy):Value:=.agg #[.int .u64 x.items,.int .i64 x.cost,.bool x.can]
def XJ(W0:World)(F:FuncId)(cb:Array Value)(C:qt)(vars:Nat):Prop:=∀W (i:Nat) (b:Bool),zB W0 W->i<vars->zR F (#[.int .i64 i,.bool b]++cb) W (.int .i64 (C i b))
structure BS(w:World)(p dk:Nat)(F:FuncId)(cb:Array Value)(a1 b1 c1 a2 b2 c2:Value)(X:World):Prop where
 w0:Blk X w.heap.size 185 #[.pointer (some ⟨p,0,none⟩),.func (.func F) #[] cb,.map (some dk)]
 w1:Blk X (w.heap.size+1) 136 #[a1,b1,c1]
 w2:Blk X (w.heap.size+1+1) 136 #[a2,b2,c2]
 w3:Blk X (w.heap.size+1+1+1) 136 #[.int .u64 0,.int .i64 0,.bool false]
 bel:zB w X
section
variable {w X X':World} {p dk:Nat} {F:FuncId} {cb:Array Value} {a1 b1 c1 a2 b2 c2:Value}
theorem BS.below(h:BS w p dk F cb a1 b1 c1 a2 b2 c2 X)(hb:zB X X'):BS w p dk F cb a1 b1 c1 a2 b2 c2 X' :=
 ⟨h.w0.below hb h.w0.lt,h.w1.below hb h.w1.lt,h.w2.below hb h.w2.lt,h.w3.below hb h.w3.lt,zT h.bel hb⟩
theorem BS.drew(h:BS w p dk F cb a1 b1 c1 a2 b2 c2 X):BS w p dk F cb a1 b1 c1 a2 b2 c2 X.drew:=h.below zF.drew
theorem BS.setw1(h:BS w p dk F cb a1 b1 c1 a2 b2 c2 X)(v:Value):BS w p dk F cb a1 v c1 a2 b2 c2 (X.setCell ⟨w.heap.size+1,1,none⟩ v) :=
 ⟨h.w0.other (by omega),h.w1.set (i:=1),h.w2.other (by omega),h.w3.other (by omega),h.bel.setCell (p:=⟨w.heap.size+1,1,none⟩) (by show w.heap.size<=w.heap.size+1;omega) _⟩
theorem BS.setw2(h:BS w p dk F cb a1 b1 c1 a2 b2 c2 X)(v:Value):BS w p dk F cb a1 b1 c1 a2 v c2 (X.setCell ⟨w.heap.size+1+1,1,none⟩ v) :=
 ⟨h.w0.other (by omega),h.w1.other (by omega),h.w2.set (i:=1),h.w3.other (by omega),h.bel.setCell (p:=⟨w.heap.size+1+1,1,none⟩) (by show w.heap.size<=w.heap.size+1+1;omega) _⟩
theorem BS.setw0(h:BS w p dk F cb a1 b1 c1 a2 b2 c2 X)(v:Value):BS w p dk F cb a1 b1 c1 v b2 c2 (X.setCell ⟨w.heap.size+1+1,0,none⟩ v) :=
 ⟨h.w0.other (by omega),h.w1.other (by omega),h.w2.set (i:=0),h.w3.other (by omega),h.bel.setCell (p:=⟨w.heap.size+1+1,0,none⟩) (by show w.heap.size<=w.heap.size+1+1;omega) _⟩
end
theorem XA{w W:World}{b:Nat}(h:zB w W)(hb:w.heap.size<=b)(p q r:Value):zB w (((W.setCell ⟨b,0,none⟩ p).setCell ⟨b,1,none⟩ q).setCell ⟨b,2,none⟩ r) :=
 ((h.setCell (p:=⟨b,0,none⟩) hb _).setCell (p:=⟨b,1,none⟩) hb _).setCell (p:=⟨b,2,none⟩) hb _
theorem zgH(m i:Nat)(hm:m<2^24)(hi:i<24):bits BinOp.or IntKind.u64 (m:Int) (IntKind.u64.wrap (2^i))=((m|||2^i:Nat):Int):=by
 have h1:(2:Nat)^i<2^64:=Nat.pow_lt_pow_right (by decide) (by omega);have h2:(2:Nat)^24<18446744073709551616:=by decide
 have e:IntKind.u64.wrap (2^i)=((2^i:Nat):Int):=by
  rw[IntKind.wrap_u64,show ((2:Int)^i)=((2^i:Nat):Int) by simp];exact Int.emod_eq_of_lt (Int.natCast_nonneg _) (by omega)
 rw[e,bits_or_u64_nat m (2^i) (by omega) (by omega)]
theorem zdW{W0 w:World}(F:FuncId)(cb:Array Value)(C:qt)(vars:Nat)(hv:vars<=24)(hent:∀args w,(callFunc F args).run Tryz.prog w=.ok (.enter F args) w)(hC:Qq C)(hCA:XJ W0 F cb C vars)(hW:zB W0 w)(p:Nat)(dk:Nat)(i:Nat)(hi:i<vars)(wo wi:Wy)(h1:0<=wo.cost/\wo.cost<=24000000)(h2:0<=wi.cost/\wi.cost<=24000000)(h3:wi.items<2^24) :
  zC 135 #[.agg #[.pointer (some ⟨p,0,none⟩),.func (.func F) #[] cb,.map (some dk)],.int .i64 i,wo.val,wi.val] w fun e w'=>e=.returned (xz C i wo wi).val/\zB w w':=by
 have k0:=(((Blk.new w 185 #[.pointer (some ⟨p,0,none⟩),.func (.func F) #[] cb,.map (some dk)]).alloc (.cells #[.int .u64 wo.items,.int .i64 wo.cost,.bool wo.can] 136)).alloc (.cells #[.int .u64 wi.items,.int .i64 wi.cost,.bool wi.can] 136)).alloc (.cells #[.int .u64 0,.int .i64 0,.bool false] 136);have k1:=((Blk.new (w.alloc (.cells #[.pointer (some ⟨p,0,none⟩),.func (.func F) #[] cb,.map (some dk)] 185)) 136 #[.int .u64 wo.items,.int .i64 wo.cost,.bool wo.can]).alloc (.cells #[.int .u64 wi.items,.int .i64 wi.cost,.bool wi.can] 136)).alloc (.cells #[.int .u64 0,.int .i64 0,.bool false] 136);have k2:=(Blk.new ((w.alloc (.cells #[.pointer (some ⟨p,0,none⟩),.func (.func F) #[] cb,.map (some dk)] 185)).alloc (.cells #[.int .u64 wo.items,.int .i64 wo.cost,.bool wo.can] 136)) 136 #[.int .u64 wi.items,.int .i64 wi.cost,.bool wi.can]).alloc (.cells #[.int .u64 0,.int .i64 0,.bool false] 136);have k3:=Blk.new (((w.alloc (.cells #[.pointer (some ⟨p,0,none⟩),.func (.func F) #[] cb,.map (some dk)] 185)).alloc (.cells #[.int .u64 wo.items,.int .i64 wo.cost,.bool wo.can] 136)).alloc (.cells #[.int .u64 wi.items,.int .i64 wi.cost,.bool wi.can] 136)) 136 #[.int .u64 0,.int .i64 0,.bool false];simp only[World.size_alloc] at k1 k2 k3;have hbA:zB w ((((w.alloc (.cells #[.pointer (some ⟨p,0,none⟩),.func (.func F) #[] cb,.map (some dk)] 185)).alloc (.cells #[.int .u64 wo.items,.int .i64 wo.cost,.bool wo.can] 136)).alloc (.cells #[.int .u64 wi.items,.int .i64 wi.cost,.bool wi.can] 136)).alloc (.cells #[.int .u64 0,.int .i64 0,.bool false] 136)):=((((Below.refl _ w).alloc zN _).alloc (by simp only[World.size_alloc];omega) _).alloc (by simp only[World.size_alloc];omega) _).alloc (by simp only[World.size_alloc];omega) _;have HC1:Hid (∀W,zB w W->zR F (#[.int .i64 i,.bool false]++cb) W (.int .i64 (C i false))):=fun W hb=>hCA W i false (zT hW hb) hi;have HC2:Hid (∀W,zB w W->zR F (#[.int .i64 i,.bool true]++cb) W (.int .i64 (C i true))):=fun W hb=>hCA W i true (zT hW hb) hi;have b1:=hC i false;have b2:=hC i true;have hor:=zgH wi.items i h3 (by omega);have HBF:Hid (xz C i wo wi=if wi.can=true/\(wo.can=false\/wi.cost+C i true<=wo.cost+C i false) then ⟨wi.items|||2^i,wi.cost+C i true,wi.can⟩ else ⟨wo.items,wo.cost+C i false,wo.can⟩):=rfl;generalize xz C i wo wi=R at *;unfold Wy.val;obtain⟨oi,oc,ob⟩:=wo;obtain⟨ii,ic,ib⟩:=wi;simp only at *;obtain⟨g1,hg1⟩:∃g,C i false=g:=⟨_,rfl⟩;obtain⟨g2,hg2⟩:∃g,C i true=g:=⟨_,rfl⟩;rw[hg1] at HC1 b1 HBF;rw[hg2] at HC2 b2 HBF;clear hCA hC hg1 hg2 hW;have hi64:(i:Int)<64:=by omega
 have wr1:wrap64 (oc+g1)=oc+g1:=by unfold wrap64;omega
 have wr2:wrap64 (ic+g2)=ic+g2:=by unfold wrap64;omega
 have wk1:IntKind.i64.wrap (oc+g1)=oc+g1:=by rw[IntKind.wrap_i64];unfold wrap64 at wr1;exact wr1
 have wk2:IntKind.i64.wrap (ic+g2)=ic+g2:=by rw[IntKind.wrap_i64];unfold wrap64 at wr2;exact wr2
 have hi0:(0:Int)<=(i:Int):=by omega
 go_enter Tryz.func135,Tryz.ntmps135;go_upto_region 1 with fail;generalize hWA:((((w.alloc (.cells #[.pointer (some ⟨p,0,none⟩),.func (.func F) #[] cb,.map (some dk)] 185)).alloc (.cells #[.int .u64 oi,.int .i64 oc,.bool ob] 136)).alloc (.cells #[.int .u64 ii,.int .i64 ic,.bool ib] 136)).alloc (.cells #[.int .u64 0,.int .i64 0,.bool false] 136))=WA at *;have BSA:BS w p dk F cb (.int .u64 oi) (.int .i64 oc) (.bool ob) (.int .u64 ii) (.int .i64 ic) (.bool ib) WA:=⟨k0,k1,k2,k3,hbA⟩;clear hWA k0 k1 k2 k3;have BSX:=zH BSA.drew;have c0:_=some (Value.func (.func F) #[] cb):=BSX.out.w0.cell 1;have c1:_=some (Value.int .i64 oc):=BSX.out.w1.cell 1;have D0:zB w WA.drew:=hbA.drew;clear BSA hbA;go_cut [10] (fun _ wx=>BS w p dk F cb (.int .u64 oi) (.int .i64 (oc+g1)) (.bool ob) (.int .u64 ii) (.int .i64 ic) (.bool ib) wx)
 case first =>
   refine wp_region_noPanic ?_;refine wp_region_held_drew (S:=(fun X=>X.cell? ⟨w.heap.size,1,none⟩=some (.func (.func F) #[] cb))) (by kernel_rfl) c0 (fun hHeld=>?_);refine wpAnyH_take (i:=0) (oi:=⟨_,_,_,_,_,_⟩) (v:=?_) rfl (by as_aux_lemma=>kernel_rfl) (by as_aux_lemma=>kernel_rfl) (by as_aux_lemma=>kernel_rfl) (fun _ _ _ h=>h) (Or.inl ⟨by rfl,?_⟩) (by assumption) ?_;rotate_left
   ·(intro w hSw;(try dsimp only at hSw);first|(go_simp;done)|(go_simp;with_reducible rfl))
   try simp only[Act.put,List.setIfInBounds_toArray,List.set_cons_zero,List.set_cons_succ]
   refine wpAnyH_take (i:=2) (oi:=⟨_,_,_,_,_,_⟩) (v:=?_) rfl (by as_aux_lemma=>kernel_rfl) (by as_aux_lemma=>kernel_rfl) (by as_aux_lemma=>kernel_rfl) (fun _ _ _ h=>h) (Or.inl ⟨by rfl,?_⟩) (by assumption) ?_;rotate_left
   ·(intro w hSw;(try dsimp only at hSw);first|(go_simp;done)|(go_simp;with_reducible rfl))
   try simp only[Act.put,List.setIfInBounds_toArray,List.set_cons_zero,List.set_cons_succ]
   refine wpAnyH_take (i:=3) (oi:=⟨_,_,_,_,_,_⟩) (v:=?_) rfl (by as_aux_lemma=>kernel_rfl) (by as_aux_lemma=>kernel_rfl) (by as_aux_lemma=>kernel_rfl) (fun _ _ _ h=>h) (Or.inl ⟨by rfl,?_⟩) (by assumption) ?_;rotate_left
   ·(intro w hSw;(try dsimp only at hSw);first|(go_simp;done)|(go_simp;with_reducible rfl))
   try simp only[Act.put,List.setIfInBounds_toArray,List.set_cons_zero,List.set_cons_succ]
   refine wpAnyH_take (i:=4) (oi:=⟨_,_,_,_,_,_⟩) (v:=?_) rfl (by as_aux_lemma=>kernel_rfl) (by as_aux_lemma=>kernel_rfl) (by as_aux_lemma=>kernel_rfl) (fun _ _ _ h=>h) (Or.inl ⟨by rfl,?_⟩) (by assumption) ?_;rotate_left
   ·(intro w hSw;(try dsimp only at hSw);first|(go_simp;done)|(go_simp;with_reducible rfl))
   try simp only[Act.put,List.setIfInBounds_toArray,List.set_cons_zero,List.set_cons_succ]
   refine wpAnyH_ready (rs:=[1,5]) (by as_aux_lemma=>kernel_rfl) (by simp) ?_;refine AllReadyH.cons (o:=⟨_,_,_,_,_,_⟩) rfl (fun K hK=>?_) (AllReadyH.cons (o:=⟨_,_,_,_,_,_⟩) rfl (fun K hK=>?_) AllReadyH.nil)
   ·go_simp;refine hK.out _ _ ?_ (fun hNew=>?_)
    ·exact hHeld
    clear hK K;replace hHeld:=hNew;clear hNew
    try simp only[Act.put,List.setIfInBounds_toArray,List.set_cons_zero,List.set_cons_succ]
    refine wpAnyH_ready (rs:=[5]) (by as_aux_lemma=>kernel_rfl) (by simp) ?_;refine AllReadyH.cons (o:=⟨_,_,_,_,_,_⟩) rfl (fun K hK=>?_) AllReadyH.nil;go_simp;refine(HC1.out _ D0).mono ?_;rintro e x1 ⟨rfl,hb1⟩;have D1:zB w x1:=zT D0 hb1;have BX:=BSX.out.below hb1;have f1:=BX.w1.cell 1;have f2:=BX.w1.frozen 1;have f0:=BX.w0.cell 1
    try simp only
    refine hK.out _ _ ?_ (fun hNew=>?_)
    ·exact f0
    clear hK K;replace hHeld:=hNew;clear hNew
    try simp only[Act.put,List.setIfInBounds_toArray,List.set_cons_zero,List.set_cons_succ]
    refine wpAnyH_take (i:=6) (oi:=⟨_,_,_,_,_,_⟩) (v:=?_) rfl (by as_aux_lemma=>kernel_rfl) (by as_aux_lemma=>kernel_rfl) (by as_aux_lemma=>kernel_rfl) (fun _ _ _ h=>h) (Or.inl ⟨by rfl,?_⟩) (by assumption) ?_;rotate_left
    ·(intro w hSw;(try dsimp only at hSw);first|(go_simp;done)|(go_simp;with_reducible rfl))
    try simp only[Act.put,List.setIfInBounds_toArray,List.set_cons_zero,List.set_cons_succ]
    refine wpAnyH_take (i:=7) (oi:=⟨_,_,_,_,_,_⟩) (v:=?_) rfl (by as_aux_lemma=>kernel_rfl) (by as_aux_lemma=>kernel_rfl) (by as_aux_lemma=>kernel_rfl) (fun _ _ _ h=>h) (Or.inl ⟨by rfl,?_⟩) (by assumption) ?_;rotate_left
    ·(intro w hSw;(try dsimp only at hSw);first|(go_simp;done)|(go_simp;with_reducible rfl))
    try simp only[Act.put,List.setIfInBounds_toArray,List.set_cons_zero,List.set_cons_succ]
    refine wpAnyH_ready (rs:=[8]) (by as_aux_lemma=>kernel_rfl) (by simp) ?_;refine AllReadyH.cons (o:=⟨_,_,_,_,_,_⟩) rfl (fun K hK=>?_) AllReadyH.nil;go_simp;refine hK.out _ _ ?_ (fun hNew=>?_)
    ·exact(BX.setw1 (.int .i64 (oc+g1))).w0.cell 1
    clear hK K;replace hHeld:=hNew;clear hNew
    try simp only[Act.put,List.setIfInBounds_toArray,List.set_cons_zero,List.set_cons_succ]
    refine wpAnyH_done (by kernel_rfl) (NoPanic.normal ?_) _;have HFI:=zH (BX.setw1 (.int .i64 (oc+g1)));clear hHeld f0 f1 f2 BX D1 hb1;go_wp2_with fail;go_meet
    case rel=>exact HFI.out
   ·go_simp;refine(HC1.out _ D0).mono ?_;rintro e x1 ⟨rfl,hb1⟩;have D1:zB w x1:=zT D0 hb1;have BX:=BSX.out.below hb1;have f1:=BX.w1.cell 1;have f2:=BX.w1.frozen 1;have f0:=BX.w0.cell 1
    try simp only
    refine hK.out _ _ ?_ (fun hNew=>?_)
    ·exact f0
    clear hK K;replace hHeld:=hNew;clear hNew
    try simp only[Act.put,List.setIfInBounds_toArray,List.set_cons_zero,List.set_cons_succ]
    refine wpAnyH_ready (rs:=[1]) (by as_aux_lemma=>kernel_rfl) (by simp) ?_;refine AllReadyH.cons (o:=⟨_,_,_,_,_,_⟩) rfl (fun K hK=>?_) AllReadyH.nil;go_simp;refine hK.out _ _ ?_ (fun hNew=>?_)
    ·exact hHeld
    clear hK K;replace hHeld:=hNew;clear hNew
    try simp only[Act.put,List.setIfInBounds_toArray,List.set_cons_zero,List.set_cons_succ]
    refine wpAnyH_take (i:=6) (oi:=⟨_,_,_,_,_,_⟩) (v:=?_) rfl (by as_aux_lemma=>kernel_rfl) (by as_aux_lemma=>kernel_rfl) (by as_aux_lemma=>kernel_rfl) (fun _ _ _ h=>h) (Or.inl ⟨by rfl,?_⟩) (by assumption) ?_;rotate_left
    ·(intro w hSw;(try dsimp only at hSw);first|(go_simp;done)|(go_simp;with_reducible rfl))
    try simp only[Act.put,List.setIfInBounds_toArray,List.set_cons_zero,List.set_cons_succ]
    refine wpAnyH_take (i:=7) (oi:=⟨_,_,_,_,_,_⟩) (v:=?_) rfl (by as_aux_lemma=>kernel_rfl) (by as_aux_lemma=>kernel_rfl) (by as_aux_lemma=>kernel_rfl) (fun _ _ _ h=>h) (Or.inl ⟨by rfl,?_⟩) (by assumption) ?_;rotate_left
    ·(intro w hSw;(try dsimp only at hSw);first|(go_simp;done)|(go_simp;with_reducible rfl))
    try simp only[Act.put,List.setIfInBounds_toArray,List.set_cons_zero,List.set_cons_succ]
    refine wpAnyH_ready (rs:=[8]) (by as_aux_lemma=>kernel_rfl) (by simp) ?_;refine AllReadyH.cons (o:=⟨_,_,_,_,_,_⟩) rfl (fun K hK=>?_) AllReadyH.nil;go_simp;refine hK.out _ _ ?_ (fun hNew=>?_)
    ·exact(BX.setw1 (.int .i64 (oc+g1))).w0.cell 1
    clear hK K;replace hHeld:=hNew;clear hNew
    try simp only[Act.put,List.setIfInBounds_toArray,List.set_cons_zero,List.set_cons_succ]
    refine wpAnyH_done (by kernel_rfl) (NoPanic.normal ?_) _;have HFI:=zH (BX.setw1 (.int .i64 (oc+g1)));clear hHeld f0 f1 f2 BX D1 hb1;go_wp2_with fail;go_meet
    case rel=>exact HFI.out
 case rest =>
  clear BSX c0 c1 D0 HC1;have BSB:=hcut;clear hcut;have BSX:=zH BSB.drew;have c0:_=some (Value.func (.func F) #[] cb):=BSX.out.w0.cell 1;have c1:_=some (Value.int .i64 ic):=BSX.out.w2.cell 1;have D0:zB w wc.drew:=BSB.bel.drew;clear BSB;go_upto_region 2 with fail;go_cut [18] (fun _ wx=>BS w p dk F cb (.int .u64 oi) (.int .i64 (oc+g1)) (.bool ob) (.int .u64 ii) (.int .i64 (ic+g2)) (.bool ib) wx)
  case first =>
   refine wp_region_noPanic ?_;refine wp_region_held_drew (S:=(fun X=>X.cell? ⟨w.heap.size,1,none⟩=some (.func (.func F) #[] cb))) (by kernel_rfl) c0 (fun hHeld=>?_);refine wpAnyH_take (i:=0) (oi:=⟨_,_,_,_,_,_⟩) (v:=?_) rfl (by as_aux_lemma=>kernel_rfl) (by as_aux_lemma=>kernel_rfl) (by as_aux_lemma=>kernel_rfl) (fun _ _ _ h=>h) (Or.inl ⟨by rfl,?_⟩) (by assumption) ?_;rotate_left
   ·(intro w hSw;(try dsimp only at hSw);first|(go_simp;done)|(go_simp;with_reducible rfl))
   try simp only[Act.put,List.setIfInBounds_toArray,List.set_cons_zero,List.set_cons_succ]
   refine wpAnyH_take (i:=2) (oi:=⟨_,_,_,_,_,_⟩) (v:=?_) rfl (by as_aux_lemma=>kernel_rfl) (by as_aux_lemma=>kernel_rfl) (by as_aux_lemma=>kernel_rfl) (fun _ _ _ h=>h) (Or.inl ⟨by rfl,?_⟩) (by assumption) ?_;rotate_left
   ·(intro w hSw;(try dsimp only at hSw);first|(go_simp;done)|(go_simp;with_reducible rfl))
   try simp only[Act.put,List.setIfInBounds_toArray,List.set_cons_zero,List.set_cons_succ]
   refine wpAnyH_take (i:=3) (oi:=⟨_,_,_,_,_,_⟩) (v:=?_) rfl (by as_aux_lemma=>kernel_rfl) (by as_aux_lemma=>kernel_rfl) (by as_aux_lemma=>kernel_rfl) (fun _ _ _ h=>h) (Or.inl ⟨by rfl,?_⟩) (by assumption) ?_;rotate_left
   ·(intro w hSw;(try dsimp only at hSw);first|(go_simp;done)|(go_simp;with_reducible rfl))
   try simp only[Act.put,List.setIfInBounds_toArray,List.set_cons_zero,List.set_cons_succ]
   refine wpAnyH_take (i:=4) (oi:=⟨_,_,_,_,_,_⟩) (v:=?_) rfl (by as_aux_lemma=>kernel_rfl) (by as_aux_lemma=>kernel_rfl) (by as_aux_lemma=>kernel_rfl) (fun _ _ _ h=>h) (Or.inl ⟨by rfl,?_⟩) (by assumption) ?_;rotate_left
   ·(intro w hSw;(try dsimp only at hSw);first|(go_simp;done)|(go_simp;with_reducible rfl))
   try simp only[Act.put,List.setIfInBounds_toArray,List.set_cons_zero,List.set_cons_succ]
   refine wpAnyH_ready (rs:=[1,5]) (by as_aux_lemma=>kernel_rfl) (by simp) ?_;refine AllReadyH.cons (o:=⟨_,_,_,_,_,_⟩) rfl (fun K hK=>?_) (AllReadyH.cons (o:=⟨_,_,_,_,_,_⟩) rfl (fun K hK=>?_) AllReadyH.nil)
   ·go_simp;refine hK.out _ _ ?_ (fun hNew=>?_)
    ·exact hHeld
    clear hK K;replace hHeld:=hNew;clear hNew
    try simp only[Act.put,List.setIfInBounds_toArray,List.set_cons_zero,List.set_cons_succ]
    refine wpAnyH_ready (rs:=[5]) (by as_aux_lemma=>kernel_rfl) (by simp) ?_;refine AllReadyH.cons (o:=⟨_,_,_,_,_,_⟩) rfl (fun K hK=>?_) AllReadyH.nil;go_simp;refine(HC2.out _ D0).mono ?_;rintro e x2 ⟨rfl,hb1⟩;have D1:zB w x2:=zT D0 hb1;have BX:=BSX.out.below hb1;have f1:=BX.w2.cell 1;have f2:=BX.w2.frozen 1;have f0:=BX.w0.cell 1
    try simp only
    refine hK.out _ _ ?_ (fun hNew=>?_)
    ·exact f0
    clear hK K;replace hHeld:=hNew;clear hNew
    try simp only[Act.put,List.setIfInBounds_toArray,List.set_cons_zero,List.set_cons_succ]
    refine wpAnyH_take (i:=6) (oi:=⟨_,_,_,_,_,_⟩) (v:=?_) rfl (by as_aux_lemma=>kernel_rfl) (by as_aux_lemma=>kernel_rfl) (by as_aux_lemma=>kernel_rfl) (fun _ _ _ h=>h) (Or.inl ⟨by rfl,?_⟩) (by assumption) ?_;rotate_left
    ·(intro w hSw;(try dsimp only at hSw);first|(go_simp;done)|(go_simp;with_reducible rfl))
    try simp only[Act.put,List.setIfInBounds_toArray,List.set_cons_zero,List.set_cons_succ]
    refine wpAnyH_take (i:=7) (oi:=⟨_,_,_,_,_,_⟩) (v:=?_) rfl (by as_aux_lemma=>kernel_rfl) (by as_aux_lemma=>kernel_rfl) (by as_aux_lemma=>kernel_rfl) (fun _ _ _ h=>h) (Or.inl ⟨by rfl,?_⟩) (by assumption) ?_;rotate_left
    ·(intro w hSw;(try dsimp only at hSw);first|(go_simp;done)|(go_simp;with_reducible rfl))
    try simp only[Act.put,List.setIfInBounds_toArray,List.set_cons_zero,List.set_cons_succ]
    refine wpAnyH_ready (rs:=[8]) (by as_aux_lemma=>kernel_rfl) (by simp) ?_;refine AllReadyH.cons (o:=⟨_,_,_,_,_,_⟩) rfl (fun K hK=>?_) AllReadyH.nil;go_simp;refine hK.out _ _ ?_ (fun hNew=>?_)
    ·exact(BX.setw2 (.int .i64 (ic+g2))).w0.cell 1
    clear hK K;replace hHeld:=hNew;clear hNew
    try simp only[Act.put,List.setIfInBounds_toArray,List.set_cons_zero,List.set_cons_succ]
    refine wpAnyH_done (by kernel_rfl) (NoPanic.normal ?_) _;have HFI:=zH (BX.setw2 (.int .i64 (ic+g2)));clear hHeld f0 f1 f2 BX D1 hb1;go_wp2_with fail;go_meet
    case rel=>exact HFI.out
   ·go_simp;refine(HC2.out _ D0).mono ?_;rintro e x2 ⟨rfl,hb1⟩;have D1:zB w x2:=zT D0 hb1;have BX:=BSX.out.below hb1;have f1:=BX.w2.cell 1;have f2:=BX.w2.frozen 1;have f0:=BX.w0.cell 1
    try simp only
    refine hK.out _ _ ?_ (fun hNew=>?_)
    ·exact f0
    clear hK K;replace hHeld:=hNew;clear hNew
    try simp only[Act.put,List.setIfInBounds_toArray,List.set_cons_zero,List.set_cons_succ]
    refine wpAnyH_ready (rs:=[1]) (by as_aux_lemma=>kernel_rfl) (by simp) ?_;refine AllReadyH.cons (o:=⟨_,_,_,_,_,_⟩) rfl (fun K hK=>?_) AllReadyH.nil;go_simp;refine hK.out _ _ ?_ (fun hNew=>?_)
    ·exact hHeld
    clear hK K;replace hHeld:=hNew;clear hNew
    try simp only[Act.put,List.setIfInBounds_toArray,List.set_cons_zero,List.set_cons_succ]
    refine wpAnyH_take (i:=6) (oi:=⟨_,_,_,_,_,_⟩) (v:=?_) rfl (by as_aux_lemma=>kernel_rfl) (by as_aux_lemma=>kernel_rfl) (by as_aux_lemma=>kernel_rfl) (fun _ _ _ h=>h) (Or.inl ⟨by rfl,?_⟩) (by assumption) ?_;rotate_left
    ·(intro w hSw;(try dsimp only at hSw);first|(go_simp;done)|(go_simp;with_reducible rfl))
    try simp only[Act.put,List.setIfInBounds_toArray,List.set_cons_zero,List.set_cons_succ]
    refine wpAnyH_take (i:=7) (oi:=⟨_,_,_,_,_,_⟩) (v:=?_) rfl (by as_aux_lemma=>kernel_rfl) (by as_aux_lemma=>kernel_rfl) (by as_aux_lemma=>kernel_rfl) (fun _ _ _ h=>h) (Or.inl ⟨by rfl,?_⟩) (by assumption) ?_;rotate_left
    ·(intro w hSw;(try dsimp only at hSw);first|(go_simp;done)|(go_simp;with_reducible rfl))
    try simp only[Act.put,List.setIfInBounds_toArray,List.set_cons_zero,List.set_cons_succ]
    refine wpAnyH_ready (rs:=[8]) (by as_aux_lemma=>kernel_rfl) (by simp) ?_;refine AllReadyH.cons (o:=⟨_,_,_,_,_,_⟩) rfl (fun K hK=>?_) AllReadyH.nil;go_simp;refine hK.out _ _ ?_ (fun hNew=>?_)
    ·exact(BX.setw2 (.int .i64 (ic+g2))).w0.cell 1
    clear hK K;replace hHeld:=hNew;clear hNew
    try simp only[Act.put,List.setIfInBounds_toArray,List.set_cons_zero,List.set_cons_succ]
    refine wpAnyH_done (by kernel_rfl) (NoPanic.normal ?_) _;have HFI:=zH (BX.setw2 (.int .i64 (ic+g2)));clear hHeld f0 f1 f2 BX D1 hb1;go_wp2_with fail;go_meet
    case rel=>exact HFI.out
  case rest =>
   clear BSX c0 c1 D0 HC2;have BSB:=zH hcut.drew;clear hcut;have c0:_=some (Value.int .u64 ii):=BSB.out.w2.cell 0;have c1:=BSB.out.w2.frozen 0;go_upto_region 3 with fail;go_cut [26] (fun _ wx=>BS w p dk F cb (.int .u64 oi) (.int .i64 (oc+g1)) (.bool ob) (.int .u64 ((ii|||2^i:Nat):Int)) (.int .i64 (ic+g2)) (.bool ib) wx)
   case first =>
    refine wp_region_noPanic ?_;refine wp_region_held_drew (S:=fun _=>True) (by kernel_rfl) trivial (fun hHeld=>?_);refine wpAnyH_take (i:=0) (oi:=⟨_,_,_,_,_,_⟩) (v:=?_) rfl (by as_aux_lemma=>kernel_rfl) (by as_aux_lemma=>kernel_rfl) (by as_aux_lemma=>kernel_rfl) (fun _ _ _ h=>h) (Or.inl ⟨by rfl,?_⟩) (by assumption) ?_;rotate_left
    ·(intro w hSw;(try dsimp only at hSw);first|(go_simp;done)|(go_simp;with_reducible rfl))
    try simp only[Act.put,List.setIfInBounds_toArray,List.set_cons_zero,List.set_cons_succ]
    refine wpAnyH_take (i:=2) (oi:=⟨_,_,_,_,_,_⟩) (v:=?_) rfl (by as_aux_lemma=>kernel_rfl) (by as_aux_lemma=>kernel_rfl) (by as_aux_lemma=>kernel_rfl) (fun _ _ _ h=>h) (Or.inl ⟨by rfl,?_⟩) (by assumption) ?_;rotate_left
    ·(intro w hSw;(try dsimp only at hSw);first|(go_simp;done)|(go_simp;with_reducible rfl))
    try simp only[Act.put,List.setIfInBounds_toArray,List.set_cons_zero,List.set_cons_succ]
    refine wpAnyH_take (i:=3) (oi:=⟨_,_,_,_,_,_⟩) (v:=?_) rfl (by as_aux_lemma=>kernel_rfl) (by as_aux_lemma=>kernel_rfl) (by as_aux_lemma=>kernel_rfl) (fun _ _ _ h=>h) (Or.inl ⟨by rfl,?_⟩) (by assumption) ?_;rotate_left
    ·(intro w hSw;(try dsimp only at hSw);first|(go_simp;done)|(go_simp;with_reducible rfl))
    try simp only[Act.put,List.setIfInBounds_toArray,List.set_cons_zero,List.set_cons_succ]
    refine wpAnyH_ready (rs:=[1]) (by as_aux_lemma=>kernel_rfl) (by simp) ?_;refine AllReadyH.cons (o:=⟨_,_,_,_,_,_⟩) rfl (fun K hK=>?_) AllReadyH.nil;go_simp;refine hK.out _ _ trivial (fun hNew=>?_);clear hK K hNew
    try simp only[Act.put,List.setIfInBounds_toArray,List.set_cons_zero,List.set_cons_succ]
    refine wpAnyH_take (i:=4) (oi:=⟨_,_,_,_,_,_⟩) (v:=?_) rfl (by as_aux_lemma=>kernel_rfl) (by as_aux_lemma=>kernel_rfl) (by as_aux_lemma=>kernel_rfl) (fun _ _ _ h=>h) (Or.inl ⟨by rfl,?_⟩) (by assumption) ?_;rotate_left
    ·(intro w hSw;(try dsimp only at hSw);first|(go_simp;done)|(go_simp;with_reducible rfl))
    try simp only[Act.put,List.setIfInBounds_toArray,List.set_cons_zero,List.set_cons_succ]
    refine wpAnyH_take (i:=5) (oi:=⟨_,_,_,_,_,_⟩) (v:=?_) rfl (by as_aux_lemma=>kernel_rfl) (by as_aux_lemma=>kernel_rfl) (by as_aux_lemma=>kernel_rfl) (fun _ _ _ h=>h) (Or.inl ⟨by rfl,?_⟩) (by assumption) ?_;rotate_left
    ·(intro w hSw;(try dsimp only at hSw);first|(go_simp;done)|(go_simp;with_reducible rfl))
    try simp only[Act.put,List.setIfInBounds_toArray,List.set_cons_zero,List.set_cons_succ]
    refine wpAnyH_ready (rs:=[6]) (by as_aux_lemma=>kernel_rfl) (by simp) ?_;refine AllReadyH.cons (o:=⟨_,_,_,_,_,_⟩) rfl (fun K hK=>?_) AllReadyH.nil;go_simp;refine hK.out _ _ trivial (fun hNew=>?_);clear hK K hNew
    try simp only[Act.put,List.setIfInBounds_toArray,List.set_cons_zero,List.set_cons_succ]
    refine wpAnyH_done (by kernel_rfl) (NoPanic.normal ?_) _;clear hHeld;have HFI:=zH (BSB.out.setw0 (.int .u64 ((ii|||2^i:Nat):Int)));go_wp2_with fail;go_meet
    case rel=>exact HFI.out
   case rest =>
    clear BSB c0 c1 hor;have BSF:=zH hcut;clear hcut;have a0:=BSF.out.w1.cell 0;have a1:=BSF.out.w1.cell 1;have a2:=BSF.out.w1.cell 2;have e0:=BSF.out.w2.cell 0;have e1:=BSF.out.w2.cell 1;have e2:=BSF.out.w2.cell 2;have z0:=BSF.out.w3.cell 0;have z1:=BSF.out.w3.cell 1;have z2:=BSF.out.w3.cell 2;have y0:=BSF.out.w3.frozen 0;have y1:=BSF.out.w3.frozen 1;have y2:=BSF.out.w3.frozen 2;cases ib with
    |false =>
     have hR:R=⟨oi,oc+g1,ob⟩:=by rw[HBF.out];exact if_neg (fun h=>by cases h.1)
     have hres:=set3 BSF.out.w3 (.int .u64 oi) (.int .i64 (oc+g1)) (.bool ob);have r0:=hres.cell 0;have r1:=hres.cell 1;have r2:=hres.cell 2;have HB:=zH (XA BSF.out.bel (show w.heap.size<=w.heap.size+1+1+1 by omega) (.int .u64 oi) (.int .i64 (oc+g1)) (.bool ob));clear hres;go_wp2;refine bodyPost_ret (v:=.agg #[.int .u64 oi,.int .i64 (oc+g1),.bool ob]) (by simp[results,Tryz.f135,go_sem,r0,r1,r2]) rfl ?_;exact⟨by first|rfl|rw[hR],HB.out⟩
    |true =>
     cases ob with
     |false =>
      have hR:R=⟨ii|||2^i,ic+g2,true⟩:=by rw[HBF.out];exact if_pos ⟨rfl,.inl rfl⟩
      have hres:=set3 BSF.out.w3 (.int .u64 ((ii|||2^i:Nat):Int)) (.int .i64 (ic+g2)) (.bool true);have r0:=hres.cell 0;have r1:=hres.cell 1;have r2:=hres.cell 2;have HB:=zH (XA BSF.out.bel (show w.heap.size<=w.heap.size+1+1+1 by omega) (.int .u64 ((ii|||2^i:Nat):Int)) (.int .i64 (ic+g2)) (.bool true));clear hres;go_wp2;refine bodyPost_ret (v:=.agg #[.int .u64 ((ii|||2^i:Nat):Int),.int .i64 (ic+g2),.bool true]) (by simp[results,Tryz.f135,go_sem,r0,r1,r2]) rfl ?_;exact⟨by first|rfl|rw[hR],HB.out⟩
     |true =>
      by_cases hle:ic+g2<=oc+g1
      ·have hR:R=⟨ii|||2^i,ic+g2,true⟩:=by rw[HBF.out];exact if_pos ⟨rfl,.inr hle⟩
       have hres:=set3 BSF.out.w3 (.int .u64 ((ii|||2^i:Nat):Int)) (.int .i64 (ic+g2)) (.bool true);have r0:=hres.cell 0;have r1:=hres.cell 1;have r2:=hres.cell 2;have HB:=zH (XA BSF.out.bel (show w.heap.size<=w.heap.size+1+1+1 by omega) (.int .u64 ((ii|||2^i:Nat):Int)) (.int .i64 (ic+g2)) (.bool true));clear hres;go_wp2;refine bodyPost_ret (v:=.agg #[.int .u64 ((ii|||2^i:Nat):Int),.int .i64 (ic+g2),.bool true]) (by simp[results,Tryz.f135,go_sem,r0,r1,r2]) rfl ?_;exact⟨by first|rfl|rw[hR],HB.out⟩
      ·have hR:R=⟨oi,oc+g1,true⟩:=by rw[HBF.out];exact if_neg (fun h=>by rcases h.2 with h|h;cases h;exact hle h)
       have hres:=set3 BSF.out.w3 (.int .u64 oi) (.int .i64 (oc+g1)) (.bool true);have r0:=hres.cell 0;have r1:=hres.cell 1;have r2:=hres.cell 2;have HB:=zH (XA BSF.out.bel (show w.heap.size<=w.heap.size+1+1+1 by omega) (.int .u64 oi) (.int .i64 (oc+g1)) (.bool true));clear hres;go_wp2;refine bodyPost_ret (v:=.agg #[.int .u64 oi,.int .i64 (oc+g1),.bool true]) (by simp[results,Tryz.f135,go_sem,r0,r1,r2]) rfl ?_;exact⟨by first|rfl|rw[hR],HB.out⟩
end Go.Proofs.YtjmfeefogikdfaaGreatDoor.Bd
