/- What the rows' lists of laid variables give; and a world in which they hold. -/
import Derived.Test.YtapobpgbcbplbaaGreatDoorRsCoredP
import Derived.Test.YtapobpgbcbplbaaGreatDoorCtParse
import Derived.Test.YtapobpgbcbplbaaGreatDoorCards
import Derived.Test.YtapobpgbcbplbaaGreatDoorTie
import Derived.ProofKit
import Derived.OpenShut
import Derived.Deep.DeepHandedRow
import Derived.Stop.LaidErr
set_option maxHeartbeats 4000000
set_option maxRecDepth 100000
namespace Go.Proofs.YtapobpgbcbplbaaGreatDoor
section
open Go.RowKit Go.Deep
theorem zkt(xs:List Int)(a1 a2:Option Addr)(c1 c2:Nat)(w:World)(h1:qr w a1 xs)(h2:qr w a2 xs)(hm:xs.length<=9223372036854775807) :
  zR 13 #[.slice a1 xs.length c1,.slice a2 xs.length c2] w (.bool true):=by
 have H1:=zH h1;have H2:=zH h2;clear h1 h2;have enn:((xs.length:Int) != (xs.length:Int))=false:=by simp
 go_enter Tryz.func13,Tryz.ntmps13;go_wp2_with fail;go_loopw [5] (fun kV wr=>∃k:Nat,k<=xs.length/\kV=.int .i64 k/\zB w wr) (fun kV _=>xs.length-(intOf kV).toNat)
 case atStart=>exact⟨0,Nat.zero_le _,rfl,Below.refl _ _⟩
 case round =>
  obtain⟨k,hk,rfl,hbr⟩:=hrel;have HBR:=zH hbr;clear hbr
  by_cases hlt:k<xs.length
  ·obtain⟨ad1,rfl,hl1,hc1⟩:=H1.out.below HBR.out k hlt;obtain⟨ad2,rfl,hl2,hc2⟩:=H2.out.below HBR.out k hlt;generalize xs.getD k 0=x at *;have exx:(x != x)=false:=by simp
   have HBN:Hid (∀q,zB w (wr.drewN q)):=fun q=>HBR.out.trans ⟨rfl,rfl,rfl,Nat.le_refl _,fun _ _=>rfl⟩;go_wp2_with fail;go_quiet (fail);go_wp2;go_roundw
   case rel=>exact⟨k+1,hlt,by go_num,HBN.out _⟩
   case measure=>simp[intOf];omega
  ·obtain rfl:k=xs.length:=by omega
   go_wp2;go_ret;exact⟨rfl,HBR.out⟩
end
section
open Go.RowKit Go.Deep Sv
theorem zoR(W:World)(x y:Int):qr (W.alloc (.cells #[.int .i64 x,.int .i64 y] 3)) (some ⟨W.heap.size,0,none⟩) [x,y]:=fun i hi=>by
 have hB:=Blk.new W 3 #[.int .i64 x,.int .i64 y];refine⟨_,rfl,hB.lt,?_⟩;rw[yo,Nat.zero_add,hB.cell i]
 match i,hi with
 |0,_=>rfl
 |1,_=>rfl
theorem zcz(w:World)(hw:Lw w):zR 5 #[] w (.bool true):=by
 have HP0:=zeD Qj w hw;rw[zn4] at HP0;have HP:Hid (zC 10 #[.string Qj] w fun e w'=>∃bc,e=.returned (.tuple #[.pointer (some ⟨bc,0,none⟩),.nilIface])/\ya w' bc qw qs/\zB w w'):=by
  refine HP0.mono ?_;rintro e w' ⟨bc,vs,rfl,q1,-,q3⟩;exact⟨bc,rfl,q1.cat,q3⟩
 have HC:Hid (∀W bc,ya W bc qw qs->zC 12 #[.pointer (some ⟨bc,0,none⟩)] W fun e w'=>∃a c,e=.returned (.tuple #[.slice a 2 c,.nilIface])/\qr w' a [1,2]/\zB W w'):=fun W bc hcat=>by
  have hof:(ofL qs qw).length<=200:=by rw[YV];decide
  refine(zgE (ZH qw qs) bc qw qs W hcat (by decide) (by decide) (fun x hx=>?_) hof (fun x hx=>?_) (fun l=>zdP JV hof _) (fun l b er h=>zeJ JV (by decide) _ h)).mono ?_
  ·simp only[qw,List.mem_cons,List.not_mem_nil,or_false] at hx;rcases hx with rfl|rfl|rfl<;>exact⟨by decide,by decide⟩
  ·rw[YV] at hx;simp only[List.mem_cons,List.not_mem_nil,or_false] at hx;rcases hx with rfl|rfl<;>decide
  ·rintro e w' ⟨h|⟨-,a,c,rfl,hi⟩,hb⟩
   ·have:=h.1;rw[zdJ,zjy] at this;cases this
   ·rw[zm5] at hi ⊢;exact⟨a,c,rfl,hi,hb⟩
 have hT:Qj=⟨#[112,97,99,107,97,103,101,32,97,32,49,46,48,46,48,10,114,111,111,116,32,97,32,97,110,121,10,99,108,97,115,104,101,115,32,97,32,49,46,48,46,48,32,97,32,97,110,121,10]⟩:=rfl;rw[hT] at HP;clear HP0 hw hT;go_enter Tryz.func5,Tryz.ntmps5;go_wp2_with fail;refine HP.out.mono ?_;rintro e w1 ⟨bc,rfl,hcat,hb1⟩;have HC1:=zH (HC.out w1 bc hcat);have HB1:=zH hb1;clear hcat hb1 HC HP;go_wp2_with fail;refine HC1.out.mono ?_;rintro e w2 ⟨a,c,rfl,hi,hb2⟩;have hbl:=zf w2 (.cells #[.int .i64 1,.int .i64 2] 3);have HS:=zH (zkt [1,2] a (some ⟨w2.heap.size,0,none⟩) c 2 (w2.alloc (.cells #[.int .i64 1,.int .i64 2] 3)) (hi.below hbl) (zoR w2 1 2) (by simp));have HB2:=zH ((zT HB1.out hb2).trans (hbl.mono (Nat.le_trans HB1.out.size hb2.size)));clear hi hb2 hbl HC1 HB1;go_wp2_with fail;refine HS.out.mono ?_;rintro e w3 ⟨rfl,hb3⟩;have HB3:=zH (zT HB2.out hb3);clear hb3 HB2 HS;go_wp2;go_ret;exact⟨rfl,HB3.out⟩
end
section
open Go.RowKit Go.Deep Sv
def zin(w:World)(r:Option (List Ln × List It))(e:Ending)(w':World):Prop :=
 match r with
 |none=>e=.returned (.tuple #[.pointer none,.agg #[.int .i64 0,.slice none 0 0,.slice none 0 0],.bool false])/\zB w w'
 |some (ls,its)=>∃bc cv fv,e=.returned (.tuple #[.pointer (some ⟨bc,0,none⟩),.agg #[.int .i64 its.length,cv,fv],.bool true])/\ya w' bc ls its/\RS w.heap.size w' cv fv ((ofL its ls).map Prod.snd) ((ofL its ls).map Prod.fst)/\zB w w'
theorem set3{W:World}{b:Nat}{t:TypeId}{x y z:Value}(h:Blk W b t #[x,y,z])(p q r:Value):Blk (((W.setCell ⟨b,0,none⟩ p).setCell ⟨b,1,none⟩ q).setCell ⟨b,2,none⟩ r) b t #[p,q,r]:=((h.set (i:=0)).set (i:=1)).set (i:=2)
theorem Xa{w W:World}(h:zB w W)(p q r:Value):zB w (((W.setCell ⟨w.heap.size,0,none⟩ p).setCell ⟨w.heap.size,1,none⟩ q).setCell ⟨w.heap.size,2,none⟩ r) :=
 ((h.setCell (p:=⟨w.heap.size,0,none⟩) zN _).setCell (p:=⟨w.heap.size,1,none⟩) zN _).setCell (p:=⟨w.heap.size,2,none⟩) zN _
theorem zef(s:ByteArray)(most:Nat)(w:World)(hw:Lw w):zC 4 #[.string s,.int .i64 most] w (zin w (Zd s most)):=by
 obtain⟨R,hR⟩:∃R,Zd s most=R:=⟨_,rfl⟩;rw[hR];have HRF:=zH hR;have hb0:=zf w (.cells #[.int .i64 0,.slice none 0 0,.slice none 0 0] 26);have k5:=Blk.new w 26 #[.int .i64 0,.slice none 0 0,.slice none 0 0];have HPA:=zH (zeD s (w.alloc (.cells #[.int .i64 0,.slice none 0 0,.slice none 0 0] 26)) (hw.below hb0));clear hR hw;have K5:=zH k5;have HB0:=zH hb0;have hsz:(w.alloc (.cells #[.int .i64 0,.slice none 0 0,.slice none 0 0] 26)).heap.size=w.heap.size+1:=World.size_alloc _ _;go_enter Tryz.func4,Tryz.ntmps4;go_upto_region 1 with fail;generalize w.alloc (.cells #[.int .i64 0,.slice none 0 0,.slice none 0 0] 26)=W0 at *;have hzs:(0:Nat)=0:=rfl
 by_cases hs:1500<s.size
 ·obtain rfl:R=none:=by rw[<-HRF.out];unfold Zd;rw[if_pos hs]
  have hsi:(1500:Int)<(s.size:Int):=by omega
  have f0:=k5.frozen 0;have f1:=k5.frozen 1;have f2:=k5.frozen 2;have c0:_=some (Value.int .i64 0):=k5.cell 0;have c1:_=some (Value.slice none 0 0):=k5.cell 1;have c2:_=some (Value.slice none 0 0):=k5.cell 2;have Q0:=zH (set3 K5.out (.int .i64 0) (.slice none 0 0) (.slice none 0 0));have HB:=zH (Xa HB0.out (.int .i64 0) (.slice none 0 0) (.slice none 0 0));clear k5 hb0 HPA;go_wp2;generalize ((W0.setCell ⟨w.heap.size,0,none⟩ (.int .i64 0)).setCell ⟨w.heap.size,1,none⟩ (.slice none 0 0)).setCell ⟨w.heap.size,2,none⟩ (.slice none 0 0)=WG at *;have r0:=Q0.out.cell 0;have r1:=Q0.out.cell 1;have r2:=Q0.out.cell 2;refine bodyPost_ret (v:=.tuple #[.pointer none,.agg #[.int .i64 0,.slice none 0 0,.slice none 0 0],.bool false]) (by simp[results,Tryz.f4,go_sem,r0,r1,r2]) rfl ?_;exact⟨rfl,HB.out⟩
 ·have hsi:¬(1500:Int)<(s.size:Int):=by omega
  cases hp:xz s with
  |error e2 =>
   obtain⟨pk,pp⟩:=e2;obtain rfl:R=none:=by rw[<-HRF.out];unfold Zd;rw[if_neg hs,hp]
   rw[hp] at HPA;have HP2:Hid (zC 10 #[.string s] W0 fun e w'=>∃er,e=.returned (.tuple #[.pointer none,er])/\qF w' er pk pp/\zB W0 w'):=HPA.out;clear hp HPA k5 hb0;go_wp2_with fail;refine HP2.out.mono ?_;rintro e w1 ⟨er,rfl,herr,hb1⟩;obtain⟨et,ev,rfl⟩:=herr.form;have hlt:w.heap.size<W0.heap.size:=K5.out.lt;have k5:=K5.out.below hb1 hlt;have f0:=k5.frozen 0;have f1:=k5.frozen 1;have f2:=k5.frozen 2;have c0:_=some (Value.int .i64 0):=k5.cell 0;have c1:_=some (Value.slice none 0 0):=k5.cell 1;have c2:_=some (Value.slice none 0 0):=k5.cell 2;have Q0:=zH (set3 k5 (.int .i64 0) (.slice none 0 0) (.slice none 0 0));have HB:=zH (Xa (zT HB0.out hb1) (.int .i64 0) (.slice none 0 0) (.slice none 0 0));clear k5 hb1 HP2 herr;go_wp2;generalize ((w1.setCell ⟨w.heap.size,0,none⟩ (.int .i64 0)).setCell ⟨w.heap.size,1,none⟩ (.slice none 0 0)).setCell ⟨w.heap.size,2,none⟩ (.slice none 0 0)=WG at *;have r0:=Q0.out.cell 0;have r1:=Q0.out.cell 1;have r2:=Q0.out.cell 2;refine bodyPost_ret (v:=.tuple #[.pointer none,.agg #[.int .i64 0,.slice none 0 0,.slice none 0 0],.bool false]) (by simp[results,Tryz.f4,go_sem,r0,r1,r2]) rfl ?_;exact⟨rfl,HB.out⟩
  |ok li =>
   obtain⟨ls,its⟩:=li;have hnw:=YB (zbE hp);have hrf:R=if 200<(ofL its ls).length\/most<its.length then none else some (ls,its):=by rw[<-HRF.out];unfold Zd;rw[if_neg hs,hp]
   rw[hp] at HPA;have HP2:Hid (zC 10 #[.string s] W0 fun e w'=>∃bc vs,e=.returned (.tuple #[.pointer (some ⟨bc,0,none⟩),.nilIface])/\yg w' bc ls vs its W0.heap.size/\(∀k,k<W0.heap.size->RgN ls vs (some k))/\zB W0 w'):=HPA.out;have HRR:=zH hrf;clear hp HPA k5 hb0 HRF hrf;go_wp2_with fail;refine HP2.out.mono ?_;rintro e w1 ⟨bc,vs,rfl,hcat,hlow,hb1⟩;have HOF:=zH (zcA bc ls its w1 hcat.cat hnw.1 (by omega) (fun x hx=>ze6 (hnw.2.2 x hx)));have HCAT:=zH hcat;have HLOW:=zH hlow;have HB1:=zH hb1;have hs1:=hb1.size;have hlt:w.heap.size<W0.heap.size:=K5.out.lt;have K51:=zH (K5.out.below hb1 hlt);have hn24:=hnw.1;clear HP2 hcat hlow hb1 hnw K5;obtain⟨PF,hPF⟩:∃PF,ofL its ls=PF:=⟨_,rfl⟩;rw[hPF] at HOF HRR;have HPF:=zH hPF;clear hPF;go_wp2_with fail;refine HOF.out.mono ?_;intro e w2 hres;rcases hres with ⟨hbig,rfl,hb2⟩|⟨hbig,cv,fv,rfl,hrs,hb2⟩
   ·obtain rfl:R=none:=by rw[HRR.out,if_pos (Or.inl hbig)]
    have k5:=((K51.out.below hb2 K51.out.lt).alloc (.cells #[.int .i64 0,.slice none 0 0,.slice none 0 0] 26));have hbn:=zf w2 (.cells #[.int .i64 0,.slice none 0 0,.slice none 0 0] 26);have HBX:=zH ((zT HB0.out HB1.out).trans (hb2.mono (by have:=HB0.out.size;omega)));have HBY:=zH (zT HBX.out hbn);have K5:=zH k5;clear k5 hbn hb2 HOF K51 HCAT HLOW HB1;go_upto_region 7 with fail;generalize w2.alloc (.cells #[.int .i64 0,.slice none 0 0,.slice none 0 0] 26)=W3 at *;have k5:=K5.out;have f0:=k5.frozen 0;have f1:=k5.frozen 1;have f2:=k5.frozen 2;have c0:_=some (Value.int .i64 0):=k5.cell 0;have c1:_=some (Value.slice none 0 0):=k5.cell 1;have c2:_=some (Value.slice none 0 0):=k5.cell 2;have Q0:=zH (set3 k5 (.int .i64 0) (.slice none 0 0) (.slice none 0 0));have HB:=zH (Xa HBY.out (.int .i64 0) (.slice none 0 0) (.slice none 0 0));clear k5;go_wp2;generalize ((W3.setCell ⟨w.heap.size,0,none⟩ (.int .i64 0)).setCell ⟨w.heap.size,1,none⟩ (.slice none 0 0)).setCell ⟨w.heap.size,2,none⟩ (.slice none 0 0)=WG at *;have r0:=Q0.out.cell 0;have r1:=Q0.out.cell 1;have r2:=Q0.out.cell 2;refine bodyPost_ret (v:=.tuple #[.pointer none,.agg #[.int .i64 0,.slice none 0 0,.slice none 0 0],.bool false]) (by simp[results,Tryz.f4,go_sem,r0,r1,r2]) rfl ?_;exact⟨rfl,HB.out⟩
   ·obtain⟨ca,cc,rfl⟩:∃a c,cv=.slice a PF.length c:=by obtain⟨cs,h1,_⟩:=hrs.crow;obtain⟨a,c,e,_⟩:=(zD h1).form;exact⟨a,c,by simpa using e⟩
    obtain⟨fa,fc,rfl⟩:∃a c,fv=.slice a PF.length c:=by obtain⟨a,c,e,_⟩:=(zD hrs.frow).form;exact⟨a,c,by simpa using e⟩
    have hbn:=zf w2 (.cells #[.int .i64 its.length,.slice ca PF.length cc,.slice fa PF.length fc] 26);have k5:=((K51.out.below hb2 K51.out.lt).alloc (.cells #[.int .i64 its.length,.slice ca PF.length cc,.slice fa PF.length fc] 26));have k9:=Blk.new w2 26 #[.int .i64 its.length,.slice ca PF.length cc,.slice fa PF.length fc];have HBX:=zH ((zT HB0.out HB1.out).trans (hb2.mono (by have:=HB0.out.size;omega)));have HBY:=zH (zT HBX.out hbn);have HRS:=zH (hrs.new hbn);have HCA:=zH ((HCAT.out.below hb2 zN).below hbn zN);have K5:=zH k5;have K9:=zH k9;have h29:w1.heap.size<=w2.heap.size:=hb2.size;clear k5 k9 hbn hb2 HOF K51 HCAT hrs HB1;go_upto_region 7 with fail;generalize w2.alloc (.cells #[.int .i64 its.length,.slice ca PF.length cc,.slice fa PF.length fc] 26)=W3 at *;generalize w2.heap.size=b9 at *;have k5:=K5.out;have f0:=k5.frozen 0;have f1:=k5.frozen 1;have f2:=k5.frozen 2;have c0:_=some (Value.int .i64 0):=k5.cell 0;have c1:_=some (Value.slice none 0 0):=k5.cell 1;have c2:_=some (Value.slice none 0 0):=k5.cell 2;have e0:_=some (Value.int .i64 its.length):=K9.out.cell 0;have e1:_=some (Value.slice ca PF.length cc):=K9.out.cell 1;have e2:_=some (Value.slice fa PF.length fc):=K9.out.cell 2;clear k5
    by_cases hmo:most<its.length
    ·obtain rfl:R=none:=by rw[HRR.out,if_pos (Or.inr hmo)]
     have hmi:(most:Int)<(its.length:Int):=by omega
     have Q0:=zH (set3 K5.out (.int .i64 0) (.slice none 0 0) (.slice none 0 0));have HB:=zH (Xa HBY.out (.int .i64 0) (.slice none 0 0) (.slice none 0 0));clear HCA HRS HLOW;go_wp2;generalize ((W3.setCell ⟨w.heap.size,0,none⟩ (.int .i64 0)).setCell ⟨w.heap.size,1,none⟩ (.slice none 0 0)).setCell ⟨w.heap.size,2,none⟩ (.slice none 0 0)=WG at *;have r0:=Q0.out.cell 0;have r1:=Q0.out.cell 1;have r2:=Q0.out.cell 2;refine bodyPost_ret (v:=.tuple #[.pointer none,.agg #[.int .i64 0,.slice none 0 0,.slice none 0 0],.bool false]) (by simp[results,Tryz.f4,go_sem,r0,r1,r2]) rfl ?_;exact⟨rfl,HB.out⟩
    ·obtain rfl:R=some (ls,its):=by rw[HRR.out,if_neg (by omega)]
     have hmi:¬(most:Int)<(its.length:Int):=by omega
     have hkl:w.heap.size<w1.heap.size:=by omega
     have q0:=set3 K5.out (.int .i64 its.length) (.slice ca PF.length cc) (.slice fa PF.length fc);have hB:=Xa HBY.out (.int .i64 its.length) (.slice ca PF.length cc) (.slice fa PF.length fc);have hR:=((HRS.out.set (i:=0) (v:=.int .i64 its.length) K5.out hkl).set (i:=1) (v:=.slice ca PF.length cc) (K5.out.set (i:=0)) hkl).set (i:=2) (v:=.slice fa PF.length fc) ((K5.out.set (i:=0)).set (i:=1)) hkl;have hCA:=((HCA.out.set (k:=w.heap.size) (i:=0) (x:=.int .i64 its.length) hlt (HLOW.out _ hlt)).set (k:=w.heap.size) (i:=1) (x:=.slice ca PF.length cc) hlt (HLOW.out _ hlt)).set (k:=w.heap.size) (i:=2) (x:=.slice fa PF.length fc) hlt (HLOW.out _ hlt);have Q0:Hid (Blk (((W3.setCell ⟨w.heap.size,0,none⟩ (.int .i64 its.length)).setCell ⟨w.heap.size,1,none⟩ (.slice ca PF.length cc)).setCell ⟨w.heap.size,2,none⟩ (.slice fa PF.length fc)).drew w.heap.size 26 #[.int .i64 its.length,.slice ca PF.length cc,.slice fa PF.length fc]):=q0;have HB:Hid (zB w (((W3.setCell ⟨w.heap.size,0,none⟩ (.int .i64 its.length)).setCell ⟨w.heap.size,1,none⟩ (.slice ca PF.length cc)).setCell ⟨w.heap.size,2,none⟩ (.slice fa PF.length fc)).drew):=hB.drew;have hbd:Below (((W3.setCell ⟨w.heap.size,0,none⟩ (.int .i64 its.length)).setCell ⟨w.heap.size,1,none⟩ (.slice ca PF.length cc)).setCell ⟨w.heap.size,2,none⟩ (.slice fa PF.length fc)).heap.size (((W3.setCell ⟨w.heap.size,0,none⟩ (.int .i64 its.length)).setCell ⟨w.heap.size,1,none⟩ (.slice ca PF.length cc)).setCell ⟨w.heap.size,2,none⟩ (.slice fa PF.length fc)) (((W3.setCell ⟨w.heap.size,0,none⟩ (.int .i64 its.length)).setCell ⟨w.heap.size,1,none⟩ (.slice ca PF.length cc)).setCell ⟨w.heap.size,2,none⟩ (.slice fa PF.length fc)).drew:=zF.drew;have HR3:Hid (RS w.heap.size (((W3.setCell ⟨w.heap.size,0,none⟩ (.int .i64 its.length)).setCell ⟨w.heap.size,1,none⟩ (.slice ca PF.length cc)).setCell ⟨w.heap.size,2,none⟩ (.slice fa PF.length fc)).drew (.slice ca PF.length cc) (.slice fa PF.length fc) (PF.map Prod.snd) (PF.map Prod.fst)):=(hR.new hbd).base (Nat.le_of_lt hkl);have HC3:Hid (ya (((W3.setCell ⟨w.heap.size,0,none⟩ (.int .i64 its.length)).setCell ⟨w.heap.size,1,none⟩ (.slice ca PF.length cc)).setCell ⟨w.heap.size,2,none⟩ (.slice fa PF.length fc)).drew bc ls its):=(hCA.below hbd zN).cat;clear q0 hB hR hCA hbd HRS HCA HLOW;go_upto_region 9 with fail;go_big_region;generalize (((W3.setCell ⟨w.heap.size,0,none⟩ (.int .i64 its.length)).setCell ⟨w.heap.size,1,none⟩ (.slice ca PF.length cc)).setCell ⟨w.heap.size,2,none⟩ (.slice fa PF.length fc)).drew=WG at *;go_wp2;have r0:=Q0.out.cell 0;have r1:=Q0.out.cell 1;have r2:=Q0.out.cell 2;refine bodyPost_ret (v:=.tuple #[.pointer (some ⟨bc,0,none⟩),.agg #[.int .i64 its.length,.slice ca PF.length cc,.slice fa PF.length fc],.bool true]) (by simp[results,Tryz.f4,go_sem,r0,r1,r2]) rfl ?_;refine⟨bc,_,_,rfl,HC3.out,?_,HB.out⟩;rw[HPF.out];exact HR3.out
end
section
open Go.RowKit Go.Deep Sv
theorem zfz(s:ByteArray)(w:World)(hw:Lw w)(ls:List Ln)(its:List It)(m:Nat)(hr:Zd s m=some (ls,its)):zC 4 #[.string s,.int .i64 m] w fun e w'=>∃bc ca cc fa fc,e=.returned (.tuple #[.pointer (some ⟨bc,0,none⟩),.agg #[.int .i64 its.length,.slice ca (ofL its ls).length cc,.slice fa (ofL its ls).length fc],.bool true])/\(ca=none->cc=0)/\ya w' bc ls its/\RS w.heap.size w' (.slice ca (ofL its ls).length cc) (.slice fa (ofL its ls).length fc) ((ofL its ls).map Prod.snd) ((ofL its ls).map Prod.fst)/\zB w w':=by
 have HRD0:=zef s m w hw;rw[hr] at HRD0;refine HRD0.mono fun e w' ⟨bc,cv,fv,h1,h2,h3,h4⟩=>?_;obtain⟨ca,cc,e1,hn1⟩:∃a c,cv=.slice a (ofL its ls).length c/\(a=none->c=0):=by obtain⟨cs,h1,_⟩:=h3.crow;obtain⟨a,c,e,hn,_⟩:=(zD h1).form;exact⟨a,c,by simpa using e,hn⟩
 obtain⟨fa,fc,e2⟩:∃a c,fv=.slice a (ofL its ls).length c:=by obtain⟨a,c,e,_⟩:=(zD h3.frow).form;exact⟨a,c,by simpa using e⟩
 subst e1 e2;exact⟨bc,ca,cc,fa,fc,h1,hn1,h2,h3,h4⟩
theorem zkS{s:ByteArray}{m:Nat}{ls:List Ln}{its:List It}(hr:Zd s m=some (ls,its)):qU ls=.ok its/\(ofL its ls).length<=200/\its.length<=m:=by
 unfold Zd at hr;split at hr
 ·cases hr
 ·split at hr
  ·cases hr
  ·rename_i ls' its' hp;split at hr
   ·cases hr
   ·rename_i hle;cases hr;exact⟨zbE hp,by omega,by omega⟩
end
section
open Go.RowKit Go.Deep Sv
theorem zgB{w:World}{v:Value}{l:List Nat}(h:Fm.UArg w v l):∃a c,v=.slice a l.length c/\yc w a l:=by
 obtain⟨a,c,e,h⟩:=h;refine⟨a,c,e,fun i hi=>?_⟩;obtain⟨g,h1,h2,h3⟩:=h i hi;exact⟨⟨g,0,none⟩,h1,h2,by rw[yo,Nat.zero_add];exact h3⟩
theorem zcL(n:Nat)(h7:n<=7)(l m:List Nat)(hlen:l.length<=35)(hlt:∀x∈l,x<2^n)(hmP:m.Pairwise (·<·))(hmem:∀y,y∈m↔Fm.opP .hits (fun y=>y∈l) (fun _=>False) y)(a:Option Addr)(c:Nat)(w:World)(hx:yc w a l) :
  zC 8 #[.int .i64 n,.slice a l.length c] w fun e w'=>∃a' c',e=.returned (.tuple #[.slice a' m.length c',.nilIface])/\yc w' a' m/\zB w w':=by
 have h27:2^n<=2^7:=Nat.pow_le_pow_right (by omega) h7;refine(Fm.reiter_any (n:Int) (.inr (.inr (by omega))) l (.slice a l.length c) w ⟨a,c,rfl,hx⟩ (fun x hx=>by have:=hlt x hx;omega) (.inl (by omega))).mono ?_;rintro e w' ⟨hb,h|h|h|h⟩
 ·omega
 ·omega
 ·obtain⟨-,-,-,⟨x,hx,hx2⟩,-⟩:=h;exact absurd (hlt x hx) (by simpa using hx2)
 ·obtain⟨-,-,-,-,v,m',rfl,h1,h2,-,h3⟩:=h;have e1:m'=m:=Fm.rising_eq h2 hmP fun y=>(h3 y).trans (hmem y).symm;subst e1;obtain⟨a',c',rfl,h4⟩:=zgB (h1 w' zF);exact⟨a',c',rfl,h4,hb⟩
theorem zmS(s:ByteArray)(w:World)(hw:Lw w)(hr:Zd s 8=none):zR 3 #[.string s] w (.bool true):=by
 have HRD0:=zef s 8 w hw;rw[hr] at HRD0;have HRD:Hid (zR 4 #[.string s,.int .i64 8] w (.tuple #[.pointer none,.agg #[.int .i64 0,.slice none 0 0,.slice none 0 0],.bool false])):=HRD0;have HCO:Hid (∀W,zB w W->zR 5 #[] W (.bool true)):=fun W hb=>zcz W (hw.below hb);clear HRD0 hr hw;go_enter Tryz.func3,Tryz.ntmps3;go_wp2_with fail;refine HRD.out.mono ?_;rintro e w1 ⟨rfl,hb1⟩;have HB1:Hid (zB w (w1.alloc (.cells #[.int .i64 0,.slice none 0 0,.slice none 0 0] 26))):=zL hb1;clear hb1 HRD;go_upto_region 2 with fail;generalize w1.alloc (.cells #[.int .i64 0,.slice none 0 0,.slice none 0 0] 26)=W1 at *;go_wp2_with fail;refine(HCO.out W1 HB1.out).mono ?_;rintro e w2 ⟨rfl,hb2⟩;have HB2:Hid (zB w w2):=zT HB1.out hb2;clear hb2 HB1;go_wp2_with fail;refine(HCO.out w2 HB2.out).mono ?_;rintro e w3 ⟨rfl,hb3⟩;have HB3:Hid (zB w w3):=zT HB2.out hb3;clear hb3 HB2 HCO;go_wp2;go_ret;exact⟨rfl,HB3.out⟩
theorem ziP(s:ByteArray)(w:World)(hw:Lw w)(ls:List Ln)(its:List It)(hr:Zd s 8=some (ls,its)):zR 3 #[.string s] w (.bool true):=by
 obtain⟨hN,hP,hv⟩:=zkS hr;have hl100:=(YB hN).2.1;have HRD:=zH (zfz s w hw ls its 8 hr);have HCO:Hid (∀W,zB w W->zR 5 #[] W (.bool true)):=fun W hb=>zcz W (hw.below hb);have HLC:Hid (∀W bk,ya W bk ls its->zC 6 #[.pointer (some ⟨bk,0,none⟩)] W fun e w'=>∃v',e=.returned v'/\xj w' v' ls/\zB W w'):=fun W bk hc=>zbs bk ls its W hc (by omega);have hm:=zlV its ls;have h0:=zfM its ls;have HCF:Hid ((zz ls).length<=7->∀W bk,ya W bk ls its->zC 7 #[.pointer (some ⟨bk,0,none⟩)] W fun e w'=>∃a1 c1 a2 c2,e=.returned (.tuple #[.slice a1 (Fm.coreS (zz ls).length (soC its ls)).length c1,.slice a2 (Fm.fixS (zz ls).length (soC its ls)).length c2,.nilIface])/\yc w' a1 (Fm.coreS (zz ls).length (soC its ls))/\yc w' a2 (Fm.fixS (zz ls).length (soC its ls))/\zB W w'):=fun h7 W bk hc=>znZ bk ls its W hc hN (by omega) hP (by omega) (zz ls).length rfl;generalize hso:soC its ls=so at *;have hsl:=KB ls ls.length;have HSP:=zH (zcr ls);have hS0:zz ls=qd ls ls.length:=rfl;rw[hS0] at HCF;clear hr hw hN hP hso hS0;generalize hvr:its.length=vars at *;generalize hPl:(ofL its ls).length=P at *;go_enter Tryz.func3,Tryz.ntmps3;go_wp2_with fail;refine HRD.out.mono ?_;rintro e w1 ⟨bc,ca,cc,fa,fc,rfl,hnc,hcat,hrs,hb1⟩;have hbn:=zf w1 (.cells #[.int .i64 vars,.slice ca P cc,.slice fa P fc] 26);have kr:=Blk.new w1 26 #[.int .i64 vars,.slice ca P cc,.slice fa P fc];have HCAT:=zH (hcat.below hbn zN);have HB1:=zH (zT hb1 hbn);clear hcat hrs hb1 hbn HRD;go_upto_region 2 with fail;generalize w1.alloc (.cells #[.int .i64 vars,.slice ca P cc,.slice fa P fc] 26)=W1 at *;generalize w1.heap.size=b4 at *;go_wp2_with fail;refine(HCO.out W1 HB1.out).mono ?_;rintro e w2 ⟨rfl,hb2⟩;have HB2:Hid (zB w w2):=zT HB1.out hb2;have kr2:=kr.below hb2 kr.lt;have hcat2:=HCAT.out.below hb2 zN;have HL2:=zH (HLC.out w2 bc hcat2);have HCAT2:=zH hcat2;clear hb2 HB1 HCAT kr HCO hcat2 HLC;go_wp2_with fail;refine HL2.out.mono ?_;rintro e w3 ⟨lv,rfl,hln,hb3⟩;have HB3:=zH (zT HB2.out hb3);have kr3:=kr2.below hb3 kr2.lt;have d0:_=some (Value.int .i64 vars):=kr3.cell 0;have HCAT3:=zH (HCAT2.out.below hb3 zN);have HKD:Hid (∀i,i<ls.length->∃g cap,lv=.slice (some ⟨g,0,none⟩) ls.length cap/\w3.cell? ⟨g,i*7,none⟩=some (.int .i64 (ls.getD i default).kind)):=fun i hi=>by
  obtain⟨g,cap,rv,h1,-,-,-,h2,-⟩:=hln.at i hi;exact⟨g,cap,h1,h2⟩
 obtain⟨lva,lvc,rfl⟩:∃a c,lv=.slice a ls.length c:=by
  obtain⟨vs,-,h2⟩:=hln;obtain⟨a,c,e,-⟩:=h2.form;exact⟨a,c,e⟩
 clear hb3 hln HB2 HCAT2 HL2 kr2 kr3;go_wp2_with fail;go_loop [6,7] (fun sV iV=>∃(i:Nat),i<=ls.length/\iV=.int .i64 i/\sV=.int .i64 ((qd ls i).length:Nat)) (fun _ iV=>ls.length-(intOf iV).toNat)
 case atStart=>exact⟨0,Nat.zero_le _,rfl,rfl⟩
 case round =>
  obtain⟨i,hil,rfl,rfl⟩:=hrel;have hsi:=KB ls i
  by_cases hlt:i<ls.length
  ·have hii0:(0:Int)<=(i:Int):=by omega
   have hii1:(i:Int)<(ls.length:Int):=by omega
   obtain⟨g,cap,e1,hcell⟩:=HKD.out i hlt;cases e1;have hsp:=HSP.out i;generalize (ls.getD i default).kind=kd at *;generalize qd ls i=SP at *
   by_cases hk:kd=1
   ·subst hk;simp at hsp;go_wp2;go_round
    case rel=>exact⟨i+1,hlt,by go_num,by rw[hsp]⟩
    case measure=>simp[intOf];omega
   ·have hkb:(kd==1)=false:=by rw[beq_eq_false_iff_ne];exact hk
    have hkn:(kd != 1)=true:=by simp[hk]
    rw[if_pos hkn] at hsp;have hsl2:(qd ls (i+1)).length=SP.length+1:=by rw[hsp];simp
    have hw1:IntKind.i64.wrap ((SP.length:Int)+1)=((SP.length+1:Nat):Int):=by rw[IntKind.wrap_i64];omega
    clear hsp;go_wp2;go_round
    case rel=>exact⟨i+1,hlt,by go_num,by rw[hsl2];simp⟩
    case measure=>simp[intOf];omega
  ·obtain rfl:i=ls.length:=by omega
   clear HKD HSP;generalize hn:(qd ls ls.length).length=n at *
   by_cases h7:7<n
   ·have h7i:(7:Int)<(n:Int):=by omega
    clear HCF HCAT3;go_wp2;go_ret;exact⟨rfl,HB3.out⟩
   ·have h7i:¬(7:Int)<(n:Int):=by omega
    have hv8:¬(8:Int)<(vars:Int):=by omega
    have HC3:=zH (HCF.out (by omega) w3 bc HCAT3.out);have n7:n<=7:=by omega
    have hcl:=Fm.core_len (n:=n) (so:=so) n7 hm;have hfl:=Fm.fix_len (n:=n) (so:=so) n7 hm;have hfp:=Fm.fix_some (n:=n) (so:=so) hm h0;have HR1:Hid (∀W a c,yc W a (Fm.coreS n so)->zC 8 #[.int .i64 n,.slice a (Fm.coreS n so).length c] W fun e w'=>∃a' c',e=.returned (.tuple #[.slice a' (Fm.fixS n so).length c',.nilIface])/\yc w' a' (Fm.fixS n so)/\zB W w'):=fun W a c h=>zcL n n7 (Fm.coreS n so) (Fm.fixS n so) hcl (fun x hx=>((Fm.core_iff hm x).1 hx).1) (Fm.least_asc _ _) (Fm.fix_hits hm) a c W h;have HR2:Hid (∀W a c,yc W a (Fm.fixS n so)->zC 8 #[.int .i64 n,.slice a (Fm.fixS n so).length c] W fun e w'=>∃a' c',e=.returned (.tuple #[.slice a' (Fm.coreS n so).length c',.nilIface])/\yc w' a' (Fm.coreS n so)/\zB W w'):=fun W a c h=>zcL n n7 (Fm.fixS n so) (Fm.coreS n so) hfl (fun x hx=>((Fm.fix_iff hm x).1 hx).1) (Fm.least_asc _ _) (Fm.core_hits hm) a c W h;clear HCF HCAT3 hm h0 hvr hPl hn;generalize Fm.coreS n so=CS at *;generalize Fm.fixS n so=FS at *;have HFP:=zH hfp;have hfi:(0:Int)<(FS.length:Int):=by omega
    go_wp2_with fail;refine HC3.out.mono ?_;rintro e w4 ⟨a1,c1,a2,c2,rfl,hu1,hu2,hb4⟩;have HB4:=zH (zT HB3.out hb4);have HU1:=zH hu1;have HU2:=zH hu2;have HQ1:=zH (HR1.out w4 a1 c1 hu1);clear hu1 hu2 hb4 HC3 HB3 HR1 d0;go_wp2_with fail;refine HQ1.out.mono ?_;rintro e w5 ⟨a3,c3,rfl,hu3,hb5⟩;have HB5:=zH (zT HB4.out hb5);have HU15:=zH (HU1.out.below hb5);have HU25:=zH (HU2.out.below hb5);have HU35:=zH hu3;have HQ2:=zH (HR2.out w5 a2 c2 (HU2.out.below hb5));clear hu3 hb5 HQ1 HR2 HU1 HU2 HB4;go_wp2_with fail;refine HQ2.out.mono ?_;rintro e w6 ⟨a4,c4,rfl,hu4,hb6⟩;have HB6:=zH (zT HB5.out hb6);have HS1:Hid (zR 9 #[.slice a3 FS.length c3,.slice a2 FS.length c2] w6 (.bool true)):=zdl FS a3 a2 c3 c2 w6 (HU35.out.below hb6) (HU25.out.below hb6) (by omega);have HS2:Hid (∀W,zB w6 W->zR 9 #[.slice a4 CS.length c4,.slice a1 CS.length c1] W (.bool true)):=fun W hW=>zdl CS a4 a1 c4 c1 W (hu4.below hW) ((HU15.out.below hb6).below hW) (by omega);clear hu4 hb6 HQ2 HU15 HU25 HU35 HB5;go_wp2_with fail;refine HS1.out.mono ?_;rintro e w7 ⟨rfl,hb7⟩;have HS27:=zH (HS2.out w7 hb7);have HB7:=zH (zT HB6.out hb7);clear hb7 HS1 HS2 HB6;go_wp2_with fail;refine HS27.out.mono ?_;rintro e w8 ⟨rfl,hb8⟩;have HB8:=zH (zT HB7.out hb8);clear hb8 HS27 HB7;go_wp2;go_ret;exact⟨rfl,HB8.out⟩
theorem zkY(s:ByteArray)(w:World)(hw:Lw w):zR 3 #[.string s] w (.bool true):=by
 cases hr:Zd s 8 with
 |none=>exact zmS s w hw hr
 |some r=>obtain⟨ls,its⟩:=r;exact ziP s w hw ls its hr
end
section
open Go.ChangeShapes Go.WideShapes Go.ChangeAt Go.RowKit
theorem own:ownKnob Tryz.prog.godebug=none:=by kernel_rfl
theorem zm0:Tryz.prog.globalNamed "errors.errorType"=some 1:=by kernel_rfl
theorem zmL:(Tryz.prog.cutTypes.find? (·.1 == "internal/reflectlite.rtype")).map (·.2)=some 244:=by kernel_rfl
theorem zkA:((List.range 368).filter fun t=>Tryz.prog.rowNamed t [101,114,114,111,114])=[41]:=by kernel_rfl
theorem zlp:Tryz.prog.types.size=368:=by kernel_rfl
theorem zgA{W:World}{l:List (String × DataW Unit)}(h:laidMetH Tryz.prog l W)(hk:(l.filter fun x=>x.1 == "errors.errorType")=[("errors.errorType",Rows.laid_errors_errorType)]):xP W:=by
 have h2:=h.filter fun x=>x.1 == "errors.errorType";rw[hk] at h2;have h3:laidMet Tryz.prog [] W/\handlesMet Tryz.prog [("errors.errorType",Rows.laid_errors_errorType)] W:=h2;obtain⟨name,u,ty,e1,e2,e3,e4,e5⟩:=h3.2 _ (List.mem_singleton.2 rfl);have en:name=[101,114,114,111,114]:=(Option.some.inj e1).symm;subst en;obtain rfl:=Option.some.inj (zmL.symm.trans e2);have hm:ty∈(List.range 368).filter fun t=>Tryz.prog.rowNamed t [101,114,114,111,114]:=List.mem_filter.2 ⟨List.mem_range.2 (by rw[<-zlp];exact e3),e4⟩;rw[zkA] at hm;obtain rfl:=List.mem_singleton.1 hm;have hh:typeHandle Tryz.prog 41=.pointer (some ⟨10,41,none⟩):=by kernel_rfl
 rw[hh] at e5;have h6:=World.var?_cell zm0 e5 0;unfold xP;simpa using h6
def ZB(cs:Array Value):Obj->Obj
 |.cells _ t frozen=>.cells cs t frozen
 |o=>o
end
section
open Go.ChangeShapes Go.WideShapes Go.ChangeAt Go.RowKit Go.Shelf
theorem zlO:Tryz.prog.globalNamed "internal/strconv.uint64pow10"=some 5:=by kernel_rfl
theorem zgs:(Tryz.prog.globals[5]?).map (·.type)=some 322:=by kernel_rfl
theorem ziE:Tryz.prog.cellsOf 322=20:=by kernel_rfl
theorem zgF:Tryz.prog.cellsOf 223=1:=by kernel_rfl
theorem zdE:Tryz.prog.globalNamed "strconv.ErrSyntax"=some 3:=by kernel_rfl
theorem zfP:(Tryz.prog.globals[3]?).map (·.type)=some 41:=by kernel_rfl
theorem zbe:Tryz.prog.globalNamed "strconv.ErrRange"=some 4:=by kernel_rfl
theorem zoK:(Tryz.prog.globals[4]?).map (·.type)=some 41:=by kernel_rfl
theorem zbj:Tryz.prog.cellsOf 332=1:=by kernel_rfl
theorem JO:Tryz.prog.cellsOf 9=1:=by kernel_rfl
theorem zeE : "*" ++ "errors.errorString" = "*errors.errorString":=by decide
theorem zb7(u:TypeId)(h:Tryz.prog.typeName? 3 u=some "*errors.errorString"):u=330 :=
 typeName_ptr_named (nm := "errors.errorString") (by rw[zeE];kernel_rfl) (by kernel_rfl) (by decide) u (by rw[zeE];exact h)
theorem zoM{W:World}{l:List (String × DataW Unit)}(h:laidMetH Tryz.prog l W)(hk:(l.filter fun x=>x.1 == "internal/strconv.uint64pow10")=[("internal/strconv.uint64pow10",Lib.tabData .u64 Lib.pow10Tab)]):Lib.TabIs Tryz.prog W "internal/strconv.uint64pow10" .u64 Lib.pow10Tab:=by
 have h2:=h.filter fun x=>x.1 == "internal/strconv.uint64pow10";rw[hk] at h2;have h3:laidMet Tryz.prog [("internal/strconv.uint64pow10",Lib.tabData .u64 Lib.pow10Tab)] W:=h2;exact Lib.tabIs_of_head (rest:=[]) zlO zgs Tryz.underlying322 Tryz.underlying223 zgF ziE h3
theorem zjk{W:World}{l:List (String × DataW Unit)}(h:laidMetH Tryz.prog l W)(hk:(l.filter fun x=>x.1 == "strconv.ErrSyntax")=[("strconv.ErrSyntax",Rows.laid_strconv_ErrSyntax)]):∃ev,W.cell? ⟨3,0,none⟩=some ev/\(ev=.nilIface\/∃te pe,ev=.iface te pe):=by
 have h2:=h.filter fun x=>x.1 == "strconv.ErrSyntax";rw[hk] at h2;have h3:laidMet Tryz.prog [("strconv.ErrSyntax",Rows.laid_strconv_ErrSyntax)] W:=h2;obtain⟨a0,s0,hv0,-,-,-⟩:=laid_sentinel h3 zdE zfP Tryz.underlying41 zb7 Tryz.underlying330 Tryz.underlying332 rfl rfl Tryz.underlying9 zbj JO;exact⟨_,by have h0:=World.var?_cell zdE hv0 0;simpa using h0,.inr ⟨_,_,rfl⟩⟩
theorem zmH{W:World}{l:List (String × DataW Unit)}(h:laidMetH Tryz.prog l W)(hk:(l.filter fun x=>x.1 == "strconv.ErrRange")=[("strconv.ErrRange",Rows.laid_strconv_ErrRange)]):∃ev,W.cell? ⟨4,0,none⟩=some ev/\(ev=.nilIface\/∃te pe,ev=.iface te pe):=by
 have h2:=h.filter fun x=>x.1 == "strconv.ErrRange";rw[hk] at h2;have h3:laidMet Tryz.prog [("strconv.ErrRange",Rows.laid_strconv_ErrRange)] W:=h2;obtain⟨a0,s0,hv0,-,-,-⟩:=laid_sentinel h3 zbe zoK Tryz.underlying41 zb7 Tryz.underlying330 Tryz.underlying332 rfl rfl Tryz.underlying9 zbj JO;exact⟨_,by have h0:=World.var?_cell zbe hv0 0;simpa using h0,.inr ⟨_,_,rfl⟩⟩
theorem zhl{W:World}(h:W.ShapedOpen Tryz.prog):∃n,W.cell? ⟨2,0,none⟩=some (.int .i64 n) :=
 cell_of_shapedOpen_int (zero:=#[.int .i64 0]) (t:=3) h (of_decide_eq_true (by kernel_rfl)) (by kernel_rfl) rfl (by kernel_rfl) (by kernel_rfl) Tryz.underlying3
theorem zkl{W:World}(h:W.ShapedOpen Tryz.prog):10<=W.heap.size:=by
 obtain⟨o,_,ho,_⟩:=h.2 10 (of_decide_eq_true (by kernel_rfl)) (of_decide_eq_true (by kernel_rfl));have:=(Array.getElem?_eq_some_iff.1 ho).1;omega
theorem zjG{W:World}{l:List (String × DataW Unit)}(h:laidMetH Tryz.prog l W)(hs:W.ShapedOpen Tryz.prog)
  (k1:(l.filter fun x=>x.1 == "internal/strconv.uint64pow10")=[("internal/strconv.uint64pow10",Lib.tabData .u64 Lib.pow10Tab)])
  (k2:(l.filter fun x=>x.1 == "strconv.ErrSyntax")=[("strconv.ErrSyntax",Rows.laid_strconv_ErrSyntax)])
  (k3:(l.filter fun x=>x.1 == "strconv.ErrRange")=[("strconv.ErrRange",Rows.laid_strconv_ErrRange)])
  (k4:(l.filter fun x=>x.1 == "errors.errorType")=[("errors.errorType",Rows.laid_errors_errorType)]):Lb W :=
 ⟨zhl hs,zjk h k2,zmH h k3,zoM h k1,zgA h k4,zkl hs⟩
def zcM:DataW Unit->List Value
 |.lit (.int k z)=>[.int k z]
 |_=>[undef]
def zii:DataW Unit->List Value
 |.agg l=>l.flatMap zcM
 |d=>zcM d
def YS:DataW Unit->Array Value
 |.agg l=>(l.flatMap zii).toArray
 |_=>#[]
end
end Go.Proofs.YtapobpgbcbplbaaGreatDoor
