/- read. -/
import Derived.Test.YtiihalknffbjpaaGreatDoorCtParse
set_option maxHeartbeats 4000000
set_option maxRecDepth 100000
namespace Go.Proofs.YtiihalknffbjpaaGreatDoor
open Go.RowKit Go.Deep Sv
def ReadRes (w:World) (r:Option (List Ln × List It)) (e:Ending) (w':World):Prop :=
 match r with
 | none=>e=.returned (.tuple #[.pointer none,.agg #[.int .i64 0,.slice none 0 0,.slice none 0 0],.bool false])/\Below w.heap.size w w'
 | some (ls,its)=>∃ bc cv fv,e=.returned (.tuple #[.pointer (some ⟨bc,0,none⟩),.agg #[.int .i64 (its.length:Int),cv,fv],.bool true])/\CatAt w' bc ls its/\RS w.heap.size w' cv fv ((ofL its ls).map Prod.snd) ((ofL its ls).map Prod.fst)/\Below w.heap.size w w'
theorem set3 {W:World} {b:Nat} {t:TypeId} {x y z:Value} (h:Blk W b t #[x,y,z]) (p q r:Value):Blk (((W.setCell ⟨b,0,none⟩ p).setCell ⟨b,1,none⟩ q).setCell ⟨b,2,none⟩ r) b t #[p,q,r]:=((h.set (i:=0)).set (i:=1)).set (i:=2)
theorem below3 {w W:World} (h:Below w.heap.size w W) (p q r:Value):Below w.heap.size w (((W.setCell ⟨w.heap.size,0,none⟩ p).setCell ⟨w.heap.size,1,none⟩ q).setCell ⟨w.heap.size,2,none⟩ r) :=
 ((h.setCell (p:=⟨w.heap.size,0,none⟩) (Nat.le_refl _) _).setCell (p:=⟨w.heap.size,1,none⟩) (Nat.le_refl _) _).setCell (p:=⟨w.heap.size,2,none⟩) (Nat.le_refl _) _
theorem read_c (s:ByteArray) (most:Nat) (w:World) (hw:Lw w):Calls Tryz.prog 33 #[.string s,.int .i64 (most:Int)] w (ReadRes w (readF s most)):=by
 obtain ⟨R,hR⟩:∃ R,readF s most=R:=⟨_,rfl⟩
 rw [hR]
 have HRF:=Lib.hid hR
 have hb0:=below_new w (.cells #[.int .i64 0,.slice none 0 0,.slice none 0 0] 65)
 have k5:=Blk.new w 65 #[.int .i64 0,.slice none 0 0,.slice none 0 0]
 have HPA:=Lib.hid (parse_any_c s (w.alloc (.cells #[.int .i64 0,.slice none 0 0,.slice none 0 0] 65)) (hw.below hb0))
 clear hR hw
 have K5:=Lib.hid k5
 have HB0:=Lib.hid hb0
 have hsz:(w.alloc (.cells #[.int .i64 0,.slice none 0 0,.slice none 0 0] 65)).heap.size=w.heap.size + 1:=World.size_alloc _ _
 go_enter Tryz.func33,Tryz.ntmps33
 go_upto_region 1 with fail
 generalize w.alloc (.cells #[.int .i64 0,.slice none 0 0,.slice none 0 0] 65)=W0 at *
 have hzs:(0:Nat)=0:=rfl
 by_cases hs:1500<s.size
 ·obtain rfl:R=none:=by rw [<- HRF.out];unfold readF;rw [if_pos hs]
  have hsi:(1500:Int)<(s.size:Int):=by omega
  have f0:=k5.frozen 0
  have f1:=k5.frozen 1
  have f2:=k5.frozen 2
  have c0:W0.cell? ⟨w.heap.size,0,none⟩=some (.int .i64 0):=k5.cell 0
  have c1:W0.cell? ⟨w.heap.size,1,none⟩=some (.slice none 0 0):=k5.cell 1
  have c2:W0.cell? ⟨w.heap.size,2,none⟩=some (.slice none 0 0):=k5.cell 2
  have Q0:=Lib.hid (set3 K5.out (.int .i64 0) (.slice none 0 0) (.slice none 0 0))
  have HB:=Lib.hid (below3 HB0.out (.int .i64 0) (.slice none 0 0) (.slice none 0 0))
  clear k5 hb0 HPA
  go_wp2
  generalize ((W0.setCell ⟨w.heap.size,0,none⟩ (.int .i64 0)).setCell ⟨w.heap.size,1,none⟩ (.slice none 0 0)).setCell ⟨w.heap.size,2,none⟩ (.slice none 0 0)=WG at *
  have r0:=Q0.out.cell 0
  have r1:=Q0.out.cell 1
  have r2:=Q0.out.cell 2
  refine bodyPost_ret (v:=.tuple #[.pointer none,.agg #[.int .i64 0,.slice none 0 0,.slice none 0 0],.bool false]) (by simp [results,Tryz.f33,go_sem,r0,r1,r2]) rfl ?_
  exact ⟨rfl,HB.out⟩
 ·have hsi:¬ (1500:Int)<(s.size:Int):=by omega
  cases hp:parseF s with
  | error e2 =>
   obtain ⟨pk,pp⟩:=e2
   obtain rfl:R=none:=by rw [<- HRF.out];unfold readF;rw [if_neg hs,hp]
   rw [hp] at HPA
   have HP2:Hid (Calls Tryz.prog 69 #[.string s] W0 fun e w'=>∃ er,e=.returned (.tuple #[.pointer none,er])/\ErrP w' er pk pp/\Below W0.heap.size W0 w'):=HPA.out
   clear hp HPA k5 hb0
   go_wp2_with fail
   refine HP2.out.mono ?_
   rintro e w1 ⟨er,rfl,herr,hb1⟩
   obtain ⟨et,ev,rfl⟩:=herr.form
   have hlt:w.heap.size<W0.heap.size:=K5.out.lt
   have k5:=K5.out.below hb1 hlt
   have f0:=k5.frozen 0
   have f1:=k5.frozen 1
   have f2:=k5.frozen 2
   have c0:w1.cell? ⟨w.heap.size,0,none⟩=some (.int .i64 0):=k5.cell 0
   have c1:w1.cell? ⟨w.heap.size,1,none⟩=some (.slice none 0 0):=k5.cell 1
   have c2:w1.cell? ⟨w.heap.size,2,none⟩=some (.slice none 0 0):=k5.cell 2
   have Q0:=Lib.hid (set3 k5 (.int .i64 0) (.slice none 0 0) (.slice none 0 0))
   have HB:=Lib.hid (below3 (HB0.out.trans (hb1.mono HB0.out.size)) (.int .i64 0) (.slice none 0 0) (.slice none 0 0))
   clear k5 hb1 HP2 herr
   go_wp2
   generalize ((w1.setCell ⟨w.heap.size,0,none⟩ (.int .i64 0)).setCell ⟨w.heap.size,1,none⟩ (.slice none 0 0)).setCell ⟨w.heap.size,2,none⟩ (.slice none 0 0)=WG at *
   have r0:=Q0.out.cell 0
   have r1:=Q0.out.cell 1
   have r2:=Q0.out.cell 2
   refine bodyPost_ret (v:=.tuple #[.pointer none,.agg #[.int .i64 0,.slice none 0 0,.slice none 0 0],.bool false]) (by simp [results,Tryz.f33,go_sem,r0,r1,r2]) rfl ?_
   exact ⟨rfl,HB.out⟩
  | ok li =>
   obtain ⟨ls,its⟩:=li
   have hnw:=newF_ok (parseF_ok hp)
   have hrf:R=if 200<(ofL its ls).length\/most<its.length then none else some (ls,its):=by rw [<- HRF.out];unfold readF;rw [if_neg hs,hp]
   rw [hp] at HPA
   have HP2:Hid (Calls Tryz.prog 69 #[.string s] W0 fun e w'=>∃ bc vs,e=.returned (.tuple #[.pointer (some ⟨bc,0,none⟩),.nilIface])/\CatV w' bc ls vs its W0.heap.size/\(∀ k,k<W0.heap.size->RgN ls vs (some k))/\Below W0.heap.size W0 w'):=HPA.out
   have HRR:=Lib.hid hrf
   clear hp HPA k5 hb0 HRF hrf
   go_wp2_with fail
   refine HP2.out.mono ?_
   rintro e w1 ⟨bc,vs,rfl,hcat,hlow,hb1⟩
   have HOF:=Lib.hid (of_c bc ls its w1 hcat.cat hnw.1 (by omega) (fun x hx=>check_names (hnw.2.2 x hx)))
   have HCAT:=Lib.hid hcat
   have HLOW:=Lib.hid hlow
   have HB1:=Lib.hid hb1
   have hs1:=hb1.size
   have hlt:w.heap.size<W0.heap.size:=K5.out.lt
   have K51:=Lib.hid (K5.out.below hb1 hlt)
   have hn24:=hnw.1
   clear HP2 hcat hlow hb1 hnw K5
   obtain ⟨PF,hPF⟩:∃ PF,ofL its ls=PF:=⟨_,rfl⟩
   rw [hPF] at HOF HRR
   have HPF:=Lib.hid hPF
   clear hPF
   go_wp2_with fail
   refine HOF.out.mono ?_
   intro e w2 hres
   rcases hres with ⟨hbig,rfl,hb2⟩ | ⟨hbig,cv,fv,rfl,hrs,hb2⟩
   ·obtain rfl:R=none:=by rw [HRR.out,if_pos (Or.inl hbig)]
    have k5:=((K51.out.below hb2 K51.out.lt).alloc (.cells #[.int .i64 0,.slice none 0 0,.slice none 0 0] 65))
    have hbn:=below_new w2 (.cells #[.int .i64 0,.slice none 0 0,.slice none 0 0] 65)
    have HBX:=Lib.hid ((HB0.out.trans (HB1.out.mono HB0.out.size)).trans (hb2.mono (by have:=HB0.out.size;omega)))
    have HBY:=Lib.hid (HBX.out.trans (hbn.mono HBX.out.size))
    have K5:=Lib.hid k5
    clear k5 hbn hb2 HOF K51 HCAT HLOW HB1
    go_upto_region 7 with fail
    generalize w2.alloc (.cells #[.int .i64 0,.slice none 0 0,.slice none 0 0] 65)=W3 at *
    have k5:=K5.out
    have f0:=k5.frozen 0
    have f1:=k5.frozen 1
    have f2:=k5.frozen 2
    have c0:W3.cell? ⟨w.heap.size,0,none⟩=some (.int .i64 0):=k5.cell 0
    have c1:W3.cell? ⟨w.heap.size,1,none⟩=some (.slice none 0 0):=k5.cell 1
    have c2:W3.cell? ⟨w.heap.size,2,none⟩=some (.slice none 0 0):=k5.cell 2
    have Q0:=Lib.hid (set3 k5 (.int .i64 0) (.slice none 0 0) (.slice none 0 0))
    have HB:=Lib.hid (below3 HBY.out (.int .i64 0) (.slice none 0 0) (.slice none 0 0))
    clear k5
    go_wp2
    generalize ((W3.setCell ⟨w.heap.size,0,none⟩ (.int .i64 0)).setCell ⟨w.heap.size,1,none⟩ (.slice none 0 0)).setCell ⟨w.heap.size,2,none⟩ (.slice none 0 0)=WG at *
    have r0:=Q0.out.cell 0
    have r1:=Q0.out.cell 1
    have r2:=Q0.out.cell 2
    refine bodyPost_ret (v:=.tuple #[.pointer none,.agg #[.int .i64 0,.slice none 0 0,.slice none 0 0],.bool false]) (by simp [results,Tryz.f33,go_sem,r0,r1,r2]) rfl ?_
    exact ⟨rfl,HB.out⟩
   ·obtain ⟨ca,cc,rfl⟩:∃ a c,cv=.slice a PF.length c:=by obtain ⟨cs,h1,_⟩:=hrs.crow;obtain ⟨a,c,e,_⟩:=(rowAt_own h1).form;exact ⟨a,c,by simpa using e⟩
    obtain ⟨fa,fc,rfl⟩:∃ a c,fv=.slice a PF.length c:=by obtain ⟨a,c,e,_⟩:=(rowAt_own hrs.frow).form;exact ⟨a,c,by simpa using e⟩
    have hbn:=below_new w2 (.cells #[.int .i64 (its.length:Int),.slice ca PF.length cc,.slice fa PF.length fc] 65)
    have k5:=((K51.out.below hb2 K51.out.lt).alloc (.cells #[.int .i64 (its.length:Int),.slice ca PF.length cc,.slice fa PF.length fc] 65))
    have k9:=Blk.new w2 65 #[.int .i64 (its.length:Int),.slice ca PF.length cc,.slice fa PF.length fc]
    have HBX:=Lib.hid ((HB0.out.trans (HB1.out.mono HB0.out.size)).trans (hb2.mono (by have:=HB0.out.size;omega)))
    have HBY:=Lib.hid (HBX.out.trans (hbn.mono HBX.out.size))
    have HRS:=Lib.hid (hrs.new hbn)
    have HCA:=Lib.hid ((HCAT.out.below hb2 (Nat.le_refl _)).below hbn (Nat.le_refl _))
    have K5:=Lib.hid k5
    have K9:=Lib.hid k9
    have h29:w1.heap.size<=w2.heap.size:=hb2.size
    clear k5 k9 hbn hb2 HOF K51 HCAT hrs HB1
    go_upto_region 7 with fail
    generalize w2.alloc (.cells #[.int .i64 (its.length:Int),.slice ca PF.length cc,.slice fa PF.length fc] 65)=W3 at *
    generalize w2.heap.size=b9 at *
    have k5:=K5.out
    have f0:=k5.frozen 0
    have f1:=k5.frozen 1
    have f2:=k5.frozen 2
    have c0:W3.cell? ⟨w.heap.size,0,none⟩=some (.int .i64 0):=k5.cell 0
    have c1:W3.cell? ⟨w.heap.size,1,none⟩=some (.slice none 0 0):=k5.cell 1
    have c2:W3.cell? ⟨w.heap.size,2,none⟩=some (.slice none 0 0):=k5.cell 2
    have e0:W3.cell? ⟨b9,0,none⟩=some (.int .i64 (its.length:Int)):=K9.out.cell 0
    have e1:W3.cell? ⟨b9,1,none⟩=some (.slice ca PF.length cc):=K9.out.cell 1
    have e2:W3.cell? ⟨b9,2,none⟩=some (.slice fa PF.length fc):=K9.out.cell 2
    clear k5
    by_cases hmo:most<its.length
    ·obtain rfl:R=none:=by rw [HRR.out,if_pos (Or.inr hmo)]
     have hmi:(most:Int)<(its.length:Int):=by omega
     have Q0:=Lib.hid (set3 K5.out (.int .i64 0) (.slice none 0 0) (.slice none 0 0))
     have HB:=Lib.hid (below3 HBY.out (.int .i64 0) (.slice none 0 0) (.slice none 0 0))
     clear HCA HRS HLOW
     go_wp2
     generalize ((W3.setCell ⟨w.heap.size,0,none⟩ (.int .i64 0)).setCell ⟨w.heap.size,1,none⟩ (.slice none 0 0)).setCell ⟨w.heap.size,2,none⟩ (.slice none 0 0)=WG at *
     have r0:=Q0.out.cell 0
     have r1:=Q0.out.cell 1
     have r2:=Q0.out.cell 2
     refine bodyPost_ret (v:=.tuple #[.pointer none,.agg #[.int .i64 0,.slice none 0 0,.slice none 0 0],.bool false]) (by simp [results,Tryz.f33,go_sem,r0,r1,r2]) rfl ?_
     exact ⟨rfl,HB.out⟩
    ·obtain rfl:R=some (ls,its):=by rw [HRR.out,if_neg (by omega)]
     have hmi:¬ (most:Int)<(its.length:Int):=by omega
     have hkl:w.heap.size<w1.heap.size:=by omega
     have q0:=set3 K5.out (.int .i64 (its.length:Int)) (.slice ca PF.length cc) (.slice fa PF.length fc)
     have hB:=below3 HBY.out (.int .i64 (its.length:Int)) (.slice ca PF.length cc) (.slice fa PF.length fc)
     have hR:=((HRS.out.set (i:=0) (v:=.int .i64 (its.length:Int)) K5.out hkl).set (i:=1) (v:=.slice ca PF.length cc) (K5.out.set (i:=0)) hkl).set (i:=2) (v:=.slice fa PF.length fc) ((K5.out.set (i:=0)).set (i:=1)) hkl
     have hCA:=((HCA.out.set (k:=w.heap.size) (i:=0) (x:=.int .i64 (its.length:Int)) hlt (HLOW.out _ hlt)).set (k:=w.heap.size) (i:=1) (x:=.slice ca PF.length cc) hlt (HLOW.out _ hlt)).set (k:=w.heap.size) (i:=2) (x:=.slice fa PF.length fc) hlt (HLOW.out _ hlt)
     have Q0:Hid (Blk (((W3.setCell ⟨w.heap.size,0,none⟩ (.int .i64 (its.length:Int))).setCell ⟨w.heap.size,1,none⟩ (.slice ca PF.length cc)).setCell ⟨w.heap.size,2,none⟩ (.slice fa PF.length fc)).drew w.heap.size 65 #[.int .i64 (its.length:Int),.slice ca PF.length cc,.slice fa PF.length fc]):=q0
     have HB:Hid (Below w.heap.size w (((W3.setCell ⟨w.heap.size,0,none⟩ (.int .i64 (its.length:Int))).setCell ⟨w.heap.size,1,none⟩ (.slice ca PF.length cc)).setCell ⟨w.heap.size,2,none⟩ (.slice fa PF.length fc)).drew):=hB.drew
     have hbd:Below (((W3.setCell ⟨w.heap.size,0,none⟩ (.int .i64 (its.length:Int))).setCell ⟨w.heap.size,1,none⟩ (.slice ca PF.length cc)).setCell ⟨w.heap.size,2,none⟩ (.slice fa PF.length fc)).heap.size (((W3.setCell ⟨w.heap.size,0,none⟩ (.int .i64 (its.length:Int))).setCell ⟨w.heap.size,1,none⟩ (.slice ca PF.length cc)).setCell ⟨w.heap.size,2,none⟩ (.slice fa PF.length fc)) (((W3.setCell ⟨w.heap.size,0,none⟩ (.int .i64 (its.length:Int))).setCell ⟨w.heap.size,1,none⟩ (.slice ca PF.length cc)).setCell ⟨w.heap.size,2,none⟩ (.slice fa PF.length fc)).drew:=(Below.refl _ _).drew
     have HR3:Hid (RS w.heap.size (((W3.setCell ⟨w.heap.size,0,none⟩ (.int .i64 (its.length:Int))).setCell ⟨w.heap.size,1,none⟩ (.slice ca PF.length cc)).setCell ⟨w.heap.size,2,none⟩ (.slice fa PF.length fc)).drew (.slice ca PF.length cc) (.slice fa PF.length fc) (PF.map Prod.snd) (PF.map Prod.fst)):=(hR.new hbd).base (Nat.le_of_lt hkl)
     have HC3:Hid (CatAt (((W3.setCell ⟨w.heap.size,0,none⟩ (.int .i64 (its.length:Int))).setCell ⟨w.heap.size,1,none⟩ (.slice ca PF.length cc)).setCell ⟨w.heap.size,2,none⟩ (.slice fa PF.length fc)).drew bc ls its):=(hCA.below hbd (Nat.le_refl _)).cat
     clear q0 hB hR hCA hbd HRS HCA HLOW
     go_upto_region 9 with fail
     go_big_region
     generalize (((W3.setCell ⟨w.heap.size,0,none⟩ (.int .i64 (its.length:Int))).setCell ⟨w.heap.size,1,none⟩ (.slice ca PF.length cc)).setCell ⟨w.heap.size,2,none⟩ (.slice fa PF.length fc)).drew=WG at *
     go_wp2
     have r0:=Q0.out.cell 0
     have r1:=Q0.out.cell 1
     have r2:=Q0.out.cell 2
     refine bodyPost_ret (v:=.tuple #[.pointer (some ⟨bc,0,none⟩),.agg #[.int .i64 (its.length:Int),.slice ca PF.length cc,.slice fa PF.length fc],.bool true]) (by simp [results,Tryz.f33,go_sem,r0,r1,r2]) rfl ?_
     refine ⟨bc,_,_,rfl,HC3.out,?_,HB.out⟩
     rw [HPF.out]
     exact HR3.out
end Go.Proofs.YtiihalknffbjpaaGreatDoor
