/- Places of pieces; what the reference's RangeParse answers (plain), and its struct of two. -/
import Derived.Test.YtiihalknffbjpaaGreatDoorRlNext
import Derived.Test.YtiihalknffbjpaaGreatDoorSvRNum
import Derived.Lib.ItoaLen
set_option maxHeartbeats 1000000
set_option maxRecDepth 100000
namespace Go.Proofs.YtiihalknffbjpaaGreatDoor
section
open Go.RowKit Go.Shelf Sv
def SplitC:Prop:=∀ (s:ByteArray) (W:World),s.size<=100000->Lb W->Calls Tryz.prog 113 #[.string s,.string ⟨#[46]⟩] W fun e w' =>
 e=.returned (.slice (some ⟨W.heap.size,0,none⟩) (cutB s ⟨#[46]⟩ s.size 0).length (cutB s ⟨#[46]⟩ s.size 0).length)/\w'=W.alloc (.cells (((cutB s ⟨#[46]⟩ s.size 0).map (·.2)).map Value.string).toArray 9)
def rversV:Except Int (List Nat)->Value
 | .ok ns=>.tuple #[.agg (vArr ns),.int .i64 0]
 | .error k=>.tuple #[.agg #[.int .i64 0,.int .i64 0,.int .i64 0],.int .i64 k]
theorem rvparse_not (HS:SplitC) (s:ByteArray) (w:World) (hs:s.size<=100000) (hw:Lb w) (h:(cutB s ⟨#[46]⟩ s.size 0).length ≠ 3) :
  Calls Tryz.prog 131 #[.string s] w fun e w'=>e=.returned (rversV (.error 3))/\Below w.heap.size w w':=by
 have H:Hid (∀ W,Below w.heap.size w W->Calls Tryz.prog 113 #[.string s,.string ⟨#[46]⟩] W fun e w'=>∃ a n,n ≠ 3/\e=.returned (.slice a n n)/\Below W.heap.size W w'):=fun W hb=>(HS s W hs (hw.below hb)).mono fun e w' ⟨he,hw'⟩=>⟨_,_,h,he,hw' ▸ (Below.refl _ _).alloc (Nat.le_refl _) _⟩
 have kr:=Blk.new w 91 #[.int .i64 0,.int .i64 0,.int .i64 0]
 have hB0:Below w.heap.size w (w.alloc (.cells #[.int .i64 0,.int .i64 0,.int .i64 0] 91)):=(Below.refl _ w).alloc (Nat.le_refl _) _
 have HKR:=Lib.hid kr
 have HB0:=Lib.hid hB0
 clear h hw HS kr hB0
 go_enter Tryz.func131,Tryz.ntmps131
 go_wp2_with fail
 generalize w.alloc (.cells #[.int .i64 0,.int .i64 0,.int .i64 0] 91)=W0 at *
 refine (H.out _ HB0.out).mono ?_
 rintro e w1 ⟨a,n,hn,rfl,hb1⟩
 have k1:=HKR.out.below hb1 HKR.out.lt
 have HB1:Hid (Below w.heap.size w w1):=HB0.out.trans (hb1.mono HB0.out.size)
 have HK1:=Lib.hid k1
 have c0:w1.cell? ⟨w.heap.size,0,none⟩=some (.int .i64 0):=k1.cell 0
 have c1:w1.cell? ⟨w.heap.size,1,none⟩=some (.int .i64 0):=k1.cell 1
 have c2:w1.cell? ⟨w.heap.size,2,none⟩=some (.int .i64 0):=k1.cell 2
 have f0:=k1.frozen 0
 have f1:=k1.frozen 1
 have f2:=k1.frozen 2
 have hn1:((n:Int) != 3)=true:=by rw [bne_iff_ne];omega
 have q:Blk (((w1.setCell ⟨w.heap.size,0,none⟩ (.int .i64 0)).setCell ⟨w.heap.size,1,none⟩ (.int .i64 0)).setCell ⟨w.heap.size,2,none⟩ (.int .i64 0)) w.heap.size 91 #[.int .i64 0,.int .i64 0,.int .i64 0]:=((k1.set (i:=0) (v:=.int .i64 0)).set (i:=1) (v:=.int .i64 0)).set (i:=2) (v:=.int .i64 0)
 have HBZ:Hid (Below w.heap.size w (((w1.setCell ⟨w.heap.size,0,none⟩ (.int .i64 0)).setCell ⟨w.heap.size,1,none⟩ (.int .i64 0)).setCell ⟨w.heap.size,2,none⟩ (.int .i64 0))):=((HB1.out.setCell (p:=⟨w.heap.size,0,none⟩) (Nat.le_refl _) _).setCell (p:=⟨w.heap.size,1,none⟩) (Nat.le_refl _) _).setCell (p:=⟨w.heap.size,2,none⟩) (Nat.le_refl _) _
 have HQ:=Lib.hid q
 clear k1 hb1 H hn q
 go_wp2
 have r0:=HQ.out.cell 0
 have r1:=HQ.out.cell 1
 have r2:=HQ.out.cell 2
 refine bodyPost_ret (v:=.tuple #[.agg #[.int .i64 0,.int .i64 0,.int .i64 0],.int .i64 3]) (by simp [results,Tryz.results131,go_sem,r0,r1,r2]) rfl ?_
 exact ⟨rfl,HBZ.out⟩
theorem varr_snoc (ns:List Nat) (n:Nat) (h:ns.length<3):(vArr ns).setIfInBounds ns.length (.int .i64 (n:Int))=vArr (ns++[n]):=by
 match ns,h with
 | [],_=>rfl
 | [_],_=>rfl
 | [_,_],_=>rfl
theorem parts_step {L:List (Nat × ByteArray)} {k:Nat} {ns:List Nat} (hk:k<L.length) (h:partsF (L.take k)=.ok ns):partsF (L.take (k + 1))=match partF (L[k].2).data.toList with
  | .error e=>.error e
  | .ok n=>.ok (ns++[n]):=by
 rw [List.take_succ_eq_append_getElem hk,partsF_snoc h]
 cases partF L[k].2.data.toList <;> rfl
theorem parts_err {L:List (Nat × ByteArray)} {k:Nat} {e:Int} (h:partsF (L.take k)=.error e):partsF L=.error e:=by
 have:=partsF_app_error (r:=L.drop k) h
 rwa [List.take_append_drop] at this
theorem rvparse_three (HS:SplitC) (s:ByteArray) (w:World) (hs:s.size<=100000) (hw:Lb w) (h:(cutB s ⟨#[46]⟩ s.size 0).length=3) (hsz:∀ x ∈ cutB s ⟨#[46]⟩ s.size 0,x.2.size<=100000) :
  Calls Tryz.prog 131 #[.string s] w fun e w'=>e=.returned (rversV (partsF (cutB s ⟨#[46]⟩ s.size 0)))/\Below w.heap.size w w':=by
 have H:Hid (∀ W,Below w.heap.size w W->Calls Tryz.prog 113 #[.string s,.string ⟨#[46]⟩] W fun e w'=>e=.returned (.slice (some ⟨W.heap.size,0,none⟩) 3 3)/\Blk w' W.heap.size 9 (((cutB s ⟨#[46]⟩ s.size 0).map (·.2)).map Value.string).toArray/\Below W.heap.size W w'):=fun W hb=>(HS s W hs (hw.below hb)).mono fun e w' ⟨he,hw'⟩=>by
  rw [h] at he
  exact ⟨he,hw' ▸ Blk.new _ _ _,hw' ▸ (Below.refl _ _).alloc (Nat.le_refl _) _⟩
 generalize cutB s ⟨#[46]⟩ s.size 0=L at *
 have HN:Hid (∀ k (hk:k<L.length) W,Below w.heap.size w W->Calls Tryz.prog 205 #[.string L[k].2] W fun e w'=>e=.returned (numbV (numbF (L[k].2).data.toList))/\Below W.heap.size W w'):=fun k hk W hb=>rnumber_any _ W (hsz _ (List.getElem_mem hk)) (hw.below hb)
 have kr:=Blk.new w 91 #[.int .i64 0,.int .i64 0,.int .i64 0]
 have hB0:Below w.heap.size w (w.alloc (.cells #[.int .i64 0,.int .i64 0,.int .i64 0] 91)):=(Below.refl _ w).alloc (Nat.le_refl _) _
 have HKR:=Lib.hid kr
 have HB0:=Lib.hid hB0
 have HLN:=Lib.hid h
 clear h hw HS kr hB0 hsz
 go_enter Tryz.func131,Tryz.ntmps131
 go_wp2_with fail
 generalize w.alloc (.cells #[.int .i64 0,.int .i64 0,.int .i64 0] 91)=W0 at *
 refine (H.out _ HB0.out).mono ?_
 rintro e w1 ⟨rfl,kp,hb1⟩
 have HK1:=Lib.hid (HKR.out.below hb1 HKR.out.lt)
 have HB1:Hid (Below w.heap.size w w1):=HB0.out.trans (hb1.mono HB0.out.size)
 have HKP:=Lib.hid kp
 clear hb1 H kp
 go_wp2_with fail
 have kv:=Blk.new w1 91 #[.int .i64 0,.int .i64 0,.int .i64 0]
 have hb2:Below w1.heap.size w1 (w1.alloc (.cells #[.int .i64 0,.int .i64 0,.int .i64 0] 91)):=(Below.refl _ w1).alloc (Nat.le_refl _) _
 have HKV:=Lib.hid kv
 have HB2:=Lib.hid hb2
 clear kv hb2
 generalize w1.alloc (.cells #[.int .i64 0,.int .i64 0,.int .i64 0] 91)=W2 at *
 go_loopw [18] (fun iV wr=>∃ (k:Nat) (ns:List Nat),k<=3/\iV=.int .i64 (k:Int)/\ns.length=k/\partsF (L.take k)=.ok ns/\Blk wr w1.heap.size 91 (vArr ns)/\Below w1.heap.size w1 wr) (fun iV _=>3 - (intOf iV).toNat)
 case atStart=>exact ⟨0,[],by omega,rfl,rfl,rfl,HKV.out,HB2.out⟩
 case round =>
  obtain ⟨k,ns,hk,rfl,hlen,hpar,hv,hbr⟩:=hrel
  have HLE:=Lib.hid hlen
  have HPA:=Lib.hid hpar
  have HVV:=Lib.hid hv
  have HBR:=Lib.hid hbr
  clear hlen hpar hv hbr
  by_cases hlt:k<3
  ·have hkL:k<L.length:=by rw [HLN.out];exact hlt
   have c0:wr.cell? ⟨W0.heap.size,k,none⟩=some (.string L[k].2):=by
    rw [(HKP.out.below HBR.out HKP.out.lt).cell k]
    simp [hkL]
   have HST:=Lib.hid (parts_step hkL HPA.out)
   have HNk:=Lib.hid (HN.out k hkL)
   generalize L[k].2=p at *
   clear hkL
   have HB8:Hid (Below w.heap.size w wr):=HB1.out.trans (HBR.out.mono HB1.out.size)
   go_wp2_with fail
   refine (HNk.out _ HB8.out).mono ?_
   rintro e w3 ⟨rfl,hb3⟩
   have HB9:Hid (Below w.heap.size w w3):=HB8.out.trans (hb3.mono HB8.out.size)
   have HKR9:=Lib.hid ((HK1.out.below HBR.out HK1.out.lt).below hb3 (Nat.lt_of_lt_of_le HK1.out.lt HBR.out.size))
   have HV9:=Lib.hid (HVV.out.below hb3 HVV.out.lt)
   have HR9:Hid (Below w1.heap.size w1 w3):=HBR.out.trans (hb3.mono HBR.out.size)
   clear hb3 HNk HKR HB0
   have hpn:=part_numb p.data.toList
   cases hnm:numbF p.data.toList with
   | none =>
    rw [hnm] at hpn
    simp only [numbV]
    have HPN:Hid (partF p.data.toList=.error 3):=hpn
    clear hpn hnm c0
    have HPR:Hid (partsF L=.error 3):=parts_err (k:=k + 1) (by rw [HST.out,HPN.out])
    have kz:=HKR9.out
    have z0:w3.cell? ⟨w.heap.size,0,none⟩=some (.int .i64 0):=kz.cell 0
    have z1:w3.cell? ⟨w.heap.size,1,none⟩=some (.int .i64 0):=kz.cell 1
    have z2:w3.cell? ⟨w.heap.size,2,none⟩=some (.int .i64 0):=kz.cell 2
    have f0:=kz.frozen 0
    have f1:=kz.frozen 1
    have f2:=kz.frozen 2
    have q:Blk (((w3.setCell ⟨w.heap.size,0,none⟩ (.int .i64 0)).setCell ⟨w.heap.size,1,none⟩ (.int .i64 0)).setCell ⟨w.heap.size,2,none⟩ (.int .i64 0)) w.heap.size 91 #[.int .i64 0,.int .i64 0,.int .i64 0]:=((kz.set (i:=0) (v:=.int .i64 0)).set (i:=1) (v:=.int .i64 0)).set (i:=2) (v:=.int .i64 0)
    have HBZ:Hid (Below w.heap.size w (((w3.setCell ⟨w.heap.size,0,none⟩ (.int .i64 0)).setCell ⟨w.heap.size,1,none⟩ (.int .i64 0)).setCell ⟨w.heap.size,2,none⟩ (.int .i64 0))):=((HB9.out.setCell (p:=⟨w.heap.size,0,none⟩) (Nat.le_refl _) _).setCell (p:=⟨w.heap.size,1,none⟩) (Nat.le_refl _) _).setCell (p:=⟨w.heap.size,2,none⟩) (Nat.le_refl _) _
    have HQ:=Lib.hid q
    clear kz q
    go_wp2
    have r0:=HQ.out.cell 0
    have r1:=HQ.out.cell 1
    have r2:=HQ.out.cell 2
    rw [HPR.out]
    refine bodyPost_ret (v:=.tuple #[.agg #[.int .i64 0,.int .i64 0,.int .i64 0],.int .i64 3]) (by simp [results,Tryz.results131,go_sem,r0,r1,r2]) rfl ?_
    exact ⟨rfl,HBZ.out⟩
   | some x =>
    rw [hnm] at hpn
    simp only [numbV]
    by_cases hneg:x<0
    ·have HPN:Hid (partF p.data.toList=.error 3):=by show _=_;rw [hpn];simp [hneg]
     clear hpn hnm c0
     have HPR:Hid (partsF L=.error 3):=parts_err (k:=k + 1) (by rw [HST.out,HPN.out])
     have kz:=HKR9.out
     have z0:w3.cell? ⟨w.heap.size,0,none⟩=some (.int .i64 0):=kz.cell 0
     have z1:w3.cell? ⟨w.heap.size,1,none⟩=some (.int .i64 0):=kz.cell 1
     have z2:w3.cell? ⟨w.heap.size,2,none⟩=some (.int .i64 0):=kz.cell 2
     have f0:=kz.frozen 0
     have f1:=kz.frozen 1
     have f2:=kz.frozen 2
     have q:Blk (((w3.setCell ⟨w.heap.size,0,none⟩ (.int .i64 0)).setCell ⟨w.heap.size,1,none⟩ (.int .i64 0)).setCell ⟨w.heap.size,2,none⟩ (.int .i64 0)) w.heap.size 91 #[.int .i64 0,.int .i64 0,.int .i64 0]:=((kz.set (i:=0) (v:=.int .i64 0)).set (i:=1) (v:=.int .i64 0)).set (i:=2) (v:=.int .i64 0)
     have HBZ:Hid (Below w.heap.size w (((w3.setCell ⟨w.heap.size,0,none⟩ (.int .i64 0)).setCell ⟨w.heap.size,1,none⟩ (.int .i64 0)).setCell ⟨w.heap.size,2,none⟩ (.int .i64 0))):=((HB9.out.setCell (p:=⟨w.heap.size,0,none⟩) (Nat.le_refl _) _).setCell (p:=⟨w.heap.size,1,none⟩) (Nat.le_refl _) _).setCell (p:=⟨w.heap.size,2,none⟩) (Nat.le_refl _) _
     have HQ:=Lib.hid q
     clear kz q
     go_wp2
     have r0:=HQ.out.cell 0
     have r1:=HQ.out.cell 1
     have r2:=HQ.out.cell 2
     rw [HPR.out]
     refine bodyPost_ret (v:=.tuple #[.agg #[.int .i64 0,.int .i64 0,.int .i64 0],.int .i64 3]) (by simp [results,Tryz.results131,go_sem,r0,r1,r2]) rfl ?_
     exact ⟨rfl,HBZ.out⟩
    ·by_cases hbig:999<x
     ·have HPN:Hid (partF p.data.toList=.error 2):=by show _=_;rw [hpn];simp [hneg,hbig]
      clear hpn hnm c0
      have HPR:Hid (partsF L=.error 2):=parts_err (k:=k + 1) (by rw [HST.out,HPN.out])
      have kz:=HKR9.out
      have z0:w3.cell? ⟨w.heap.size,0,none⟩=some (.int .i64 0):=kz.cell 0
      have z1:w3.cell? ⟨w.heap.size,1,none⟩=some (.int .i64 0):=kz.cell 1
      have z2:w3.cell? ⟨w.heap.size,2,none⟩=some (.int .i64 0):=kz.cell 2
      have f0:=kz.frozen 0
      have f1:=kz.frozen 1
      have f2:=kz.frozen 2
      have q:Blk (((w3.setCell ⟨w.heap.size,0,none⟩ (.int .i64 0)).setCell ⟨w.heap.size,1,none⟩ (.int .i64 0)).setCell ⟨w.heap.size,2,none⟩ (.int .i64 0)) w.heap.size 91 #[.int .i64 0,.int .i64 0,.int .i64 0]:=((kz.set (i:=0) (v:=.int .i64 0)).set (i:=1) (v:=.int .i64 0)).set (i:=2) (v:=.int .i64 0)
      have HBZ:Hid (Below w.heap.size w (((w3.setCell ⟨w.heap.size,0,none⟩ (.int .i64 0)).setCell ⟨w.heap.size,1,none⟩ (.int .i64 0)).setCell ⟨w.heap.size,2,none⟩ (.int .i64 0))):=((HB9.out.setCell (p:=⟨w.heap.size,0,none⟩) (Nat.le_refl _) _).setCell (p:=⟨w.heap.size,1,none⟩) (Nat.le_refl _) _).setCell (p:=⟨w.heap.size,2,none⟩) (Nat.le_refl _) _
      have HQ:=Lib.hid q
      clear kz q
      go_wp2
      have r0:=HQ.out.cell 0
      have r1:=HQ.out.cell 1
      have r2:=HQ.out.cell 2
      rw [HPR.out]
      refine bodyPost_ret (v:=.tuple #[.agg #[.int .i64 0,.int .i64 0,.int .i64 0],.int .i64 2]) (by simp [results,Tryz.results131,go_sem,r0,r1,r2]) rfl ?_
      exact ⟨rfl,HBZ.out⟩
     ·obtain ⟨n,rfl⟩:=Int.eq_ofNat_of_zero_le (Int.not_lt.1 hneg)
      have HPN:Hid (partF p.data.toList=.ok n):=by show _=_;rw [hpn];simp [hbig]
      clear hpn hnm c0
      have hks:k<(vArr ns).size:=hlt
      have v0:w3.cell? ⟨w1.heap.size,k,none⟩=(vArr ns)[k]?:=HV9.out.cell k
      obtain ⟨u,hu⟩:∃ u,(vArr ns)[k]?=some u:=⟨_,Array.getElem?_eq_getElem hks⟩
      rw [hu] at v0
      have fv:=HV9.out.frozen k
      clear hu hks
      obtain ⟨WF,hWF⟩:∃ WF,w3.setCell ⟨w1.heap.size,k,none⟩ (.int .i64 (n:Int))=WF:=⟨_,rfl⟩
      have HWF:=Lib.hid hWF
      clear hWF
      go_wp2
      go_roundw
      case rel =>
       refine ⟨k + 1,ns++[n],by omega,by go_num,by simp [HLE.out],by rw [HST.out,HPN.out],?_,HR9.out.setCell (p:=⟨w1.heap.size,k,none⟩) (Nat.le_refl _) _⟩
       have h1:=HV9.out.set (i:=k) (v:=.int .i64 (n:Int))
       have h2:=varr_snoc ns n (by rw [HLE.out];exact hlt)
       rw [HLE.out] at h2
       rw [h2] at h1
       exact h1
      case measure=>simp [intOf];omega
  ·obtain rfl:k=3:=by omega
   obtain ⟨x,y,z,rfl⟩:=len3 HLE.out
   have HPR:Hid (partsF L=.ok [x,y,z]):=by have h1:=HPA.out;rw [List.take_of_length_le (by rw [HLN.out];omega)] at h1;exact h1
   have HB9:Hid (Below w.heap.size w wr):=HB1.out.trans (HBR.out.mono HB1.out.size)
   have kz:=HK1.out.below HBR.out HK1.out.lt
   have a0:wr.cell? ⟨w1.heap.size,0,none⟩=some (.int .i64 (x:Int)):=HVV.out.cell 0
   have a1:wr.cell? ⟨w1.heap.size,1,none⟩=some (.int .i64 (y:Int)):=HVV.out.cell 1
   have a2:wr.cell? ⟨w1.heap.size,2,none⟩=some (.int .i64 (z:Int)):=HVV.out.cell 2
   have z0:wr.cell? ⟨w.heap.size,0,none⟩=some (.int .i64 0):=kz.cell 0
   have z1:wr.cell? ⟨w.heap.size,1,none⟩=some (.int .i64 0):=kz.cell 1
   have z2:wr.cell? ⟨w.heap.size,2,none⟩=some (.int .i64 0):=kz.cell 2
   have f0:=kz.frozen 0
   have f1:=kz.frozen 1
   have f2:=kz.frozen 2
   have q:Blk (((wr.setCell ⟨w.heap.size,0,none⟩ (.int .i64 (x:Int))).setCell ⟨w.heap.size,1,none⟩ (.int .i64 (y:Int))).setCell ⟨w.heap.size,2,none⟩ (.int .i64 (z:Int))) w.heap.size 91 #[.int .i64 (x:Int),.int .i64 (y:Int),.int .i64 (z:Int)]:=((kz.set (i:=0) (v:=.int .i64 (x:Int))).set (i:=1) (v:=.int .i64 (y:Int))).set (i:=2) (v:=.int .i64 (z:Int))
   have HBZ:Hid (Below w.heap.size w (((wr.setCell ⟨w.heap.size,0,none⟩ (.int .i64 (x:Int))).setCell ⟨w.heap.size,1,none⟩ (.int .i64 (y:Int))).setCell ⟨w.heap.size,2,none⟩ (.int .i64 (z:Int)))):=((HB9.out.setCell (p:=⟨w.heap.size,0,none⟩) (Nat.le_refl _) _).setCell (p:=⟨w.heap.size,1,none⟩) (Nat.le_refl _) _).setCell (p:=⟨w.heap.size,2,none⟩) (Nat.le_refl _) _
   have HQ:=Lib.hid q
   clear kz q
   go_wp2
   have r0:=HQ.out.cell 0
   have r1:=HQ.out.cell 1
   have r2:=HQ.out.cell 2
   rw [HPR.out]
   refine bodyPost_ret (v:=.tuple #[.agg #[.int .i64 (x:Int),.int .i64 (y:Int),.int .i64 (z:Int)],.int .i64 0]) (by simp [results,Tryz.results131,go_sem,r0,r1,r2]) rfl ?_
   exact ⟨rfl,HBZ.out⟩
theorem cut_size (s m:ByteArray):∀ (f k:Nat),∀ x ∈ cutB s m f k,x.2.size<=s.size:=by
 intro f
 induction f with
 | zero=>intro k x hx;simp only [cutB,List.mem_singleton] at hx;subst hx;simp
 | succ f ih =>
  intro k x hx
  rw [cutB] at hx
  split at hx
  ·simp only [List.mem_singleton] at hx;subst hx;simp
  ·rcases List.mem_cons.1 hx with rfl | hx
   ·simp;omega
   ·exact ih _ x hx
theorem rvparse_any (HS:SplitC) (s:ByteArray) (w:World) (hs:s.size<=100000) (hw:Lb w) :
  Calls Tryz.prog 131 #[.string s] w fun e w'=>e=.returned (rversV (versF s))/\Below w.heap.size w w':=by
 have hc:=cuts_count s 46 s.size 0 (by omega) (Nat.zero_le _)
 rw [List.drop_zero] at hc
 by_cases h:(cutB s ⟨#[46]⟩ s.size 0).length=3
 ·unfold versF
  rw [if_pos (by omega)]
  exact rvparse_three HS s w hs hw h (fun x hx=>Nat.le_trans (cut_size s _ _ _ x hx) hs)
 ·unfold versF
  rw [if_neg (by omega)]
  exact rvparse_not HS s w hs hw h
end
section
open Go.RowKit Go.Shelf Sv
theorem splitC:SplitC:=fun s W hs hw=>by
 obtain ⟨m,hm⟩:=hw.ml
 have h:=split_cut s ⟨#[46]⟩ (by decide) s.size 0 (by omega) (Nat.zero_le _)
 have hx:s.extract 0 s.size=s:=ba_ext (by rw [Lib.extract_to_end];simp)
 rw [hx] at h
 have hlen:Lib.countB s ⟨#[46]⟩ + 1=(cutB s ⟨#[46]⟩ s.size 0).length:=by
  have h2:=congrArg List.length h
  rw [List.length_map,Lib.splitB_all _ (by decide) 0 _ s rfl] at h2
  exact h2
 refine (Tryz.strings_Split s ⟨#[46]⟩ m W (by omega) hm (by decide)).mono fun e w' ⟨he,hw'⟩=>?_
 rw [hlen] at he
 rw [h] at hw'
 exact ⟨he,hw'⟩
end
section
open Go.RowKit Go.Shelf Sv
theorem partF_err {l:List UInt8} {k:Int} (h:partF l=.error k):k ≠ 0:=by
 unfold partF at h
 split at h
 ·split at h
  ·cases h;decide
  ·split at h
   ·cases h;decide
   ·cases h
 ·cases h;decide
theorem partsF_err:∀ {l:List (Nat × ByteArray)} {k:Int},partsF l=.error k->k ≠ 0:=by
 intro l
 induction l with
 | nil=>intro k h;cases h
 | cons x l ih =>
  intro k h
  unfold partsF at h
  split at h
  ·rename_i hx;cases h;exact partF_err hx
  ·split at h
   ·rename_i hx;cases h;exact ih hx
   ·cases h
theorem versF_err {s:ByteArray} {k:Int} (h:versF s=.error k):k ≠ 0:=by
 unfold versF at h
 split at h
 ·exact partsF_err h
 ·cases h;decide
theorem signF_err {g:List UInt8} {a b c:Nat} {k:Int} (h:signF g a b c=.error k):k=3:=by
 unfold signF at h
 repeat (split at h;· cases h)
 cases h;rfl
theorem wordF_err {s:ByteArray} {k:Int} (h:wordF s=.error k):k ≠ 0:=by
 unfold wordF at h
 split at h
 ·cases h
 ·split at h
  ·cases h
  ·split at h
   ·rename_i hx;cases h;exact versF_err hx
   ·rw [signF_err h];decide
def RwOk (m:List Nat) (k:Int):Except Int (List Span)->Prop
 | .ok l=>m=tp l/\k=0
 | .error q=>m=[]/\k=q
def RwOut (w:World) (x:Except Int (List Span)) (e:Ending) (w':World):Prop:=∃ (m:List Nat) (a:Option Addr) (c:Nat) (k:Int),e=.returned (.tuple #[.slice a m.length c,.int .i64 k])/\NsAt w' (.slice a m.length c) m/\(∀ g,(Value.slice a m.length c).ownBlock=some g->w.heap.size<=g)/\Below w.heap.size w w'/\RwOk m k x
theorem rword_any' (s:ByteArray) (w:World) (h:s.toList=[97,110,121]):Calls Tryz.prog 115 #[.string s] w (RwOut w (.ok anyF)):=by
 have h1:(s.toList == [97,110,121])=true:=by rw [h];rfl
 have HR:=Lib.hid (rrow_any 0 1000000000 w)
 have he:rowF 0 1000000000=anyF:=rfl
 rw [he] at HR
 have HRR:Hid (Calls Tryz.prog 114 #[.int .i64 0,.int .i64 1000000000] w (NsOut w (tp anyF))):=HR.out
 clear HR he h
 generalize anyF=L at *
 go_enter Tryz.func115,Tryz.ntmps115
 go_wp2_with fail
 refine HRR.out.mono ?_
 rintro e w' ⟨a,c,rfl,q1,q2,q3⟩
 have Q1:=Lib.hid q1
 have Q2:=Lib.hid q2
 have Q3:=Lib.hid q3
 clear q1 q2 q3
 go_wp2
 refine bodyPost_ret (v:=.tuple #[.slice a (tp L).length c,.int .i64 0]) (by simp [results,Tryz.results115,go_sem]) rfl ?_
 exact ⟨_,a,c,0,rfl,Q1.out,Q2.out,Q3.out,rfl,rfl⟩
theorem rword_none (s:ByteArray) (w:World) (h:s.toList=[110,111,110,101]):Calls Tryz.prog 115 #[.string s] w (RwOut w (.ok [])):=by
 have h1:(s.toList == [97,110,121])=false:=by rw [h];rfl
 have h2:(s.toList == [110,111,110,101])=true:=by rw [h];rfl
 clear h
 go_enter Tryz.func115,Tryz.ntmps115
 go_wp2
 refine bodyPost_ret (v:=.tuple #[.slice none 0 0,.int .i64 0]) (by simp [results,Tryz.results115,go_sem]) rfl ?_
 exact ⟨[],none,0,0,rfl,nsAt_nil _,fun g hg=>by simp [Value.ownBlock] at hg,Below.refl _ _,rfl,rfl⟩
theorem rword_bad (s:ByteArray) (w:World) (hs:s.size<=100000) (hw:Lb w) (h1:(s.toList == [97,110,121])=false) (h2:(s.toList == [110,111,110,101])=false) (k:Int) (hv:versF (trimB s)=.error k):Calls Tryz.prog 115 #[.string s] w (RwOut w (.error k)):=by
 have HT:=Lib.hid (trim_any s w)
 have HP:Hid (∀ W,Below w.heap.size w W->Calls Tryz.prog 131 #[.string (trimB s)] W fun e w'=>e=.returned (.tuple #[.agg #[.int .i64 0,.int .i64 0,.int .i64 0],.int .i64 k])/\Below W.heap.size W w'):=fun W hb=>by have:=rvparse_any splitC (trimB s) W (Nat.le_trans (trimB_size s) hs) (hw.below hb);rw [hv] at this;exact this
 have hk:=versF_err hv
 have hk':(k != 0)=true:=by simpa using hk
 clear hv hw hk
 generalize trimB s=t at *
 go_enter Tryz.func115,Tryz.ntmps115
 go_wp2_with fail
 refine HT.out.mono ?_
 rintro e w1 ⟨rfl,hb1⟩
 have H2:=Lib.hid (HP.out _ hb1)
 have HB1:=Lib.hid hb1
 clear hb1 HP HT
 go_wp2_with fail
 refine H2.out.mono ?_
 rintro e w2 ⟨rfl,hb2⟩
 have HB2:Hid (Below w.heap.size w (w2.alloc (.cells #[.int .i64 0,.int .i64 0,.int .i64 0] 91))):=(HB1.out.trans (hb2.mono HB1.out.size)).alloc (by have:=HB1.out.size;have:=hb2.size;omega) _
 clear hb2 H2
 go_wp2
 refine bodyPost_ret (v:=.tuple #[.slice none 0 0,.int .i64 k]) (by simp [results,Tryz.results115,go_sem]) rfl ?_
 exact ⟨[],none,0,k,rfl,nsAt_nil _,fun g hg=>by simp [Value.ownBlock] at hg,HB2.out,rfl,rfl⟩
theorem rword_sign (s:ByteArray) (w:World) (hs:s.size<=100000) (hw:Lb w) (h1:(s.toList == [97,110,121])=false) (h2:(s.toList == [110,111,110,101])=false) (a b c:Nat) (ha:a<=999) (hb:b<=999) (hc:c<=999) (hv:versF (trimB s)=.ok [a,b,c]):Calls Tryz.prog 115 #[.string s] w (RwOut w (signF (s.extract 0 (s.size - (trimB s).size)).toList a b c)):=by
 have HT:=Lib.hid (trim_any s w)
 have HP:Hid (∀ W,Below w.heap.size w W->Calls Tryz.prog 131 #[.string (trimB s)] W fun e w'=>e=.returned (.tuple #[.agg #[.int .i64 (a:Int),.int .i64 (b:Int),.int .i64 (c:Int)],.int .i64 0])/\Below W.heap.size W w'):=fun W hb=>by have:=rvparse_any splitC (trimB s) W (Nat.le_trans (trimB_size s) hs) (hw.below hb);rw [hv] at this;exact this
 have HN:Hid (∀ W,Calls Tryz.prog 189 #[.agg #[.int .i64 (a:Int),.int .i64 (b:Int),.int .i64 (c:Int)]] W fun e w'=>e=.returned (.int .i64 (numN a b c:Int))/\Below W.heap.size W w'):=fun W=>rnum_any a b c (by omega) (by omega) (by omega) W
 have hN:=numN_lt ha hb hc
 have hNi:(numN a b c:Int)<1000000000:=by unfold ALL at hN;omega
 have HR:Hid (∀ (x y:Nat) (W:World),Calls Tryz.prog 114 #[.int .i64 (x:Int),.int .i64 (y:Int)] W (NsOut W (tp (rowF x y)))):=rrow_any
 have HM:Hid (∀ x y z:Nat,x<=1000->y<=1000->z<=1000->∃ M:Nat,numN x y z=M/\∀ W,Calls Tryz.prog 189 #[.agg #[.int .i64 (x:Int),.int .i64 (y:Int),.int .i64 (z:Int)]] W fun e w'=>e=.returned (.int .i64 (M:Int))/\Below W.heap.size W w'):=fun x y z h k l=>⟨_,rfl,rnum_any x y z h k l⟩
 generalize hX:signF (s.extract 0 (s.size - (trimB s).size)).toList a b c=X
 have hts:=trimB_size s
 generalize trimB s=t at *
 have hq:(s.size:Int) - (t.size:Int)=((s.size - t.size:Nat):Int):=by omega
 have hqs:s.size - t.size<=s.size:=by omega
 generalize s.size - t.size=q at *
 have i0:(0:Int)<=(q:Int):=by omega
 have i2:(q:Int)<=(s.size:Int):=by omega
 have hsl:=fun W'=>run_slice_string_h (P:=Tryz.prog) W' 9 s Tryz.underlying9 .i64 (q:Int) i0 i2
 simp only [Int.toNat_natCast] at hsl
 have hw1:wrap64 ((s.size:Int) - (t.size:Int))=(q:Int):=by rw [hq];unfold wrap64;omega
 have hw2:IntKind.i64.wrap ((s.size:Int) - (t.size:Int))=(q:Int):=by rw [IntKind.wrap_i64];unfold wrap64 at hw1;exact hw1
 generalize s.extract 0 q=u at *
 unfold signF careN at hX
 clear hv hw hts hq hN
 generalize numN a b c=N at *
 go_enter Tryz.func115,Tryz.ntmps115
 go_wp2_with fail
 refine HT.out.mono ?_
 rintro e w1 ⟨rfl,hb1⟩
 have H2:=Lib.hid (HP.out _ hb1)
 have HB1:=Lib.hid hb1
 clear hb1 HP HT
 go_wp2_with fail
 refine H2.out.mono ?_
 rintro e w2 ⟨rfl,hb2⟩
 have HB2:Hid (Below w.heap.size w (w2.alloc (.cells #[.int .i64 (a:Int),.int .i64 (b:Int),.int .i64 (c:Int)] 91))):=(HB1.out.trans (hb2.mono HB1.out.size)).alloc (by have:=HB1.out.size;have:=hb2.size;omega) _
 have kv:=Blk.new w2 91 #[.int .i64 (a:Int),.int .i64 (b:Int),.int .i64 (c:Int)]
 clear hb2 H2
 go_wp2_with fail
 generalize w2.alloc (.cells #[.int .i64 (a:Int),.int .i64 (b:Int),.int .i64 (c:Int)] 91)=W3 at *
 refine (HN.out _).mono ?_
 rintro e w4 ⟨rfl,hb4⟩
 have HB4:Hid (Below w.heap.size w w4):=HB2.out.trans (hb4.mono HB2.out.size)
 have kv4:=kv.below hb4 kv.lt
 have HKV:=Lib.hid kv4
 clear hb4 HN kv kv4 HB2
 rcases Bool.eq_false_or_eq_true (u.toList == []) with g0 | g0
 rw [if_pos (.inl (eq_of_beq g0))] at hX;subst hX;have HROW:=Lib.hid (HR.out N (N + 1));have HBZ:=HB4;rotate_left
 rcases Bool.eq_false_or_eq_true (u.toList == [61]) with g1 | g1
 rw [if_pos (.inr (eq_of_beq g1))] at hX;subst hX;have HROW:=Lib.hid (HR.out N (N + 1));have HBZ:=HB4;rotate_left
 rw [if_neg (not_or.2 ⟨ne_of_beq_false g0,ne_of_beq_false g1⟩)] at hX
 rcases Bool.eq_false_or_eq_true (u.toList == [33]) with g2 | g2
 ·rw [if_pos (eq_of_beq g2)] at hX;subst hX
  go_wp2_with fail
  refine (HR.out N (N + 1) _).mono ?_
  rintro e w5 ⟨x,y,rfl,q1,q2,q3⟩
  have HB5:Hid (Below w.heap.size w w5):=HB4.out.trans (q3.mono HB4.out.size)
  have HNOT:=Lib.hid (rnot_any (rowF N (N + 1)) (rg_row (by unfold ALL;omega)) _ w5 q1)
  clear q1 q2 q3
  go_wp2_with fail
  refine HNOT.out.mono ?_
  rintro e w6 ⟨x,y,rfl,q1,q2,q3⟩
  have Q:=Lib.hid (rw_fin HB5.out q1 q2 q3)
  clear q1 q2 q3
  go_wp2
  exact bodyPost_ret (by simp [results,Tryz.results115,go_sem]) rfl Q.out
 rw [if_neg (ne_of_beq_false g2)] at hX
 rcases Bool.eq_false_or_eq_true (u.toList == [60]) with g3 | g3
 rw [if_pos (eq_of_beq g3)] at hX;subst hX;have HROW:=Lib.hid (HR.out 0 N);have HBZ:=HB4;rotate_left
 rw [if_neg (ne_of_beq_false g3)] at hX
 rcases Bool.eq_false_or_eq_true (u.toList == [60,61]) with g4 | g4
 rw [if_pos (eq_of_beq g4)] at hX;subst hX;have HROW:=Lib.hid (HR.out 0 (N + 1));have HBZ:=HB4;rotate_left
 rw [if_neg (ne_of_beq_false g4)] at hX
 rcases Bool.eq_false_or_eq_true (u.toList == [62]) with g5 | g5
 rw [if_pos (eq_of_beq g5)] at hX;subst hX;have HROW:=Lib.hid (HR.out (N + 1) 1000000000);have HBZ:=HB4;rotate_left
 rw [if_neg (ne_of_beq_false g5)] at hX
 rcases Bool.eq_false_or_eq_true (u.toList == [62,61]) with g6 | g6
 rw [if_pos (eq_of_beq g6)] at hX;subst hX;have HROW:=Lib.hid (HR.out N 1000000000);have HBZ:=HB4;rotate_left
 rw [if_neg (ne_of_beq_false g6)] at hX
 have c0:=HKV.out.cell 0
 have c1:=HKV.out.cell 1
 rcases Bool.eq_false_or_eq_true (u.toList == [126]) with g7 | g7
 have g8:u.toList ≠ [94]:=by rw [eq_of_beq g7];decide
 rw [if_neg g8,if_pos (eq_of_beq g7)] at hX;clear g8;obtain ⟨M,hM,hm⟩:=HM.out a (b + 1) 0 (by omega) (by omega) (by omega);rw [hM] at hX;subst hX;have HMM:=Lib.hid hm;clear hM hm HM;have HROW:=Lib.hid (HR.out N M)
 go_wp2_with fail
 refine (HMM.out _).mono ?_;rintro e w7 ⟨rfl,hb7⟩;have HBZ:Hid (Below w.heap.size w w7):=HB4.out.trans (hb7.mono HB4.out.size);clear hb7 c0 c1;rotate_left
 rcases Bool.eq_false_or_eq_true (u.toList == [94]) with g8 | g8
 rw [if_pos (eq_of_beq g8)] at hX
 have c2:=HKV.out.cell 2
 have hl4:=HKV.out.lt
 have d0:=(HKV.out.alloc (.cells #[.int .i64 (a:Int),.int .i64 (b:Int),.int .i64 ((c:Int) + 1)] 91)).cell 0
 have d1:=(HKV.out.alloc (.cells #[.int .i64 (a:Int),.int .i64 (b:Int),.int .i64 ((c:Int) + 1)] 91)).cell 1
 have e0:=(HKV.out.alloc (.cells #[.int .i64 (a:Int),.int .i64 ((b:Int) + 1),.int .i64 0] 91)).cell 0
 by_cases ha0:(0:Int)<a
 by_cases hb0:(0:Int)<b
 rw [if_pos (by omega)] at hX;obtain ⟨M,hM,hm⟩:=HM.out (a + 1) 0 0 (by omega) (by omega) (by omega);rw [hM] at hX;subst hX;have HMM:=Lib.hid hm;clear hM hm HM;have HROW:=Lib.hid (HR.out N M)
 go_wp2_with fail
 refine (HMM.out _).mono ?_;rintro e w7 ⟨rfl,hb7⟩;have HBZ:Hid (Below w.heap.size w w7):=(HB4.out.alloc HB4.out.size _).trans (hb7.mono (HB4.out.alloc HB4.out.size _).size);clear hb7 c0 c1 c2 d0 d1 e0;rotate_left
 rw [if_pos (by omega)] at hX;obtain ⟨M,hM,hm⟩:=HM.out (a + 1) 0 0 (by omega) (by omega) (by omega);rw [hM] at hX;subst hX;have HMM:=Lib.hid hm;clear hM hm HM;have HROW:=Lib.hid (HR.out N M)
 go_wp2_with fail
 refine (HMM.out _).mono ?_;rintro e w7 ⟨rfl,hb7⟩;have HBZ:Hid (Below w.heap.size w w7):=(HB4.out.alloc HB4.out.size _).trans (hb7.mono (HB4.out.alloc HB4.out.size _).size);clear hb7 c0 c1 c2 d0 d1 e0;rotate_left
 rw [if_neg (by omega)] at hX
 by_cases hb0:(0:Int)<b
 rw [if_pos (by omega)] at hX;obtain ⟨M,hM,hm⟩:=HM.out a (b + 1) 0 (by omega) (by omega) (by omega);rw [hM] at hX;subst hX;have HMM:=Lib.hid hm;clear hM hm HM;have HROW:=Lib.hid (HR.out N M)
 go_wp2_with fail
 refine (HMM.out _).mono ?_;rintro e w7 ⟨rfl,hb7⟩;have HBZ:Hid (Below w.heap.size w w7):=(HB4.out.alloc HB4.out.size _).trans (hb7.mono (HB4.out.alloc HB4.out.size _).size);clear hb7 c0 c1 c2 d0 d1 e0;rotate_left
 rw [if_neg (by omega)] at hX;obtain ⟨M,hM,hm⟩:=HM.out a b (c + 1) (by omega) (by omega) (by omega);rw [hM] at hX;subst hX;have HMM:=Lib.hid hm;clear hM hm HM;have HROW:=Lib.hid (HR.out N M)
 go_wp2_with fail
 refine (HMM.out _).mono ?_;rintro e w7 ⟨rfl,hb7⟩;have HBZ:Hid (Below w.heap.size w w7):=(HB4.out.alloc HB4.out.size _).trans (hb7.mono (HB4.out.alloc HB4.out.size _).size);clear hb7 c0 c1 c2 d0 d1 e0;rotate_left
 ·rw [if_neg (ne_of_beq_false g8),if_neg (ne_of_beq_false g7)] at hX;subst hX
  go_wp2_with fail
  refine bodyPost_ret (v:=.tuple #[.slice none 0 0,.int .i64 3]) (by simp [results,Tryz.results115,go_sem]) rfl ?_
  exact ⟨[],none,0,3,rfl,nsAt_nil _,fun g hg=>by simp [Value.ownBlock] at hg,HB4.out,rfl,rfl⟩
 all_goals
  clear HR HKV
  go_wp2_with fail
  refine (HROW.out _).mono ?_
  rintro e w5 ⟨x,y,rfl,q1,q2,q3⟩
  have Q:=Lib.hid (rw_fin HBZ.out q1 q2 q3)
  clear q1 q2 q3
  go_wp2
  exact bodyPost_ret (by simp [results,Tryz.results115,go_sem]) rfl Q.out
theorem rword_all (s:ByteArray) (w:World) (hs:s.size<=100000) (hw:Lb w):Calls Tryz.prog 115 #[.string s] w (RwOut w (wordF s)):=by
 unfold wordF
 by_cases h1:s.toList=[97,110,121]
 ·rw [if_pos h1];exact rword_any' s w h1
 rw [if_neg h1]
 by_cases h2:s.toList=[110,111,110,101]
 ·rw [if_pos h2];exact rword_none s w h2
 rw [if_neg h2]
 have q1:(s.toList == [97,110,121])=false:=by rw [beq_eq_false_iff_ne];exact h1
 have q2:(s.toList == [110,111,110,101])=false:=by rw [beq_eq_false_iff_ne];exact h2
 cases hv:versF (trimB s) with
 | error k=>exact rword_bad s w hs hw q1 q2 k hv
 | ok ns =>
  obtain ⟨hl,hn⟩:=versF_len hv
  obtain ⟨a,b,c,rfl⟩:=len3 hl
  exact rword_sign s w hs hw q1 q2 a b c (hn a (by simp)) (hn b (by simp)) (hn c (by simp)) hv
end
section
open Go.RowKit Go.Shelf Sv
theorem cut_row (s m:ByteArray):∀ (f k:Nat),k<=s.size->∀ i,(h:i<(cutB s m f k).length)->(i=0->((cutB s m f k)[i]).1=k)/\((cutB s m f k)[i]).1 + ((cutB s m f k)[i]).2.size<=s.size/\(∀ h2:i + 1<(cutB s m f k).length,((cutB s m f k)[i + 1]).1=((cutB s m f k)[i]).1 + ((cutB s m f k)[i]).2.size + m.size):=by
 intro f
 induction f with
 | zero =>
  intro k hk i h
  have e:cutB s m 0 k=[(k,s.extract k s.size)]:=rfl
  simp only [e] at h ⊢
  simp only [List.length_singleton] at h
  obtain rfl:i=0:=by omega
  refine ⟨fun _=>rfl,?_,fun h2=>by simp at h2⟩
  simp;omega
 | succ f ih =>
  intro k hk i h
  by_cases hn:Lib.index (s.extract k s.size).data.toList m.data.toList<0
  ·have e:=cutB_end hn (f + 1)
   simp only [e] at h ⊢
   simp only [List.length_singleton] at h
   obtain rfl:i=0:=by omega
   refine ⟨fun _=>rfl,?_,fun h2=>by simp at h2⟩
   simp;omega
  ·obtain ⟨j,hj⟩:∃ j:Nat,Lib.index (s.extract k s.size).data.toList m.data.toList=(j:Int):=⟨(Lib.index (s.extract k s.size).data.toList m.data.toList).toNat,by omega⟩
   have hroom:=index_room (s.extract k s.size).data.toList m.data.toList (by omega)
   rw [hj] at hroom
   have hrl:(s.extract k s.size).data.toList.length=s.size - k:=by
    show (s.extract k s.size).data.toList.length=_
    rw [Array.length_toList]
    show (s.extract k s.size).size=_
    simp
   have hml:m.data.toList.length=m.size:=by rw [Array.length_toList];rfl
   rw [hrl,hml] at hroom
   simp only [Int.toNat_natCast] at hroom
   have e:=cutB_step (f:=f) hj
   simp only [e] at h ⊢
   have hih:=ih (k + j + m.size) (by omega)
   cases i with
   | zero =>
    refine ⟨fun _=>rfl,?_,fun h2=>?_⟩
    ·simp;omega
    ·simp only [List.getElem_cons_zero,List.getElem_cons_succ]
     have:=(hih 0 (by simpa using h2)).1 rfl
     rw [this]
     simp;omega
   | succ i =>
    refine ⟨fun h0=>by omega,?_,fun h2=>?_⟩
    ·simp only [List.getElem_cons_succ]
     exact (hih i (by simpa using h)).2.1
    ·simp only [List.getElem_cons_succ]
     exact (hih i (by simpa using h)).2.2 (by simpa using h2)
def px (L:List (Nat × ByteArray)) (k:Nat):Nat × ByteArray:=L.getD k (0,⟨#[]⟩)
theorem px_at (L:List (Nat × ByteArray)) (k:Nat) (h:k<L.length):px L k=L[k]:=by unfold px;simp [List.getD_eq_getElem?_getD,List.getElem?_eq_getElem h]
structure Cuts (s m:ByteArray) (L:List (Nat × ByteArray)):Prop where
 pos:0<L.length
 len:L.length<=s.size + 1
 first:(px L 0).1=0
 room:∀ k,k<L.length->(px L k).1 + (px L k).2.size<=s.size
 next:∀ k,k + 1<L.length->(px L (k + 1)).1=(px L k).1 + (px L k).2.size + m.size
theorem cuts_of (s m:ByteArray):Cuts s m (cutB s m s.size 0):=by
 refine ⟨cutB_pos _ _ _ _,by have:=cutB_len s m s.size 0;omega,?_,fun k hk=>?_,fun k hk=>?_⟩
 ·rw [px_at _ _ (cutB_pos _ _ _ _)];exact (cut_row s m s.size 0 (Nat.zero_le _) 0 (cutB_pos _ _ _ _)).1 rfl
 ·rw [px_at _ _ hk];exact (cut_row s m s.size 0 (Nat.zero_le _) k hk).2.1
 ·rw [px_at _ _ hk,px_at _ _ (by omega)];exact (cut_row s m s.size 0 (Nat.zero_le _) k (by omega)).2.2 hk
theorem words_take {L:List (Nat × ByteArray)} {k:Nat} {st:List Span × Nat} (hk:k<L.length) (h:wordsF (L.take k) (anyF,0)=.ok st):wordsF (L.take (k + 1)) (anyF,0)=if (px L k).2.toList=[] then .ok st else match wordF (px L k).2 with
  | .error q=>.error (q,(px L k).1)
  | .ok l=>.ok (nd st.1 l,st.2 + 1):=by
 rw [List.take_succ_eq_append_getElem hk,wordsF_app,h,px_at L k hk]
 show wordsF [L[k]] st=_
 unfold wordsF
 split
 ·rfl
 ·cases wordF L[k].2 with
  | error q=>rfl
  | ok l=>rfl
theorem words_err {L:List (Nat × ByteArray)} {k:Nat} {q:Int × Nat} (h:wordsF (L.take k) (anyF,0)=.error q):wordsF L (anyF,0)=.error q:=by
 have:=wordsF_app (L.take k) (L.drop k) (anyF,0)
 rw [List.take_append_drop,h] at this
 exact this
theorem pieces_take {L:List (Nat × ByteArray)} {k:Nat} {acc:List Span} (hk:k<L.length) (h:piecesF (L.take k) []=.ok acc):piecesF (L.take (k + 1)) []=match pieceF (px L k).2 (px L k).1 with
  | .error q=>.error q
  | .ok l=>.ok (orr acc l):=by
 rw [List.take_succ_eq_append_getElem hk,piecesF_app,h,px_at L k hk]
 show piecesF [L[k]] acc=_
 unfold piecesF
 cases pieceF L[k].2 L[k].1 with
 | error q=>rfl
 | ok l=>rfl
theorem pieces_err {L:List (Nat × ByteArray)} {k:Nat} {q:Int × Nat} (h:piecesF (L.take k) []=.error q):piecesF L []=.error q:=by
 have:=piecesF_app (L.take k) (L.drop k) []
 rw [List.take_append_drop,h] at this
 exact this
structure FineR (w:World):Prop where
 c0:w.cell? ⟨0,0,none⟩=some (.int .i64 0)
 c1:w.cell? ⟨0,1,none⟩=some (.int .i64 (-1))
 lt:0<w.heap.size
theorem FineR.below {w w':World} (h:FineR w) (hb:Below w.heap.size w w'):FineR w':=⟨(hb.cell (p:=⟨0,0,none⟩) h.lt).trans h.c0,(hb.cell (p:=⟨0,1,none⟩) h.lt).trans h.c1,Nat.lt_of_lt_of_le h.lt hb.size⟩
def RpOk (m:List Nat) (k p:Int):Except (Int × Nat) (List Span)->Prop
 | .ok l=>m=tp l/\k=0/\p=-1
 | .error (q,i)=>m=[]/\k=q/\p=(i:Int)
def RpOut (w:World) (x:Except (Int × Nat) (List Span)) (e:Ending) (w':World):Prop:=∃ (m:List Nat) (a:Option Addr) (c:Nat) (k p:Int),e=.returned (.tuple #[.slice a m.length c,.agg #[.int .i64 k,.int .i64 p]])/\NsAt w' (.slice a m.length c) m/\(∀ g,(Value.slice a m.length c).ownBlock=some g->w.heap.size<=g)/\Below w.heap.size w w'/\RpOk m k p x
end
end Go.Proofs.YtiihalknffbjpaaGreatDoor
