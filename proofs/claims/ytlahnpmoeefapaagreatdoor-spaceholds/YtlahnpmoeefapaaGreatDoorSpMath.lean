/- What clauses make of a space: plain. -/
import Derived.Test.YtlahnpmoeefapaaGreatDoorPfForm
import Derived.Test.YtlahnpmoeefapaaGreatDoorBdFun
set_option maxHeartbeats 2000000
set_option maxRecDepth 100000
namespace Go.Proofs.YtlahnpmoeefapaaGreatDoor
open Go.RowKit
theorem check1_any (x v:Int) (h0:0<=v) (h1:v<=24) (b:Nat) (w:World) (hc:w.cell? ⟨b,0,none⟩=some (.int .i64 v)) :
  Calls Tryz.prog 154 #[.int .i64 x,.pointer (some ⟨b,0,none⟩)] w fun e w'=>e=.returned (.bool (!litB v x))/\w=w':=by
 have HL:=Lib.hid (literal_any x v h0 h1 w)
 generalize litB v x=B at *
 go_enter Tryz.func154,Tryz.ntmps154
 go_wp2_with fail
 refine HL.out.mono ?_
 rintro e w1 ⟨rfl,rfl⟩
 go_wp2
 go_ret
 exact ⟨by first | rfl | simp,rfl⟩
theorem ent_check1:∀ args w,(callFunc 154 args).run Tryz.prog w=.ok (.enter 154 args) w:=by intro args w;kernel_rfl
def badC (v:Int) (c:List Int):Bool:=decide (48<c.length) || c.any (fun x=>!litB v x)
def codeC (c:List Int):Int:=if 48<c.length then 4 else 2
def checkF (v:Int) (l:List (List Int)):Int × Int :=
 if v<0\/24<v then (2,-1) else if 200<l.length then (4,-1) else match l.findIdx? (badC v) with | some i=>(codeC (l.getD i []),(i:Int)) | none=>(0,-1)
theorem checkF_at {v:Int} {l:List (List Int)} (h0:0<=v) (h1:v<=24) (hl:l.length<=200) {k:Nat} (hk:k<l.length) (h2:∀ j,j<k->badC v (l.getD j [])=false) (h3:badC v (l.getD k [])=true):checkF v l=(codeC (l.getD k []),(k:Int)):=by
 have:l.findIdx? (badC v)=some k:=by
  rw [List.findIdx?_eq_some_iff_getElem]
  refine ⟨hk,?_,fun j hj=>?_⟩
  ·rw [List.getD_eq_getElem?_getD,List.getElem?_eq_getElem hk] at h3;exact h3
  ·have:=h2 j hj
   rw [List.getD_eq_getElem?_getD,List.getElem?_eq_getElem (by omega)] at this
   simpa using this
 unfold checkF
 rw [if_neg (by omega),if_neg (by omega),this]
theorem checkF_ok {v:Int} {l:List (List Int)} (h0:0<=v) (h1:v<=24) (hl:l.length<=200) (h2:∀ j,j<l.length->badC v (l.getD j [])=false):checkF v l=(0,-1):=by
 have:l.findIdx? (badC v)=none:=by
  rw [List.findIdx?_eq_none_iff]
  intro x hx
  obtain ⟨j,hj,rfl⟩:=List.getElem_of_mem hx
  have:=h2 j hj
  rw [List.getD_eq_getElem?_getD,List.getElem?_eq_getElem hj] at this
  simpa using this
 unfold checkF
 rw [if_neg (by omega),if_neg (by omega),this]
theorem check_any (v:Int) (l:List (List Int)) (a:Option Addr) (cap:Nat) (w:World) (hI:ClsIn w a l) (hm:l.length<=9223372036854775807) :
  Calls Tryz.prog 83 #[.int .i64 v,.slice a l.length cap] w fun e w'=>∃ er,e=.returned er/\ErrIs w' er (checkF v l).1 (checkF v l).2/\Below w.heap.size w w':=by
 have hb0:=below_new w (.cells #[.int .i64 v] 3)
 by_cases hv:v<0\/24<v
 ·have e:checkF v l=(2,-1):=by unfold checkF;rw [if_pos hv]
  rw [e]
  have fin:Calls Tryz.prog 83 #[.int .i64 v,.slice a l.length cap] w fun e w'=>e=.returned (.iface 57 (.int .i64 2))/\Below w.heap.size w w':=by
   have HB:=Lib.hid hb0
   clear hb0 e hI
   by_cases h:v<0
   ·go_enter Tryz.func83,Tryz.ntmps83
    go_wp2
    go_ret
    exact ⟨rfl,HB.out⟩
   ·have h2:24<v:=by omega
    clear hv
    go_enter Tryz.func83,Tryz.ntmps83
    go_wp2
    go_ret
    exact ⟨rfl,HB.out⟩
  exact fin.mono fun e w' ⟨he,hb⟩=>⟨_,he,Or.inr (Or.inl ⟨by omega,rfl,rfl⟩),hb⟩
 have hv0:0<=v:=by omega
 have hv1:v<=24:=by omega
 clear hv
 by_cases hl:200<l.length
 ·have e:checkF v l=(4,-1):=by unfold checkF;rw [if_neg (by omega),if_pos hl]
  rw [e]
  have fin:Calls Tryz.prog 83 #[.int .i64 v,.slice a l.length cap] w fun e w'=>e=.returned (.iface 57 (.int .i64 4))/\Below w.heap.size w w':=by
   have HB:=Lib.hid hb0
   clear hb0 e hI
   go_enter Tryz.func83,Tryz.ntmps83
   go_wp2
   go_ret
   exact ⟨rfl,HB.out⟩
  exact fin.mono fun e w' ⟨he,hb⟩=>⟨_,he,Or.inr (Or.inl ⟨by omega,rfl,rfl⟩),hb⟩
 have HI:=Lib.hid hI
 have HB:=Lib.hid hb0
 have HV:Hid (∀ W,Below (w.heap.size + 1) (w.alloc (.cells #[.int .i64 v] 3)) W->W.cell? ⟨w.heap.size,0,none⟩=some (.int .i64 v)):=fun W hW=>(hW.cell (p:=⟨w.heap.size,0,none⟩) (by simp)).trans (by simp)
 clear hI hb0
 go_enter Tryz.func83,Tryz.ntmps83
 go_wp2_with fail
 go_loopw [20] (fun kV wr=>∃ k:Nat,k<=l.length/\kV=.int .i64 (k:Int)/\(∀ j,j<k->badC v (l.getD j [])=false)/\Below (w.heap.size + 1) (w.alloc (.cells #[.int .i64 v] 3)) wr) (fun kV _=>l.length - (intOf kV).toNat)
 case atStart=>exact ⟨0,Nat.zero_le _,rfl,fun j h=>by omega,Below.refl _ _⟩
 case round =>
  obtain ⟨k,hk,rfl,h1,hbr⟩:=hrel
  have hbw:Below w.heap.size w wr:=HB.out.trans (hbr.mono (Nat.le_succ _))
  have hcv:=HV.out _ hbr
  have H1:=Lib.hid h1
  have HBR:=Lib.hid hbr
  have HBW:=Lib.hid hbw
  have hws:=hbw.size
  have hws1:=hbr.size
  rw [World.size_alloc] at hws1
  clear h1 hbr hbw
  by_cases hlt:k<l.length
  ·obtain ⟨ad,a',cap',rfl,hl',hc,g1,g2,g3⟩:=HI.out.below HBW.out k hlt
   have HG:=Lib.hid g3
   clear g3
   generalize hx:l.getD k []=c at *
   have HX:=Lib.hid hx
   clear hx
   by_cases h48:48<c.length
   ·have hres:checkF v l=(4,(k:Int)):=by
     rw [checkF_at hv0 hv1 (by omega) hlt H1.out (by rw [HX.out];simp [badC,h48]),HX.out];simp [codeC,h48]
    have HRES:=Lib.hid hres
    have hbx:=HBW.out.trans ((below_new wr (.cells #[.int .i64 4,.int .i64 (k:Int)] 229)).mono hws)
    have HBX:=Lib.hid hbx
    clear hres hbx
    go_wp2
    go_ret
    refine ⟨_,rfl,?_,HBX.out⟩
    rw [HRES.out]
    exact Or.inr (Or.inr ⟨by show (4:Int) ≠ 0;omega,wr.heap.size,by simp,rfl,by simp,by simp⟩)
   ·have HC:=Lib.hid (cf_ints 154 #[.pointer (some ⟨w.heap.size,0,none⟩)] (fun x=>!litB v x) c a' cap' wr (by omega) ent_check1 HG.out (fun W i hW hi=>(check1_any (c.getD i 0) v hv0 hv1 w.heap.size W ((hW.cell (p:=⟨w.heap.size,0,none⟩) (by show w.heap.size<_;omega)).trans hcv)).mono fun e w' ⟨he,hw⟩=>⟨he,hw ▸ Below.refl _ _⟩))
    cases hp:c.any (fun x=>!litB v x) with
    | true =>
     rw [hp] at HC
     have hres:checkF v l=(2,(k:Int)):=by
      rw [checkF_at hv0 hv1 (by omega) hlt H1.out (by rw [HX.out];unfold badC;rw [hp];simp),HX.out];simp [codeC,h48]
     have HRES:=Lib.hid hres
     clear hres hp
     go_wp2_with fail
     refine HC.out.mono ?_
     rintro e w1 ⟨rfl,hb1⟩
     have hbw1:=HBW.out.trans (hb1.mono hws)
     have hbx:=hbw1.trans ((below_new w1 (.cells #[.int .i64 2,.int .i64 (k:Int)] 229)).mono hbw1.size)
     have HBX:=Lib.hid hbx
     clear hbx hbw1 hb1 HC
     go_wp2
     go_ret
     refine ⟨_,rfl,?_,HBX.out⟩
     rw [HRES.out]
     exact Or.inr (Or.inr ⟨by show (2:Int) ≠ 0;omega,w1.heap.size,by simp,rfl,by simp,by simp⟩)
    | false =>
     rw [hp] at HC
     have HBC:Hid (badC v c=false):=by show badC v c=false;unfold badC;rw [hp];simp;omega
     clear hp
     go_wp2_with fail
     refine HC.out.mono ?_
     rintro e w1 ⟨rfl,hb1⟩
     have HB1:Hid (Below (w.heap.size + 1) (w.alloc (.cells #[.int .i64 v] 3)) w1):=HBR.out.trans (hb1.mono hws1)
     clear hb1 HC
     go_wp2
     go_roundw
     case rel=>exact ⟨k + 1,hlt,by go_num,fun j hj=>(by
      rcases Nat.lt_succ_iff_lt_or_eq.1 hj with e | e
      ·exact H1.out j e
      ·rw [e,HX.out];exact HBC.out),HB1.out⟩
     case measure=>simp [intOf];omega
  ·obtain rfl:k=l.length:=by omega
   have hres:=checkF_ok hv0 hv1 (by omega) H1.out
   have HRES:=Lib.hid hres
   clear hres
   go_wp2
   go_ret
   exact ⟨_,rfl,by rw [HRES.out];exact Or.inl ⟨rfl,rfl,rfl⟩,HBW.out⟩
end Go.Proofs.YtlahnpmoeefapaaGreatDoor
namespace Go.Proofs.YtlahnpmoeefapaaGreatDoor
open Go.RowKit Go.Deep
theorem check_fine {v:Int} {l:List (List Int)} (h:(checkF v l).1=0):0<=v/\v<=24/\l.length<=200/\LitsL v l/\checkF v l=(0,-1)/\∀ c ∈ l,c.length<=48:=by
 unfold checkF at h ⊢
 by_cases h1:v<0\/24<v
 ·rw [if_pos h1] at h;cases h
 ·by_cases h2:200<l.length
  ·rw [if_neg h1,if_pos h2] at h;cases h
  ·rw [if_neg h1,if_neg h2] at h ⊢
   cases h3:l.findIdx? (badC v) with
   | some i =>
    rw [h3] at h
    simp only [codeC] at h
    split at h <;> omega
   | none =>
    rw [List.findIdx?_eq_none_iff] at h3
    refine ⟨by omega,by omega,by omega,fun c hc x hx=>?_,rfl,fun c hc=>?_⟩
    ·have:=h3 c hc
     unfold badC at this
     rw [Bool.or_eq_false_iff,List.any_eq_false] at this
     simpa using this.2 x hx
    ·have:=h3 c hc
     unfold badC at this
     rw [Bool.or_eq_false_iff] at this
     have:=of_decide_eq_false this.1
     omega
end Go.Proofs.YtlahnpmoeefapaaGreatDoor
namespace Go.Proofs.YtlahnpmoeefapaaGreatDoor
open Go.RowKit
theorem both_iff {c:List Int} (hl:Lits 24 c):Both c ↔ alwaysF (sidesF c)=true:=(alwaysF_both hl).symm
end Go.Proofs.YtlahnpmoeefapaaGreatDoor
namespace Go.Proofs.YtlahnpmoeefapaaGreatDoor.Bd
open Go.RowKit Go.Maps
def mcount (m:List Bool):Nat:=m.countP id
theorem mcount_set:∀ (m:List Bool) (i:Nat),mcount (m.set i true)<=mcount m + 1
 | [],_=>by simp [mcount]
 | a :: m,0=>by unfold mcount;simp only [List.set_cons_zero,List.countP_cons];split <;> split <;> simp <;> omega
 | a :: m,i + 1=>by
  have:=mcount_set m i
  unfold mcount at *
  simp only [List.set_cons_succ,List.countP_cons]
  omega
theorem mark_count {vars:Nat} {ns:List Nd} (hg:Good vars ns):∀ (d:Nat) (h:Int) (m:List Bool),mcount (markF d ns h m) + 1<=mcount m + 2 ^ ((vars:Int) - topOf ns h).toNat
 | 0,h,m=>by have:=Nat.one_le_two_pow (n:=((vars:Int) - topOf ns h).toNat);unfold markF;omega
 | d + 1,h,m=>by
  have h1:=Nat.one_le_two_pow (n:=((vars:Int) - topOf ns h).toNat)
  unfold markF
  split
  ·omega
  ·rename_i hn
   have ht:=(not_or.1 hn).1
   have hv:=top_vars hg ht
   obtain ⟨k1,-,k2,-⟩:=kids hg.ranked ht
   have e:(h - 2).toNat=pl h:=rfl
   rw [e]
   have i1:=mark_count hg d (nd ns (pl h)).l (m.set (pl h) true)
   have i2:=mark_count hg d (nd ns (pl h)).h (markF d ns (nd ns (pl h)).l (m.set (pl h) true))
   have i0:=mcount_set m (pl h)
   have hp:2 ^ ((vars:Int) - topOf ns h).toNat=2 ^ (((vars:Int) - topOf ns h).toNat - 1) + 2 ^ (((vars:Int) - topOf ns h).toNat - 1):=by
    obtain ⟨q,hq⟩:∃ q,((vars:Int) - topOf ns h).toNat=q + 1:=⟨((vars:Int) - topOf ns h).toNat - 1,by omega⟩
    rw [hq,Nat.add_sub_cancel,Nat.pow_succ];omega
   have p1:2 ^ ((vars:Int) - topOf ns (nd ns (pl h)).l).toNat<=2 ^ (((vars:Int) - topOf ns h).toNat - 1):=Nat.pow_le_pow_right (by omega) (by omega)
   have p2:2 ^ ((vars:Int) - topOf ns (nd ns (pl h)).h).toNat<=2 ^ (((vars:Int) - topOf ns h).toNat - 1):=Nat.pow_le_pow_right (by omega) (by omega)
   omega
theorem swept_cnt_le {ns:List Nd} {M:List Bool} (hl:M.length=ns.length):cnt (swept ns M)<=mcount M:=by
 unfold cnt swept mcount
 rw [<- List.countP_eq_length_filter,List.countP_map]
 have e:M=(List.range ns.length).map fun i=>mk M i:=by
  apply List.ext_getElem (by simp [hl])
  intro i h1 h2
  simp [mk_at M i h1]
 conv=>rhs;rw [e,List.countP_map]
 refine List.countP_mono_left fun i _ h=>?_
 by_cases hm:mk M i=true
 ·exact hm
 ·simp [Function.comp,hm] at h
theorem swept_cnt {vars:Nat} {ns:List Nd} (hg:Good vars ns) (h:Int):cnt (swept ns (marksOf ns [h])) + 1<=2 ^ vars:=by
 have h1:=swept_cnt_le (marksOf_length ns [h])
 have h2:=mark_count hg 24 h (List.replicate ns.length false)
 have h3:mcount (List.replicate ns.length false)=0:=by
  unfold mcount;rw [List.countP_eq_zero];intro b hb;rw [(List.mem_replicate.1 hb).2];simp
 have h4:marksOf ns [h]=markF 24 ns h (List.replicate ns.length false):=rfl
 rw [<- h4,h3] at h2
 have h5:2 ^ ((vars:Int) - topOf ns h).toNat<=2 ^ vars:=Nat.pow_le_pow_right (by omega) (by have:=(topOf_le hg.ranked h).1;omega)
 omega
def varN (x:Int):Nat:=x.natAbs - 1
def litS (f:Nat->Bool) (x:Int):Bool:=f (varN x) == decide (0<x)
def clS (f:Nat->Bool) (c:List Int):Bool:=c.any (litS f)
theorem makeF_node (ns:List Nd) (n:Nd):topOf (makeF ns n).1 (makeF ns n).2=n.v/\nd (makeF ns n).1 (pl (makeF ns n).2)=n:=by
 unfold makeF
 by_cases c:idx ns n<ns.length
 ·rw [if_pos c]
  have hp:pl (2 + (idx ns n:Int))=idx ns n:=by unfold pl;omega
  exact ⟨by show topOf ns (2 + (idx ns n:Int))=_;rw [topOf_at c,idx_at c],by show nd ns (pl (2 + (idx ns n:Int)))=n;rw [hp,idx_at c]⟩
 ·rw [if_neg c]
  have hp:pl (2 + (lfree ns:Int))=lfree ns:=by unfold pl;omega
  exact ⟨putN_self (lfree_le ns),by show nd (putN ns (lfree ns) n) (pl (2 + (lfree ns:Int)))=n;rw [hp,putN_at (lfree_le ns) _ (.inr rfl),if_pos rfl]⟩
theorem litF_node (ns:List Nd) (v:Int) (is:Bool):topOf (litF ns v is).1 (litF ns v is).2=v/\(nd (litF ns v is).1 (pl (litF ns v is).2)=⟨v,0,1⟩\/nd (litF ns v is).1 (pl (litF ns v is).2)=⟨v,1,0⟩):=by
 unfold litF nodeF
 cases is with
 | true=>simp only [if_true];rw [if_neg (by omega)];exact ⟨(makeF_node ns ⟨v,0,1⟩).1,.inl (makeF_node ns ⟨v,0,1⟩).2⟩
 | false=>simp only [Bool.false_eq_true,if_false];rw [if_neg (by omega)];exact ⟨(makeF_node ns ⟨v,1,0⟩).1,.inr (makeF_node ns ⟨v,1,0⟩).2⟩
theorem litF_few {vars:Nat} {ns:List Nd} (hg:Good vars ns) {v:Int} (is:Bool) (hv0:0<=v) (hv:v<(vars:Int)) (hv24:v<24) (hl:ns.length<=900000):cnt (litF ns v is).1<=cnt ns + 1/\(litF ns v is).1.length<=max ns.length (cnt ns + 1):=by
 unfold litF
 cases is with
 | true =>
  simp only [if_true]
  have h:=nodeF_ok hg (v:=v) (l:=0) (h:=1) hl hv0 hv24 hv (has_end0 ns) (has_end1 ns) (by rw [top_end0];exact hv24) (by rw [top_end1];exact hv24)
  exact ⟨h.cnt,h.tight⟩
 | false =>
  simp only [Bool.false_eq_true,if_false]
  have h:=nodeF_ok hg (v:=v) (l:=1) (h:=0) hl hv0 hv24 hv (has_end1 ns) (has_end0 ns) (by rw [top_end1];exact hv24) (by rw [top_end0];exact hv24)
  exact ⟨h.cnt,h.tight⟩
def chn:Nat->List Nd->Int->Prop
 | 0,_,_=>True
 | d + 1,ns,h=>topOf ns h=24\/(nd ns (pl h)).l=1/\chn d ns (nd ns (pl h)).h\/(nd ns (pl h)).h=1/\chn d ns (nd ns (pl h)).l
theorem litS_turn {f:Nat->Bool} {v:Nat} {b:Bool} {x:Int} (h:varN x=v):litS (turn f v b) x=(b == decide (0<x)):=by unfold litS;rw [h,turn_eq]
theorem litS_other {f:Nat->Bool} {v:Nat} {b:Bool} {x:Int} (h:varN x ≠ v):litS (turn f v b) x=litS f x:=by unfold litS;rw [turn_ne _ _ h]
theorem clS_hit {f:Nat->Bool} {v:Nat} {b:Bool} {ys:List Int} (h:∃ x ∈ ys,varN x=v/\decide (0<x)=b):clS (turn f v b) ys=true:=by
 obtain ⟨x,h1,h2,h3⟩:=h
 unfold clS
 rw [List.any_eq_true]
 exact ⟨x,h1,by rw [litS_turn h2,h3];simp⟩
theorem clS_miss {f:Nat->Bool} {v:Nat} {b:Bool} {ys:List Int} (h:¬ ∃ x ∈ ys,varN x=v/\decide (0<x)=b):clS (turn f v b) ys=clS f (ys.filter fun x=>decide (varN x ≠ v)):=by
 unfold clS
 rw [Bool.eq_iff_iff,List.any_eq_true,List.any_eq_true]
 constructor
 ·rintro ⟨x,h1,h2⟩
  by_cases e:varN x=v
  ·rw [litS_turn e] at h2
   exact absurd ⟨x,h1,e,by simpa using (beq_iff_eq.1 h2).symm⟩ h
  ·exact ⟨x,List.mem_filter.2 ⟨h1,by simpa using e⟩,by rw [litS_other e] at h2;exact h2⟩
 ·rintro ⟨x,h1,h2⟩
  obtain ⟨h3,h4⟩:=List.mem_filter.1 h1
  exact ⟨x,h3,by rw [litS_other (by simpa using h4)];exact h2⟩
theorem sem_kid {vars:Nat} {ns:List Nd} (hg:Good vars ns) {h:Int} (ht:topOf ns h ≠ 24) (f:Nat->Bool) (b:Bool):sem ns (if b=true then (nd ns (pl h)).h else (nd ns (pl h)).l) f=sem ns h (turn f (topOf ns h).toNat b):=by
 obtain ⟨k1,-,k2,-⟩:=kids hg.ranked ht
 have h0:=(topOf_le hg.ranked h).1
 rw [sem_node hg.ranked ht,turn_eq]
 cases b
 ·simp only [Bool.false_eq_true,if_false]
  exact sem_agree hg.ranked (fun i hi=>(turn_ne _ _ (by omega)).symm)
 ·simp only [if_true]
  exact sem_agree hg.ranked (fun i hi=>(turn_ne _ _ (by omega)).symm)
theorem chn_of {vars:Nat} {ns:List Nd} (hg:Good vars ns):∀ (d:Nat) (h:Int) (ys:List Int),hasB ns h=true->(∀ f,sem ns h f=clS f ys)->chn d ns h
 | 0,_,_,_,_=>trivial
 | d + 1,h,ys,hh,hs=>by
  unfold chn
  by_cases ht:topOf ns h=24
  ·exact .inl ht
  ·right
   obtain ⟨-,hl1,-,hh1⟩:=kids hg.ranked ht
   obtain ⟨-,hp,-,-⟩:=node_at ht
   have hv:=top_lt hg.ranked ht
   have hne:(nd ns (pl h)).l ≠ (nd ns (pl h)).h:=hg.red _ hp (by rw [<- (node_at ht).2.2.1];exact hv)
   have slo:∀ f,sem ns (nd ns (pl h)).l f=clS (turn f (topOf ns h).toNat false) ys:=fun f=>by rw [<- hs];exact sem_kid hg ht f false
   have shi:∀ f,sem ns (nd ns (pl h)).h f=clS (turn f (topOf ns h).toNat true) ys:=fun f=>by rw [<- hs];exact sem_kid hg ht f true
   by_cases P:∃ x ∈ ys,varN x=(topOf ns h).toNat/\decide (0<x)=true
   ·have h1:(nd ns (pl h)).h=1:=same_handle hg hh1 (has_end1 ns) (fun f=>by rw [shi f,clS_hit P,sem_true])
    by_cases N:∃ x ∈ ys,varN x=(topOf ns h).toNat/\decide (0<x)=false
    ·exact absurd ((same_handle hg hl1 (has_end1 ns) (fun f=>by rw [slo f,clS_hit N,sem_true])).trans h1.symm) hne
    ·exact .inr ⟨h1,chn_of hg d _ _ hl1 (fun f=>by rw [slo f,clS_miss N])⟩
   ·by_cases N:∃ x ∈ ys,varN x=(topOf ns h).toNat/\decide (0<x)=false
    ·exact .inl ⟨same_handle hg hl1 (has_end1 ns) (fun f=>by rw [slo f,clS_hit N,sem_true]),chn_of hg d _ _ hh1 (fun f=>by rw [shi f,clS_miss P])⟩
    ·exact absurd (same_handle hg hl1 hh1 (fun f=>by rw [slo f,shi f,clS_miss N,clS_miss P])) hne
theorem makes_at {d:Nat} {ns:List Nd} {m:List (Nd × Int)} {k:Nd} (h:∃ y,knownF true k=some y):(makesF d true ns m k).1=ns/\(makesF d true ns m k).2.1=m:=by
 obtain ⟨y,hy⟩:=h
 cases d with
 | zero=>unfold makesF;exact ⟨rfl,rfl⟩
 | succ d=>unfold makesF;rw [hy];exact ⟨rfl,rfl⟩
theorem known_11 (z:Int):∃ y,knownF true ⟨1,1,z⟩=some y:=⟨1,by unfold knownF;rw [if_pos rfl];unfold iteK;rw [if_pos (.inl rfl)]⟩
theorem known_z1 (z:Int):∃ y,knownF true ⟨z,1,1⟩=some y:=⟨1,by unfold knownF;rw [if_pos rfl];unfold iteK;rw [if_pos (.inr rfl)]⟩
theorem known_01 (z:Int):∃ y,knownF true ⟨0,1,z⟩=some y:=by
 unfold knownF;rw [if_pos rfl];unfold iteK
 by_cases h:(1:Int)=z
 ·exact ⟨1,by rw [if_pos (.inr h)]⟩
 ·exact ⟨z,by rw [if_neg (by rintro (h' | h');cases h';exact h h'),if_pos rfl]⟩
theorem or_few {vars:Nat} {x v:Int} (hv24:v<24):∀ (d:Nat) (ns:List Nd) (m:List (Nd × Int)) (out:Int),Good vars ns->MemoOk true ns m->topOf ns x=v->(nd ns (pl x)=⟨v,0,1⟩\/nd ns (pl x)=⟨v,1,0⟩)->hasB ns out=true->chn d ns out->24<=minT ns ⟨x,1,out⟩ + d->ns.length + 2 * 2 ^ vars<=900000 ->
  cnt (makesF d true ns m ⟨x,1,out⟩).1<=cnt ns + d/\(makesF d true ns m ⟨x,1,out⟩).1.length<=max ns.length (cnt ns + d)
 | 0,ns,m,out,_,_,_,_,_,_,_,_=>by unfold makesF;exact ⟨Nat.le_refl _,Nat.le_max_left _ _⟩
 | d + 1,ns,m,out,hg,hm,hx,hn,ho,hc,hd,hl=>by
  have stay:cnt ns<=cnt ns + (d + 1)/\ns.length<=max ns.length (cnt ns + (d + 1)):=⟨by omega,Nat.le_max_left _ _⟩
  have t1:=top_end1 ns
  have hone:=Nat.one_le_two_pow (n:=vars)
  have hxh:hasB ns x=true:=by unfold hasB;rw [hx];simp [hv24]
  have h3:Has3 ns ⟨x,1,out⟩:=⟨hxh,has_end1 ns,ho⟩
  unfold makesF
  cases e:knownF true ⟨x,1,out⟩ with
  | some y=>exact stay
  | none =>
   cases e2:look m ⟨x,1,out⟩ with
   | some y=>exact stay
   | none =>
    have hr:=hg.ranked
    have hmv:=known_none hr h3 e
    have hmv0:=(minT_bd hr ⟨x,1,out⟩).1
    have hvv:=minT_vars hg hmv
    obtain ⟨m1,-,m3⟩:=minT_le ns ⟨x,1,out⟩
    simp only at m1 m3
    obtain ⟨l3,lt⟩:=lo_has3 hr h3 hmv
    obtain ⟨g3,gt⟩:=hi_has3 hr h3 hmv
    have hp1:=rk_le (vars:=vars) hr (loK ns ⟨x,1,out⟩ (minT ns ⟨x,1,out⟩))
    have i1:=makes_ok (op:=true) (vars:=vars) d ns m _ hg hm l3 (by omega) (by omega)
    have g3':=g3.ext i1.ext
    have gm:=minT_ext g3 i1.ext
    have hp2:=rk_le (vars:=vars) i1.good.ranked (hiK ns ⟨x,1,out⟩ (minT ns ⟨x,1,out⟩))
    have l1:=i1.len
    have i2:=makes_ok (op:=true) (vars:=vars) d _ _ _ i1.good i1.memo g3' (by rw [gm];omega) (by omega)
    have l2:=i2.len
    have h1':=i2.ext.has _ i1.has
    have t1':=i2.ext.top _ i1.has
    have hvM:minT ns ⟨x,1,out⟩=v\/(minT ns ⟨x,1,out⟩ ≠ v/\minT ns ⟨x,1,out⟩=topOf ns out):=by unfold minT;simp only;rw [hx,t1];omega
    have lo1:loS ns 1 (minT ns ⟨x,1,out⟩)=1:=by unfold loS;rw [if_neg (by omega)]
    have hi1:hiS ns 1 (minT ns ⟨x,1,out⟩)=1:=by unfold hiS;rw [if_neg (by omega)]
    have hb:cnt (makesF d true (makesF d true ns m (loK ns ⟨x,1,out⟩ (minT ns ⟨x,1,out⟩))).1 (makesF d true ns m (loK ns ⟨x,1,out⟩ (minT ns ⟨x,1,out⟩))).2.1 (hiK ns ⟨x,1,out⟩ (minT ns ⟨x,1,out⟩))).1<=cnt ns + d /\
      (makesF d true (makesF d true ns m (loK ns ⟨x,1,out⟩ (minT ns ⟨x,1,out⟩))).1 (makesF d true ns m (loK ns ⟨x,1,out⟩ (minT ns ⟨x,1,out⟩))).2.1 (hiK ns ⟨x,1,out⟩ (minT ns ⟨x,1,out⟩))).1.length<=max ns.length (cnt ns + d):=by
     rcases hvM with hv | ⟨hv,ht⟩
     ·have kl:∃ y,knownF true (loK ns ⟨x,1,out⟩ (minT ns ⟨x,1,out⟩))=some y:=by
       unfold loK;simp only;rw [lo1,show loS ns x (minT ns ⟨x,1,out⟩)=(nd ns (pl x)).l by unfold loS;rw [if_pos (by omega)]]
       rcases hn with hn | hn <;> rw [hn]
       ·exact known_01 _
       ·exact known_11 _
      have kh:∃ y,knownF true (hiK ns ⟨x,1,out⟩ (minT ns ⟨x,1,out⟩))=some y:=by
       unfold hiK;simp only;rw [hi1,show hiS ns x (minT ns ⟨x,1,out⟩)=(nd ns (pl x)).h by unfold hiS;rw [if_pos (by omega)]]
       rcases hn with hn | hn <;> rw [hn]
       ·exact known_11 _
       ·exact known_01 _
      rw [(makes_at kl).1,(makes_at kl).2,(makes_at kh).1]
      exact ⟨by omega,Nat.le_max_left _ _⟩
     ·have htn:topOf ns out ≠ 24:=by omega
      have lox:loS ns x (minT ns ⟨x,1,out⟩)=x:=by unfold loS;rw [if_neg (by omega)]
      have hix:hiS ns x (minT ns ⟨x,1,out⟩)=x:=by unfold hiS;rw [if_neg (by omega)]
      have loo:loS ns out (minT ns ⟨x,1,out⟩)=(nd ns (pl out)).l:=by unfold loS;rw [if_pos ht.symm]
      have hio:hiS ns out (minT ns ⟨x,1,out⟩)=(nd ns (pl out)).h:=by unfold hiS;rw [if_pos ht.symm]
      have el:loK ns ⟨x,1,out⟩ (minT ns ⟨x,1,out⟩)=⟨x,1,(nd ns (pl out)).l⟩:=by unfold loK;simp only;rw [lox,lo1,loo]
      have eh:hiK ns ⟨x,1,out⟩ (minT ns ⟨x,1,out⟩)=⟨x,1,(nd ns (pl out)).h⟩:=by unfold hiK;simp only;rw [hix,hi1,hio]
      rw [el] at lt
      rw [eh] at gt
      obtain ⟨-,hl1,-,hh1⟩:=kids hr htn
      unfold chn at hc
      rcases hc with hc | ⟨hc,hk⟩ | ⟨hc,hk⟩
      ·exact absurd hc htn
      ·have kl:∃ y,knownF true (loK ns ⟨x,1,out⟩ (minT ns ⟨x,1,out⟩))=some y:=by rw [el,hc];exact known_z1 _
       rw [(makes_at kl).1,(makes_at kl).2,eh]
       exact or_few hv24 d ns m _ hg hm hx hn hh1 hk (by omega) hl
      ·have kh:∃ y,knownF true (hiK ns ⟨x,1,out⟩ (minT ns ⟨x,1,out⟩))=some y:=by rw [eh,hc];exact known_z1 _
       rw [(makes_at kh).1,el]
       exact or_few hv24 d ns m _ hg hm hx hn hl1 hk (by omega) hl
    have h:=nodeF_ok i2.good (v:=minT ns ⟨x,1,out⟩) (by omega) hmv0 hmv hvv h1' i2.has (by rw [t1'];have:=i1.top;omega) (by have:=i2.top;rw [gm] at this;omega)
    have h5:=h.cnt
    have h6:=h.tight
    exact ⟨by show cnt (nodeF _ _ _ _).1<=_;omega,by show (nodeF _ _ _ _).1.length<=_;omega⟩
structure EiR (vars:Nat) (ns:List Nd) (ys:List Int) (st:List Nd × Int):Prop where
 good:Good vars st.1
 ext:Ext ns st.1
 has:hasB st.1 st.2=true
 sem:∀ f,sem st.1 st.2 f=clS f ys
 cnt:cnt st.1<=cnt ns + 25 * ys.length
 tight:st.1.length<=max ns.length (Go.Proofs.YtlahnpmoeefapaaGreatDoor.Bd.cnt ns + 25 * ys.length)
theorem eiR_nil {vars:Nat} {ns:List Nd} (hg:Good vars ns):EiR vars ns [] (ns,0) :=
 ⟨hg,Ext.refl _,has_end0 ns,fun f=>sem_false f,Nat.le_refl _,Nat.le_max_left _ _⟩
def litR (ns:List Nd) (x:Int):List Nd × Int:=litF ns (varN x:Int) (decide (0<x))
def eStep (st:List Nd × Int) (x:Int):List Nd × Int:=askF true (litR st.1 x).1 ⟨(litR st.1 x).2,1,st.2⟩
theorem litR_ok {vars:Nat} {ns:List Nd} (hg:Good vars ns) {x:Int} (hv:varN x<vars) (h24:vars<=24) (hl:ns.length + 2 ^ vars<=900000):OpR vars ns (litR ns x) (fun f=>litS f x):=by
 have:=lit_ok hg (v:=(varN x:Int)) (decide (0<x)) (by omega) (by omega) (by omega) hl
 exact ⟨this.good,this.ext,this.has,fun f=>by have:=this.sem f;exact this,this.len,this.cnt,this.tight⟩
theorem EiR.step {vars:Nat} {ns:List Nd} {ys:List Int} {st:List Nd × Int} (h:EiR vars ns ys st) {x:Int} (hv:varN x<vars) (h24:vars<=24) (hl:st.1.length + 2 ^ vars<=600000) (hpw:2 ^ vars<=100000):EiR vars ns (x :: ys) (eStep st x):=by
 have hone:=Nat.one_le_two_pow (n:=vars)
 have hL:=litR_ok h.good hv h24 (by omega)
 have hF:=litF_few h.good (v:=(varN x:Int)) (decide (0<x)) (by omega) (by omega) (by omega) (by omega)
 have hN:=litF_node st.1 (varN x:Int) (decide (0<x))
 have hlen:=hL.len
 unfold eStep
 unfold litR at *
 generalize litF st.1 (varN x:Int) (decide (0<x))=a at *
 have ho:hasB a.1 st.2=true:=hL.ext.has _ h.has
 have h3:Has3 a.1 ⟨a.2,1,st.2⟩:=⟨hL.has,has_end1 _,ho⟩
 have hp:=rk_le (vars:=vars) hL.good.ranked ⟨a.2,1,st.2⟩
 have hsm:∀ f,Go.Proofs.YtlahnpmoeefapaaGreatDoor.Bd.sem a.1 st.2 f=clS f ys:=fun f=>by rw [sem_ext h.good.ranked hL.ext h.has,h.sem f]
 have hmb:=(minT_bd hL.good.ranked ⟨a.2,1,st.2⟩).1
 have hM:=makes_ok (op:=true) 24 a.1 [] ⟨a.2,1,st.2⟩ hL.good (memo_nil true a.1) h3 (by omega) (by omega)
 have hO:=or_few (vars:=vars) (x:=a.2) (v:=(varN x:Int)) (by omega) 24 a.1 [] st.2 hL.good (memo_nil true a.1) hN.1 hN.2 ho (chn_of hL.good 24 st.2 ys ho hsm) (by omega) (by omega)
 have hc:=h.cnt
 have hT:=h.tight
 refine ⟨hM.good,h.ext.trans (hL.ext.trans hM.ext),hM.has,fun f=>?_,?_,?_⟩
 ·show Go.Proofs.YtlahnpmoeefapaaGreatDoor.Bd.sem (makesF 24 true a.1 [] ⟨a.2,1,st.2⟩).1 (makesF 24 true a.1 [] ⟨a.2,1,st.2⟩).2.2 f=_
  rw [hM.sem f]
  show opS true (Go.Proofs.YtlahnpmoeefapaaGreatDoor.Bd.sem a.1 a.2 f) (Go.Proofs.YtlahnpmoeefapaaGreatDoor.Bd.sem a.1 1 f) (Go.Proofs.YtlahnpmoeefapaaGreatDoor.Bd.sem a.1 st.2 f)=_
  rw [sem_true,hL.sem f,hsm f]
  simp only [opS,if_true,clS,List.any_cons]
  cases litS f x <;> simp
 ·have:=hO.1;have:=hF.1;rw [List.length_cons];show Go.Proofs.YtlahnpmoeefapaaGreatDoor.Bd.cnt (makesF 24 true a.1 [] ⟨a.2,1,st.2⟩).1<=_;omega
 ·have:=hO.2;have:=hF.1;have:=hF.2;rw [List.length_cons];show (makesF 24 true a.1 [] ⟨a.2,1,st.2⟩).1.length<=_;omega
def eithF (ns:List Nd) (xs:List Int):List Nd × Int:=xs.foldr (fun x st=>eStep st x) (ns,0)
theorem eith_ok {vars:Nat} {ns:List Nd} (hg:Good vars ns) (h24:vars<=24) (hl:ns.length + 2 ^ vars<=500000) (hc:cnt ns<=400000) (hpw:2 ^ vars<=100000):∀ (xs:List Int),xs.length<=100->(∀ x ∈ xs,varN x<vars)->EiR vars ns xs (eithF ns xs)
 | [],_,_=>eiR_nil hg
 | x :: xs,hn,hx=>by
  have ih:=eith_ok hg h24 hl hc hpw xs (by simp at hn;omega) (fun y hy=>hx y (List.mem_cons_of_mem _ hy))
  exact ih.step (hx x (List.mem_cons_self ..)) h24 (by have:=ih.tight;simp at hn;omega) hpw
def oneF (st:List Nd × Int) (c:List Int):List Nd × Int :=
 if alwaysF (sidesF c)=true then askF true st.1 ⟨st.2,1,0⟩ else askF true (eithF st.1 (clauseF (sidesF c))).1 ⟨st.2,(eithF st.1 (clauseF (sidesF c))).2,0⟩
def clStep (st:List Nd × Int) (c:List Int):List Nd × Int:=(swept (oneF st c).1 (marksOf (oneF st c).1 [(oneF st c).2]),(oneF st c).2)
def clF (cs:List (List Int)):List Nd × Int:=cs.foldl clStep ([],1)
structure ClR (vars:Nat) (cs:List (List Int)) (st:List Nd × Int):Prop where
 good:Good vars st.1
 has:hasB st.1 st.2=true
 sem:∀ f,sem st.1 st.2 f=cs.all (clS f)
 cnt:cnt st.1 + 1<=2 ^ vars
 len:st.1.length<=2 * 2 ^ vars + 600
theorem clS_form {f:Nat->Bool} {c:List Int} (hl:Lits 24 c) (ha:alwaysF (sidesF c)=false):clS f (clauseF (sidesF c))=clS f c:=by
 unfold clS
 rw [Bool.eq_iff_iff,List.any_eq_true,List.any_eq_true]
 exact ⟨fun ⟨x,h1,h2⟩=>⟨x,(mem_form hl ha).1 h1,h2⟩,fun ⟨x,h1,h2⟩=>⟨x,(mem_form hl ha).2 h1,h2⟩⟩
theorem clS_always {f:Nat->Bool} {c:List Int} (hl:Lits 24 c) (ha:alwaysF (sidesF c)=true):clS f c=true:=by
 obtain ⟨x,h1,h2⟩:=(both_iff hl).2 ha
 have h0:=litB_iff.1 (hl x h1)
 unfold clS
 rw [List.any_eq_true]
 have e:varN (-x)=varN x:=by unfold varN;omega
 by_cases hx:litS f x=true
 ·exact ⟨x,h1,hx⟩
 ·refine ⟨-x,h2,?_⟩
  unfold litS at *
  rw [e]
  by_cases hp:0<x
  ·have:¬ 0 < -x:=by omega
   rw [decide_eq_true hp] at hx
   rw [decide_eq_false this]
   cases hf:f (varN x) <;> simp [hf] at hx ⊢
  ·have:0 < -x:=by omega
   rw [decide_eq_false hp] at hx
   rw [decide_eq_true this]
   cases hf:f (varN x) <;> simp [hf] at hx ⊢
theorem lit_var {vars:Nat} {x:Int} (h:litB vars x=true):varN x<vars:=by
 have:=litB_iff.1 h;unfold varN;omega
theorem small_pow {vars:Nat} (h:vars<=12):2 ^ vars<=4096:=Nat.pow_le_pow_right (by omega) h
theorem clauseF_len (s:Nat × Nat):(clauseF s).length<=24:=clauseK_len s 24
theorem clauseF_vars {vars:Nat} (h24:vars<=24) {c:List Int} (hl:Lits vars c):(clauseF (sidesF c)).length<=vars:=by
 have key:∀ k,vars + k<=24->clauseK (sidesF c) (vars + k)=clauseK (sidesF c) vars:=by
  intro k
  induction k with
  | zero=>intro _;rfl
  | succ k ih =>
   intro hk
   have h1:(sidesF c).1.testBit (vars + k)=false:=by
    rw [sides_yes,decide_eq_false_iff_not]
    rintro ⟨-,h⟩
    have:=litB_iff.1 (hl _ h)
    omega
   have h2:(sidesF c).2.testBit (vars + k)=false:=by
    rw [sides_no,decide_eq_false_iff_not]
    rintro ⟨-,h⟩
    have:=litB_iff.1 (hl _ h)
    omega
   rw [show vars + (k + 1)=(vars + k) + 1 by omega,clauseK_succ,ih (by omega)]
   unfold litOf
   rw [if_neg (by rw [h1];simp),if_neg (by rw [h2];simp)]
   simp
 have:=key (24 - vars) (by omega)
 rw [show vars + (24 - vars)=24 by omega] at this
 show (clauseK (sidesF c) 24).length<=vars
 rw [this]
 exact clauseK_len _ _
theorem one_ok {vars:Nat} {cs:List (List Int)} {st:List Nd × Int} (h:ClR vars cs st) (h12:vars<=12) {c:List Int} (hl:Lits vars c) :
  OpR vars (if alwaysF (sidesF c)=true then st.1 else (eithF st.1 (clauseF (sidesF c))).1) (oneF st c) (fun f=>cs.all (clS f) && clS f c):=by
 have hp:=small_pow h12
 have hl24:Lits 24 c:=fun x hx=>lit_24 (by omega) (hl x hx)
 have hc:=h.cnt
 have hn:=h.len
 by_cases ha:alwaysF (sidesF c)=true
 ·unfold oneF
  rw [if_pos ha,if_pos ha]
  have:=ask_ok' true h.good (k:=⟨st.2,1,0⟩) ⟨h.has,has_end1 _,has_end0 _⟩ (by omega)
  refine ⟨this.good,this.ext,this.has,fun f=>?_,this.len,this.cnt,this.tight⟩
  rw [this.sem f,sem_true,sem_false,h.sem f,clS_always hl24 ha]
  simp only [opS,if_true]
  cases cs.all (clS f) <;> rfl
 ·have ha':alwaysF (sidesF c)=false:=by simpa using ha
  have hv:∀ x ∈ clauseF (sidesF c),varN x<vars:=fun x hx=>lit_var (hl x ((mem_form hl24 ha').1 hx))
  have he:=eith_ok h.good (by omega) (by omega) (by omega) (by omega) (clauseF (sidesF c)) (by have:=clauseF_len (sidesF c);omega) hv
  have ht:=he.tight
  have hcl:=clauseF_len (sidesF c)
  unfold oneF
  rw [if_neg ha,if_neg ha]
  have:=ask_ok' true he.good (k:=⟨st.2,(eithF st.1 (clauseF (sidesF c))).2,0⟩) ⟨he.ext.has _ h.has,he.has,has_end0 _⟩ (by omega)
  refine ⟨this.good,this.ext,this.has,fun f=>?_,this.len,this.cnt,this.tight⟩
  rw [this.sem f,sem_false,sem_ext h.good.ranked he.ext h.has,h.sem f,he.sem f,clS_form hl24 ha']
  simp only [opS,if_true]
  cases cs.all (clS f) <;> simp
theorem cl_step {vars:Nat} {cs:List (List Int)} {st:List Nd × Int} (h:ClR vars cs st) (h12:vars<=12) {c:List Int} (hl:Lits vars c):ClR vars (cs++[c]) (clStep st c):=by
 have h1:=one_ok h h12 hl
 have hp:=small_pow h12
 have hl24:Lits 24 c:=fun x hx=>lit_24 (by omega) (hl x hx)
 have hc:=h.cnt
 have hn:=h.len
 have hb:cnt (if alwaysF (sidesF c)=true then st.1 else (eithF st.1 (clauseF (sidesF c))).1)<=cnt st.1 + 600/\(if alwaysF (sidesF c)=true then st.1 else (eithF st.1 (clauseF (sidesF c))).1).length<=max st.1.length (cnt st.1 + 600):=by
  by_cases ha:alwaysF (sidesF c)=true
  ·rw [if_pos ha];exact ⟨by omega,by omega⟩
  ·rw [if_neg ha]
   have ha':alwaysF (sidesF c)=false:=by simpa using ha
   have hv:∀ x ∈ clauseF (sidesF c),varN x<vars:=fun x hx=>lit_var (hl x ((mem_form hl24 ha').1 hx))
   have hcl:=clauseF_len (sidesF c)
   have he:=eith_ok h.good (by omega) (by omega) (by omega) (by omega) (clauseF (sidesF c)) (by omega) hv
   exact ⟨by have:=he.cnt;omega,by have:=he.tight;omega⟩
 generalize (if alwaysF (sidesF c)=true then st.1 else (eithF st.1 (clauseF (sidesF c))).1)=ns1 at *
 have hk:=swept_kept h1.good (fs:=[(oneF st c).2]) (List.mem_singleton.2 rfl) h1.has
 have ht:=h1.tight
 refine ⟨swept_good h1.good _,hk.1,fun f=>?_,swept_cnt h1.good _,?_⟩
 ·show Go.Proofs.YtlahnpmoeefapaaGreatDoor.Bd.sem (swept (oneF st c).1 (marksOf (oneF st c).1 [(oneF st c).2])) (oneF st c).2 f=_
  rw [hk.2 f,h1.sem f,List.all_append];simp
 ·show (swept _ _).length<=_
  rw [swept_length];omega
theorem clF_snoc (cs:List (List Int)) (c:List Int):clF (cs++[c])=clStep (clF cs) c:=by unfold clF;rw [List.foldl_append];rfl
theorem good_none (vars:Nat):Good vars []:=⟨⟨fun j h=>by simp at h,fun j h=>by simp at h,fun j h=>by simp at h,fun j h=>by simp at h⟩,fun i j h=>by simp at h,fun i h=>by simp at h,fun i h=>by simp at h,fun i h=>by simp at h⟩
theorem clR_nil (vars:Nat):ClR vars [] ([],1) :=
 ⟨good_none vars,has_end1 _,fun f=>by rw [sem_true];rfl,by show cnt [] + 1<=_;have:=Nat.one_le_two_pow (n:=vars);simpa [cnt] using this,Nat.zero_le _⟩
theorem clF_ok {vars:Nat} (h12:vars<=12) (cs:List (List Int)) (hl:LitsL vars cs):∀ k,k<=cs.length->ClR vars (cs.take k) (clF (cs.take k))
 | 0,_=>by rw [List.take_zero];exact clR_nil vars
 | k + 1,hk=>by
  have ih:=clF_ok h12 cs hl k (by omega)
  rw [List.take_succ_eq_append_getElem (by omega),clF_snoc]
  exact cl_step ih h12 (hl _ (List.getElem_mem _))
theorem litS_bits {vals:Nat} {x:Int} (h:litB 24 x=true):litS (bitsF vals) x=litK vals x:=by
 have h0:=litB_iff.1 h
 unfold litS litK litH bitsF varN
 rw [h,Bool.true_and]
 by_cases hp:0<x
 ·rw [if_pos hp,decide_eq_true hp,show x.natAbs - 1=x.toNat - 1 by omega];simp
 ·rw [if_neg hp,decide_eq_false hp,show x.natAbs - 1=(-x).toNat - 1 by omega];cases vals.testBit ((-x).toNat - 1) <;> rfl
theorem clS_bits {vals:Nat} {c:List Int} (h:Lits 24 c):clS (bitsF vals) c=holdK vals c:=by
 unfold clS holdK
 rw [Bool.eq_iff_iff,List.any_eq_true,List.any_eq_true]
 exact ⟨fun ⟨x,h1,h2⟩=>⟨x,h1,by rw [<- litS_bits (h x h1)];exact h2⟩,fun ⟨x,h1,h2⟩=>⟨x,h1,by rw [litS_bits (h x h1)];exact h2⟩⟩
end Go.Proofs.YtlahnpmoeefapaaGreatDoor.Bd
