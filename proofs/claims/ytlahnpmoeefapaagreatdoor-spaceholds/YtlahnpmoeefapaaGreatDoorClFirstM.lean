/- The search finds what there is, and the first: plain. -/
import Derived.Test.YtlahnpmoeefapaaGreatDoorClStep
import Derived.Test.YtlahnpmoeefapaaGreatDoorSpBack
import Derived.Test.YtlahnpmoeefapaaGreatDoorPfForm
import Derived.Laws.NewBlocks
import Derived.Test.YtlahnpmoeefapaaGreatDoorSvShelf
import Derived.Laws.Bits64b
set_option maxHeartbeats 2000000
set_option maxRecDepth 100000
namespace Go.Proofs.YtlahnpmoeefapaaGreatDoor
section
open Go.RowKit Go.Deep
theorem litH_neg' {vals:Nat} {x:Int} (hx:x ≠ 0):litH vals (-x)=!litH vals x:=by
 unfold litH
 by_cases hp:0<x
 ·rw [if_neg (by omega),if_pos hp,Int.neg_neg]
 ·rw [if_pos (by omega),if_neg hp,Bool.not_not]
def Sat (vals:Nat) (xs:List Int):Prop:=∀ x ∈ xs,litH vals x=true
def SatL (vals:Nat) (l:List (List Int)):Prop:=∀ c ∈ l,∃ x ∈ c,litH vals x=true
theorem satL_of {vals:Nat} {l:List (List Int)} (h:allK vals l=true):SatL vals l:=fun c hc=>by
 unfold allK at h
 rw [List.all_eq_true] at h
 have:=h c hc
 unfold holdK at this
 obtain ⟨x,hx,h2⟩:=List.any_eq_true.1 this
 unfold litK at h2
 rw [Bool.and_eq_true] at h2
 exact ⟨x,hx,h2.2⟩
theorem next_sound {v:Int} {l:List (List Int)} (hl:LitsL v l) {told:List Int} (hc:Cons told) {vals:Nat} (hs:SatL vals l) (ht:Sat vals told):(0<=(nextF told l).1->(nextF told l).2 ≠ 0)/\((nextF told l).2 ≠ 0->litH vals (nextF told l).2=true):=by
 have hn:=next_is (l:=l) hc
 generalize nextF told l=r at hn
 cases hn with
 | none=>exact ⟨fun h=>by simp at h,fun h=>absurd rfl h⟩
 | bad hk h =>
  exfalso
  obtain ⟨x,hx,hh⟩:=hs _ (getD_mem hk)
  have h0:=(litB_iff.1 (hl _ (getD_mem hk) x hx)).1
  have:=ht _ (h x hx).2
  rw [litH_neg' h0,hh] at this
  cases this
 | one hk hx h0 h1 h =>
  rename_i k x
  refine ⟨fun _=>(litB_iff.1 (hl _ (getD_mem hk) _ hx)).1,fun _=>?_⟩
  obtain ⟨y,hy,hh⟩:=hs _ (getD_mem hk)
  by_cases e:y=x
  ·rw [<- e];exact hh
  ·exfalso
   have hy0:=(litB_iff.1 (hl _ (getD_mem hk) y hy)).1
   have:=ht _ (h y hy e).2
   rw [litH_neg' hy0,hh] at this
   cases this
theorem sat_tell {vals:Nat} {told:List Int} {x:Int} (h:Sat vals told) (hx:litH vals x=true):Sat vals (told++[x]):=fun y hy=>by
 simp only [List.mem_append,List.mem_singleton] at hy
 rcases hy with hy | hy
 ·exact h y hy
 ·rw [hy];exact hx
end
section
open Go.RowKit Go.Deep
structure ValsAt (w:World) (p:Addr) (told:List Int):Prop where
 lt:p.block<w.heap.size
 cell:∀ i,i<24->w.cell? (p.add i)=some (.int .i8 (tv told i))
 fz:∀ i,i<24->w.frozen? (p.add i)=false
theorem ValsAt.below {w w':World} {p:Addr} {told:List Int} (h:ValsAt w p told) (hb:Below w.heap.size w w'):ValsAt w' p told :=
 ⟨Nat.lt_of_lt_of_le h.lt hb.size,fun i hi=>(hb.cell (by rw [addr_block];exact h.lt)).trans (h.cell i hi),fun i hi=>(hb.frozen (by rw [addr_block];exact h.lt)).trans (h.fz i hi)⟩
def tellAt (x:Int):Nat:=(if 0<x then x else -x).toNat - 1
def tellV (x:Int):Int:=if 0<x then 1 else -1
theorem side_any (p:Addr) (told:List Int) (hc:Cons told) (x:Int) (hx:litB 24 x=true) (w:World) (hv:ValsAt w p told) :
  Calls Tryz.prog 216 #[.pointer (some p),.int .i64 x] w fun e w'=>e=.returned (.int .i8 (sideF told x))/\w=w':=by
 rw [litB_iff] at hx
 by_cases hp:0<x
 ·obtain ⟨t,rfl⟩:∃ t:Nat,x=(t:Int) + 1:=⟨x.toNat - 1,by omega⟩
  have ht:t<24:=by omega
  have hc:=hv.cell t ht
  rw [side_pos]
  clear hx hv
  generalize tv told t=s at *
  go_enter Tryz.func216,Tryz.ntmps216
  go_wp2
  go_ret
  exact ⟨rfl,rfl⟩
 ·obtain ⟨t,rfl⟩:∃ t:Nat,x=-((t:Int) + 1):=⟨(-x).toNat - 1,by omega⟩
  have ht:t<24:=by omega
  have hcl:=hv.cell t ht
  have hb:=tv_bound told t
  rw [side_neg hc]
  clear hx hv hc
  generalize tv told t=s at *
  have hw:IntKind.i8.wrap (-s)=-s:=by
   have:s=-1\/s=0\/s=1:=by omega
   rcases this with rfl | rfl | rfl <;> decide
  go_enter Tryz.func216,Tryz.ntmps216
  go_wp2
  go_ret
  exact ⟨by first | rfl | simp [hw],rfl⟩
theorem tell_any (p:Addr) (told:List Int) (x:Int) (hx:litB 24 x=true) (w:World) (hv:ValsAt w p told) :
  Calls Tryz.prog 86 #[.pointer (some p),.int .i64 x] w fun e w'=>e=.returned (.tuple #[])/\w'=w.setCell (p.add (tellAt x)) (.int .i8 (tellV x)):=by
 rw [litB_iff] at hx
 by_cases hp:0<x
 ·obtain ⟨t,rfl⟩:∃ t:Nat,x=(t:Int) + 1:=⟨x.toNat - 1,by omega⟩
  have ht:t<24:=by omega
  have hc:=hv.cell t ht
  have hf:=hv.fz t ht
  have e1:tellAt ((t:Int) + 1)=t:=by unfold tellAt;rw [if_pos hp];omega
  have e2:tellV ((t:Int) + 1)=1:=by unfold tellV;rw [if_pos hp]
  rw [e1,e2]
  clear hx hv e1 e2
  go_enter Tryz.func86,Tryz.ntmps86
  go_wp2
  refine bodyPost_end (v:=.tuple #[]) (by simp [results,Tryz.results86,go_sem]) rfl ?_
  exact ⟨rfl,rfl⟩
 ·obtain ⟨t,rfl⟩:∃ t:Nat,x=-((t:Int) + 1):=⟨(-x).toNat - 1,by omega⟩
  have ht:t<24:=by omega
  have hc:=hv.cell t ht
  have hf:=hv.fz t ht
  have e1:tellAt (-((t:Int) + 1))=t:=by unfold tellAt;rw [if_neg hp];omega
  have e2:tellV (-((t:Int) + 1))=-1:=by unfold tellV;rw [if_neg hp]
  rw [e1,e2]
  clear hx hv e1 e2
  go_enter Tryz.func86,Tryz.ntmps86
  go_wp2
  refine bodyPost_end (v:=.tuple #[]) (by simp [results,Tryz.results86,go_sem]) rfl ?_
  exact ⟨rfl,rfl⟩
theorem only1_any (p:Addr) (told:List Int) (hc:Cons told) (x:Int) (hx:litB 24 x=true) (b:Nat) (w:World) (hv:ValsAt w p told) (hb:w.cell? ⟨b,0,none⟩=some (.pointer (some p))) :
  Calls Tryz.prog 215 #[.int .i64 x,.pointer (some ⟨b,0,none⟩)] w fun e w'=>e=.returned (.bool (decide (0<=sideF told x)))/\w=w':=by
 have HS:=Lib.hid (side_any p told hc x hx w hv)
 clear hv hx hc
 generalize sideF told x=s at *
 go_enter Tryz.func215,Tryz.ntmps215
 go_wp2_with fail
 refine HS.out.mono ?_
 rintro e w1 ⟨rfl,rfl⟩
 go_wp2
 go_ret
 exact ⟨by first | rfl | simp,rfl⟩
theorem only2_any (p:Addr) (told:List Int) (hc:Cons told) (x one:Int) (hx:litB 24 x=true) (b b2:Nat) (w:World) (hv:ValsAt w p told) (hb:w.cell? ⟨b,0,none⟩=some (.pointer (some p))) (hb2:w.cell? ⟨b2,0,none⟩=some (.int .i64 one)) :
  Calls Tryz.prog 217 #[.int .i64 x,.pointer (some ⟨b,0,none⟩),.pointer (some ⟨b2,0,none⟩)] w fun e w'=>e=.returned (.bool (moreF told one x))/\w=w':=by
 have HS:=Lib.hid (side_any p told hc x hx w hv)
 have hsb:=side_bound told x
 unfold moreF
 clear hv hx hc
 generalize sideF told x=s at *
 rcases hsb with rfl | rfl | rfl
 ·go_enter Tryz.func217,Tryz.ntmps217
  go_wp2_with (go_at_call 216;refine HS.out.mono ?_;rintro e w1 ⟨rfl,rfl⟩)
  go_ret
  exact ⟨by first | rfl | simp,rfl⟩
 ·go_enter Tryz.func217,Tryz.ntmps217
  go_wp2_with (go_at_call 216;refine HS.out.mono ?_;rintro e w1 ⟨rfl,rfl⟩)
  go_ret
  exact ⟨by first | rfl | simp,rfl⟩
 ·go_enter Tryz.func217,Tryz.ntmps217
  go_wp2_with (go_at_call 216;refine HS.out.mono ?_;rintro e w1 ⟨rfl,rfl⟩)
  go_ret
  exact ⟨by first | rfl | simp,rfl⟩
theorem IntsIn.drop {w:World} {ad:Addr} {xs:List Int} (h:IntsIn w (some ad) xs) (k:Nat):IntsIn w (some (ad.add k)) (xs.drop k):=by
 intro i hi
 rw [List.length_drop] at hi
 obtain ⟨ad',e,hl,hc⟩:=h (k + i) (by omega)
 obtain rfl:=Option.some.inj e
 refine ⟨_,rfl,by rw [addr_block];exact hl,?_⟩
 rw [add_add,hc]
 simp [List.getD_eq_getElem?_getD]
theorem ent_only1:∀ args w,(callFunc 215 args).run Tryz.prog w=.ok (.enter 215 args) w:=by intro args w;kernel_rfl
theorem ent_only2:∀ args w,(callFunc 217 args).run Tryz.prog w=.ok (.enter 217 args) w:=by intro args w;kernel_rfl
theorem only_any (p:Addr) (told:List Int) (hc:Cons told) (c:List Int) (hx:Lits 24 c) (a:Option Addr) (cap:Nat) (w:World) (hv:ValsAt w p told) (hI:IntsIn w a c) (hm:cap<=9223372036854775807) (hm2:c.length<=cap) :
  Calls Tryz.prog 156 #[.pointer (some p),.slice a c.length cap] w fun e w'=>e=.returned (.tuple #[.int .i64 (onlyF told c).1,.bool (onlyF told c).2])/\Below w.heap.size w w':=by
 have hb0:=below_new w (.cells #[.pointer (some p)] 260)
 have hc0:∀ W,Below (w.heap.size + 1) (w.alloc (.cells #[.pointer (some p)] 260)) W->W.cell? ⟨w.heap.size,0,none⟩=some (.pointer (some p)):=fun W hW=>(hW.cell (p:=⟨w.heap.size,0,none⟩) (by simp)).trans (by simp)
 have HIX:=Lib.hid (ix_ints 215 #[.pointer (some ⟨w.heap.size,0,none⟩)] (fun x=>decide (0<=sideF told x)) c a cap (w.alloc (.cells #[.pointer (some p)] 260)) (by omega) ent_only1 (hI.below hb0) (fun W i hW hi=>(only1_any p told hc (c.getD i 0) (hx _ (getD_mem hi)) w.heap.size W ((hv.below hb0).below hW) (hc0 W (by rw [World.size_alloc] at hW;exact hW))).mono fun e w' ⟨he,hw⟩=>⟨he,hw ▸ Below.refl _ _⟩))
 have HB0:=Lib.hid hb0
 have HC0:=Lib.hid hc0
 have HV:=Lib.hid hv
 have HI:=Lib.hid hI
 have HX:=Lib.hid hx
 have HCO:=Lib.hid hc
 clear hb0 hc0 hv hI hx hc
 rcases idxF_cases (fun x=>decide (0<=sideF told x)) c 0 with ⟨hi,-⟩ | ⟨k,hi,hk,-,-⟩
 ·have hres:onlyF told c=(0,true):=by unfold onlyF;rw [hi,if_pos (by omega)]
  rw [hres]
  rw [hi] at HIX
  clear hi hres
  go_enter Tryz.func156,Tryz.ntmps156
  go_wp2_with fail
  refine HIX.out.mono ?_
  rintro e w1 ⟨rfl,hb1⟩
  have HB1:Hid (Below w.heap.size w w1):=HB0.out.trans (hb1.mono (by simp))
  clear hb1 HIX
  go_wp2
  go_ret2
  exact ⟨rfl,HB1.out⟩
 ·have hres:onlyF told c=if (c.drop k).any (moreF told (c.getD k 0)) then (0,false) else (c.getD k 0,true):=by
   unfold onlyF;rw [hi,if_neg (by omega),Int.toNat_natCast]
  rw [hi] at HIX
  have HRES:=Lib.hid hres
  clear hi hres
  obtain ⟨ad,rfl,-,-⟩:=HI.out k hk
  go_enter Tryz.func156,Tryz.ntmps156
  go_wp2_with fail
  refine HIX.out.mono ?_
  rintro e w1 ⟨rfl,hb1⟩
  rw [World.size_alloc] at hb1
  have hb1':Below w.heap.size w w1:=HB0.out.trans (hb1.mono (by omega))
  have hI1:=HI.out.below hb1'
  have hv1:=HV.out.below hb1'
  obtain ⟨ad',ea,hl,hcell⟩:=hI1 k hk
  obtain rfl:=Option.some.inj ea
  clear ea
  generalize hone:c.getD k 0=one at *
  have hb2:Below w1.heap.size w1 (w1.alloc (.cells #[.int .i64 one] 3)):=below_new w1 _
  have hlen:(c.drop k).length=c.length - k:=by simp
  have HCF:=cf_ints 217 #[.pointer (some ⟨w.heap.size,0,none⟩),.pointer (some ⟨w1.heap.size,0,none⟩)] (moreF told one) (c.drop k) (some (ad.add k)) (cap - k) (w1.alloc (.cells #[.int .i64 one] 3)) (by rw [hlen];omega) ent_only2 ((hI1.below hb2).drop k) (fun W i hW hi=>(only2_any p told HCO.out ((c.drop k).getD i 0) one (HX.out _ (List.mem_of_mem_drop (getD_mem hi))) w.heap.size w1.heap.size W ((hv1.below hb2).below hW) (HC0.out W (hb1.trans ((hb2.trans (hW.mono (by simp))).mono (by have:=hb1.size;rw [World.size_alloc] at this;exact this)))) ((hW.cell (p:=⟨w1.heap.size,0,none⟩) (by simp)).trans (by simp))).mono fun e w' ⟨he,hw⟩=>⟨he,hw ▸ Below.refl _ _⟩)
  rw [hlen] at HCF
  have HCFF:=Lib.hid HCF
  have HBX:Hid (∀ W,Below (w1.alloc (.cells #[.int .i64 one] 3)).heap.size (w1.alloc (.cells #[.int .i64 one] 3)) W->Below w.heap.size w W/\W.cell? ⟨w1.heap.size,0,none⟩=some (.int .i64 one)):=fun W hW=>⟨hb1'.trans ((hb2.trans (hW.mono (by simp))).mono hb1'.size),(hW.cell (p:=⟨w1.heap.size,0,none⟩) (by simp)).trans (by simp)⟩
  clear HCF hlen hb1 hb1' hI1 hv1 HIX hb2 hone
  generalize hmore:(c.drop k).any (moreF told one)=more at *
  clear hmore
  cases more with
  | true =>
   have HR2:Hid (onlyF told c=(0,false)):=HRES.out
   clear HRES
   go_wp2_with fail
   refine HCFF.out.mono ?_
   rintro e w2 ⟨rfl,hb2⟩
   have HB2:=Lib.hid (HBX.out _ hb2)
   clear hb2 HCFF HBX
   go_wp2
   go_ret2
   exact ⟨by rw [HR2.out];rfl,HB2.out.1⟩
  | false =>
   have HR2:Hid (onlyF told c=(one,true)):=HRES.out
   clear HRES
   go_wp2_with fail
   refine HCFF.out.mono ?_
   rintro e w2 ⟨rfl,hb2⟩
   have HB2:=Lib.hid (HBX.out _ hb2)
   have hone:=HB2.out.2
   clear hb2 HCFF HBX
   go_wp2
   go_ret2
   exact ⟨by rw [HR2.out];rfl,HB2.out.1⟩
theorem next_any (p:Addr) (told:List Int) (hc:Cons told) (l:List (List Int)) (hx:LitsL 24 l) (a:Option Addr) (cap:Nat) (w:World) (hv:ValsAt w p told) (hI:ClsIn w a l) (hm:l.length<=9223372036854775807) :
  Calls Tryz.prog 85 #[.pointer (some p),.slice a l.length cap] w fun e w'=>e=.returned (.tuple #[.int .i64 (nextF told l).1,.int .i64 (nextF told l).2])/\Below w.heap.size w w':=by
 have HV:=Lib.hid hv
 have HI:=Lib.hid hI
 have HX:=Lib.hid hx
 have HCO:=Lib.hid hc
 clear hv hI hx hc
 go_enter Tryz.func85,Tryz.ntmps85
 go_wp2_with fail
 go_loopw [12] (fun kV wr=>∃ k:Nat,k<=l.length/\kV=.int .i64 (k:Int)/\(∀ j,j<k->(onlyF told (l.getD j [])).2=false)/\Below w.heap.size w wr) (fun kV _=>l.length - (intOf kV).toNat)
 case atStart=>exact ⟨0,Nat.zero_le _,rfl,fun j h=>by omega,Below.refl _ _⟩
 case round =>
  obtain ⟨k,hk,rfl,h1,hbr⟩:=hrel
  have H1:=Lib.hid h1
  have HBR:=Lib.hid hbr
  clear h1 hbr
  by_cases hlt:k<l.length
  ·obtain ⟨ad,a',cap',rfl,hl',hcl,g1,g2,g3⟩:=HI.out.below HBR.out k hlt
   have HON:=Lib.hid (only_any p told HCO.out (l.getD k []) (HX.out _ (getD_mem hlt)) a' cap' wr (HV.out.below HBR.out) g3 g2 g1)
   have HN:Hid ((onlyF told (l.getD k [])).2=true->nextF told l=((k:Int),(onlyF told (l.getD k [])).1)):=fun h=>nextF_hit H1.out hlt h
   generalize hcc:l.getD k []=c at *
   have HCC:=Lib.hid hcc
   clear hcc
   generalize hr:onlyF told c=r at *
   have HRR:=Lib.hid hr
   obtain ⟨x,ok⟩:=r
   simp only at HON HN
   clear g3 hr
   cases ok with
   | true =>
    have HR:Hid (nextF told l=((k:Int),x)):=HN.out rfl
    clear HN
    go_wp2_with fail
    refine HON.out.mono ?_
    rintro e w1 ⟨rfl,hb1⟩
    have HB1:Hid (Below w.heap.size w w1):=HBR.out.trans (hb1.mono HBR.out.size)
    clear hb1 HON
    go_wp2
    go_ret2
    exact ⟨by rw [HR.out];rfl,HB1.out⟩
   | false =>
    clear HN
    go_wp2_with fail
    refine HON.out.mono ?_
    rintro e w1 ⟨rfl,hb1⟩
    have HB1:Hid (Below w.heap.size w w1):=HBR.out.trans (hb1.mono HBR.out.size)
    clear hb1 HON
    go_wp2
    go_roundw
    case rel=>exact ⟨k + 1,hlt,by go_num,fun j hj=>(by
     rcases Nat.lt_succ_iff_lt_or_eq.1 hj with e | e
     ·exact H1.out j e
     ·rw [e,HCC.out,HRR.out]),HB1.out⟩
    case measure=>simp [intOf];omega
  ·obtain rfl:k=l.length:=by omega
   have HR:Hid (nextF told l=(-1,0)):=nextF_none H1.out
   go_wp2
   go_ret2
   exact ⟨by rw [HR.out];rfl,HBR.out⟩
end
section
open Go.RowKit Go.Deep
def tvl (told:List Int):List Value:=(List.range 24).map fun i=>Value.int .i8 (tv told i)
theorem tvl_at (told:List Int) (i:Nat) (h:i<24):(tvl told)[i]?=some (.int .i8 (tv told i)):=by simp [tvl,h]
theorem tvl_len (told:List Int):(tvl told).length=24:=by simp [tvl]
theorem vals_of {W:World} {b:Nat} {t:TypeId} {pre post:List Value} {told:List Int} (h:Blk W b t (pre++tvl told++post).toArray):ValsAt W ⟨b,pre.length,none⟩ told:=by
 refine ⟨h.lt,fun i hi=>?_,fun i hi=>?_⟩
 ·rw [add_plain,h.cell,List.getElem?_toArray,List.append_assoc,List.getElem?_append_right (by omega),Nat.add_sub_cancel_left,List.getElem?_append_left (by rw [tvl_len];exact hi),tvl_at _ _ hi]
 ·rw [add_plain];exact h.frozen _
theorem tvl_tell {told:List Int} {x:Int} (hx:litB 24 x=true) (hn:-x ∉ told):(tvl told).set (tellAt x) (.int .i8 (tellV x))=tvl (told++[x]):=by
 rw [litB_iff] at hx
 apply List.ext_getElem?
 intro i
 rw [List.getElem?_set,tvl_len]
 by_cases hi:i<24
 ·rw [tvl_at _ _ hi,tvl_at _ _ hi,tv_tell hn]
  unfold tellAt tellV
  by_cases hp:0<x
  ·rw [if_pos hp,if_pos hp]
   by_cases e:x.toNat - 1=i
   ·rw [if_pos e,if_pos (by omega),if_pos (by omega)]
   ·rw [if_neg e,if_neg (by omega),if_neg (by omega)]
  ·rw [if_neg hp,if_neg hp]
   by_cases e:(-x).toNat - 1=i
   ·rw [if_pos e,if_pos (by omega),if_neg (by omega),if_pos (by omega)]
   ·rw [if_neg e,if_neg (by omega),if_neg (by omega)]
 ·rw [List.getElem?_eq_none (by rw [tvl_len];omega),List.getElem?_eq_none (by rw [tvl_len];omega)]
  have:tellAt x<24:=by unfold tellAt;split <;> omega
  rw [if_neg (by omega)]
theorem blk_tell {W:World} {b:Nat} {t:TypeId} {pre post:List Value} {told:List Int} {x:Int} (hx:litB 24 x=true) (hn:-x ∉ told) (h:Blk W b t (pre++tvl told++post).toArray) :
  Blk (W.setCell ((⟨b,pre.length,none⟩:Addr).add (tellAt x)) (.int .i8 (tellV x))) b t (pre++tvl (told++[x])++post).toArray:=by
 have:=h.set (i:=pre.length + tellAt x) (v:=.int .i8 (tellV x))
 have ht:tellAt x<24:=by rw [litB_iff] at hx;unfold tellAt;split <;> omega
 rw [add_plain]
 rw [List.setIfInBounds_toArray,List.append_assoc,List.set_append_right _ _ (by omega),Nat.add_sub_cancel_left,List.set_append_left _ _ (by rw [tvl_len];exact ht),tvl_tell hx hn,<- List.append_assoc] at this
 exact this
end
section
open Go.RowKit Go.Deep
def numF (told:List Int):Nat->Nat
 | 0=>0
 | k + 1=>if 0<tv told k then numF told k ||| 2 ^ k else numF told k
theorem numF_lt (told:List Int):∀ k,numF told k<2 ^ k
 | 0=>by simp [numF]
 | k + 1=>by
  have h:=numF_lt told k
  have h2:2 ^ k<2 ^ (k + 1):=Nat.pow_lt_pow_right (by omega) (by omega)
  unfold numF
  split
  ·exact Nat.or_lt_two_pow (by omega) h2
  ·omega
theorem numF_bit (told:List Int):∀ k i,(numF told k).testBit i=(decide (i<k) && decide (0<tv told i))
 | 0,i=>by simp [numF]
 | k + 1,i=>by
  have h:=numF_bit told k i
  unfold numF
  split
  ·rename_i hp
   rw [Nat.testBit_or,h,Nat.testBit_two_pow]
   by_cases e:k=i
   ·subst e;simp [hp]
   ·by_cases h1:i<k
    ·simp [h1,e,show i<k + 1 by omega]
    ·simp [h1,e,show ¬ i<k + 1 by omega]
  ·rename_i hp
   rw [h]
   by_cases e:k=i
   ·subst e;simp [hp]
   ·by_cases h1:i<k
    ·simp [h1,show i<k + 1 by omega]
    ·simp [h1,show ¬ i<k + 1 by omega]
theorem or_pow (o k:Nat) (ho:o<2 ^ k) (hk:k<24):bits BinOp.or IntKind.u64 (o:Int) ((2:Int) ^ k)=((o ||| 2 ^ k:Nat):Int):=by
 have h24:2 ^ k<=2 ^ 24:=Nat.pow_le_pow_right (by omega) (by omega)
 have h63:(2:Nat) ^ 24<18446744073709551616:=by decide
 have e:((2:Int) ^ k)=((2 ^ k:Nat):Int):=by simp
 rw [e,bits_or_u64_nat o (2 ^ k) (by omega) (by omega)]
theorem shl_pow {k:Nat} (hk:k<24):IntKind.u64.wrap (2 ^ min k 64)=(2:Int) ^ k:=by
 have h24:2 ^ k<=2 ^ 24:=Nat.pow_le_pow_right (by omega) (by omega)
 have h63:(2:Nat) ^ 24<2 ^ 63:=by decide
 have e:((2:Int) ^ k)=((2 ^ k:Nat):Int):=by simp
 rw [show min k 64=k by omega,e,IntKind.wrap_u64]
 exact Int.emod_eq_of_lt (Int.natCast_nonneg _) (by omega)
theorem clNumber_any (p:Addr) (told:List Int) (w:World) (hv:ValsAt w p told) :
  Calls Tryz.prog 90 #[.pointer (some p)] w fun e w'=>e=.returned (.int .u64 ((numF told 24:Nat):Int))/\Below w.heap.size w w':=by
 have HV:=Lib.hid hv
 clear hv
 go_enter Tryz.func90,Tryz.ntmps90
 go_wp2_with fail
 go_loopw [3,7] (fun nV kV wr=>∃ k:Nat,k<=24/\kV=.int .i64 (k:Int)/\nV=.int .u64 ((numF told k:Nat):Int)/\Below w.heap.size w wr) (fun _ kV _=>24 - (intOf kV).toNat)
 case atStart=>exact ⟨0,by omega,rfl,rfl,Below.refl _ _⟩
 case round =>
  obtain ⟨k,hk,rfl,rfl,hbr⟩:=hrel
  have HBR:=Lib.hid hbr
  clear hbr
  by_cases hlt:k<24
  ·have hc:=(HV.out.below HBR.out).cell k hlt
   have hi0:(0:Int)<=(k:Int):=by omega
   have hi1:(k:Int)<24:=by omega
   have hor:=or_pow (numF told k) k (numF_lt told k) hlt
   have hsh:=shl_pow hlt
   have hw2:IntKind.u64.wrap ((2:Int) ^ k)=(2:Int) ^ k:=by rw [show min k 64=k by omega] at hsh;exact hsh
   have HOR:=Lib.hid hor
   have HSH:=Lib.hid hsh
   have HW2:=Lib.hid hw2
   have HN:Hid (numF told (k + 1)=if 0<tv told k then numF told k ||| 2 ^ k else numF told k):=rfl
   clear hor hsh hw2
   generalize tv told k=s at *
   generalize numF told k=o at *
   go_wp2_with fail
   go_quiet (fail)
   have hbn:Below w.heap.size w (wr.drewN nq):=HBR.out.trans ⟨rfl,rfl,rfl,Nat.le_refl _,fun _ _=>rfl⟩
   have HBN:=Lib.hid hbn
   clear hbn
   by_cases hp:0<s
   ·have HN2:=Lib.hid (HN.out.trans (if_pos hp))
    go_wp2
    go_roundw
    case rel=>exact ⟨k + 1,hlt,by go_num,congrArg (Value.int .u64) (by rw [HN2.out];first | exact HOR.out | (rw [HW2.out];exact HOR.out) | (rw [HSH.out];exact HOR.out)),HBN.out⟩
    case measure=>simp [intOf];omega
   ·have HN2:=Lib.hid (HN.out.trans (if_neg hp))
    go_wp2
    go_roundw
    case rel=>exact ⟨k + 1,hlt,by go_num,by rw [HN2.out],HBN.out⟩
    case measure=>simp [intOf];omega
  ·obtain rfl:k=24:=by omega
   go_wp2
   go_ret
   exact ⟨rfl,HBR.out⟩
theorem ix_i8 (p:Addr) (told:List Int) (v:Nat) (hv24:v<=24) (cap:Nat) (w:World) (hv:ValsAt w p told) :
  Calls Tryz.prog 89 #[.slice (some p) v cap,.int .i8 0] w fun e w'=>e=.returned (.int .i64 (leastF v told))/\w=w':=by
 have HV:=Lib.hid hv
 clear hv
 go_enter Tryz.func89,Tryz.ntmps89
 go_wp2_with fail
 go_loop [8] (fun kV=>∃ k:Nat,k<=v/\kV=.int .i64 (k:Int)/\∀ i,i<k->tv told i ≠ 0) (fun kV=>v - (intOf kV).toNat)
 case atStart=>exact ⟨0,by omega,rfl,fun i h=>by omega⟩
 case round =>
  obtain ⟨k,hk,rfl,h1⟩:=hrel
  have H1:=Lib.hid h1
  clear h1
  by_cases hlt:k<v
  ·have hc:=HV.out.cell k (by omega)
   have HL:=Lib.hid (least_is (v:=v) (told:=told))
   generalize hs:tv told k=s at *
   have HS:=Lib.hid hs
   clear hs
   by_cases h0:s=0
   ·have HR:Hid (leastF v told=(k:Int)):=by
     rcases HL.out with ⟨_,h⟩ | ⟨j,e,hj,h2,h3⟩
     ·exact absurd (HS.out.trans h0) (h k hlt)
     ·have:j=k:=by
       rcases Nat.lt_trichotomy j k with h | h | h
       ·exact absurd h2 (H1.out j h)
       ·exact h
       ·exact absurd (HS.out.trans h0) (h3 k h)
      rw [<- this];exact e
    subst h0
    go_wp2
    go_ret
    exact ⟨by rw [HR.out];rfl,rfl⟩
   ·have h0':(0 == s)=false:=by simp;omega
    go_wp2
    go_round
    case rel=>exact ⟨k + 1,hlt,by go_num,fun i hi=>(by
     rcases Nat.lt_succ_iff_lt_or_eq.1 hi with e | e
     ·exact H1.out i e
     ·rw [e,HS.out];exact h0)⟩
    case measure=>simp [intOf];omega
  ·obtain rfl:k=v:=by omega
   have HR:Hid (leastF k told=-1):=by
    rcases least_is (v:=k) (told:=told) with ⟨e,_⟩ | ⟨j,e,hj,h2,h3⟩
    ·exact e
    ·exact absurd h2 (H1.out j hj)
   go_wp2
   go_ret
   exact ⟨by rw [HR.out];rfl,rfl⟩
end
section
open Go.RowKit Go.Deep
def DecsHold (vals:Nat) (ds:List (Int × List Int)):Prop:=∀ d ∈ ds,litH vals d.1=true
structure Inv (l:List (List Int)) (ds:List (Int × List Int)) (told:List Int):Prop where
 imp:∀ vals,SatL vals l->DecsHold vals ds->Sat vals told
 first:∀ x ∈ told,x<0->∀ vals,SatL vals l->(∀ d ∈ ds,d.1 < -x->litH vals d.1=true)->litH vals x=true
 low:∀ d ∈ ds,∀ u,0<u->u<=d.1->u ∈ told\/-u ∈ told
 mem:∀ d ∈ ds,d.1 ∈ told
 pos:∀ d ∈ ds,0<d.1
structure InvS (l:List (List Int)) (s:St):Prop where
 now:Inv l s.decs s.told
 past:∀ k d,s.decs[k]?=some d->Inv l (s.decs.take k) d.2
 prf:∀ vals,SatL vals l->SatL vals s.prf
theorem inv0 (l:List (List Int)):InvS l st0:=by
 refine ⟨⟨(fun _ _ _ x hx=>by cases hx),(fun x hx=>by cases hx),(fun d hd=>by cases hd),(fun d hd=>by cases hd),(fun d hd=>by cases hd)⟩,(fun k d h=>by simp [st0] at h),(fun _ _ c hc=>by cases hc)⟩
theorem satL_append {vals:Nat} {l m:List (List Int)} (h1:SatL vals l) (h2:SatL vals m):SatL vals (l++m):=fun c hc=>by
 rcases List.mem_append.1 hc with h | h
 ·exact h1 c h
 ·exact h2 c h
theorem Inv.tell {l:List (List Int)} {ds:List (Int × List Int)} {told:List Int} (h:Inv l ds told) {x:Int} (h0:x ∉ told) (h1:-x ∉ told) (hx:∀ vals,SatL vals l->Sat vals told->litH vals x=true):Inv l ds (told++[x]):=by
 refine ⟨fun vals hs hd=>sat_tell (h.imp vals hs hd) (hx vals hs (h.imp vals hs hd)),fun y hy hneg vals hs hd=>?_,fun d hd u hu0 hu1=>?_,fun d hd=>List.mem_append.2 (Or.inl (h.mem d hd)),h.pos⟩
 ·simp only [List.mem_append,List.mem_singleton] at hy
  rcases hy with hy | hy
  ·exact h.first y hy hneg vals hs hd
  ·subst hy
   refine hx vals hs (h.imp vals hs fun d hdd=>hd d hdd ?_)
   rcases Int.lt_or_le d.1 (-y) with hlt | hle
   ·exact hlt
   ·rcases h.low d hdd (-y) (by omega) hle with h2 | h2
    ·exact absurd h2 h1
    ·rw [Int.neg_neg] at h2;exact absurd h2 h0
 ·rcases h.low d hd u hu0 hu1 with h2 | h2
  ·exact Or.inl (List.mem_append.2 (Or.inl h2))
  ·exact Or.inr (List.mem_append.2 (Or.inl h2))
theorem step_inv {v:Nat} {l:List (List Int)} (hl:LitsL v l) {s s':St} (hg:Good v s) (h:InvS l s) (e:stepF v l s=.inl s'):InvS l s':=by
 have hlp:=litsL_append hl hg.litsP
 have hsl:∀ vals,SatL vals l->SatL vals (l++s.prf):=fun vals hs=>satL_append hs (h.prf vals hs)
 unfold stepF at e
 by_cases h1:(nextF s.told (l++s.prf)).2 ≠ 0
 ·rw [if_pos h1] at e
  injection e with e
  subst e
  obtain ⟨q1,q2,q3,q4,q5⟩:=next_step hlp hg.cons hg.lits (i:=(nextF s.told (l++s.prf)).1) (x:=(nextF s.told (l++s.prf)).2) rfl h1
  exact ⟨h.now.tell q2 q3 (fun vals hs ht=>(next_sound hlp hg.cons (hsl vals hs) ht).2 h1),h.past,h.prf⟩
 ·rw [if_neg h1] at e
  by_cases h2:0<=(nextF s.told (l++s.prf)).1
  ·rw [if_pos h2] at e
   cases hd:s.decs.getLast? with
   | none=>rw [hd] at e;cases e
   | some d =>
    rw [hd] at e
    by_cases h3:s.prf.length + 1=2000
    ·simp only [if_pos h3] at e;cases e
    ·simp only [if_neg h3] at e
     injection e with e
     subst e
     have hlast:s.decs[s.decs.length - 1]?=some d:=by rw [<- List.getLast?_eq_getElem?];exact hd
     have hp:=h.past _ _ hlast
     rw [<- List.dropLast_eq_take] at hp
     refine ⟨hp,fun k d' hk=>?_,fun vals hs=>satL_append (h.prf vals hs) (fun c hc=>?_)⟩
     ·have hk':s.decs.dropLast[k]?=some d':=hk
      rw [List.getElem?_dropLast] at hk'
      split at hk'
      ·rename_i hlt
       have:=h.past k d' hk'
       rw [show (s.decs.dropLast).take k=s.decs.take k by rw [List.dropLast_eq_take,List.take_take,Nat.min_eq_left (by omega)]]
       exact this
      ·cases hk'
     ·rw [List.mem_singleton] at hc
      subst hc
      by_cases hall:DecsHold vals s.decs
      ·exfalso
       exact absurd ((next_sound hlp hg.cons (hsl vals hs) (h.now.imp vals hs hall)).1 h2) h1
      ·have:∃ d ∈ s.decs,litH vals d.1 ≠ true:=Classical.byContradiction fun hn=>hall fun d hd=>Classical.byContradiction fun hne=>hn ⟨d,hd,hne⟩
       obtain ⟨d',hd',hne⟩:=this
       refine ⟨-d'.1,List.mem_map.2 ⟨d',hd',rfl⟩,?_⟩
       rw [litH_neg' (by have:=h.now.pos d' hd';omega)]
       simpa using hne
  ·rw [if_neg h2] at e
   by_cases h3:leastF v s.told<0
   ·rw [if_pos h3] at e;cases e
   ·rw [if_neg h3] at e
    injection e with e
    subst e
    rcases least_is (v:=v) (told:=s.told) with ⟨h4,_⟩ | ⟨k,h4,hk,h5,h6⟩
    ·omega
    ·rw [h4]
     have hn:=h.now
     refine ⟨⟨fun vals hs hd=>?_,fun x hx hneg vals hs hd=>?_,fun d hd u hu0 hu1=>?_,fun d hd=>?_,fun d hd=>?_⟩,fun j d hj=>?_,h.prf⟩
     ·exact sat_tell (hn.imp vals hs fun d h=>hd d (List.mem_append.2 (Or.inl h))) (hd ((k:Int) + 1,s.told) (List.mem_append.2 (Or.inr List.mem_cons_self)))
     ·have hx':x ∈ s.told++[(k:Int) + 1]:=hx
      simp only [List.mem_append,List.mem_singleton] at hx'
      rcases hx' with hx' | hx'
      ·exact hn.first x hx' hneg vals hs fun d h hlt=>hd d (List.mem_append.2 (Or.inl h)) hlt
      ·omega
     ·have hd':d ∈ s.decs++[((k:Int) + 1,s.told)]:=hd
      show u ∈ s.told++[(k:Int) + 1]\/-u ∈ s.told++[(k:Int) + 1]
      simp only [List.mem_append,List.mem_singleton] at hd' ⊢
      rcases hd' with hd' | hd'
      ·rcases hn.low d hd' u hu0 hu1 with h | h
       ·exact Or.inl (Or.inl h)
       ·exact Or.inr (Or.inl h)
      ·subst hd'
       by_cases e:u=(k:Int) + 1
       ·exact Or.inl (Or.inr e)
       ·have hu1':u<=(k:Int) + 1:=hu1
        have:=h6 (u.toNat - 1) (by omega)
        have h7:¬ (((u.toNat - 1:Nat):Int) + 1 ∉ s.told/\-(((u.toNat - 1:Nat):Int) + 1) ∉ s.told):=fun h=>this (tv_zero.2 h)
        rw [show ((u.toNat - 1:Nat):Int) + 1=u by omega] at h7
        by_cases h8:u ∈ s.told
        ·exact Or.inl (Or.inl h8)
        ·exact Or.inr (Or.inl (Classical.byContradiction fun h9=>h7 ⟨h8,h9⟩))
     ·have hd':d ∈ s.decs++[((k:Int) + 1,s.told)]:=hd
      show d.1 ∈ s.told++[(k:Int) + 1]
      simp only [List.mem_append,List.mem_singleton] at hd' ⊢
      rcases hd' with hd' | hd'
      ·exact Or.inl (hn.mem d hd')
      ·exact Or.inr (by rw [hd'])
     ·have hd':d ∈ s.decs++[((k:Int) + 1,s.told)]:=hd
      simp only [List.mem_append,List.mem_singleton] at hd'
      rcases hd' with hd' | hd'
      ·exact hn.pos d hd'
      ·rw [hd'];show (0:Int)<(k:Int) + 1;omega
     ·have hj':(s.decs++[((k:Int) + 1,s.told)])[j]?=some d:=hj
      show Inv l ((s.decs++[((k:Int) + 1,s.told)]).take j) d.2
      rw [List.getElem?_append] at hj'
      split at hj'
      ·rename_i hlt
       rw [List.take_append_of_le_length (by omega)]
       exact h.past j d hj'
      ·rename_i hge
       have hjl:j - s.decs.length=0:=by
        rcases Nat.eq_zero_or_pos (j - s.decs.length) with h | h
        ·exact h
        ·rw [List.getElem?_eq_none (by simp;omega)] at hj';cases hj'
       rw [hjl] at hj'
       simp at hj'
       subst hj'
       have:j=s.decs.length:=by omega
       rw [this,List.take_append_of_le_length (Nat.le_refl _),List.take_length]
       exact hn
theorem run_inv {v:Nat} {l:List (List Int)} (hv:v<=24) (hl:LitsL v l) {s:St} {r:Res} (hr:Run v l s r):Good v s->InvS l s ->
  (∀ p,r=.unsat p->∀ vals,¬ SatL vals l)/\(∀ t,r=.sat t->∃ ds,Inv l ds t/\Lits v t/\Cons t/\(∀ i,i<v->tv t i ≠ 0)/\∀ c ∈ l,∃ x ∈ c,x ∈ t):=by
 induction hr with
 | go h _ ih=>intro hg hi;exact ih (step_good hv hl hg h).1 (step_inv hl hg hi h)
 | done h =>
  rename_i s r
  intro hg hi
  have hlp:=litsL_append hl hg.litsP
  unfold stepF at h
  by_cases h1:(nextF s.told (l++s.prf)).2 ≠ 0
  ·rw [if_pos h1] at h;cases h
  ·rw [if_neg h1] at h
   by_cases h2:0<=(nextF s.told (l++s.prf)).1
   ·rw [if_pos h2] at h
    cases hd:s.decs.getLast? with
    | none =>
     rw [hd] at h
     injection h with h
     subst h
     have hd0:s.decs=[]:=List.getLast?_eq_none_iff.1 hd
     refine ⟨fun p _ vals hs=>?_,(fun t h=>by cases h)⟩
     exact absurd ((next_sound hlp hg.cons (satL_append hs (hi.prf vals hs)) (hi.now.imp vals hs (fun d hd=>by rw [hd0] at hd;cases hd))).1 h2) h1
    | some d =>
     rw [hd] at h
     by_cases h3:s.prf.length + 1=2000
     ·simp only [if_pos h3] at h
      injection h with h
      subst h
      exact ⟨(fun p h=>by cases h),(fun t h=>by cases h)⟩
     ·simp only [if_neg h3] at h;cases h
   ·rw [if_neg h2] at h
    by_cases h3:leastF v s.told<0
    ·rw [if_pos h3] at h
     injection h with h
     subst h
     refine ⟨(fun p h=>by cases h),fun t h=>?_⟩
     cases h
     rcases least_is (v:=v) (told:=s.told) with ⟨_,h4⟩ | ⟨k,h4,_⟩
     ·refine ⟨s.decs,hi.now,hg.lits,hg.cons,h4,fun c hc=>?_⟩
      have hn:=next_is (l:=l++s.prf) hg.cons
      generalize nextF s.told (l++s.prf)=r at *
      cases hn with
      | none h5 =>
       rcases h5 c (List.mem_append.2 (Or.inl hc)) with h6 | ⟨x,hx,_,_,_,n1,n2,_⟩
       ·exact h6
       ·exfalso
        have hb:=litB_iff.1 (hl c hc x hx)
        by_cases hp:0<x
        ·have:=h4 (x.toNat - 1) (by omega)
         exact this (tv_zero.2 (by rw [show ((x.toNat - 1:Nat):Int) + 1=x by omega];exact ⟨n1,n2⟩))
        ·have:=h4 ((-x).toNat - 1) (by omega)
         exact this (tv_zero.2 (by rw [show (((-x).toNat - 1:Nat):Int) + 1=-x by omega,Int.neg_neg];exact ⟨n2,n1⟩))
      | bad=>exact absurd (Int.natCast_nonneg _) h2
      | one=>exact absurd (Int.natCast_nonneg _) h2
     ·omega
    ·rw [if_neg h3] at h;cases h
theorem numF_sat {v:Nat} {t:List Int} (hl:Lits v t) (hc:Cons t) (hv:v<=24):Sat (numF t 24) t:=fun x hx=>by
 have hb:=litB_iff.1 (hl x hx)
 unfold litH
 by_cases hp:0<x
 ·rw [if_pos hp,numF_bit]
  have:tv t (x.toNat - 1)=1:=by unfold tv;rw [if_pos (by rw [show ((x.toNat - 1:Nat):Int) + 1=x by omega];exact hx)]
  rw [this];simp;omega
 ·rw [if_neg hp,numF_bit]
  have:tv t ((-x).toNat - 1)=-1:=by
   unfold tv
   rw [show (((-x).toNat - 1:Nat):Int) + 1=-x by omega,Int.neg_neg,if_neg (hc x hx),if_pos hx]
  rw [this];simp
end
end Go.Proofs.YtlahnpmoeefapaaGreatDoor
