/- Form and Resolve: plain. -/
import Derived.Test.YtlahnpmoeefapaaGreatDoorBdSem
import Derived.WalkSmall
import Derived.Test.YtlahnpmoeefapaaGreatDoorProg
import Derived.WalkKit
import Derived.WalkSpells
import Derived.WalkLawsBesides
import Derived.Deep.Cut
import Derived.Deep.DeepCutAuto
import Derived.Deep.RegionWith
import Derived.Deep.LoopGhost
import Derived.Deep.DeepFit
import Derived.Deep.DeepMust
import Derived.Deep.Light
import Derived.Lib.QuietBelow
import Derived.Lib.MinMax
import Derived.BigQuiet
import Derived.Lib.Hide
import Derived.Deep.RegionHeld3
import Derived.Deep.Slices
set_option maxHeartbeats 1000000
set_option maxRecDepth 100000
namespace Go.Proofs.YtlahnpmoeefapaaGreatDoor.Bd
open Go.RowKit Go.Maps
def bitsF (n:Nat):Nat->Bool:=fun i=>n.testBit i
theorem shr_bit (vals v:Nat) (hv:vals<18446744073709551616):(bits BinOp.and IntKind.u64 ((vals:Int) / 2 ^ v) 1 == 1)=bitsF vals v:=by
 have e:(vals:Int) / 2 ^ v=((vals / 2 ^ v:Nat):Int):=by simp
 have hd:vals / 2 ^ v<=vals:=Nat.div_le_self _ _
 generalize hm:vals / 2 ^ v=m at *
 rw [e,and_one_u64 _ (by omega) (by omega)]
 have hb:bitsF vals v=decide (m % 2=1):=by unfold bitsF;rw [Nat.testBit_eq_decide_div_mod_eq,hm]
 rw [hb,Bool.eq_iff_iff]
 simp
 omega
end Go.Proofs.YtlahnpmoeefapaaGreatDoor.Bd
namespace Go.Proofs.YtlahnpmoeefapaaGreatDoor
theorem cell1_0 (w:World) (v:Value) (t:TypeId):(w.alloc (.cells #[v] t)).cell? ⟨w.heap.size,0,none⟩=some v:=by simp
theorem frozen1_0 (w:World) (v:Value) (t:TypeId):(w.alloc (.cells #[v] t)).frozen? ⟨w.heap.size,0,none⟩=false:=by simp
end Go.Proofs.YtlahnpmoeefapaaGreatDoor
namespace Go.Proofs.YtlahnpmoeefapaaGreatDoor
open Go.RowKit
def ErrIs (w:World) (e:Value) (m pl:Int):Prop :=
 (m=0/\pl=-1/\e=.nilIface)\/(m ≠ 0/\pl=-1/\e=.iface 57 (.int .i64 m)) \/
 (m ≠ 0/\∃ b,b<w.heap.size/\e=.iface 228 (.pointer (some ⟨b,0,none⟩))/\w.cell? ⟨b,0,none⟩=some (.int .i64 m)/\w.cell? ⟨b,1,none⟩=some (.int .i64 pl))
end Go.Proofs.YtlahnpmoeefapaaGreatDoor
namespace Go.Proofs.YtlahnpmoeefapaaGreatDoor
open Go.RowKit
theorem below_new (w:World) (o:Obj):Below w.heap.size w (w.alloc o):=(Below.refl _ _).alloc (Nat.le_refl _) _
theorem addr_block (a:Addr) (i:Nat):(a.add i).block=a.block:=by unfold Addr.add;split <;> rfl
def IntsIn (w:World) (a:Option Addr) (xs:List Int):Prop :=
 ∀ i,i<xs.length->∃ ad:Addr,a=some ad/\ad.block<w.heap.size/\w.cell? (ad.add i)=some (.int .i64 (xs.getD i 0))
theorem IntsIn.below {w w':World} {a:Option Addr} {xs:List Int} (h:IntsIn w a xs) (hb:Below w.heap.size w w'):IntsIn w' a xs:=by
 intro i hi
 obtain ⟨ad,ha,hl,hc⟩:=h i hi
 exact ⟨ad,ha,Nat.lt_of_lt_of_le hl hb.size,(hb.cell (by rw [addr_block];exact hl)).trans hc⟩
def ClsIn (w:World) (a:Option Addr) (l:List (List Int)):Prop :=
 ∀ i,i<l.length->∃ (ad:Addr) (a':Option Addr) (cap:Nat),a=some ad/\ad.block<w.heap.size/\w.cell? (ad.add i)=some (.slice a' (l.getD i []).length cap)/\(l.getD i []).length<=cap/\cap<=9223372036854775807/\IntsIn w a' (l.getD i [])
theorem ClsIn.below {w w':World} {a:Option Addr} {l:List (List Int)} (h:ClsIn w a l) (hb:Below w.heap.size w w'):ClsIn w' a l:=by
 intro i hi
 obtain ⟨ad,a',cap,ha,hl,hc,h1,h2,h3⟩:=h i hi
 exact ⟨ad,a',cap,ha,Nat.lt_of_lt_of_le hl hb.size,(hb.cell (by rw [addr_block];exact hl)).trans hc,h1,h2,h3.below hb⟩
theorem getD_mem {α:Type} {l:List α} {i:Nat} {d:α} (h:i<l.length):l.getD i d ∈ l:=by
 rw [List.getD_eq_getElem?_getD,List.getElem?_eq_getElem h];exact List.getElem_mem h
def idxF {α:Type} (p:α->Bool) (xs:List α):Int:=match xs.findIdx? p with | some i=>(i:Int) | none=>-1
theorem idxF_hit {α:Type} {p:α->Bool} {xs:List α} {k:Nat} {d:α} (h0:∀ j,j<k->p (xs.getD j d)=false) (hk:k<xs.length) (h1:p (xs.getD k d)=true):idxF p xs=(k:Int):=by
 have:xs.findIdx? p=some k:=by
  rw [List.findIdx?_eq_some_iff_getElem]
  refine ⟨hk,?_,fun j hj=>?_⟩
  ·rw [List.getD_eq_getElem?_getD,List.getElem?_eq_getElem hk] at h1;exact h1
  ·have:=h0 j hj
   rw [List.getD_eq_getElem?_getD,List.getElem?_eq_getElem (by omega)] at this
   simpa using this
 simp [idxF,this]
theorem idxF_none {α:Type} {p:α->Bool} {xs:List α} {d:α} (h0:∀ j,j<xs.length->p (xs.getD j d)=false):idxF p xs=-1:=by
 have:xs.findIdx? p=none:=by
  rw [List.findIdx?_eq_none_iff]
  intro x hx
  obtain ⟨j,hj,rfl⟩:=List.getElem_of_mem hx
  have:=h0 j hj
  rw [List.getD_eq_getElem?_getD,List.getElem?_eq_getElem hj] at this
  simpa using this
 simp [idxF,this]
theorem idxF_any {α:Type} (p:α->Bool) (xs:List α):decide (0<=idxF p xs)=xs.any p:=by
 rw [Bool.eq_iff_iff]
 simp only [decide_eq_true_eq]
 unfold idxF
 cases h:xs.findIdx? p with
 | none =>
  rw [List.findIdx?_eq_none_iff] at h
  simp only [List.any_eq_true]
  constructor
  ·intro h;omega
  ·rintro ⟨x,hx,hp⟩;rw [h x hx] at hp;cases hp
 | some i =>
  rw [List.findIdx?_eq_some_iff_getElem] at h
  obtain ⟨hi,hp,-⟩:=h
  simp only [List.any_eq_true]
  exact ⟨fun _=>⟨_,List.getElem_mem hi,hp⟩,fun _=>by omega⟩
theorem ix_ints (F:Nat) (cb:Array Value) (p:Int->Bool) (xs:List Int) (a:Option Addr) (cap:Nat) (w:World) (hm:xs.length<=9223372036854775807)
  (hent:∀ args w,(callFunc F args).run Tryz.prog w=.ok (.enter F args) w) (hI:IntsIn w a xs)
  (hf:∀ W i,Below w.heap.size w W->i<xs.length->Calls Tryz.prog F (#[.int .i64 (xs.getD i 0)]++cb) W fun e w'=>e=.returned (.bool (p (xs.getD i 0)))/\Below W.heap.size W w') :
  Calls Tryz.prog 214 #[.slice a xs.length cap,.func (.func F) #[] cb] w fun e w'=>e=.returned (.int .i64 (idxF p xs))/\Below w.heap.size w w':=by
 have HF:=Lib.hid hf
 have HI:=Lib.hid hI
 clear hf hI
 go_enter Tryz.func214,Tryz.ntmps214
 go_wp2_with fail
 go_loopw [8] (fun kV wr=>∃ k:Nat,k<=xs.length/\kV=.int .i64 (k:Int)/\(∀ j,j<k->p (xs.getD j 0)=false)/\Below w.heap.size w wr) (fun kV _=>xs.length - (intOf kV).toNat)
 case atStart=>exact ⟨0,Nat.zero_le _,rfl,fun j h=>by omega,Below.refl _ _⟩
 case round =>
  obtain ⟨k,hk,rfl,h1,hbr⟩:=hrel
  have H1:=Lib.hid h1
  have HBR:=Lib.hid hbr
  clear h1 hbr
  by_cases hlt:k<xs.length
  ·obtain ⟨ad,rfl,hl,hc⟩:=HI.out.below HBR.out k hlt
   have HC:=Lib.hid (HF.out wr k HBR.out hlt)
   cases hp:p (xs.getD k 0) with
   | true =>
    rw [hp] at HC
    have HP:=Lib.hid hp
    clear hp
    generalize hx:xs.getD k 0=x at *
    have HX:=Lib.hid hx
    clear hx
    go_wp2_with fail
    refine HC.out.mono ?_
    rintro e w1 ⟨rfl,hb1⟩
    have HB1:Hid (Below w.heap.size w w1):=HBR.out.trans (hb1.mono HBR.out.size)
    clear hb1 HC
    go_wp2
    go_ret
    exact ⟨by rw [idxF_hit H1.out hlt (by rw [HX.out];exact HP.out)];rfl,HB1.out⟩
   | false =>
    rw [hp] at HC
    have HP:=Lib.hid hp
    clear hp
    generalize hx:xs.getD k 0=x at *
    have HX:=Lib.hid hx
    clear hx
    go_wp2_with fail
    refine HC.out.mono ?_
    rintro e w1 ⟨rfl,hb1⟩
    have HB1:Hid (Below w.heap.size w w1):=HBR.out.trans (hb1.mono HBR.out.size)
    clear hb1 HC
    go_wp2
    go_roundw
    case rel=>exact ⟨k + 1,hlt,by go_num,fun j hj=>(by
     rcases Nat.lt_succ_iff_lt_or_eq.1 hj with e | e
     ·exact H1.out j e
     ·rw [e,HX.out];exact HP.out),HB1.out⟩
    case measure=>simp [intOf];omega
  ·obtain rfl:k=xs.length:=by omega
   go_wp2
   go_ret
   exact ⟨by rw [idxF_none H1.out];rfl,HBR.out⟩
theorem cf_ints (F:Nat) (cb:Array Value) (p:Int->Bool) (xs:List Int) (a:Option Addr) (cap:Nat) (w:World) (hm:xs.length<=9223372036854775807)
  (hent:∀ args w,(callFunc F args).run Tryz.prog w=.ok (.enter F args) w) (hI:IntsIn w a xs)
  (hf:∀ W i,Below w.heap.size w W->i<xs.length->Calls Tryz.prog F (#[.int .i64 (xs.getD i 0)]++cb) W fun e w'=>e=.returned (.bool (p (xs.getD i 0)))/\Below W.heap.size W w') :
  Calls Tryz.prog 153 #[.slice a xs.length cap,.func (.func F) #[] cb] w fun e w'=>e=.returned (.bool (xs.any p))/\Below w.heap.size w w':=by
 have H:=Lib.hid (ix_ints F cb p xs a cap w hm hent hI hf)
 clear hf hI hent
 rw [<- idxF_any]
 generalize idxF p xs=i at *
 go_enter Tryz.func153,Tryz.ntmps153
 go_wp2_with fail
 refine H.out.mono ?_
 rintro e w1 ⟨rfl,hb1⟩
 have HB1:=Lib.hid hb1
 clear hb1 H
 go_wp2
 go_ret
 exact ⟨by first | rfl | simp,HB1.out⟩
end Go.Proofs.YtlahnpmoeefapaaGreatDoor
namespace Go.Proofs.YtlahnpmoeefapaaGreatDoor
open Go.RowKit
def litB (v x:Int):Bool:=decide (x ≠ 0/\-v<=x/\x<=v)
theorem literal_any (x v:Int) (h0:0<=v) (h1:v<=24) (w:World) :
  Calls Tryz.prog 155 #[.int .i64 x,.int .i64 v] w fun e w'=>e=.returned (.bool (litB v x))/\w=w':=by
 by_cases hx:x=0
 ·have e:litB v x=false:=by simp [litB,hx]
  rw [e]
  go_enter Tryz.func155,Tryz.ntmps155
  go_wp2
  go_ret
  exact ⟨rfl,rfl⟩
 ·by_cases h2:-v<=x
  ·by_cases h3:x<=v
   ·have e:litB v x=true:=by simp [litB,hx,h2,h3]
    rw [e]
    have hx':(x != 0)=true:=by simpa using hx
    go_enter Tryz.func155,Tryz.ntmps155
    go_wp2
    go_ret
    exact ⟨rfl,rfl⟩
   ·have e:litB v x=false:=by simp [litB,h3]
    rw [e]
    go_enter Tryz.func155,Tryz.ntmps155
    go_wp2
    go_ret
    exact ⟨rfl,rfl⟩
  ·have e:litB v x=false:=by simp [litB,h2]
   rw [e]
   go_enter Tryz.func155,Tryz.ntmps155
   go_wp2
   go_ret
   exact ⟨rfl,rfl⟩
end Go.Proofs.YtlahnpmoeefapaaGreatDoor
namespace Go.Proofs.YtlahnpmoeefapaaGreatDoor
open Go.RowKit
def litH (vals:Nat) (x:Int):Bool:=if 0<x then vals.testBit (x.toNat - 1) else !vals.testBit ((-x).toNat - 1)
def litK (vals:Nat) (x:Int):Bool:=litB 24 x && litH vals x
def holdK (vals:Nat) (c:List Int):Bool:=c.any (litK vals)
theorem shr_bit1 (vals t:Nat) (hv:vals<18446744073709551616):(bits BinOp.and IntKind.u64 ((vals:Int) / 2 ^ t) 1 == 1)=vals.testBit t:=by
 have e:(vals:Int) / 2 ^ t=((vals / 2 ^ t:Nat):Int):=by simp
 have hd:vals / 2 ^ t<=vals:=Nat.div_le_self _ _
 rw [e,Nat.testBit_eq_decide_div_mod_eq]
 generalize vals / 2 ^ t=m at *
 rw [and_one_u64 _ (by omega) (by omega),Bool.eq_iff_iff]
 simp
 omega
theorem shr_bit0 (vals t:Nat) (hv:vals<18446744073709551616):(bits BinOp.and IntKind.u64 ((vals:Int) / 2 ^ t) 1 == 0)=!vals.testBit t:=by
 have e:(vals:Int) / 2 ^ t=((vals / 2 ^ t:Nat):Int):=by simp
 have hd:vals / 2 ^ t<=vals:=Nat.div_le_self _ _
 rw [e,Nat.testBit_eq_decide_div_mod_eq]
 generalize vals / 2 ^ t=m at *
 rw [and_one_u64 _ (by omega) (by omega),Bool.eq_iff_iff]
 simp
 omega
end Go.Proofs.YtlahnpmoeefapaaGreatDoor
namespace Go.Proofs.YtlahnpmoeefapaaGreatDoor
open Go.RowKit
def tv (told:List Int) (i:Nat):Int:=if ((i:Int) + 1) ∈ told then 1 else if -((i:Int) + 1) ∈ told then -1 else 0
def sideF (told:List Int) (x:Int):Int:=if x ∈ told then 1 else if -x ∈ told then -1 else 0
def Cons (told:List Int):Prop:=∀ x ∈ told,-x ∉ told
def Lits (v:Int) (xs:List Int):Prop:=∀ x ∈ xs,litB v x=true
theorem litB_iff {v x:Int}:litB v x=true ↔ x ≠ 0/\-v<=x/\x<=v:=by simp [litB]
theorem side_pos (told:List Int) (t:Nat):sideF told ((t:Int) + 1)=tv told t:=rfl
theorem side_neg {told:List Int} (hc:Cons told) (t:Nat):sideF told (-((t:Int) + 1))=- tv told t:=by
 unfold sideF tv
 rw [Int.neg_neg]
 by_cases h1:((t:Int) + 1) ∈ told
 ·have h2:=hc _ h1
  rw [if_pos h1,if_neg h2,if_pos h1]
 ·by_cases h2:-((t:Int) + 1) ∈ told
  ·rw [if_pos h2,if_neg h1,if_pos h2];rfl
  ·rw [if_neg h2,if_neg h1,if_neg h1,if_neg h2];rfl
theorem tv_bound (told:List Int) (t:Nat):-1<=tv told t/\tv told t<=1:=by
 unfold tv;split
 ·omega
 ·split <;> omega
theorem side_bound (told:List Int) (x:Int):sideF told x=-1\/sideF told x=0\/sideF told x=1:=by
 unfold sideF;split
 ·omega
 ·split <;> omega
theorem side_zero {told:List Int} {x:Int}:sideF told x=0 ↔ x ∉ told/\-x ∉ told:=by
 unfold sideF
 by_cases h1:x ∈ told
 ·simp [h1]
 ·by_cases h2:-x ∈ told
  ·simp [h1,h2]
  ·simp [h1,h2]
theorem side_one {told:List Int} {x:Int}:0<sideF told x ↔ x ∈ told:=by
 unfold sideF
 by_cases h1:x ∈ told
 ·simp [h1]
 ·by_cases h2:-x ∈ told <;> simp [h1,h2]
theorem side_ge {told:List Int} (hc:Cons told) {x:Int}:0<=sideF told x ↔ -x ∉ told:=by
 unfold sideF
 by_cases h1:x ∈ told
 ·have:=hc x h1
  simp [h1,this]
 ·by_cases h2:-x ∈ told <;> simp [h1,h2]
def moreF (told:List Int) (one x:Int):Bool:=decide (0<sideF told x) || (decide (sideF told x=0) && x != one)
def onlyF (told:List Int) (c:List Int):Int × Bool :=
 if idxF (fun x=>decide (0<=sideF told x)) c<0 then (0,true)
 else if (c.drop (idxF (fun x=>decide (0<=sideF told x)) c).toNat).any (moreF told (c.getD (idxF (fun x=>decide (0<=sideF told x)) c).toNat 0)) then (0,false)
 else (c.getD (idxF (fun x=>decide (0<=sideF told x)) c).toNat 0,true)
theorem idxF_cases {α:Type} (p:α->Bool) (xs:List α) (d:α):(idxF p xs=-1/\∀ x ∈ xs,p x=false)\/∃ k:Nat,idxF p xs=(k:Int)/\k<xs.length/\p (xs.getD k d)=true/\∀ x ∈ xs.take k,p x=false:=by
 unfold idxF
 cases h:xs.findIdx? p with
 | none=>exact Or.inl ⟨rfl,fun x hx=>by simpa using List.findIdx?_eq_none_iff.1 h x hx⟩
 | some k =>
  rw [List.findIdx?_eq_some_iff_getElem] at h
  obtain ⟨hk,hp,hj⟩:=h
  refine Or.inr ⟨k,rfl,hk,by rw [List.getD_eq_getElem?_getD,List.getElem?_eq_getElem hk];exact hp,fun x hx=>?_⟩
  obtain ⟨j,hjk,rfl⟩:=List.getElem_of_mem hx
  rw [List.length_take] at hjk
  rw [List.getElem_take]
  simpa using hj j (by omega)
inductive OnlyIs (told c:List Int):Int × Bool->Prop
 | none (h:∀ x ∈ c,x ∉ told/\-x ∈ told):OnlyIs told c (0,true)
 | one {x:Int} (hx:x ∈ c) (h0:x ∉ told) (h1:-x ∉ told) (h:∀ y ∈ c,y ≠ x->y ∉ told/\-y ∈ told):OnlyIs told c (x,true)
 | held {x:Int} (hx:x ∈ c) (h:x ∈ told):OnlyIs told c (0,false)
 | two {x y:Int} (hx:x ∈ c) (hy:y ∈ c) (hne:x ≠ y) (h0:x ∉ told) (h1:-x ∉ told) (h2:y ∉ told) (h3:-y ∉ told):OnlyIs told c (0,false)
theorem only_is {told c:List Int} (hc:Cons told):OnlyIs told c (onlyF told c):=by
 unfold onlyF
 have hng:∀ x,(decide (0<=sideF told x))=false ↔ -x ∈ told:=fun x=>by
  rw [decide_eq_false_iff_not,side_ge hc,Classical.not_not]
 have hnt:∀ x,-x ∈ told->x ∉ told:=fun x h h2=>hc x h2 h
 rcases idxF_cases (fun x=>decide (0<=sideF told x)) c 0 with ⟨hi,h⟩ | ⟨k,hi,hk,hp,hl⟩
 ·rw [hi,if_pos (by omega)]
  exact .none fun x hx=>⟨hnt x ((hng x).1 (h x hx)),(hng x).1 (h x hx)⟩
 ·rw [hi,if_neg (by omega),Int.toNat_natCast]
  have hm:c.getD k 0 ∈ c:=getD_mem hk
  have hpo:-(c.getD k 0) ∉ told:=(side_ge hc).1 (of_decide_eq_true hp)
  by_cases hany:(c.drop k).any (moreF told (c.getD k 0))=true
  ·rw [if_pos hany]
   obtain ⟨y,hy,hmo⟩:=List.any_eq_true.1 hany
   have hyc:=List.mem_of_mem_drop hy
   unfold moreF at hmo
   rw [Bool.or_eq_true,Bool.and_eq_true] at hmo
   rcases hmo with h1 | ⟨h1,h2⟩
   ·exact .held hyc (side_one.1 (of_decide_eq_true h1))
   ·have h3:=side_zero.1 (of_decide_eq_true h1)
    by_cases hot:c.getD k 0 ∈ told
    ·exact .held hm hot
    ·exact .two hm hyc (fun e=>by rw [<- e,bne_self_eq_false] at h2;cases h2) hot hpo h3.1 h3.2
  ·rw [if_neg hany]
   have hany':∀ y ∈ c.drop k,moreF told (c.getD k 0) y=false:=fun y hy=>by
    cases hh:moreF told (c.getD k 0) y with
    | false=>rfl
    | true=>exact absurd (List.any_eq_true.2 ⟨y,hy,hh⟩) hany
   have hot:c.getD k 0 ∉ told:=fun h=>by
    have:=hany' (c.getD k 0) (by
     rw [List.getD_eq_getElem?_getD,List.getElem?_eq_getElem hk]
     exact List.mem_drop_iff_getElem.2 ⟨0,by omega,by simp⟩)
    unfold moreF at this
    rw [Bool.or_eq_false_iff] at this
    exact (of_decide_eq_false this.1) (side_one.2 h)
   refine .one hm hot hpo fun y hy hne=>?_
   rw [<- List.take_append_drop k c,List.mem_append] at hy
   rcases hy with hy | hy
   ·have:=(hng y).1 (hl y hy)
    exact ⟨hnt y this,this⟩
   ·have:=hany' y hy
    unfold moreF at this
    rw [Bool.or_eq_false_iff,Bool.and_eq_false_iff] at this
    have h1:=of_decide_eq_false this.1
    have h2:sideF told y ≠ 0:=by
     rcases this.2 with h | h
     ·exact of_decide_eq_false h
     ·simp at h;exact absurd h hne
    have h3:-y ∈ told:=by
     by_cases hm:-y ∈ told
     ·exact hm
     ·exact absurd (side_zero.2 ⟨fun h=>h1 (side_one.2 h),hm⟩) h2
    exact ⟨hnt y h3,h3⟩
def nextF (told:List Int) (l:List (List Int)):Int × Int :=
 match l.findIdx? (fun c=>(onlyF told c).2) with | some i=>((i:Int),(onlyF told (l.getD i [])).1) | none=>(-1,0)
theorem nextF_hit {told:List Int} {l:List (List Int)} {k:Nat} (h0:∀ j,j<k->(onlyF told (l.getD j [])).2=false) (hk:k<l.length) (h1:(onlyF told (l.getD k [])).2=true):nextF told l=((k:Int),(onlyF told (l.getD k [])).1):=by
 have:l.findIdx? (fun c=>(onlyF told c).2)=some k:=by
  rw [List.findIdx?_eq_some_iff_getElem]
  refine ⟨hk,?_,fun j hj=>?_⟩
  ·rw [List.getD_eq_getElem?_getD,List.getElem?_eq_getElem hk] at h1;exact h1
  ·have:=h0 j hj
   rw [List.getD_eq_getElem?_getD,List.getElem?_eq_getElem (by omega)] at this
   simpa using this
 unfold nextF;rw [this]
theorem nextF_none {told:List Int} {l:List (List Int)} (h0:∀ j,j<l.length->(onlyF told (l.getD j [])).2=false):nextF told l=(-1,0):=by
 have:l.findIdx? (fun c=>(onlyF told c).2)=none:=by
  rw [List.findIdx?_eq_none_iff]
  intro x hx
  obtain ⟨j,hj,rfl⟩:=List.getElem_of_mem hx
  have:=h0 j hj
  rw [List.getD_eq_getElem?_getD,List.getElem?_eq_getElem hj] at this
  simpa using this
 unfold nextF;rw [this]
inductive NextIs (told:List Int) (l:List (List Int)):Int × Int->Prop
 | none (h:∀ c ∈ l,(∃ x ∈ c,x ∈ told)\/∃ x ∈ c,∃ y ∈ c,x ≠ y/\x ∉ told/\-x ∉ told/\y ∉ told/\-y ∉ told):NextIs told l (-1,0)
 | bad {k:Nat} (hk:k<l.length) (h:∀ x ∈ l.getD k [],x ∉ told/\-x ∈ told):NextIs told l ((k:Int),0)
 | one {k:Nat} {x:Int} (hk:k<l.length) (hx:x ∈ l.getD k []) (h0:x ∉ told) (h1:-x ∉ told) (h:∀ y ∈ l.getD k [],y ≠ x->y ∉ told/\-y ∈ told):NextIs told l ((k:Int),x)
theorem next_is {told:List Int} {l:List (List Int)} (hc:Cons told):NextIs told l (nextF told l):=by
 unfold nextF
 cases h:l.findIdx? (fun c=>(onlyF told c).2) with
 | none =>
  rw [List.findIdx?_eq_none_iff] at h
  refine .none fun c hcl=>?_
  have h1:=h c hcl
  have h2:=only_is (c:=c) hc
  generalize onlyF told c=r at *
  cases h2 with
  | none=>simp at h1
  | one=>simp at h1
  | held hx h=>exact Or.inl ⟨_,hx,h⟩
  | two hx hy hne q0 q1 q2 q3=>exact Or.inr ⟨_,hx,_,hy,hne,q0,q1,q2,q3⟩
 | some k =>
  rw [List.findIdx?_eq_some_iff_getElem] at h
  obtain ⟨hk,hp,-⟩:=h
  have e:l.getD k []=l[k]:=by rw [List.getD_eq_getElem?_getD,List.getElem?_eq_getElem hk];rfl
  rw [<- e] at hp
  have h2:=only_is (c:=l.getD k []) hc
  show NextIs told l ((k:Int),(onlyF told (l.getD k [])).1)
  generalize onlyF told (l.getD k [])=r at *
  cases h2 with
  | none h=>exact .bad hk h
  | one hx h0 h1 h=>exact .one hk hx h0 h1 h
  | held=>simp at hp
  | two=>simp at hp
def free (told:List Int):Nat:=(List.range 24).countP (fun i=>tv told i == 0)
theorem countP_lt {p q:Nat->Bool} {l:List Nat} (h:∀ x ∈ l,q x=true->p x=true) {j:Nat} (hj:j ∈ l) (hp:p j=true) (hq:q j=false):l.countP q<l.countP p:=by
 induction l with
 | nil=>cases hj
 | cons a l ih =>
  have hle:l.countP q<=l.countP p:=List.countP_mono_left fun x hx=>h x (List.mem_cons_of_mem _ hx)
  rw [List.countP_cons,List.countP_cons]
  by_cases e:a=j
  ·subst e;rw [hp,hq];simp;omega
  ·have:=ih (fun x hx=>h x (List.mem_cons_of_mem _ hx)) (by cases hj with | head=>exact absurd rfl e | tail _ h=>exact h)
   have ha:=h a (List.mem_cons_self)
   cases hqa:q a with
   | true=>rw [ha hqa];simp;omega
   | false=>cases p a <;> simp <;> omega
theorem tv_tell {told:List Int} {x:Int} (hn:-x ∉ told) (i:Nat):tv (told++[x]) i=if (i:Int) + 1=x then 1 else if (i:Int) + 1=-x then -1 else tv told i:=by
 unfold tv
 simp only [List.mem_append,List.mem_singleton]
 by_cases h1:(i:Int) + 1=x
 ·rw [if_pos (Or.inr h1),if_pos h1]
 ·rw [if_neg h1]
  by_cases h2:(i:Int) + 1=-x
  ·have h0:(i:Int) + 1 ∉ told:=by rw [h2];exact hn
   rw [if_pos h2,if_neg (by rintro (h | h);exact h0 h;exact h1 h),if_pos (Or.inr (by omega))]
  ·rw [if_neg h2]
   have h3:¬ -((i:Int) + 1)=x:=by omega
   have e1:((i:Int) + 1 ∈ told\/(i:Int) + 1=x) ↔ (i:Int) + 1 ∈ told:=⟨fun h=>h.resolve_right h1,Or.inl⟩
   have e2:(-((i:Int) + 1) ∈ told\/-((i:Int) + 1)=x) ↔ -((i:Int) + 1) ∈ told:=⟨fun h=>h.resolve_right h3,Or.inl⟩
   simp only [e1,e2]
theorem tv_zero {told:List Int} {i:Nat}:tv told i=0 ↔ (i:Int) + 1 ∉ told/\-((i:Int) + 1) ∉ told:=by
 show sideF told ((i:Int) + 1)=0 ↔ _
 exact side_zero
theorem free_tell {told:List Int} {x:Int} (hl:litB 24 x=true) (h0:x ∉ told) (h1:-x ∉ told):free (told++[x])<free told:=by
 rw [litB_iff] at hl
 have ht:=tv_tell h1
 unfold free
 refine countP_lt (j:=(if 0<x then x else -x).toNat - 1) (fun i _ hi=>?_) (List.mem_range.2 (by split <;> omega)) ?_ ?_
 ·have hi':tv (told++[x]) i=0:=by simpa using hi
  rw [ht] at hi'
  by_cases e1:(i:Int) + 1=x
  ·rw [if_pos e1] at hi';cases hi'
  ·by_cases e2:(i:Int) + 1=-x
   ·rw [if_neg e1,if_pos e2] at hi';cases hi'
   ·rw [if_neg e1,if_neg e2] at hi';simpa using hi'
 ·have:tv told ((if 0<x then x else -x).toNat - 1)=0:=by
   rw [tv_zero]
   by_cases hp:0<x
   ·rw [if_pos hp,show ((x.toNat - 1:Nat):Int) + 1=x by omega];exact ⟨h0,h1⟩
   ·rw [if_neg hp,show (((-x).toNat - 1:Nat):Int) + 1=-x by omega,Int.neg_neg];exact ⟨h1,h0⟩
  simpa using this
 ·have:tv (told++[x]) ((if 0<x then x else -x).toNat - 1) ≠ 0:=by
   rw [ht]
   by_cases hp:0<x
   ·rw [if_pos hp,if_pos (by omega)];omega
   ·rw [if_neg hp,if_neg (by omega),if_pos (by omega)];omega
  simpa using this
theorem cons_tell {told:List Int} {x:Int} (hc:Cons told) (hx:x ≠ 0) (h1:-x ∉ told):Cons (told++[x]):=by
 intro y hy hn
 simp only [List.mem_append,List.mem_singleton] at hy hn
 rcases hy with hy | hy
 ·rcases hn with hn | hn
  ·exact hc y hy hn
  ·exact h1 (by rw [show -x=y by omega];exact hy)
 ·rcases hn with hn | hn
  ·rw [hy] at hn;exact h1 hn
  ·omega
theorem lits_tell {v:Int} {told:List Int} {x:Int} (hc:Lits v told) (hx:litB v x=true):Lits v (told++[x]):=by
 intro y hy
 simp only [List.mem_append,List.mem_singleton] at hy
 rcases hy with hy | hy
 ·exact hc y hy
 ·rw [hy];exact hx
theorem cons_nil:Cons []:=fun x hx=>by cases hx
theorem lits_nil (v:Int):Lits v []:=fun x hx=>by cases hx
def LitsL (v:Int) (l:List (List Int)):Prop:=∀ c ∈ l,Lits v c
theorem lit_24 {v x:Int} (hv:v<=24) (h:litB v x=true):litB 24 x=true:=by
 rw [litB_iff] at *;omega
theorem next_step {l:List (List Int)} {v:Int} (hl:LitsL v l) {told:List Int} (hc:Cons told) (hs:Lits v told) {i x:Int} (e:nextF told l=(i,x)) (hx:x ≠ 0):litB v x=true/\x ∉ told/\-x ∉ told/\Cons (told++[x])/\Lits v (told++[x]):=by
 have hn:=next_is (l:=l) hc
 rw [e] at hn
 cases hn with
 | none=>exact absurd rfl hx
 | bad=>exact absurd rfl hx
 | one hk hxc h0 h1 _ =>
  have hlx:=hl _ (getD_mem hk) _ hxc
  exact ⟨hlx,h0,h1,cons_tell hc hx h1,lits_tell hs hlx⟩
end Go.Proofs.YtlahnpmoeefapaaGreatDoor
namespace Go.Proofs.YtlahnpmoeefapaaGreatDoor
open Go.RowKit
def Both (c:List Int):Prop:=∃ x ∈ c,-x ∈ c
end Go.Proofs.YtlahnpmoeefapaaGreatDoor
namespace Go.Proofs.YtlahnpmoeefapaaGreatDoor
open Go.RowKit
def sideS (s:Nat × Nat) (x:Int):Nat × Nat :=
 if 0<x/\x<=24 then (s.1 ||| 2 ^ (x.toNat - 1),s.2) else if -24<=x/\x<0 then (s.1,s.2 ||| 2 ^ ((-x).toNat - 1)) else s
def sidesF (c:List Int):Nat × Nat:=c.foldl sideS (0,0)
theorem sidesF_snoc (c:List Int) (x:Int):sidesF (c++[x])=sideS (sidesF c) x:=by unfold sidesF;rw [List.foldl_append];rfl
theorem bit_or (m k i:Nat):(m ||| 2 ^ k).testBit i=(m.testBit i || decide (k=i)):=by
 rw [Nat.testBit_or,Nat.testBit_two_pow]
theorem fold_bits (c:List Int) (s:Nat × Nat) (i:Nat):((c.foldl sideS s).1.testBit i=(s.1.testBit i || decide (i<24/\(i:Int) + 1 ∈ c)))/\((c.foldl sideS s).2.testBit i=(s.2.testBit i || decide (i<24/\-((i:Int) + 1) ∈ c))):=by
 induction c generalizing s with
 | nil=>simp
 | cons x c ih =>
  rw [List.foldl_cons,(ih _).1,(ih _).2]
  unfold sideS
  by_cases h1:0<x/\x<=24
  ·rw [if_pos h1]
   have e2:(-((i:Int) + 1) ∈ x :: c) ↔ -((i:Int) + 1) ∈ c:=by
    rw [List.mem_cons];exact ⟨fun h=>h.resolve_left (by omega),Or.inr⟩
   have e1:(i<24/\(i:Int) + 1 ∈ x :: c) ↔ (x.toNat - 1=i\/(i<24/\(i:Int) + 1 ∈ c)):=by
    rw [List.mem_cons]
    constructor
    ·rintro ⟨h,h2 | h2⟩
     ·exact Or.inl (by omega)
     ·exact Or.inr ⟨h,h2⟩
    ·rintro (h | ⟨h,h2⟩)
     ·exact ⟨by omega,Or.inl (by omega)⟩
     ·exact ⟨h,Or.inr h2⟩
   refine ⟨?_,by simp only [e2]⟩
   show ((s.1 ||| 2 ^ (x.toNat - 1)).testBit i || _)=_
   rw [bit_or,Bool.or_assoc,<- Bool.decide_or]
   simp only [e1]
  ·rw [if_neg h1]
   by_cases h2:-24<=x/\x<0
   ·rw [if_pos h2]
    have e2:((i:Int) + 1 ∈ x :: c) ↔ (i:Int) + 1 ∈ c:=by
     rw [List.mem_cons];exact ⟨fun h=>h.resolve_left (by omega),Or.inr⟩
    have e1:(i<24/\-((i:Int) + 1) ∈ x :: c) ↔ ((-x).toNat - 1=i\/(i<24/\-((i:Int) + 1) ∈ c)):=by
     rw [List.mem_cons]
     constructor
     ·rintro ⟨h,h3 | h3⟩
      ·exact Or.inl (by omega)
      ·exact Or.inr ⟨h,h3⟩
     ·rintro (h | ⟨h,h3⟩)
      ·exact ⟨by omega,Or.inl (by omega)⟩
      ·exact ⟨h,Or.inr h3⟩
    refine ⟨by simp only [e2],?_⟩
    show ((s.2 ||| 2 ^ ((-x).toNat - 1)).testBit i || _)=_
    rw [bit_or,Bool.or_assoc,<- Bool.decide_or]
    simp only [e1]
   ·rw [if_neg h2]
    have e1:(i<24/\(i:Int) + 1 ∈ x :: c) ↔ (i<24/\(i:Int) + 1 ∈ c):=by
     rw [List.mem_cons]
     exact ⟨fun ⟨h,h3⟩=>⟨h,h3.resolve_left (by omega)⟩,fun ⟨h,h3⟩=>⟨h,Or.inr h3⟩⟩
    have e2:(i<24/\-((i:Int) + 1) ∈ x :: c) ↔ (i<24/\-((i:Int) + 1) ∈ c):=by
     rw [List.mem_cons]
     exact ⟨fun ⟨h,h3⟩=>⟨h,h3.resolve_left (by omega)⟩,fun ⟨h,h3⟩=>⟨h,Or.inr h3⟩⟩
    simp only [e1,e2,and_self]
theorem sides_yes (c:List Int) (i:Nat):(sidesF c).1.testBit i=decide (i<24/\(i:Int) + 1 ∈ c):=by
 have:=(fold_bits c (0,0) i).1
 simpa [sidesF] using this
theorem sides_no (c:List Int) (i:Nat):(sidesF c).2.testBit i=decide (i<24/\-((i:Int) + 1) ∈ c):=by
 have:=(fold_bits c (0,0) i).2
 simpa [sidesF] using this
def Small (s:Nat × Nat):Prop:=s.1<2 ^ 24/\s.2<2 ^ 24
theorem small_of {m:Nat} (h:∀ i,24<=i->m.testBit i=false):m<2 ^ 24:=Nat.lt_pow_two_of_testBit m h
theorem sides_small (c:List Int):Small (sidesF c) :=
 ⟨small_of fun i hi=>by rw [sides_yes];simp;omega,small_of fun i hi=>by rw [sides_no];simp;omega⟩
def alwaysF (s:Nat × Nat):Bool:=decide (s.1 &&& s.2 ≠ 0)
theorem always_iff {s:Nat × Nat}:alwaysF s=true ↔ ∃ i,s.1.testBit i=true/\s.2.testBit i=true:=by
 unfold alwaysF
 rw [decide_eq_true_eq]
 constructor
 ·intro h
  obtain ⟨i,hi⟩:=Nat.exists_testBit_of_ne_zero h
  rw [Nat.testBit_and,Bool.and_eq_true] at hi
  exact ⟨i,hi⟩
 ·rintro ⟨i,h1,h2⟩ h
  have:(s.1 &&& s.2).testBit i=true:=by rw [Nat.testBit_and,h1,h2];rfl
  rw [h] at this
  simp at this
def litOf (s:Nat × Nat) (i:Nat):Option Int:=if s.1.testBit i=true then some ((i:Int) + 1) else if s.2.testBit i=true then some (-((i:Int) + 1)) else none
def clauseK (s:Nat × Nat) (k:Nat):List Int:=(List.range k).filterMap (litOf s)
def clauseF (s:Nat × Nat):List Int:=clauseK s 24
theorem clauseK_succ (s:Nat × Nat) (k:Nat):clauseK s (k + 1)=clauseK s k++(litOf s k).toList:=by
 unfold clauseK
 rw [List.range_succ,List.filterMap_append]
 congr 1
theorem clauseK_len (s:Nat × Nat) (k:Nat):(clauseK s k).length<=k:=by
 unfold clauseK
 refine Nat.le_trans (List.length_filterMap_le _ _) ?_
 simp
theorem mem_clauseF {s:Nat × Nat} (ha:alwaysF s=false) {x:Int}:x ∈ clauseF s ↔ ∃ i:Nat,i<24/\((x=(i:Int) + 1/\s.1.testBit i=true)\/(x=-((i:Int) + 1)/\s.2.testBit i=true)):=by
 unfold clauseF clauseK
 rw [List.mem_filterMap]
 constructor
 ·rintro ⟨i,hi,h⟩
  rw [List.mem_range] at hi
  unfold litOf at h
  by_cases h1:s.1.testBit i=true
  ·rw [if_pos h1] at h
   exact ⟨i,hi,Or.inl ⟨(Option.some.inj h).symm,h1⟩⟩
  ·rw [if_neg h1] at h
   by_cases h2:s.2.testBit i=true
   ·rw [if_pos h2] at h
    exact ⟨i,hi,Or.inr ⟨(Option.some.inj h).symm,h2⟩⟩
   ·rw [if_neg h2] at h;cases h
 ·rintro ⟨i,hi,⟨e,h1⟩ | ⟨e,h2⟩⟩
  ·exact ⟨i,List.mem_range.2 hi,by unfold litOf;rw [if_pos h1,e]⟩
  ·refine ⟨i,List.mem_range.2 hi,?_⟩
   unfold litOf
   rw [if_neg,if_pos h2,e]
   intro h1
   have:=always_iff.2 ⟨i,h1,h2⟩
   rw [ha] at this;cases this
theorem alwaysF_both {c:List Int} (hl:Lits 24 c):alwaysF (sidesF c)=true ↔ ∃ x ∈ c,-x ∈ c:=by
 rw [always_iff]
 constructor
 ·rintro ⟨i,h1,h2⟩
  rw [sides_yes,decide_eq_true_eq] at h1
  rw [sides_no,decide_eq_true_eq] at h2
  exact ⟨_,h1.2,h2.2⟩
 ·rintro ⟨x,hx,hn⟩
  have h:=litB_iff.1 (hl x hx)
  by_cases hp:0<x
  ·refine ⟨x.toNat - 1,?_,?_⟩
   ·rw [sides_yes,decide_eq_true_eq];exact ⟨by omega,by rw [show ((x.toNat - 1:Nat):Int) + 1=x by omega];exact hx⟩
   ·rw [sides_no,decide_eq_true_eq];exact ⟨by omega,by rw [show ((x.toNat - 1:Nat):Int) + 1=x by omega];exact hn⟩
  ·refine ⟨(-x).toNat - 1,?_,?_⟩
   ·rw [sides_yes,decide_eq_true_eq];exact ⟨by omega,by rw [show (((-x).toNat - 1:Nat):Int) + 1=-x by omega];exact hn⟩
   ·rw [sides_no,decide_eq_true_eq];exact ⟨by omega,by rw [show (((-x).toNat - 1:Nat):Int) + 1=-x by omega,Int.neg_neg];exact hx⟩
theorem mem_form {c:List Int} (hl:Lits 24 c) (ha:alwaysF (sidesF c)=false) {x:Int}:x ∈ clauseF (sidesF c) ↔ x ∈ c:=by
 rw [mem_clauseF ha]
 constructor
 ·rintro ⟨i,hi,⟨e,h⟩ | ⟨e,h⟩⟩
  ·rw [sides_yes,decide_eq_true_eq] at h;rw [e];exact h.2
  ·rw [sides_no,decide_eq_true_eq] at h;rw [e];exact h.2
 ·intro hx
  have h:=litB_iff.1 (hl x hx)
  by_cases hp:0<x
  ·refine ⟨x.toNat - 1,by omega,Or.inl ⟨by omega,?_⟩⟩
   rw [sides_yes,decide_eq_true_eq];exact ⟨by omega,by rw [show ((x.toNat - 1:Nat):Int) + 1=x by omega];exact hx⟩
  ·refine ⟨(-x).toNat - 1,by omega,Or.inr ⟨by omega,?_⟩⟩
   rw [sides_no,decide_eq_true_eq];exact ⟨by omega,by rw [show (((-x).toNat - 1:Nat):Int) + 1=-x by omega,Int.neg_neg];exact hx⟩
end Go.Proofs.YtlahnpmoeefapaaGreatDoor
