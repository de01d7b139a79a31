/- slices.Backward of ints: a function that is ranged over. -/
import Derived.Test.YtlahnpmoeefapaaGreatDoorBdOpsW
import Derived.Test.YtlahnpmoeefapaaGreatDoorBdFun
import Derived.Test.YtlahnpmoeefapaaGreatDoorPfForm
import Derived.WalkSmall
import Derived.Test.YtlahnpmoeefapaaGreatDoorSpMath
import Derived.RangeFuncWrites
import Derived.RangeFuncBound
import Derived.RangeFuncNested
import Derived.RangeFuncCalls
import Derived.RangeFuncLeaves
import Derived.Shelf.Abstract
import Derived.OwnWalkIn
import Derived.TacticsInMore
import Derived.LoopNIn
import Derived.LoopIn
set_option maxHeartbeats 4000000
set_option maxRecDepth 100000
namespace Go.Proofs.YtlahnpmoeefapaaGreatDoor.Bd
open Go.RowKit Go.Maps
theorem lawI:Keyed Tryz.prog 3:=int_keyed Tryz.underlying3
theorem keyI {x:Int} (h:I64 x):keyOf Tryz.prog 3 (.int .i64 x)=some (.int .i64 x):=keyOf_int_mk Tryz.underlying3 (wf_of h)
end Go.Proofs.YtlahnpmoeefapaaGreatDoor.Bd
namespace Go.Proofs.YtlahnpmoeefapaaGreatDoor.Bd
open Go.RowKit Go.Maps
theorem getOf_node {ns:List Nd} {x:Int} (e:topOf ns x ≠ 24):getOf ns x=nd ns (pl x):=by unfold getOf;rw [if_neg e];rfl
end Go.Proofs.YtlahnpmoeefapaaGreatDoor.Bd
namespace Go.Proofs.YtlahnpmoeefapaaGreatDoor.Bd
open Go.RowKit Go.Maps
theorem ints1 (w:World) (x:Int) (hx:I64 x):IntsAt (w.alloc (.cells #[.int .i64 x] 3)) w.heap.size [x] :=
 ⟨by simp,fun i hi=>by
  obtain rfl:i=0:=by simp at hi;omega
  simp,fun z hz=>by rw [List.mem_singleton] at hz;subst hz;exact hx⟩
end Go.Proofs.YtlahnpmoeefapaaGreatDoor.Bd
namespace Go.Proofs.YtlahnpmoeefapaaGreatDoor.Bd
open Go.RowKit Go.Maps
section
variable {B s b:Nat} {O:Nat->Prop} {vars:Nat} {room:Int} {ns:List Nd} {w w':World}
theorem bnew_any (vars:Nat) (hv:vars<=24) (room:Int) (h0:0<=room) (h1:room<=4000) (w:World) (B:Nat) (hB:B<=w.heap.size) :
  Calls Tryz.prog 64 #[.int .i64 (vars:Int),.int .i64 room] w fun e w'=>∃ s b O,e=.returned (.tuple #[.pointer (some ⟨s,0,none⟩),.nilIface])/\SpaceAt B w' s b O vars room []/\w.heap.size<=s/\(∀ k,O k->w.heap.size<=k)/\Below w.heap.size w w':=by
 have HN:=Lib.hid (new_any room h0 h1 w w.heap.size (Nat.le_refl _))
 go_enter Tryz.func64,Tryz.ntmps64
 go_wp2_with fail
 refine HN.out.mono ?_
 rintro e w1 ⟨rfl,hA1,hb1⟩
 have hs:=hb1.size
 have hO:=(fun k (h:Own (w.heap.size + 1) w.heap.size (.slice none 0 0) k)=>(show w.heap.size<=k/\k<w1.heap.size from by
  obtain ⟨D,hD,-⟩:=hA1.hmap
  have hbm:=hD.lt
  have hlt:=hA1.lt
  rcases h with h | h | h
  ·omega
  ·omega
  ·simp [Value.ownBlock] at h))
 have hb2:=hb1.alloc hs (.cells #[.pointer (some ⟨w.heap.size + 1,0,none⟩),.int .i64 (vars:Int)] 144)
 have hA2:=hA1.kept (Kept.alloc (fun _=>False) w1 (.cells #[.pointer (some ⟨w.heap.size + 1,0,none⟩),.int .i64 (vars:Int)] 144)) (fun _ _ h=>h)
 have hfin:SpaceAt B (w1.alloc (.cells #[.pointer (some ⟨w.heap.size + 1,0,none⟩),.int .i64 (vars:Int)] 144)) w1.heap.size (w.heap.size + 1) (Own (w.heap.size + 1) w.heap.size (.slice none 0 0)) vars room []:=by
  have hA3:ArenaAt B (w1.alloc (.cells #[.pointer (some ⟨w.heap.size + 1,0,none⟩),.int .i64 (vars:Int)] 144)) (w.heap.size + 1) w.heap.size (.slice none 0 0) [] [] room 2 :=
   ⟨hA2.lt,hA2.croom,hA2.cnodes,hA2.cmap,hA2.cnext,hA2.froz,ownsRow_base hA2.row hB,hA2.hmap,hA2.d1,hA2.d2,hA2.d3,by omega,hB⟩
  refine ⟨⟨_,_,[],2,hA3,⟨fun p h=>by simp at h,fun j h=>by simp at h,by simp,fun j h=>by simp at h⟩,⟨0,rfl,by simp,fun j h=>by omega⟩,fun _ h=>h⟩,fun k hk=>⟨by have:=(hO k hk).1;omega,by have:=(hO k hk).2;simp;omega⟩,fun ho=>by have:=(hO _ ho).2;omega,by simp,by simp,by simp⟩
 have HF:=Lib.hid hfin
 have HB2:=Lib.hid hb2
 have HO:=Lib.hid hO
 clear HN hA1 hA2 hfin hb2 hO
 go_wp2
 go_ret2
 exact ⟨_,_,_,rfl,HF.out,hs,fun k hk=>(HO.out k hk).1,HB2.out⟩
theorem vars_any (h:SpaceAt B w s b O vars room ns):Calls Tryz.prog 14 #[.pointer (some ⟨s,0,none⟩)] w fun e w'=>e=.returned (.int .i64 (vars:Int))/\w=w':=by
 have c1:=h.c1
 clear h
 go_enter Tryz.func14,Tryz.ntmps14
 go_wp2
 go_ret
 exact ⟨rfl,rfl⟩
theorem free_op (h:SpaceAt B w s b O vars room ns) (hr:Ranked ns) (hl:ns.length<=90000) (hB:B<=w.heap.size) (bf:Nat) {cp:Nat} (fs:List Int) (hF:IntsAt w bf fs) (hfl:fs.length<=1000) :
  Calls Tryz.prog 140 #[.pointer (some ⟨s,0,none⟩),.slice (some ⟨bf,0,none⟩) fs.length cp] w fun e w'=>∃ n:Int,e=.returned (.int .i64 n)/\∃ O',SpaceAt B w' s b O' vars room (swept ns (marksOf ns fs))/\Moves O O' w w':=by
 have c0:=h.c0
 have HC:=Lib.hid (spSweep (cp:=cp) h hr hl hB bf fs hF hfl)
 generalize fs.length=n at *
 clear h hF hr
 go_enter Tryz.func140,Tryz.ntmps140
 go_wp2_with fail
 refine HC.out.mono ?_
 rintro e w1 ⟨n,rfl,hO⟩
 go_wp2
 go_ret
 exact ⟨n,rfl,hO⟩
end
end Go.Proofs.YtlahnpmoeefapaaGreatDoor.Bd
namespace Go.Proofs.YtlahnpmoeefapaaGreatDoor.Bd
open Go.RowKit Go.Maps
section
variable {B s b:Nat} {O:Nat->Prop} {vars:Nat} {room:Int} {ns:List Nd} {w w':World}
theorem holds_any (h:SpaceAt B w s b O vars room ns) (hg:Good vars ns) (hl:ns.length<=90000) (x:Int) (hx:hasB ns x=true) (vals:Nat) (hvals:vals<18446744073709551616) :
  Calls Tryz.prog 33 #[.pointer (some ⟨s,0,none⟩),.int .i64 x,.int .u64 (vals:Int)] w fun e w'=>e=.returned (.tuple #[.bool (sem ns x (bitsF vals)),.nilIface])/\Below w.heap.size w w':=by
 have hi:=has_i64 hx (by omega)
 have HP:=present_any (cp:=1) (h.new (below_new w (.cells #[.int .i64 x] 3))) (by omega) w.heap.size [x] (ints1 w x hi) (by simp) (fun y hy=>by rw [List.mem_singleton] at hy;subst hy;exact hx)
 rw [show [x].length=1 from rfl] at HP
 have HPR:=Lib.hid HP
 have hb:=below_new w (.cells #[.int .i64 x] 3)
 have HGT:Hid (∀ (y:Int) (W:World),hasB ns y=true->Below w.heap.size w W->Calls Tryz.prog 82 #[.pointer (some ⟨b,0,none⟩),.int .i64 y] W fun e w'=>e=.returned (.tuple #[.agg #[.int .i64 (getOf ns y).v,.int .i64 (getOf ns y).l,.int .i64 (getOf ns y).h],.bool (decide (topOf ns y ≠ 24))])/\Below W.heap.size W w'):=fun y W hy hW=>spGet (h.new hW) y (has_i64 hy (by omega)) hl
 have HC:Hid (∀ W,Below w.heap.size w W->W.cell? ⟨s,0,none⟩=some (.pointer (some ⟨b,0,none⟩))):=fun W hW=>(h.new hW).c0
 have HG:=Lib.hid hg
 have c0:=HC.out _ hb
 have HB:=Lib.hid hb
 have G0:=Lib.hid (HGT.out x _ hx hb)
 have HX:=Lib.hid hx
 clear HP h hg hb hx
 generalize hge:getOf ns x=gn at *
 generalize htp:decide (topOf ns x ≠ 24)=tb at *
 obtain ⟨gv,gl,gh⟩:=gn
 have HGE:=Lib.hid hge
 have HTP:=Lib.hid htp
 clear hge htp
 simp only at G0
 go_enter Tryz.func33,Tryz.ntmps33
 go_wp2_with fail
 refine HPR.out.mono ?_
 rintro e w1 ⟨rfl,rfl⟩
 clear HPR
 go_wp2_with fail
 refine G0.out.mono ?_
 rintro e w2 ⟨rfl,hb2⟩
 have hb3:Below w.heap.size w w2:=HB.out.trans (hb2.mono HB.out.size)
 have T0:=Lib.hid (tri_new w2 gv gl gh 161)
 have B4:=Lib.hid (hb3.alloc hb3.size (.cells #[.int .i64 gv,.int .i64 gl,.int .i64 gh] 161))
 clear G0 hb2 hb3 c0
 go_wp2_with fail
 go_loopw [1,9,10] (fun hV nV okV wr=>∃ (y:Int) (p:Nat),hV=.int .i64 y/\nV=.pointer (some ⟨p,0,none⟩)/\okV=.bool (decide (topOf ns y ≠ 24))/\Tri wr p (getOf ns y).v (getOf ns y).l (getOf ns y).h/\hasB ns y=true/\sem ns y (bitsF vals)=sem ns x (bitsF vals)/\Below w.heap.size w wr)
  (fun hV _ _ _=>(24 - topOf ns (intOf hV)).toNat)
 case atStart =>
  refine ⟨x,w2.heap.size,rfl,rfl,by rw [HTP.out],by rw [HGE.out];exact T0.out,HX.out,rfl,B4.out⟩
 case round =>
  obtain ⟨y,p,rfl,rfl,rfl,hT,hy,hsm,hbr⟩:=hrel
  clear T0 B4
  by_cases ht:topOf ns y=24
  ·have dt:decide (topOf ns y ≠ 24)=false:=by simp [ht]
   rw [dt]
   have hres:sem ns x (bitsF vals)=(y == 1):=by
    rw [<- hsm,sem_end ht]
    by_cases e:y=1 <;> simp [e]
   have HRES:=Lib.hid hres
   clear dt hres hsm hT ht
   go_wp2
   go_ret2
   exact ⟨by rw [HRES.out];rfl,hbr⟩
  ·have hr:=HG.out.ranked
   have hk:=kids hr ht
   have hgn:getOf ns y=nd ns (pl y):=by unfold getOf;rw [if_neg ht];rfl
   rw [hgn] at hT
   have ht0:=(topOf_le hr y).1
   have htl:=top_lt hr ht
   have hgv:(nd ns (pl y)).v=topOf ns y:=(node_at ht).2.2.1.symm
   have hsn:=sem_node hr ht (bitsF vals)
   rw [hgv] at hT
   have dt:decide (topOf ns y ≠ 24)=true:=by simp [ht]
   rw [dt]
   generalize hty:topOf ns y=ty at *
   have HTY:=Lib.hid hty
   clear hty
   obtain ⟨v,rfl⟩:∃ v:Nat,ty=(v:Int):=⟨ty.toNat,by omega⟩
   have q0:=hT.c0
   have q1:=hT.c1
   have q2:=hT.c2
   have HTT:=Lib.hid hT
   have hbx:=below_new wr (.cells #[.int .i64 (v:Int),.int .i64 (nd ns (pl y)).l,.int .i64 (nd ns (pl y)).h] 161)
   have hbx':=hbr.trans (hbx.mono hbr.size)
   have yc:=HC.out _ hbx'
   have HBX:=Lib.hid hbx'
   have TX:=Lib.hid (tri_new wr (v:Int) (nd ns (pl y)).l (nd ns (pl y)).h 161)
   have hsb:=shr_bit vals v hvals
   have hvt:((v:Int)).toNat=v:=by omega
   rw [hvt] at hsn
   have HSN:=Lib.hid (hsn.symm.trans hsm)
   have bx0:wr.heap.size<(wr.alloc (.cells #[.int .i64 (v:Int),.int .i64 (nd ns (pl y)).l,.int .i64 (nd ns (pl y)).h] 161)).heap.size:=by simp
   have KL:=Lib.hid hk.2.1
   have KH:=Lib.hid hk.2.2.2
   have k1:=hk.1
   have k2:=hk.2.2.1
   clear hT hsm hsn hk hgn hgv dt hbx hbx' hvt
   generalize (nd ns (pl y)).l=lo at *
   generalize (nd ns (pl y)).h=hi' at *
   cases hbit:bitsF vals v with
   | true =>
    rw [hbit] at hsb
    have HSN':Hid (sem ns hi' (bitsF vals)=sem ns x (bitsF vals)):=by have:=HSN.out;rw [hbit,if_pos rfl] at this;exact this
    have G1:=Lib.hid (HGT.out hi' _ KH.out HBX.out)
    clear hbit HSN
    go_wp2_with fail
    refine G1.out.mono ?_
    rintro e w5 ⟨rfl,hb5⟩
    have t5:=TX.out.new hb5
    have z0:=t5.c0
    have z1:=t5.fz 0
    have t6:=t5.set0 (getOf ns hi').v
    have z2:=t6.c1
    have z3:=t6.fz 1
    have t7:=t6.set1 (getOf ns hi').l
    have z4:=t7.c2
    have z5:=t7.fz 2
    have T8:=Lib.hid (t7.set2 (getOf ns hi').h)
    have hb6:=HBX.out.trans (hb5.mono HBX.out.size)
    have hws:=hbr.size
    have HB8:Hid (Below w.heap.size w (((w5.setCell ⟨wr.heap.size,0,none⟩ (.int .i64 (getOf ns hi').v)).setCell ⟨wr.heap.size,1,none⟩ (.int .i64 (getOf ns hi').l)).setCell ⟨wr.heap.size,2,none⟩ (.int .i64 (getOf ns hi').h))):=((hb6.setCell hws _).setCell hws _).setCell hws _
    clear t5 t6 t7 hb6 hb5 G1
    generalize hgy:getOf ns hi'=gy at *
    obtain ⟨g0,g1,g2⟩:=gy
    have HGY:=Lib.hid hgy
    clear hgy
    simp only at z2 z4 T8 HB8 z3 z5
    go_wp2
    go_roundw
    case rel=>exact ⟨hi',wr.heap.size,rfl,rfl,by simp,by rw [HGY.out];exact T8.out,KH.out,HSN'.out,HB8.out⟩
    case measure =>
     show (24 - topOf ns hi').toNat<(24 - topOf ns y).toNat
     rw [HTY.out];omega
   | false =>
    rw [hbit] at hsb
    have HSN':Hid (sem ns lo (bitsF vals)=sem ns x (bitsF vals)):=by have:=HSN.out;rw [hbit,if_neg (by simp)] at this;exact this
    have G1:=Lib.hid (HGT.out lo _ KL.out HBX.out)
    clear hbit HSN
    go_wp2_with fail
    refine G1.out.mono ?_
    rintro e w5 ⟨rfl,hb5⟩
    have t5:=TX.out.new hb5
    have z0:=t5.c0
    have z1:=t5.fz 0
    have t6:=t5.set0 (getOf ns lo).v
    have z2:=t6.c1
    have z3:=t6.fz 1
    have t7:=t6.set1 (getOf ns lo).l
    have z4:=t7.c2
    have z5:=t7.fz 2
    have T8:=Lib.hid (t7.set2 (getOf ns lo).h)
    have hb6:=HBX.out.trans (hb5.mono HBX.out.size)
    have hws:=hbr.size
    have HB8:Hid (Below w.heap.size w (((w5.setCell ⟨wr.heap.size,0,none⟩ (.int .i64 (getOf ns lo).v)).setCell ⟨wr.heap.size,1,none⟩ (.int .i64 (getOf ns lo).l)).setCell ⟨wr.heap.size,2,none⟩ (.int .i64 (getOf ns lo).h))):=((hb6.setCell hws _).setCell hws _).setCell hws _
    clear t5 t6 t7 hb6 hb5 G1
    generalize hgy:getOf ns lo=gy at *
    obtain ⟨g0,g1,g2⟩:=gy
    have HGY:=Lib.hid hgy
    clear hgy
    simp only at z2 z4 T8 HB8 z3 z5
    go_wp2
    go_roundw
    case rel=>exact ⟨lo,wr.heap.size,rfl,rfl,by simp,by rw [HGY.out];exact T8.out,KL.out,HSN'.out,HB8.out⟩
    case measure =>
     show (24 - topOf ns lo).toNat<(24 - topOf ns y).toNat
     rw [HTY.out];omega
end
end Go.Proofs.YtlahnpmoeefapaaGreatDoor.Bd
namespace Go.Proofs.YtlahnpmoeefapaaGreatDoor.Bd
open Go.RowKit Go.Maps
section
variable {B s b:Nat} {O:Nat->Prop} {vars:Nat} {room:Int} {ns:List Nd} {w w':World}
theorem spLen (h:SpaceAt B w s b O vars room ns):Calls Tryz.prog 199 #[.pointer (some ⟨b,0,none⟩)] w fun e w'=>e=.returned (.int .i64 ((taken ns).length:Int))/\w=w':=by
 obtain ⟨bm,v,L,next,hA,hBk,-,hO⟩:=h.arena
 rw [<- book_len hBk];exact len_any hA
end
end Go.Proofs.YtlahnpmoeefapaaGreatDoor.Bd
namespace Go.Proofs.YtlahnpmoeefapaaGreatDoor
open Go.RowKit
theorem ix_cls (F:Nat) (cb:Array Value) (p:List Int->Bool) (xs:List (List Int)) (a:Option Addr) (cap:Nat) (w:World) (hm:xs.length<=9223372036854775807)
  (hent:∀ args w,(callFunc F args).run Tryz.prog w=.ok (.enter F args) w) (hI:ClsIn w a xs)
  (hf:∀ W i (a':Option Addr) (cap':Nat),Below w.heap.size w W->i<xs.length->cap'<=9223372036854775807->(xs.getD i []).length<=cap'->IntsIn W a' (xs.getD i [])->Calls Tryz.prog F (#[.slice a' (xs.getD i []).length cap']++cb) W fun e w'=>e=.returned (.bool (p (xs.getD i [])))/\Below W.heap.size W w') :
  Calls Tryz.prog 157 #[.slice a xs.length cap,.func (.func F) #[] cb] w fun e w'=>e=.returned (.int .i64 (idxF p xs))/\Below w.heap.size w w':=by
 have HF:=Lib.hid hf
 have HI:=Lib.hid hI
 clear hf hI
 go_enter Tryz.func157,Tryz.ntmps157
 go_wp2_with fail
 go_loopw [8] (fun kV wr=>∃ k:Nat,k<=xs.length/\kV=.int .i64 (k:Int)/\(∀ j,j<k->p (xs.getD j [])=false)/\Below w.heap.size w wr) (fun kV _=>xs.length - (intOf kV).toNat)
 case atStart=>exact ⟨0,Nat.zero_le _,rfl,fun j h=>by omega,Below.refl _ _⟩
 case round =>
  obtain ⟨k,hk,rfl,h1,hbr⟩:=hrel
  have H1:=Lib.hid h1
  have HBR:=Lib.hid hbr
  clear h1 hbr
  by_cases hlt:k<xs.length
  ·obtain ⟨ad,a',cap',rfl,hl,hc,g1,g2,g3⟩:=HI.out.below HBR.out k hlt
   have HC:=Lib.hid (HF.out wr k a' cap' HBR.out hlt g2 g1 g3)
   clear g3 g1 g2
   cases hp:p (xs.getD k []) with
   | true =>
    rw [hp] at HC
    have HP:=Lib.hid hp
    clear hp
    generalize hx:xs.getD k []=x at *
    have HX:=Lib.hid hx
    clear hx
    go_wp2_with fail
    refine HC.out.mono ?_
    rintro e w1 ⟨rfl,hb1⟩
    have HB1:Hid (Below w.heap.size w w1):=HBR.out.trans (hb1.mono HBR.out.size)
    clear hb1 HC
    go_wp2
    go_ret
    exact ⟨by rw [idxF_hit H1.out hlt (by rw [HX.out];exact HP.out)];rfl,HB1.out⟩
   | false =>
    rw [hp] at HC
    have HP:=Lib.hid hp
    clear hp
    generalize hx:xs.getD k []=x at *
    have HX:=Lib.hid hx
    clear hx
    go_wp2_with fail
    refine HC.out.mono ?_
    rintro e w1 ⟨rfl,hb1⟩
    have HB1:Hid (Below w.heap.size w w1):=HBR.out.trans (hb1.mono HBR.out.size)
    clear hb1 HC
    go_wp2
    go_roundw
    case rel=>exact ⟨k + 1,hlt,by go_num,fun j hj=>(by
     rcases Nat.lt_succ_iff_lt_or_eq.1 hj with e | e
     ·exact H1.out j e
     ·rw [e,HX.out];exact HP.out),HB1.out⟩
    case measure=>simp [intOf];omega
  ·obtain rfl:k=xs.length:=by omega
   go_wp2
   go_ret
   exact ⟨by rw [idxF_none H1.out];rfl,HBR.out⟩
theorem cf_cls (F:Nat) (cb:Array Value) (p:List Int->Bool) (xs:List (List Int)) (a:Option Addr) (cap:Nat) (w:World) (hm:xs.length<=9223372036854775807)
  (hent:∀ args w,(callFunc F args).run Tryz.prog w=.ok (.enter F args) w) (hI:ClsIn w a xs)
  (hf:∀ W i (a':Option Addr) (cap':Nat),Below w.heap.size w W->i<xs.length->cap'<=9223372036854775807->(xs.getD i []).length<=cap'->IntsIn W a' (xs.getD i [])->Calls Tryz.prog F (#[.slice a' (xs.getD i []).length cap']++cb) W fun e w'=>e=.returned (.bool (p (xs.getD i [])))/\Below W.heap.size W w') :
  Calls Tryz.prog 92 #[.slice a xs.length cap,.func (.func F) #[] cb] w fun e w'=>e=.returned (.bool (xs.any p))/\Below w.heap.size w w':=by
 have H:=Lib.hid (ix_cls F cb p xs a cap w hm hent hI hf)
 clear hf hI hent
 rw [<- idxF_any]
 generalize idxF p xs=i at *
 go_enter Tryz.func92,Tryz.ntmps92
 go_wp2_with fail
 refine H.out.mono ?_
 rintro e w1 ⟨rfl,hb1⟩
 have HB1:=Lib.hid hb1
 clear hb1 H
 go_wp2
 go_ret
 exact ⟨by first | rfl | simp,HB1.out⟩
end Go.Proofs.YtlahnpmoeefapaaGreatDoor
namespace Go.Proofs.YtlahnpmoeefapaaGreatDoor
open Go.RowKit
theorem holds1_any (x:Int) (vals:Nat) (hv:vals<18446744073709551616) (b:Nat) (w:World) (hc:w.cell? ⟨b,0,none⟩=some (.int .u64 (vals:Int))) :
  Calls Tryz.prog 158 #[.int .i64 x,.pointer (some ⟨b,0,none⟩)] w fun e w'=>e=.returned (.bool (litK vals x))/\w=w':=by
 have HL:=Lib.hid (literal_any x 24 (by omega) (by omega) w)
 cases hb:litB 24 x with
 | false =>
  rw [hb] at HL
  have e:litK vals x=false:=by unfold litK;rw [hb];rfl
  rw [e]
  clear e hb
  go_enter Tryz.func158,Tryz.ntmps158
  go_wp2_with fail
  refine HL.out.mono ?_
  rintro e w1 ⟨rfl,rfl⟩
  go_wp2
  go_ret
  exact ⟨rfl,rfl⟩
 | true =>
  rw [hb] at HL
  have e:litK vals x=litH vals x:=by unfold litK;rw [hb];rfl
  rw [e]
  have hx:x ≠ 0/\-24<=x/\x<=24:=by simpa [litB] using hb
  clear e hb
  by_cases hp:0<x
  ·obtain ⟨t,rfl⟩:∃ t:Nat,x=(t:Int) + 1:=⟨x.toNat - 1,by omega⟩
   have hh:litH vals ((t:Int) + 1)=vals.testBit t:=by unfold litH;rw [if_pos hp];congr 1
   rw [hh]
   have ht:t<24:=by omega
   have hs:=shr_bit1 vals t hv
   clear hx hh
   go_enter Tryz.func158,Tryz.ntmps158
   go_wp2_with fail
   refine HL.out.mono ?_
   rintro e w1 ⟨rfl,rfl⟩
   clear HL
   go_wp2
   go_ret
   exact ⟨by first | rfl | simp,rfl⟩
  ·obtain ⟨t,rfl⟩:∃ t:Nat,x=-((t:Int) + 1):=⟨(-x).toNat - 1,by omega⟩
   have hh:litH vals (-((t:Int) + 1))=!vals.testBit t:=by
    unfold litH;rw [if_neg hp,show (- -((t:Int) + 1)).toNat - 1=t by omega]
   rw [hh]
   have ht:t<24:=by omega
   have hs:=shr_bit0 vals t hv
   clear hx hh
   go_enter Tryz.func158,Tryz.ntmps158
   go_wp2_with fail
   refine HL.out.mono ?_
   rintro e w1 ⟨rfl,rfl⟩
   clear HL
   go_wp2
   go_ret
   exact ⟨by first | rfl | simp,rfl⟩
theorem ent_holds1:∀ args w,(callFunc 158 args).run Tryz.prog w=.ok (.enter 158 args) w:=by intro args w;kernel_rfl
theorem ent_allHold1:∀ args w,(callFunc 93 args).run Tryz.prog w=.ok (.enter 93 args) w:=by intro args w;kernel_rfl
theorem holds_any (c:List Int) (a:Option Addr) (cap:Nat) (vals:Nat) (hv:vals<18446744073709551616) (w:World) (hI:IntsIn w a c) (hm:c.length<=9223372036854775807) :
  Calls Tryz.prog 94 #[.slice a c.length cap,.int .u64 (vals:Int)] w fun e w'=>e=.returned (.bool (holdK vals c))/\Below w.heap.size w w':=by
 have hb:=below_new w (.cells #[.int .u64 (vals:Int)] 48)
 have HC:=Lib.hid (cf_ints 158 #[.pointer (some ⟨w.heap.size,0,none⟩)] (litK vals) c a cap (w.alloc (.cells #[.int .u64 (vals:Int)] 48)) hm ent_holds1 (hI.below hb) (fun W i hW hi=>(holds1_any (c.getD i 0) vals hv w.heap.size W ((hW.cell (p:=⟨w.heap.size,0,none⟩) (by simp)).trans (by simp))).mono fun e w' ⟨he,hw⟩=>⟨he,hw ▸ Below.refl _ _⟩))
 have HB:=Lib.hid hb
 clear hb hI
 show Calls Tryz.prog 94 _ w fun e w'=>e=.returned (.bool (c.any (litK vals)))/\_
 generalize c.any (litK vals)=B at *
 go_enter Tryz.func94,Tryz.ntmps94
 go_wp2_with fail
 refine HC.out.mono ?_
 rintro e w1 ⟨rfl,hb1⟩
 have HB1:Hid (Below w.heap.size w w1):=HB.out.trans (hb1.mono HB.out.size)
 clear hb1 HC
 go_wp2
 go_ret
 exact ⟨rfl,HB1.out⟩
theorem allHold1_any (c:List Int) (a:Option Addr) (cap:Nat) (vals:Nat) (hv:vals<18446744073709551616) (b:Nat) (w:World) (hc:w.cell? ⟨b,0,none⟩=some (.int .u64 (vals:Int))) (hI:IntsIn w a c) (hm:c.length<=9223372036854775807) :
  Calls Tryz.prog 93 #[.slice a c.length cap,.pointer (some ⟨b,0,none⟩)] w fun e w'=>e=.returned (.bool (!holdK vals c))/\Below w.heap.size w w':=by
 have HC:=Lib.hid (holds_any c a cap vals hv w hI hm)
 clear hI
 generalize holdK vals c=B at *
 go_enter Tryz.func93,Tryz.ntmps93
 go_wp2_with fail
 refine HC.out.mono ?_
 rintro e w1 ⟨rfl,hb1⟩
 have HB1:=Lib.hid hb1
 clear hb1 HC
 go_wp2
 go_ret
 exact ⟨by first | rfl | simp,HB1.out⟩
def allK (vals:Nat) (l:List (List Int)):Bool:=l.all (holdK vals)
theorem allK_eq (vals:Nat) (l:List (List Int)):allK vals l=!(l.any fun c=>!holdK vals c):=by
 unfold allK;rw [List.all_eq_not_any_not]
theorem allHold_any (l:List (List Int)) (a:Option Addr) (cap:Nat) (vals:Nat) (hv:vals<18446744073709551616) (w:World) (hI:ClsIn w a l) (hm:l.length<=9223372036854775807) :
  Calls Tryz.prog 35 #[.slice a l.length cap,.int .u64 (vals:Int)] w fun e w'=>e=.returned (.bool (allK vals l))/\Below w.heap.size w w':=by
 have hb:=below_new w (.cells #[.int .u64 (vals:Int)] 48)
 have HC:=Lib.hid (cf_cls 93 #[.pointer (some ⟨w.heap.size,0,none⟩)] (fun c=>!holdK vals c) l a cap (w.alloc (.cells #[.int .u64 (vals:Int)] 48)) hm ent_allHold1 (hI.below hb) (fun W i a' cap' hW hi h1 h2 h3=>allHold1_any (l.getD i []) a' cap' vals hv w.heap.size W ((hW.cell (p:=⟨w.heap.size,0,none⟩) (by simp)).trans (by simp)) h3 (by omega)))
 have HB:=Lib.hid hb
 clear hb hI
 rw [allK_eq]
 generalize (l.any fun c=>!holdK vals c)=B at *
 go_enter Tryz.func35,Tryz.ntmps35
 go_wp2_with fail
 refine HC.out.mono ?_
 rintro e w1 ⟨rfl,hb1⟩
 have HB1:Hid (Below w.heap.size w w1):=HB.out.trans (hb1.mono HB.out.size)
 clear hb1 HC
 go_wp2
 go_ret
 exact ⟨by first | rfl | simp,HB1.out⟩
end Go.Proofs.YtlahnpmoeefapaaGreatDoor
namespace Go.Proofs.YtlahnpmoeefapaaGreatDoor.Bd
open Go.RowKit Go.Maps Go.Deep
theorem variable_c (x:Int) (hx:litB 24 x=true) (w:World):Calls Tryz.prog 198 #[.int .i64 x] w fun e w'=>e=.returned (.int .i64 (varN x:Int))/\w=w':=by
 have h0:=litB_iff.1 hx
 have hm:max x (-x) - 1=(varN x:Int):=by unfold varN;omega
 have h1:-9223372036854775808<=max x (-x) - 1:=by omega
 have h2:max x (-x) - 1<=9223372036854775807:=by omega
 have h3:-9223372036854775808<=-x:=by omega
 have h4:-x<=9223372036854775807:=by omega
 clear hx
 go_enter Tryz.func198,Tryz.ntmps198
 go_wp2
 go_ret
 refine ⟨?_,rfl⟩
 rw [<- hm]
 first | rfl | (congr 2;omega) | go_num
theorem within1_c (x:Int) (vars:Nat) (h24:vars<=24) (hx:litB vars x=true) (b:Nat) (w:World) (hc:w.cell? ⟨b,0,none⟩=some (.int .i64 (vars:Int))) :
  Calls Tryz.prog 197 #[.int .i64 x,.pointer (some ⟨b,0,none⟩)] w fun e w'=>e=.returned (.bool false)/\Below w.heap.size w w':=by
 have HV:=Lib.hid (variable_c x (lit_24 (by omega) hx) w)
 have hv:=lit_var hx
 clear hx
 generalize varN x=v at *
 have h1:¬ (v:Int)<0:=by omega
 have h2:¬ (vars:Int)<=(v:Int):=by omega
 go_enter Tryz.func197,Tryz.ntmps197
 go_wp2_with fail
 refine HV.out.mono ?_
 rintro e w1 ⟨rfl,rfl⟩
 go_wp2
 go_ret
 exact ⟨by simp;exact hv,Below.refl _ _⟩
theorem ent_within1:∀ args w,(callFunc 197 args).run Tryz.prog w=.ok (.enter 197 args) w:=by intro args w;kernel_rfl
theorem ent_clauses1:∀ args w,(callFunc 136 args).run Tryz.prog w=.ok (.enter 136 args) w:=by intro args w;kernel_rfl
theorem within_c (c:List Int) (vars:Nat) (h24:vars<=24) (hl:Lits vars c) (a:Option Addr) (cap:Nat) (w:World) (hI:IntsIn w a c) (hm:c.length<=9223372036854775807) :
  Calls Tryz.prog 137 #[.slice a c.length cap,.int .i64 (vars:Int)] w fun e w'=>e=.returned (.bool true)/\Below w.heap.size w w':=by
 have hb:=Go.Proofs.YtlahnpmoeefapaaGreatDoor.below_new w (.cells #[.int .i64 (vars:Int)] 3)
 have HC:=Lib.hid (cf_ints 197 #[.pointer (some ⟨w.heap.size,0,none⟩)] (fun _=>false) c a cap (w.alloc (.cells #[.int .i64 (vars:Int)] 3)) hm ent_within1 (hI.below hb) (fun W i hW hi=>within1_c (c.getD i 0) vars h24 (hl _ (getD_mem hi)) w.heap.size W ((hW.cell (p:=⟨w.heap.size,0,none⟩) (by simp)).trans (by simp))))
 have HB:=Lib.hid hb
 have hf:(c.any fun _=>false)=false:=by simp
 rw [hf] at HC
 clear hb hI hl hf
 go_enter Tryz.func137,Tryz.ntmps137
 go_wp2_with fail
 refine HC.out.mono ?_
 rintro e w1 ⟨rfl,hb1⟩
 have HB1:Hid (Below w.heap.size w w1):=HB.out.trans (hb1.mono HB.out.size)
 clear hb1 HC
 go_wp2
 go_ret
 exact ⟨by first | rfl | simp,HB1.out⟩
section
variable {B s b:Nat} {O:Nat->Prop} {vars:Nat} {room:Int} {ns:List Nd} {w:World}
theorem clauses1_c (hS:SpaceAt B w s b O vars room ns) (h24:vars<=24) (c:List Int) (hl:Lits vars c) (a:Option Addr) (cap:Nat) (hI:IntsIn w a c) (hm:c.length<=9223372036854775807) (bx:Nat) (hc:w.cell? ⟨bx,0,none⟩=some (.pointer (some ⟨s,0,none⟩))) :
  Calls Tryz.prog 136 #[.slice a c.length cap,.pointer (some ⟨bx,0,none⟩)] w fun e w'=>e=.returned (.bool false)/\Below w.heap.size w w':=by
 have HV:=Lib.hid (vars_any hS)
 have HW:=Lib.hid (within_c c vars h24 hl a cap w hI hm)
 clear hS hI hl
 go_enter Tryz.func136,Tryz.ntmps136
 go_wp2_with fail
 refine HV.out.mono ?_
 rintro e w1 ⟨rfl,rfl⟩
 clear HV
 go_wp2_with fail
 refine HW.out.mono ?_
 rintro e w1 ⟨rfl,hb1⟩
 have HB1:=Lib.hid hb1
 clear HW hb1
 go_wp2
 go_ret
 exact ⟨by first | rfl | simp,HB1.out⟩
theorem absent_c (hS:SpaceAt B w s b O vars room ns):Calls Tryz.prog 135 #[.pointer (some ⟨s,0,none⟩)] w fun e w'=>e=.returned (.bool false)/\w=w':=by
 have c0:=hS.c0
 clear hS
 go_enter Tryz.func135,Tryz.ntmps135
 go_wp2
 go_ret
 exact ⟨by first | rfl | simp,rfl⟩
theorem laid_c (hS:SpaceAt B w s b O vars room ns) (h0:cnt ns=0):Calls Tryz.prog 138 #[.pointer (some ⟨s,0,none⟩)] w fun e w'=>e=.returned (.slice none 0 0)/\w=w':=by
 have HL:=spLen hS
 rw [taken_cnt,h0] at HL
 have HL:=Lib.hid HL
 have c0:=hS.c0
 clear hS h0
 go_enter Tryz.func138,Tryz.ntmps138
 go_wp2_with fail
 go_loopw [3,4] (fun o _ wr=>o=.slice none 0 0/\wr=w) (fun _ _ _=>0)
 case atStart=>exact ⟨rfl,rfl⟩
 case round =>
  obtain ⟨rfl,rfl⟩:=hrel
  go_wp2_with fail
  refine HL.out.mono ?_
  rintro e w1 ⟨rfl,rfl⟩
  go_wp2
  go_ret
  exact ⟨rfl,rfl⟩
end
end Go.Proofs.YtlahnpmoeefapaaGreatDoor.Bd
namespace Go.Proofs.YtlahnpmoeefapaaGreatDoor.Bd
open Go.RowKit Go.Shelf Go.Deep
attribute [local go_sem] Oper.semAt_some
theorem back_in (a:Option Addr) (n c:Nat) (w:World) :
  CallsIn Fence.wide 3 Tryz.prog 257 #[.slice a n c] w fun e w'=>e=.returned (.func (.func 300) #[] #[.pointer (some ⟨w.heap.size,0,none⟩)])/\w'=w.alloc (.cells #[.slice a n c] 81):=by
 refine callsIn_of_wp Tryz.func257 rfl trivial ?_ rfl
 simp only [Tryz.ntmps257,List.size_toArray,List.length_cons,List.length_nil,Nat.reduceAdd,Nat.reduceSub,Array.replicate_succ,Array.replicate_zero,List.push_toArray,List.append_toArray,List.nil_append,List.cons_append]
 gi_wp2
 go_ret
 exact ⟨by first | rfl | simp,rfl⟩
def bkF (xs:List Int):Nat->List (Nat × Int)
 | 0=>[]
 | k + 1=>(k,xs.getD k 0) :: bkF xs k
abbrev PQ (Q:Int->Prop):Type:={ p:Nat × Int // Q p.2 }
def rawQ {Q:Int->Prop} (l:List (PQ Q)):List (Nat × Int):=l.map Subtype.val
def encB {Q:Int->Prop} (p:PQ Q):Array Value:=#[.int .i64 (p.1.1:Int),.int .i64 p.1.2]
def KpR (R:Nat->Prop) (W W':World):Prop:=∀ k,R k->W'.heap[k]?=W.heap[k]?
theorem kpR_cell {R:Nat->Prop} {W W':World} (h:KpR R W W') {p:Addr} (h1:R p.block):W'.cell? p=W.cell? p:=by
 unfold World.cell?
 rw [h p.block h1]
theorem kpR_t {R:Nat->Prop} {A C D:World} (h:KpR R A C) (k:KpR R C D):KpR R A D:=fun q h1=>(k q h1).trans (h q h1)
theorem kpR_b {R:Nat->Prop} {w:World} (hB:∀ k,R k->k<w.heap.size) (W:World) (l:Nat) (o o':Obj) (hl:w.heap.size<=l) (_:W.heap[l]?=some o) (_:o.isCells=false) (_:o.isWalk=false):KpR R W (W.putObj l o') :=
 fun k h1=>World.putObj_heap_other (by have:=hB k h1;omega)
theorem addBl (ad:Addr) (j:Nat):(ad.add j).block=ad.block:=by unfold Addr.add;split <;> rfl
theorem back1_in (l bt:Nat) (R:Nat->Prop) (Q:Int->Prop) (xs:List Int) (a:Option Addr) (c:Nat) (hl:xs.length<=1000000) (hQ:∀ i,i<xs.length->Q (xs.getD i 0)) (J Jx:List (PQ Q)->World->Prop)
  (hY:∀ pre x W,J pre W->pre.length<xs.length->YieldAt Fence.wide (3 - 1) Tryz.prog l (encB x) W fun e W' =>
   (e=.returned (.bool true)/\J (pre++[x]) W'/\KpR R W W')\/(e=.returned (.bool false)/\Jx (pre++[x]) W'))
  (W:World) (hR:R bt) (h0:W.cell? ⟨bt,0,none⟩=some (.slice a xs.length c)) (hI:∀ i,i<xs.length->∃ ad:Addr,a=some ad/\R ad.block/\W.cell? (ad.add i)=some (.int .i64 (xs.getD i 0))) (hJ:J [] W) :
  CallsIn Fence.wide 3 Tryz.prog 300 #[.func (.yield l) #[] #[],.pointer (some ⟨bt,0,none⟩)] W fun e W'=>(∃ v,e=.returned v)/\((∃ ys,rawQ ys=bkF xs xs.length/\J ys W')\/(∃ pre,rawQ pre <+: bkF xs xs.length/\Jx pre W')):=by
 have HY:=Lib.hid hY
 have HI:=Lib.hid hI
 have HR:=Lib.hid hR
 have HQ:=Lib.hid hQ
 clear hY hI hR hQ
 refine callsIn_of_wp Tryz.func300 rfl trivial ?_ rfl
 simp only [Tryz.ntmps300,List.size_toArray,List.length_cons,List.length_nil,Nat.reduceAdd,Nat.reduceSub,Array.replicate_succ,Array.replicate_zero,List.push_toArray,List.append_toArray,List.nil_append,List.cons_append]
 gi_wp2_with fail
 gi_loopw [3] (fun p wr=>∃ (pre:List (PQ Q)) (k:Nat),p=.int .i64 ((k:Int) - 1)/\k<=xs.length/\pre.length + k=xs.length/\rawQ pre++bkF xs k=bkF xs xs.length/\KpR R W wr/\J pre wr) (fun p _=>(intOf p + 1).toNat)
 case atStart=>exact ⟨[],xs.length,by go_num,Nat.le_refl _,by simp,rfl,fun _ _=>rfl,hJ⟩
 case round =>
  obtain ⟨pre,k,rfl,hk,hpl,hcut,hkp,hJs⟩:=hrel
  have HJ:=Lib.hid hJs
  have HC:=Lib.hid hcut
  have HKP:=Lib.hid hkp
  have HPL:=Lib.hid hpl
  have d0:wr.cell? ⟨bt,0,none⟩=some (.slice a xs.length c):=(kpR_cell (p:=⟨bt,0,none⟩) hkp HR.out).trans h0
  clear hJs hcut hkp hpl
  by_cases hk0:k=0
  ·subst hk0
   have hcut:=HC.out
   rw [bkF,List.append_nil] at hcut
   have HX:=Lib.hid hcut
   clear hcut HC
   gi_wp2
   refine bodyPost_end (results_none rfl _ _ _) rfl ?_
   exact ⟨⟨_,rfl⟩,.inl ⟨pre,HX.out,HJ.out⟩⟩
  ·obtain ⟨j,rfl⟩:∃ j,k=j + 1:=⟨k - 1,by omega⟩
   have hj:j<xs.length:=by omega
   obtain ⟨ad,rfl,had,cA⟩:=HI.out j hj
   have cA2:wr.cell? (ad.add j)=some (.int .i64 (xs.getD j 0)):=(kpR_cell (p:=ad.add j) HKP.out (by rw [addBl];exact had)).trans cA
   have hcut:=HC.out
   rw [bkF] at hcut
   have hq:=HQ.out j hj
   obtain ⟨x,hx⟩:∃ x,xs.getD j 0=x:=⟨_,rfl⟩
   rw [hx] at cA2 hcut hq
   have HX:Hid (rawQ (pre++[⟨(j,x),hq⟩])++bkF xs j=bkF xs xs.length):=by show _=_;rw [rawQ,List.map_append,List.append_assoc];exact hcut
   have hjw:((j + 1:Nat):Int) - 1=(j:Int):=by omega
   rw [hjw]
   have hj0:(0:Int)<=(j:Int):=by omega
   have hj1:(j:Int)<(xs.length:Int):=by omega
   obtain ⟨ab,ao,asp⟩:=ad
   obtain ⟨fn,tmps,assign,body,hy,hR⟩:=HY.out pre ⟨(j,x),hq⟩ wr HJ.out (by have:=HPL.out;omega)
   unfold encB at hy
   dsimp only at hy
   clear hcut hx HC cA had hjw
   gi_wp2
   refine hR.mono ?_
   rintro e W3 (⟨rfl,hJ3,hk3⟩ | ⟨rfl,hJx3⟩)
   ·have HJ3:=Lib.hid hJ3
    have HK3:Hid (KpR R W W3):=kpR_t HKP.out hk3
    clear hJ3 hk3 d0 cA2 hR hy
    gi_wp2
    go_roundw
    case rel=>exact ⟨pre++[⟨(j,x),hq⟩],j,by go_num,by omega,by have:=HPL.out;simp;omega,HX.out,HK3.out,HJ3.out⟩
    case measure=>first | (simp [intOf];done) | (simp [intOf];omega)
   ·clear hR hy
    gi_wp2
    refine bodyPost_ret (results_none rfl _ _ _) rfl ?_
    exact ⟨⟨_,rfl⟩,.inr ⟨_,⟨_,HX.out⟩,hJx3⟩⟩
theorem back_stops (bt:Nat) (R:Nat->Prop) (Q:Int->Prop) (xs:List Int) (a:Option Addr) (c:Nat) (hl:xs.length<=1000000) (hQ:∀ i,i<xs.length->Q (xs.getD i 0)) (w:World) (hR:R bt) (hlt:∀ k,R k->k<w.heap.size) (h0:w.cell? ⟨bt,0,none⟩=some (.slice a xs.length c)) (hI:∀ i,i<xs.length->∃ ad:Addr,a=some ad/\R ad.block/\w.cell? (ad.add i)=some (.int .i64 (xs.getD i 0))) :
  SeqStopsK Fence.wide 3 Tryz.prog 300 #[.pointer (some ⟨bt,0,none⟩)] (encB (Q:=Q)) (KpR R) (fun ys=>rawQ ys=bkF xs xs.length) (fun pre=>rawQ pre <+: bkF xs xs.length) xs.length w:=fun l J Jx W hW _ _ hY hJ0 =>
 back1_in l bt R Q xs a c hl hQ J Jx hY W hR ((hW.cell (p:=⟨bt,0,none⟩) (hlt _ hR)).trans h0) (fun i hi=>by
  obtain ⟨ad,e,q1,q2⟩:=hI i hi
  exact ⟨ad,e,q1,(hW.cell (p:=ad.add i) (by rw [addBl];exact hlt _ q1)).trans q2⟩) hJ0
end Go.Proofs.YtlahnpmoeefapaaGreatDoor.Bd
