/- space: variable, within, absent, laid. -/
import Derived.Test.YtiihalknffbjpaaGreatDoorBdOpsW
import Derived.Test.YtiihalknffbjpaaGreatDoorBdFun
import Derived.WalkSmall
import Derived.Test.YtiihalknffbjpaaGreatDoorPfForm
import Derived.Test.YtiihalknffbjpaaGreatDoorBdAt
set_option maxHeartbeats 2000000
set_option maxRecDepth 100000
namespace Go.Proofs.YtiihalknffbjpaaGreatDoor.Bd
open Go.RowKit Go.Maps
theorem lawI:Keyed Tryz.prog 3:=int_keyed Tryz.underlying3
theorem keyI {x:Int} (h:I64 x):keyOf Tryz.prog 3 (.int .i64 x)=some (.int .i64 x):=keyOf_int_mk Tryz.underlying3 (wf_of h)
end Go.Proofs.YtiihalknffbjpaaGreatDoor.Bd
namespace Go.Proofs.YtiihalknffbjpaaGreatDoor.Bd
open Go.RowKit Go.Maps
theorem getOf_node {ns:List Nd} {x:Int} (e:topOf ns x ≠ 24):getOf ns x=nd ns (pl x):=by unfold getOf;rw [if_neg e];rfl
end Go.Proofs.YtiihalknffbjpaaGreatDoor.Bd
namespace Go.Proofs.YtiihalknffbjpaaGreatDoor.Bd
open Go.RowKit Go.Maps
theorem ints1 (w:World) (x:Int) (hx:I64 x):IntsAt (w.alloc (.cells #[.int .i64 x] 3)) w.heap.size [x] :=
 ⟨by simp,fun i hi=>by
  obtain rfl:i=0:=by simp at hi;omega
  simp,fun z hz=>by rw [List.mem_singleton] at hz;subst hz;exact hx⟩
end Go.Proofs.YtiihalknffbjpaaGreatDoor.Bd
namespace Go.Proofs.YtiihalknffbjpaaGreatDoor.Bd
open Go.RowKit Go.Maps
section
variable {B s b:Nat} {O:Nat->Prop} {vars:Nat} {room:Int} {ns:List Nd} {w w':World}
theorem bnew_any (vars:Nat) (hv:vars<=24) (room:Int) (h0:0<=room) (h1:room<=4000) (w:World) (B:Nat) (hB:B<=w.heap.size) :
  Calls Tryz.prog 74 #[.int .i64 (vars:Int),.int .i64 room] w fun e w'=>∃ s b O,e=.returned (.tuple #[.pointer (some ⟨s,0,none⟩),.nilIface])/\SpaceAt B w' s b O vars room []/\w.heap.size<=s/\(∀ k,O k->w.heap.size<=k)/\Below w.heap.size w w':=by
 have HN:=Lib.hid (new_any room h0 h1 w w.heap.size (Nat.le_refl _))
 go_enter Tryz.func74,Tryz.ntmps74
 go_wp2_with fail
 refine HN.out.mono ?_
 rintro e w1 ⟨rfl,hA1,hb1⟩
 have hs:=hb1.size
 have hO:=(fun k (h:Own (w.heap.size + 1) w.heap.size (.slice none 0 0) k)=>(show w.heap.size<=k/\k<w1.heap.size from by
  obtain ⟨D,hD,-⟩:=hA1.hmap
  have hbm:=hD.lt
  have hlt:=hA1.lt
  rcases h with h | h | h
  ·omega
  ·omega
  ·simp [Value.ownBlock] at h))
 have hb2:=hb1.alloc hs (.cells #[.pointer (some ⟨w.heap.size + 1,0,none⟩),.int .i64 (vars:Int)] 159)
 have hA2:=hA1.kept (Kept.alloc (fun _=>False) w1 (.cells #[.pointer (some ⟨w.heap.size + 1,0,none⟩),.int .i64 (vars:Int)] 159)) (fun _ _ h=>h)
 have hfin:SpaceAt B (w1.alloc (.cells #[.pointer (some ⟨w.heap.size + 1,0,none⟩),.int .i64 (vars:Int)] 159)) w1.heap.size (w.heap.size + 1) (Own (w.heap.size + 1) w.heap.size (.slice none 0 0)) vars room []:=by
  have hA3:ArenaAt B (w1.alloc (.cells #[.pointer (some ⟨w.heap.size + 1,0,none⟩),.int .i64 (vars:Int)] 159)) (w.heap.size + 1) w.heap.size (.slice none 0 0) [] [] room 2 :=
   ⟨hA2.lt,hA2.croom,hA2.cnodes,hA2.cmap,hA2.cnext,hA2.froz,ownsRow_base hA2.row hB,hA2.hmap,hA2.d1,hA2.d2,hA2.d3,by omega,hB⟩
  refine ⟨⟨_,_,[],2,hA3,⟨fun p h=>by simp at h,fun j h=>by simp at h,by simp,fun j h=>by simp at h⟩,⟨0,rfl,by simp,fun j h=>by omega⟩,fun _ h=>h⟩,fun k hk=>⟨by have:=(hO k hk).1;omega,by have:=(hO k hk).2;simp;omega⟩,fun ho=>by have:=(hO _ ho).2;omega,by simp,by simp,by simp⟩
 have HF:=Lib.hid hfin
 have HB2:=Lib.hid hb2
 have HO:=Lib.hid hO
 clear HN hA1 hA2 hfin hb2 hO
 go_wp2
 go_ret2
 exact ⟨_,_,_,rfl,HF.out,hs,fun k hk=>(HO.out k hk).1,HB2.out⟩
theorem vars_any (h:SpaceAt B w s b O vars room ns):Calls Tryz.prog 16 #[.pointer (some ⟨s,0,none⟩)] w fun e w'=>e=.returned (.int .i64 (vars:Int))/\w=w':=by
 have c1:=h.c1
 clear h
 go_enter Tryz.func16,Tryz.ntmps16
 go_wp2
 go_ret
 exact ⟨rfl,rfl⟩
theorem free_op (h:SpaceAt B w s b O vars room ns) (hr:Ranked ns) (hl:ns.length<=90000) (hB:B<=w.heap.size) (bf:Nat) {cp:Nat} (fs:List Int) (hF:IntsAt w bf fs) (hfl:fs.length<=1000) :
  Calls Tryz.prog 161 #[.pointer (some ⟨s,0,none⟩),.slice (some ⟨bf,0,none⟩) fs.length cp] w fun e w'=>∃ n:Int,e=.returned (.int .i64 n)/\∃ O',SpaceAt B w' s b O' vars room (swept ns (marksOf ns fs))/\Moves O O' w w':=by
 have c0:=h.c0
 have HC:=Lib.hid (spSweep (cp:=cp) h hr hl hB bf fs hF hfl)
 generalize fs.length=n at *
 clear h hF hr
 go_enter Tryz.func161,Tryz.ntmps161
 go_wp2_with fail
 refine HC.out.mono ?_
 rintro e w1 ⟨n,rfl,hO⟩
 go_wp2
 go_ret
 exact ⟨n,rfl,hO⟩
end
end Go.Proofs.YtiihalknffbjpaaGreatDoor.Bd
namespace Go.Proofs.YtiihalknffbjpaaGreatDoor.Bd
open Go.RowKit Go.Maps
section
variable {B s b:Nat} {O:Nat->Prop} {vars:Nat} {room:Int} {ns:List Nd} {w w':World}
theorem holds_any (h:SpaceAt B w s b O vars room ns) (hg:Good vars ns) (hl:ns.length<=90000) (x:Int) (hx:hasB ns x=true) (vals:Nat) (hvals:vals<18446744073709551616) :
  Calls Tryz.prog 35 #[.pointer (some ⟨s,0,none⟩),.int .i64 x,.int .u64 (vals:Int)] w fun e w'=>e=.returned (.tuple #[.bool (sem ns x (bitsF vals)),.nilIface])/\Below w.heap.size w w':=by
 have hi:=has_i64 hx (by omega)
 have HP:=present_any (cp:=1) (h.new (below_new w (.cells #[.int .i64 x] 3))) (by omega) w.heap.size [x] (ints1 w x hi) (by simp) (fun y hy=>by rw [List.mem_singleton] at hy;subst hy;exact hx)
 rw [show [x].length=1 from rfl] at HP
 have HPR:=Lib.hid HP
 have hb:=below_new w (.cells #[.int .i64 x] 3)
 have HGT:Hid (∀ (y:Int) (W:World),hasB ns y=true->Below w.heap.size w W->Calls Tryz.prog 92 #[.pointer (some ⟨b,0,none⟩),.int .i64 y] W fun e w'=>e=.returned (.tuple #[.agg #[.int .i64 (getOf ns y).v,.int .i64 (getOf ns y).l,.int .i64 (getOf ns y).h],.bool (decide (topOf ns y ≠ 24))])/\Below W.heap.size W w'):=fun y W hy hW=>spGet (h.new hW) y (has_i64 hy (by omega)) hl
 have HC:Hid (∀ W,Below w.heap.size w W->W.cell? ⟨s,0,none⟩=some (.pointer (some ⟨b,0,none⟩))):=fun W hW=>(h.new hW).c0
 have HG:=Lib.hid hg
 have c0:=HC.out _ hb
 have HB:=Lib.hid hb
 have G0:=Lib.hid (HGT.out x _ hx hb)
 have HX:=Lib.hid hx
 clear HP h hg hb hx
 generalize hge:getOf ns x=gn at *
 generalize htp:decide (topOf ns x ≠ 24)=tb at *
 obtain ⟨gv,gl,gh⟩:=gn
 have HGE:=Lib.hid hge
 have HTP:=Lib.hid htp
 clear hge htp
 simp only at G0
 go_enter Tryz.func35,Tryz.ntmps35
 go_wp2_with fail
 refine HPR.out.mono ?_
 rintro e w1 ⟨rfl,rfl⟩
 clear HPR
 go_wp2_with fail
 refine G0.out.mono ?_
 rintro e w2 ⟨rfl,hb2⟩
 have hb3:Below w.heap.size w w2:=HB.out.trans (hb2.mono HB.out.size)
 have T0:=Lib.hid (tri_new w2 gv gl gh 176)
 have B4:=Lib.hid (hb3.alloc hb3.size (.cells #[.int .i64 gv,.int .i64 gl,.int .i64 gh] 176))
 clear G0 hb2 hb3 c0
 go_wp2_with fail
 go_loopw [1,9,10] (fun hV nV okV wr=>∃ (y:Int) (p:Nat),hV=.int .i64 y/\nV=.pointer (some ⟨p,0,none⟩)/\okV=.bool (decide (topOf ns y ≠ 24))/\Tri wr p (getOf ns y).v (getOf ns y).l (getOf ns y).h/\hasB ns y=true/\sem ns y (bitsF vals)=sem ns x (bitsF vals)/\Below w.heap.size w wr)
  (fun hV _ _ _=>(24 - topOf ns (intOf hV)).toNat)
 case atStart =>
  refine ⟨x,w2.heap.size,rfl,rfl,by rw [HTP.out],by rw [HGE.out];exact T0.out,HX.out,rfl,B4.out⟩
 case round =>
  obtain ⟨y,p,rfl,rfl,rfl,hT,hy,hsm,hbr⟩:=hrel
  clear T0 B4
  by_cases ht:topOf ns y=24
  ·have dt:decide (topOf ns y ≠ 24)=false:=by simp [ht]
   rw [dt]
   have hres:sem ns x (bitsF vals)=(y == 1):=by
    rw [<- hsm,sem_end ht]
    by_cases e:y=1 <;> simp [e]
   have HRES:=Lib.hid hres
   clear dt hres hsm hT ht
   go_wp2
   go_ret2
   exact ⟨by rw [HRES.out];rfl,hbr⟩
  ·have hr:=HG.out.ranked
   have hk:=kids hr ht
   have hgn:getOf ns y=nd ns (pl y):=by unfold getOf;rw [if_neg ht];rfl
   rw [hgn] at hT
   have ht0:=(topOf_le hr y).1
   have htl:=top_lt hr ht
   have hgv:(nd ns (pl y)).v=topOf ns y:=(node_at ht).2.2.1.symm
   have hsn:=sem_node hr ht (bitsF vals)
   rw [hgv] at hT
   have dt:decide (topOf ns y ≠ 24)=true:=by simp [ht]
   rw [dt]
   generalize hty:topOf ns y=ty at *
   have HTY:=Lib.hid hty
   clear hty
   obtain ⟨v,rfl⟩:∃ v:Nat,ty=(v:Int):=⟨ty.toNat,by omega⟩
   have q0:=hT.c0
   have q1:=hT.c1
   have q2:=hT.c2
   have HTT:=Lib.hid hT
   have hbx:=below_new wr (.cells #[.int .i64 (v:Int),.int .i64 (nd ns (pl y)).l,.int .i64 (nd ns (pl y)).h] 176)
   have hbx':=hbr.trans (hbx.mono hbr.size)
   have yc:=HC.out _ hbx'
   have HBX:=Lib.hid hbx'
   have TX:=Lib.hid (tri_new wr (v:Int) (nd ns (pl y)).l (nd ns (pl y)).h 176)
   have hsb:=shr_bit vals v hvals
   have hvt:((v:Int)).toNat=v:=by omega
   rw [hvt] at hsn
   have HSN:=Lib.hid (hsn.symm.trans hsm)
   have bx0:wr.heap.size<(wr.alloc (.cells #[.int .i64 (v:Int),.int .i64 (nd ns (pl y)).l,.int .i64 (nd ns (pl y)).h] 176)).heap.size:=by simp
   have KL:=Lib.hid hk.2.1
   have KH:=Lib.hid hk.2.2.2
   have k1:=hk.1
   have k2:=hk.2.2.1
   clear hT hsm hsn hk hgn hgv dt hbx hbx' hvt
   generalize (nd ns (pl y)).l=lo at *
   generalize (nd ns (pl y)).h=hi' at *
   cases hbit:bitsF vals v with
   | true =>
    rw [hbit] at hsb
    have HSN':Hid (sem ns hi' (bitsF vals)=sem ns x (bitsF vals)):=by have:=HSN.out;rw [hbit,if_pos rfl] at this;exact this
    have G1:=Lib.hid (HGT.out hi' _ KH.out HBX.out)
    clear hbit HSN
    go_wp2_with fail
    refine G1.out.mono ?_
    rintro e w5 ⟨rfl,hb5⟩
    have t5:=TX.out.new hb5
    have z0:=t5.c0
    have z1:=t5.fz 0
    have t6:=t5.set0 (getOf ns hi').v
    have z2:=t6.c1
    have z3:=t6.fz 1
    have t7:=t6.set1 (getOf ns hi').l
    have z4:=t7.c2
    have z5:=t7.fz 2
    have T8:=Lib.hid (t7.set2 (getOf ns hi').h)
    have hb6:=HBX.out.trans (hb5.mono HBX.out.size)
    have hws:=hbr.size
    have HB8:Hid (Below w.heap.size w (((w5.setCell ⟨wr.heap.size,0,none⟩ (.int .i64 (getOf ns hi').v)).setCell ⟨wr.heap.size,1,none⟩ (.int .i64 (getOf ns hi').l)).setCell ⟨wr.heap.size,2,none⟩ (.int .i64 (getOf ns hi').h))):=((hb6.setCell hws _).setCell hws _).setCell hws _
    clear t5 t6 t7 hb6 hb5 G1
    generalize hgy:getOf ns hi'=gy at *
    obtain ⟨g0,g1,g2⟩:=gy
    have HGY:=Lib.hid hgy
    clear hgy
    simp only at z2 z4 T8 HB8 z3 z5
    go_wp2
    go_roundw
    case rel=>exact ⟨hi',wr.heap.size,rfl,rfl,by simp,by rw [HGY.out];exact T8.out,KH.out,HSN'.out,HB8.out⟩
    case measure =>
     show (24 - topOf ns hi').toNat<(24 - topOf ns y).toNat
     rw [HTY.out];omega
   | false =>
    rw [hbit] at hsb
    have HSN':Hid (sem ns lo (bitsF vals)=sem ns x (bitsF vals)):=by have:=HSN.out;rw [hbit,if_neg (by simp)] at this;exact this
    have G1:=Lib.hid (HGT.out lo _ KL.out HBX.out)
    clear hbit HSN
    go_wp2_with fail
    refine G1.out.mono ?_
    rintro e w5 ⟨rfl,hb5⟩
    have t5:=TX.out.new hb5
    have z0:=t5.c0
    have z1:=t5.fz 0
    have t6:=t5.set0 (getOf ns lo).v
    have z2:=t6.c1
    have z3:=t6.fz 1
    have t7:=t6.set1 (getOf ns lo).l
    have z4:=t7.c2
    have z5:=t7.fz 2
    have T8:=Lib.hid (t7.set2 (getOf ns lo).h)
    have hb6:=HBX.out.trans (hb5.mono HBX.out.size)
    have hws:=hbr.size
    have HB8:Hid (Below w.heap.size w (((w5.setCell ⟨wr.heap.size,0,none⟩ (.int .i64 (getOf ns lo).v)).setCell ⟨wr.heap.size,1,none⟩ (.int .i64 (getOf ns lo).l)).setCell ⟨wr.heap.size,2,none⟩ (.int .i64 (getOf ns lo).h))):=((hb6.setCell hws _).setCell hws _).setCell hws _
    clear t5 t6 t7 hb6 hb5 G1
    generalize hgy:getOf ns lo=gy at *
    obtain ⟨g0,g1,g2⟩:=gy
    have HGY:=Lib.hid hgy
    clear hgy
    simp only at z2 z4 T8 HB8 z3 z5
    go_wp2
    go_roundw
    case rel=>exact ⟨lo,wr.heap.size,rfl,rfl,by simp,by rw [HGY.out];exact T8.out,KL.out,HSN'.out,HB8.out⟩
    case measure =>
     show (24 - topOf ns lo).toNat<(24 - topOf ns y).toNat
     rw [HTY.out];omega
end
end Go.Proofs.YtiihalknffbjpaaGreatDoor.Bd
namespace Go.Proofs.YtiihalknffbjpaaGreatDoor.Bd
open Go.RowKit Go.Maps
section
variable {B s b:Nat} {O:Nat->Prop} {vars:Nat} {room:Int} {ns:List Nd} {w w':World}
theorem spLen (h:SpaceAt B w s b O vars room ns):Calls Tryz.prog 223 #[.pointer (some ⟨b,0,none⟩)] w fun e w'=>e=.returned (.int .i64 ((taken ns).length:Int))/\w=w':=by
 obtain ⟨bm,v,L,next,hA,hBk,-,hO⟩:=h.arena
 rw [<- book_len hBk];exact len_any hA
end
end Go.Proofs.YtiihalknffbjpaaGreatDoor.Bd
namespace Go.Proofs.YtiihalknffbjpaaGreatDoor
open Go.RowKit
theorem ix_cls (F:Nat) (cb:Array Value) (p:List Int->Bool) (xs:List (List Int)) (a:Option Addr) (cap:Nat) (w:World) (hm:xs.length<=9223372036854775807)
  (hent:∀ args w,(callFunc F args).run Tryz.prog w=.ok (.enter F args) w) (hI:ClsIn w a xs)
  (hf:∀ W i (a':Option Addr) (cap':Nat),Below w.heap.size w W->i<xs.length->cap'<=9223372036854775807->(xs.getD i []).length<=cap'->IntsIn W a' (xs.getD i [])->Calls Tryz.prog F (#[.slice a' (xs.getD i []).length cap']++cb) W fun e w'=>e=.returned (.bool (p (xs.getD i [])))/\Below W.heap.size W w') :
  Calls Tryz.prog 178 #[.slice a xs.length cap,.func (.func F) #[] cb] w fun e w'=>e=.returned (.int .i64 (idxF p xs))/\Below w.heap.size w w':=by
 have HF:=Lib.hid hf
 have HI:=Lib.hid hI
 clear hf hI
 go_enter Tryz.func178,Tryz.ntmps178
 go_wp2_with fail
 go_loopw [8] (fun kV wr=>∃ k:Nat,k<=xs.length/\kV=.int .i64 (k:Int)/\(∀ j,j<k->p (xs.getD j [])=false)/\Below w.heap.size w wr) (fun kV _=>xs.length - (intOf kV).toNat)
 case atStart=>exact ⟨0,Nat.zero_le _,rfl,fun j h=>by omega,Below.refl _ _⟩
 case round =>
  obtain ⟨k,hk,rfl,h1,hbr⟩:=hrel
  have H1:=Lib.hid h1
  have HBR:=Lib.hid hbr
  clear h1 hbr
  by_cases hlt:k<xs.length
  ·obtain ⟨ad,a',cap',rfl,hl,hc,g1,g2,g3⟩:=HI.out.below HBR.out k hlt
   have HC:=Lib.hid (HF.out wr k a' cap' HBR.out hlt g2 g1 g3)
   clear g3 g1 g2
   cases hp:p (xs.getD k []) with
   | true =>
    rw [hp] at HC
    have HP:=Lib.hid hp
    clear hp
    generalize hx:xs.getD k []=x at *
    have HX:=Lib.hid hx
    clear hx
    go_wp2_with fail
    refine HC.out.mono ?_
    rintro e w1 ⟨rfl,hb1⟩
    have HB1:Hid (Below w.heap.size w w1):=HBR.out.trans (hb1.mono HBR.out.size)
    clear hb1 HC
    go_wp2
    go_ret
    exact ⟨by rw [idxF_hit H1.out hlt (by rw [HX.out];exact HP.out)];rfl,HB1.out⟩
   | false =>
    rw [hp] at HC
    have HP:=Lib.hid hp
    clear hp
    generalize hx:xs.getD k []=x at *
    have HX:=Lib.hid hx
    clear hx
    go_wp2_with fail
    refine HC.out.mono ?_
    rintro e w1 ⟨rfl,hb1⟩
    have HB1:Hid (Below w.heap.size w w1):=HBR.out.trans (hb1.mono HBR.out.size)
    clear hb1 HC
    go_wp2
    go_roundw
    case rel=>exact ⟨k + 1,hlt,by go_num,fun j hj=>(by
     rcases Nat.lt_succ_iff_lt_or_eq.1 hj with e | e
     ·exact H1.out j e
     ·rw [e,HX.out];exact HP.out),HB1.out⟩
    case measure=>simp [intOf];omega
  ·obtain rfl:k=xs.length:=by omega
   go_wp2
   go_ret
   exact ⟨by rw [idxF_none H1.out];rfl,HBR.out⟩
theorem cf_cls (F:Nat) (cb:Array Value) (p:List Int->Bool) (xs:List (List Int)) (a:Option Addr) (cap:Nat) (w:World) (hm:xs.length<=9223372036854775807)
  (hent:∀ args w,(callFunc F args).run Tryz.prog w=.ok (.enter F args) w) (hI:ClsIn w a xs)
  (hf:∀ W i (a':Option Addr) (cap':Nat),Below w.heap.size w W->i<xs.length->cap'<=9223372036854775807->(xs.getD i []).length<=cap'->IntsIn W a' (xs.getD i [])->Calls Tryz.prog F (#[.slice a' (xs.getD i []).length cap']++cb) W fun e w'=>e=.returned (.bool (p (xs.getD i [])))/\Below W.heap.size W w') :
  Calls Tryz.prog 102 #[.slice a xs.length cap,.func (.func F) #[] cb] w fun e w'=>e=.returned (.bool (xs.any p))/\Below w.heap.size w w':=by
 have H:=Lib.hid (ix_cls F cb p xs a cap w hm hent hI hf)
 clear hf hI hent
 rw [<- idxF_any]
 generalize idxF p xs=i at *
 go_enter Tryz.func102,Tryz.ntmps102
 go_wp2_with fail
 refine H.out.mono ?_
 rintro e w1 ⟨rfl,hb1⟩
 have HB1:=Lib.hid hb1
 clear hb1 H
 go_wp2
 go_ret
 exact ⟨by first | rfl | simp,HB1.out⟩
end Go.Proofs.YtiihalknffbjpaaGreatDoor
namespace Go.Proofs.YtiihalknffbjpaaGreatDoor
open Go.RowKit
def allK (vals:Nat) (l:List (List Int)):Bool:=l.all (holdK vals)
end Go.Proofs.YtiihalknffbjpaaGreatDoor
namespace Go.Proofs.YtiihalknffbjpaaGreatDoor.Bd
open Go.RowKit Go.Maps Go.Deep
theorem variable_c (x:Int) (hx:litB 24 x=true) (w:World):Calls Tryz.prog 222 #[.int .i64 x] w fun e w'=>e=.returned (.int .i64 (varN x:Int))/\w=w':=by
 have h0:=litB_iff.1 hx
 have hm:max x (-x) - 1=(varN x:Int):=by unfold varN;omega
 have h1:-9223372036854775808<=max x (-x) - 1:=by omega
 have h2:max x (-x) - 1<=9223372036854775807:=by omega
 have h3:-9223372036854775808<=-x:=by omega
 have h4:-x<=9223372036854775807:=by omega
 clear hx
 go_enter Tryz.func222,Tryz.ntmps222
 go_wp2
 go_ret
 refine ⟨?_,rfl⟩
 rw [<- hm]
 first | rfl | (congr 2;omega) | go_num
theorem within1_c (x:Int) (vars:Nat) (h24:vars<=24) (hx:litB vars x=true) (b:Nat) (w:World) (hc:w.cell? ⟨b,0,none⟩=some (.int .i64 (vars:Int))) :
  Calls Tryz.prog 221 #[.int .i64 x,.pointer (some ⟨b,0,none⟩)] w fun e w'=>e=.returned (.bool false)/\Below w.heap.size w w':=by
 have HV:=Lib.hid (variable_c x (lit_24 (by omega) hx) w)
 have hv:=lit_var hx
 clear hx
 generalize varN x=v at *
 have h1:¬ (v:Int)<0:=by omega
 have h2:¬ (vars:Int)<=(v:Int):=by omega
 go_enter Tryz.func221,Tryz.ntmps221
 go_wp2_with fail
 refine HV.out.mono ?_
 rintro e w1 ⟨rfl,rfl⟩
 go_wp2
 go_ret
 exact ⟨by simp;exact hv,Below.refl _ _⟩
theorem ent_within1:∀ args w,(callFunc 221 args).run Tryz.prog w=.ok (.enter 221 args) w:=by intro args w;kernel_rfl
theorem ent_clauses1:∀ args w,(callFunc 157 args).run Tryz.prog w=.ok (.enter 157 args) w:=by intro args w;kernel_rfl
theorem within_c (c:List Int) (vars:Nat) (h24:vars<=24) (hl:Lits vars c) (a:Option Addr) (cap:Nat) (w:World) (hI:IntsIn w a c) (hm:c.length<=9223372036854775807) :
  Calls Tryz.prog 158 #[.slice a c.length cap,.int .i64 (vars:Int)] w fun e w'=>e=.returned (.bool true)/\Below w.heap.size w w':=by
 have hb:=Go.Proofs.YtiihalknffbjpaaGreatDoor.below_new w (.cells #[.int .i64 (vars:Int)] 3)
 have HC:=Lib.hid (cf_ints 221 #[.pointer (some ⟨w.heap.size,0,none⟩)] (fun _=>false) c a cap (w.alloc (.cells #[.int .i64 (vars:Int)] 3)) hm ent_within1 (hI.below hb) (fun W i hW hi=>within1_c (c.getD i 0) vars h24 (hl _ (getD_mem hi)) w.heap.size W ((hW.cell (p:=⟨w.heap.size,0,none⟩) (by simp)).trans (by simp))))
 have HB:=Lib.hid hb
 have hf:(c.any fun _=>false)=false:=by simp
 rw [hf] at HC
 clear hb hI hl hf
 go_enter Tryz.func158,Tryz.ntmps158
 go_wp2_with fail
 refine HC.out.mono ?_
 rintro e w1 ⟨rfl,hb1⟩
 have HB1:Hid (Below w.heap.size w w1):=HB.out.trans (hb1.mono HB.out.size)
 clear hb1 HC
 go_wp2
 go_ret
 exact ⟨by first | rfl | simp,HB1.out⟩
section
variable {B s b:Nat} {O:Nat->Prop} {vars:Nat} {room:Int} {ns:List Nd} {w:World}
theorem clauses1_c (hS:SpaceAt B w s b O vars room ns) (h24:vars<=24) (c:List Int) (hl:Lits vars c) (a:Option Addr) (cap:Nat) (hI:IntsIn w a c) (hm:c.length<=9223372036854775807) (bx:Nat) (hc:w.cell? ⟨bx,0,none⟩=some (.pointer (some ⟨s,0,none⟩))) :
  Calls Tryz.prog 157 #[.slice a c.length cap,.pointer (some ⟨bx,0,none⟩)] w fun e w'=>e=.returned (.bool false)/\Below w.heap.size w w':=by
 have HV:=Lib.hid (vars_any hS)
 have HW:=Lib.hid (within_c c vars h24 hl a cap w hI hm)
 clear hS hI hl
 go_enter Tryz.func157,Tryz.ntmps157
 go_wp2_with fail
 refine HV.out.mono ?_
 rintro e w1 ⟨rfl,rfl⟩
 clear HV
 go_wp2_with fail
 refine HW.out.mono ?_
 rintro e w1 ⟨rfl,hb1⟩
 have HB1:=Lib.hid hb1
 clear HW hb1
 go_wp2
 go_ret
 exact ⟨by first | rfl | simp,HB1.out⟩
theorem absent_c (hS:SpaceAt B w s b O vars room ns):Calls Tryz.prog 156 #[.pointer (some ⟨s,0,none⟩)] w fun e w'=>e=.returned (.bool false)/\w=w':=by
 have c0:=hS.c0
 clear hS
 go_enter Tryz.func156,Tryz.ntmps156
 go_wp2
 go_ret
 exact ⟨by first | rfl | simp,rfl⟩
theorem laid_c (hS:SpaceAt B w s b O vars room ns) (h0:cnt ns=0):Calls Tryz.prog 159 #[.pointer (some ⟨s,0,none⟩)] w fun e w'=>e=.returned (.slice none 0 0)/\w=w':=by
 have HL:=spLen hS
 rw [taken_cnt,h0] at HL
 have HL:=Lib.hid HL
 have c0:=hS.c0
 clear hS h0
 go_enter Tryz.func159,Tryz.ntmps159
 go_wp2_with fail
 go_loopw [3,4] (fun o _ wr=>o=.slice none 0 0/\wr=w) (fun _ _ _=>0)
 case atStart=>exact ⟨rfl,rfl⟩
 case round =>
  obtain ⟨rfl,rfl⟩:=hrel
  go_wp2_with fail
  refine HL.out.mono ?_
  rintro e w1 ⟨rfl,rfl⟩
  go_wp2
  go_ret
  exact ⟨rfl,rfl⟩
end
end Go.Proofs.YtiihalknffbjpaaGreatDoor.Bd
