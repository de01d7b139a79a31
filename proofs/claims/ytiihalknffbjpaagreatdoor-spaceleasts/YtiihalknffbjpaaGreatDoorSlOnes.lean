/- SpaceLeasts' own counts: of items, of what they cost. -/
import Derived.Test.YtiihalknffbjpaaGreatDoorWyAll
import Derived.Test.YtiihalknffbjpaaGreatDoorSpSmall
import Derived.Test.YtiihalknffbjpaaGreatDoorPfForm
set_option maxHeartbeats 4000000
set_option maxRecDepth 100000
namespace Go.Proofs.YtiihalknffbjpaaGreatDoor.Bd
open Go.RowKit Go.Maps Go.Deep
def oneI (b:Bool):Int:=if b then 1 else 0
theorem one_c (x:Bool) (w:World):Calls Tryz.prog 86 #[.bool x] w fun e w'=>e=.returned (.int .i64 (oneI x))/\w=w':=by
 cases x
 ·go_enter Tryz.func86,Tryz.ntmps86
  go_wp2
  go_ret
  exact ⟨rfl,rfl⟩
 ·go_enter Tryz.func86,Tryz.ntmps86
  go_wp2
  go_ret
  exact ⟨rfl,rfl⟩
section
variable {B p s b:Nat} {O:Nat->Prop} {vars:Nat} {room:Int} {st:List Nd × Int} {F:FuncId} {cb:Array Value} {C:Cost} {w:World}
theorem whole_c (hsol:SolAt B w p s b O vars room st) (hl:st.1.length<=90000) (hh:hasB st.1 st.2=true):Calls Tryz.prog 88 #[.pointer (some ⟨p,0,none⟩)] w fun e w'=>e=.returned .nilIface/\Below w.heap.size w w':=by
 have HAQ:Hid (∀ n,Calls Tryz.prog 156 #[.pointer (some ⟨s,0,none⟩)] (w.drewN n) fun e w'=>e=.returned (.bool false)/\w'=w.drewN n):=fun n=>(absent_c (hsol.space.new (below_drewN _ w n))).mono fun e w' ⟨h1,h2⟩=>⟨h1,h2.symm⟩
 have HHQ:Hid (∀ n,Calls Tryz.prog 163 #[.pointer (some ⟨b,0,none⟩),.int .i64 st.2] (w.drewN n) fun e w'=>e=.returned (.bool true)/\w'=w.drewN n):=fun n=>(spHas (hsol.space.new (below_drewN _ w n)) st.2 (has_i64 hh (by omega)) hl).mono fun e w' ⟨h1,h2⟩=>⟨by rw [h1,hh],h2.symm⟩
 have c0:w.cell? ⟨p,0,none⟩=some (.pointer (some ⟨s,0,none⟩)):=hsol.blk.cell 0
 have c1:w.cell? ⟨p,1,none⟩=some (.int .i64 st.2):=hsol.blk.cell 1
 have c2:w.cell? ⟨s,0,none⟩=some (.pointer (some ⟨b,0,none⟩)):=hsol.space.c0
 clear hsol
 go_enter Tryz.func88,Tryz.ntmps88
 go_wp2_with fail
 go_quiet (first | (go_at_call 156;refine Calls.quiet_of_same (HAQ.out _)) | (go_at_call 163;refine Calls.quiet_of_same (HHQ.out _)))
 go_wp2
 go_ret
 exact ⟨rfl,below_drewN _ w _⟩
end
end Go.Proofs.YtiihalknffbjpaaGreatDoor.Bd
namespace Go.Proofs.YtiihalknffbjpaaGreatDoor.Bd
open Go.RowKit Go.Maps Go.Deep
def Wy.best (x:Wy):Value:=.tuple (if x.can then #[.int .u64 (x.items:Int),.nilIface] else #[.int .u64 0,.iface 57 (.int .i64 8)])
section
variable {B p s b:Nat} {O:Nat->Prop} {vars:Nat} {room:Int} {st:List Nd × Int} {F:FuncId} {cb:Array Value} {C:Cost} {w:World}
theorem CostAt.new {W0 W1:World} (h:CostAt W0 F cb C vars) (hb:Below W0.heap.size W0 W1):CostAt W1 F cb C vars:=fun W i bb hW hi=>h W i bb (hb.trans (hW.mono hb.size)) hi
theorem best_c (hsol:SolAt B w p s b O vars room st) (hg:Good vars st.1) (hl:st.1.length<=90000) (h24:vars<=24) (hent:∀ args w,(callFunc F args).run Tryz.prog w=.ok (.enter F args) w) (hcok:CostOk C) (hcat:CostAt w F cb C vars) (hh:hasB st.1 st.2=true) :
  Calls Tryz.prog 84 #[.pointer (some ⟨p,0,none⟩),.func (.func F) #[] cb] w fun e w'=>e=.returned (fromW C vars st.1 st.2 0).best/\Below w.heap.size w w':=by
 have HWH:=Lib.hid (whole_c hsol hl hh)
 have HCH:Hid (∀ W,Below w.heap.size w W->Calls Tryz.prog 171 #[.pointer (some ⟨p,0,none⟩),.func (.func F) #[] cb] W fun e w'=>e=.returned (fromW C vars st.1 st.2 0).val/\Below W.heap.size W w'):=fun W hW=>cheapest_c (hsol.new hW) hg hl h24 hent hcok (hcat.new hW) hh
 clear hsol hg hcat hh hent hcok
 generalize fromW C vars st.1 st.2 0=R at *
 obtain ⟨ri,rc,rb⟩:=R
 unfold Wy.val at HCH
 unfold Wy.best
 go_enter Tryz.func84,Tryz.ntmps84
 go_wp2_with fail
 refine HWH.out.mono ?_
 rintro e w2 ⟨rfl,hb2⟩
 clear HWH
 go_wp2_with fail
 refine (HCH.out _ hb2).mono ?_
 rintro e w4 ⟨rfl,hb4⟩
 have kb:=Blk.new w4 279 #[.int .u64 (ri:Int),.int .i64 rc,.bool rb]
 have q0:=kb.cell 0
 have q2:=kb.cell 2
 have HB:Hid (Below w.heap.size w (w4.alloc (.cells #[.int .u64 (ri:Int),.int .i64 rc,.bool rb] 279))):=(hb2.trans (hb4.mono hb2.size)).alloc (Nat.le_trans hb2.size hb4.size) _
 clear kb hb2 hb4 HCH
 go_upto_region 5 with fail
 generalize w4.alloc (.cells #[.int .u64 (ri:Int),.int .i64 rc,.bool rb] 279)=W5 at *
 cases rb with
 | false =>
  go_wp2
  go_ret2
  exact ⟨rfl,HB.out⟩
 | true =>
  go_wp2
  go_ret2
  exact ⟨rfl,HB.out⟩
def leastC:Cost:=fun _ b=>oneI b
theorem oneI_ok (x:Bool):0<=oneI x/\oneI x<=1000000:=by unfold oneI;split <;> omega
theorem ent_least1:∀ args w,(callFunc 85 args).run Tryz.prog w=.ok (.enter 85 args) w:=by intro args w;kernel_rfl
theorem least1_c (i:Int) (bb:Bool) (w:World):Calls Tryz.prog 85 #[.int .i64 i,.bool bb] w fun e w'=>e=.returned (.int .i64 (oneI bb))/\Below w.heap.size w w':=by
 have HO:=Lib.hid (one_c bb w)
 go_enter Tryz.func85,Tryz.ntmps85
 go_wp2_with fail
 refine HO.out.mono ?_
 rintro e w1 ⟨rfl,rfl⟩
 go_wp2
 go_ret
 exact ⟨rfl,Below.refl _ _⟩
theorem least_c (hsol:SolAt B w p s b O vars room st) (hg:Good vars st.1) (hl:st.1.length<=90000) (h24:vars<=24) (hh:hasB st.1 st.2=true) :
  Calls Tryz.prog 27 #[.pointer (some ⟨p,0,none⟩)] w fun e w'=>e=.returned (fromW leastC vars st.1 st.2 0).best/\Below w.heap.size w w':=by
 have HS:=Lib.hid (best_c (F:=85) (cb:=#[]) (C:=leastC) hsol hg hl h24 ent_least1 (fun _ b=>oneI_ok b) (fun W i bb _ _=>least1_c i bb W) hh)
 clear hsol hg hh
 generalize fromW leastC vars st.1 st.2 0=R at *
 obtain ⟨ri,rc,rb⟩:=R
 unfold Wy.best at *
 cases rb with
 | false =>
  go_enter Tryz.func27,Tryz.ntmps27
  go_wp2_with fail
  refine HS.out.mono ?_
  rintro e w1 ⟨rfl,hb⟩
  have HB:=Lib.hid hb
  clear HS hb
  go_wp2
  go_ret2
  exact ⟨rfl,HB.out⟩
 | true =>
  go_enter Tryz.func27,Tryz.ntmps27
  go_wp2_with fail
  refine HS.out.mono ?_
  rintro e w1 ⟨rfl,hb⟩
  have HB:=Lib.hid hb
  clear HS hb
  go_wp2
  go_ret2
  exact ⟨rfl,HB.out⟩
def nearC (now:Nat):Cost:=fun i b=>oneI (b != now.testBit i)
theorem ent_near1:∀ args w,(callFunc 87 args).run Tryz.prog w=.ok (.enter 87 args) w:=by intro args w;kernel_rfl
theorem near1_c (now i:Nat) (bb:Bool) (a:Nat) (w:World) (hi:i<64) (hnow:now<2 ^ 64) (ha:w.cell? ⟨a,0,none⟩=some (.int .u64 (now:Int))):Calls Tryz.prog 87 #[.int .i64 (i:Int),.bool bb,.pointer (some ⟨a,0,none⟩)] w fun e w'=>e=.returned (.int .i64 (nearC now i bb))/\Below w.heap.size w w':=by
 have HO:=Lib.hid (one_c (bb != now.testBit i) w)
 have hs:=shr_bit1 now i (by omega)
 have hR:(!(bb == now.testBit i))=(bb != now.testBit i):=rfl
 unfold nearC
 go_enter Tryz.func87,Tryz.ntmps87
 go_wp2_with fail
 refine HO.out.mono ?_
 rintro e w1 ⟨rfl,rfl⟩
 go_wp2
 go_ret
 exact ⟨rfl,Below.refl _ _⟩
theorem near_cost (now vars:Nat) (hv:vars<=24) (hnow:now<2 ^ 64) {a:Nat} {W0:World} (ha:a<W0.heap.size) (ca:W0.cell? ⟨a,0,none⟩=some (.int .u64 (now:Int))):CostAt W0 87 #[.pointer (some ⟨a,0,none⟩)] (nearC now) vars:=fun W j bb hW hj =>
 near1_c now j bb a W (by omega) hnow ((hW.cell (p:=⟨a,0,none⟩) ha).trans ca)
theorem near_c (hsol:SolAt B w p s b O vars room st) (hg:Good vars st.1) (hl:st.1.length<=90000) (h24:vars<=24) (hh:hasB st.1 st.2=true) (now:Nat) (hnow:now<2 ^ 64) :
  Calls Tryz.prog 28 #[.pointer (some ⟨p,0,none⟩),.int .u64 (now:Int)] w fun e w'=>e=.returned (fromW (nearC now) vars st.1 st.2 0).best/\Below w.heap.size w w':=by
 have hbA:=Go.Proofs.YtiihalknffbjpaaGreatDoor.below_new w (.cells #[.int .u64 (now:Int)] 48)
 have HS:=Lib.hid (best_c (F:=87) (cb:=#[.pointer (some ⟨w.heap.size,0,none⟩)]) (C:=nearC now) (hsol.new hbA) hg hl h24 ent_near1 (fun i b=>oneI_ok _) (near_cost now vars h24 hnow (by simp) (by simp)) hh)
 have HBA:=Lib.hid hbA
 clear hsol hg hh hbA
 generalize fromW (nearC now) vars st.1 st.2 0=R at *
 obtain ⟨ri,rc,rb⟩:=R
 unfold Wy.best at *
 cases rb with
 | false =>
  go_enter Tryz.func28,Tryz.ntmps28
  go_wp2_with fail
  refine HS.out.mono ?_
  rintro e w1 ⟨rfl,hb⟩
  have HB:Hid (Below w.heap.size w w1):=HBA.out.trans (hb.mono HBA.out.size)
  clear HS hb HBA
  go_wp2
  go_ret2
  exact ⟨rfl,HB.out⟩
 | true =>
  go_enter Tryz.func28,Tryz.ntmps28
  go_wp2_with fail
  refine HS.out.mono ?_
  rintro e w1 ⟨rfl,hb⟩
  have HB:Hid (Below w.heap.size w w1):=HBA.out.trans (hb.mono HBA.out.size)
  clear HS hb HBA
  go_wp2
  go_ret2
  exact ⟨rfl,HB.out⟩
end
end Go.Proofs.YtiihalknffbjpaaGreatDoor.Bd
namespace Go.Proofs.YtiihalknffbjpaaGreatDoor
open Go.RowKit Go.Deep
theorem ix_intsF (F:Nat) (cb:Array Value) (p:Int->Bool) (xs:List Int) (a:Option Addr) (cap:Nat) (w:World) (hm:xs.length<=9223372036854775807)
  (hent:∀ args w,(callFunc F args).run Tryz.prog w=.ok (.enter F args) w) (hI:IntsIn w a xs)
  (hf:∀ W i,Below w.heap.size w W->i<xs.length->Calls Tryz.prog F (#[.int .i64 (xs.getD i 0)]++cb) W fun e w'=>e=.returned (.bool (p (xs.getD i 0)))/\Below W.heap.size W w') :
  Calls Tryz.prog 173 #[.slice a xs.length cap,.func (.func F) #[] cb] w fun e w'=>e=.returned (.int .i64 (idxF p xs))/\Below w.heap.size w w':=by
 have HF:=Lib.hid hf
 have HI:=Lib.hid hI
 clear hf hI
 go_enter Tryz.func173,Tryz.ntmps173
 go_wp2_with fail
 go_loopw [8] (fun kV wr=>∃ k:Nat,k<=xs.length/\kV=.int .i64 (k:Int)/\(∀ j,j<k->p (xs.getD j 0)=false)/\Below w.heap.size w wr) (fun kV _=>xs.length - (intOf kV).toNat)
 case atStart=>exact ⟨0,Nat.zero_le _,rfl,fun j h=>by omega,Below.refl _ _⟩
 case round =>
  obtain ⟨k,hk,rfl,h1,hbr⟩:=hrel
  have H1:=Lib.hid h1
  have HBR:=Lib.hid hbr
  clear h1 hbr
  by_cases hlt:k<xs.length
  ·obtain ⟨ad,rfl,hl,hc⟩:=HI.out.below HBR.out k hlt
   have HC:=Lib.hid (HF.out wr k HBR.out hlt)
   cases hp:p (xs.getD k 0) with
   | true =>
    rw [hp] at HC
    have HP:=Lib.hid hp
    clear hp
    generalize hx:xs.getD k 0=x at *
    have HX:=Lib.hid hx
    clear hx
    go_wp2_with fail
    refine HC.out.mono ?_
    rintro e w1 ⟨rfl,hb1⟩
    have HB1:Hid (Below w.heap.size w w1):=HBR.out.trans (hb1.mono HBR.out.size)
    clear hb1 HC
    go_wp2
    go_ret
    exact ⟨by rw [idxF_hit H1.out hlt (by rw [HX.out];exact HP.out)];rfl,HB1.out⟩
   | false =>
    rw [hp] at HC
    have HP:=Lib.hid hp
    clear hp
    generalize hx:xs.getD k 0=x at *
    have HX:=Lib.hid hx
    clear hx
    go_wp2_with fail
    refine HC.out.mono ?_
    rintro e w1 ⟨rfl,hb1⟩
    have HB1:Hid (Below w.heap.size w w1):=HBR.out.trans (hb1.mono HBR.out.size)
    clear hb1 HC
    go_wp2
    go_roundw
    case rel=>exact ⟨k + 1,hlt,by go_num,fun j hj=>(by
     rcases Nat.lt_succ_iff_lt_or_eq.1 hj with e | e
     ·exact H1.out j e
     ·rw [e,HX.out];exact HP.out),HB1.out⟩
    case measure=>simp [intOf];omega
  ·obtain rfl:k=xs.length:=by omega
   go_wp2
   go_ret
   exact ⟨by rw [idxF_none H1.out];rfl,HBR.out⟩
theorem cf_intsF (F:Nat) (cb:Array Value) (p:Int->Bool) (xs:List Int) (a:Option Addr) (cap:Nat) (w:World) (hm:xs.length<=9223372036854775807)
  (hent:∀ args w,(callFunc F args).run Tryz.prog w=.ok (.enter F args) w) (hI:IntsIn w a xs)
  (hf:∀ W i,Below w.heap.size w W->i<xs.length->Calls Tryz.prog F (#[.int .i64 (xs.getD i 0)]++cb) W fun e w'=>e=.returned (.bool (p (xs.getD i 0)))/\Below W.heap.size W w') :
  Calls Tryz.prog 89 #[.slice a xs.length cap,.func (.func F) #[] cb] w fun e w'=>e=.returned (.bool (xs.any p))/\Below w.heap.size w w':=by
 have H:=Lib.hid (ix_intsF F cb p xs a cap w hm hent hI hf)
 clear hf hI hent
 rw [<- idxF_any]
 generalize idxF p xs=i at *
 go_enter Tryz.func89,Tryz.ntmps89
 go_wp2_with fail
 refine H.out.mono ?_
 rintro e w1 ⟨rfl,hb1⟩
 have HB1:=Lib.hid hb1
 clear hb1 H
 go_wp2
 go_ret
 exact ⟨by first | rfl | simp,HB1.out⟩
end Go.Proofs.YtiihalknffbjpaaGreatDoor
namespace Go.Proofs.YtiihalknffbjpaaGreatDoor.Bd
open Go.RowKit Go.Maps Go.Deep
def badC (x:Int):Bool:=decide (x<0) || decide (1000000<x)
theorem ent_cheap1:∀ args w,(callFunc 90 args).run Tryz.prog w=.ok (.enter 90 args) w:=by intro args w;kernel_rfl
theorem ent_cheap2:∀ args w,(callFunc 91 args).run Tryz.prog w=.ok (.enter 91 args) w:=by intro args w;kernel_rfl
theorem cheap1_c (x:Int) (w:World):Calls Tryz.prog 90 #[.int .i64 x] w fun e w'=>e=.returned (.bool (badC x))/\Below w.heap.size w w':=by
 unfold badC
 by_cases h:x<0
 ·rw [decide_eq_true h]
  go_enter Tryz.func90,Tryz.ntmps90
  go_wp2
  go_ret
  exact ⟨rfl,Below.refl _ _⟩
 ·rw [decide_eq_false h]
  go_enter Tryz.func90,Tryz.ntmps90
  go_wp2
  go_ret
  exact ⟨by simp,Below.refl _ _⟩
def cheapC (costs:List Int):Cost:=fun i b=>if b=true/\i<costs.length then costs.getD i 0 else 0
theorem cheapC_ok {costs:List Int} (h:costs.any badC=false):CostOk (cheapC costs):=by
 intro i b
 unfold cheapC
 split
 ·rename_i q
  have:=List.any_eq_false.1 h (costs.getD i 0) (by rw [List.getD_eq_getElem?_getD,List.getElem?_eq_getElem q.2];exact List.getElem_mem q.2)
  unfold badC at this
  generalize costs.getD i 0=x at this ⊢
  simp at this
  omega
 ·omega
theorem cheap2_c (costs:List Int) (i:Nat) (bb:Bool) (a:Nat) (sa:Option Addr) (cap:Nat) (w:World) (hi:i<64) (ha:w.cell? ⟨a,0,none⟩=some (.slice sa costs.length cap)) (hI:IntsIn w sa costs):Calls Tryz.prog 91 #[.int .i64 (i:Int),.bool bb,.pointer (some ⟨a,0,none⟩)] w fun e w'=>e=.returned (.int .i64 (cheapC costs i bb))/\Below w.heap.size w w':=by
 unfold cheapC
 cases bb with
 | false =>
  rw [if_neg (by simp)]
  clear hI
  go_enter Tryz.func91,Tryz.ntmps91
  go_wp2
  go_ret
  exact ⟨rfl,Below.refl _ _⟩
 | true =>
  by_cases hlt:i<costs.length
  ·rw [if_pos ⟨rfl,hlt⟩]
   obtain ⟨ad,rfl,had,cA⟩:=hI i hlt
   generalize costs.getD i 0=x at *
   have h0:(0:Int)<=(i:Int):=by omega
   have h1:(i:Int)<(costs.length:Int):=by omega
   obtain ⟨ab,ao,asp⟩:=ad
   clear hI had
   go_enter Tryz.func91,Tryz.ntmps91
   go_wp2
   go_ret
   exact ⟨rfl,Below.refl _ _⟩
  ·rw [if_neg (fun e=>hlt e.2)]
   have h1:¬ (i:Int)<(costs.length:Int):=by omega
   clear hI
   go_enter Tryz.func91,Tryz.ntmps91
   go_wp2
   go_ret
   exact ⟨rfl,Below.refl _ _⟩
theorem cheap_cost (costs:List Int) (vars:Nat) (hv:vars<=24) {a:Nat} {sa:Option Addr} {cap:Nat} {W0:World} (ha:a<W0.heap.size) (ca:W0.cell? ⟨a,0,none⟩=some (.slice sa costs.length cap)) (hI:IntsIn W0 sa costs):CostAt W0 91 #[.pointer (some ⟨a,0,none⟩)] (cheapC costs) vars:=fun W j bb hW hj =>
 cheap2_c costs j bb a sa cap W (by omega) ((hW.cell (p:=⟨a,0,none⟩) ha).trans ca) (hI.below hW)
section
variable {B p s b:Nat} {O:Nat->Prop} {vars:Nat} {room:Int} {st:List Nd × Int} {w:World}
def cheapV (vars:Nat) (st:List Nd × Int) (costs:List Int):Value:=if costs.any badC then .tuple #[.int .u64 0,.iface 57 (.int .i64 2)] else (fromW (cheapC costs) vars st.1 st.2 0).best
theorem cheap_c (hsol:SolAt B w p s b O vars room st) (hg:Good vars st.1) (hl:st.1.length<=90000) (h24:vars<=24) (hh:hasB st.1 st.2=true) (costs:List Int) (hm:costs.length<=1000000) (sa:Option Addr) (cap:Nat) (hI:IntsIn w sa costs) :
  Calls Tryz.prog 31 #[.pointer (some ⟨p,0,none⟩),.slice sa costs.length cap] w fun e w'=>e=.returned (cheapV vars st costs)/\Below w.heap.size w w':=by
 have hbA:=Go.Proofs.YtiihalknffbjpaaGreatDoor.below_new w (.cells #[.slice sa costs.length cap] 47)
 have hca:(w.alloc (.cells #[.slice sa costs.length cap] 47)).cell? ⟨w.heap.size,0,none⟩=some (.slice sa costs.length cap):=by simp
 have HWH:=Lib.hid (whole_c (hsol.new hbA) hl hh)
 have HIA:=Lib.hid (hI.below hbA)
 have HCF:Hid (∀ W,Below (w.alloc (.cells #[.slice sa costs.length cap] 47)).heap.size (w.alloc (.cells #[.slice sa costs.length cap] 47)) W->Calls Tryz.prog 89 #[.slice sa costs.length cap,.func (.func 90) #[] #[]] W fun e w'=>e=.returned (.bool (costs.any badC))/\Below W.heap.size W w'):=fun W hW=>cf_intsF 90 #[] badC costs sa cap W (by omega) ent_cheap1 (HIA.out.below hW) (fun W' i _ _=>cheap1_c (costs.getD i 0) W')
 have HBS:Hid (costs.any badC=false->∀ W,Below (w.alloc (.cells #[.slice sa costs.length cap] 47)).heap.size (w.alloc (.cells #[.slice sa costs.length cap] 47)) W->Calls Tryz.prog 84 #[.pointer (some ⟨p,0,none⟩),.func (.func 91) #[] #[.pointer (some ⟨w.heap.size,0,none⟩)]] W fun e w'=>e=.returned (fromW (cheapC costs) vars st.1 st.2 0).best/\Below W.heap.size W w'):=fun hok W hW =>
  best_c (F:=91) (cb:=#[.pointer (some ⟨w.heap.size,0,none⟩)]) (C:=cheapC costs) ((hsol.new hbA).new hW) hg hl h24 ent_cheap2 (cheapC_ok hok) ((cheap_cost costs vars h24 (by simp) hca HIA.out).new hW) hh
 have HBA:=Lib.hid hbA
 have HCA:Hid (∀ W,Below (w.alloc (.cells #[.slice sa costs.length cap] 47)).heap.size (w.alloc (.cells #[.slice sa costs.length cap] 47)) W->W.cell? ⟨w.heap.size,0,none⟩=some (.slice sa costs.length cap)):=fun W hW=>(hW.cell (p:=⟨w.heap.size,0,none⟩) (by simp)).trans hca
 clear hsol hg hh hI HIA hbA hca
 unfold cheapV
 cases hq:costs.any badC with
 | true =>
  rw [if_pos rfl]
  rw [hq] at HCF
  clear HBS
  go_enter Tryz.func31,Tryz.ntmps31
  go_wp2_with fail
  refine HWH.out.mono ?_
  rintro e w2 ⟨rfl,hb2⟩
  clear HWH
  have ca:=HCA.out w2 hb2
  go_wp2_with fail
  refine (HCF.out w2 hb2).mono ?_
  rintro e w3 ⟨rfl,hb3⟩
  have hb23:=hb2.trans (hb3.mono hb2.size)
  have HB3:Hid (Below w.heap.size w w3):=HBA.out.trans (hb23.mono HBA.out.size)
  clear ca HCF HCA hb2 hb3
  clear hb23
  go_wp2
  go_ret2
  exact ⟨rfl,HB3.out⟩
 | false =>
  rw [if_neg (by simp)]
  have HBE:=Lib.hid (HBS.out hq)
  rw [hq] at HCF
  clear HBS hq
  generalize fromW (cheapC costs) vars st.1 st.2 0=R at *
  obtain ⟨ri,rc,rb⟩:=R
  unfold Wy.best at *
  go_enter Tryz.func31,Tryz.ntmps31
  go_wp2_with fail
  refine HWH.out.mono ?_
  rintro e w2 ⟨rfl,hb2⟩
  clear HWH
  have ca:=HCA.out w2 hb2
  go_wp2_with fail
  refine (HCF.out w2 hb2).mono ?_
  rintro e w3 ⟨rfl,hb3⟩
  have hb23:=hb2.trans (hb3.mono hb2.size)
  have HB3:Hid (Below w.heap.size w w3):=HBA.out.trans (hb23.mono HBA.out.size)
  clear ca HCF HCA hb2 hb3
  go_wp2_with fail
  refine (HBE.out w3 hb23).mono ?_
  rintro e w4 ⟨rfl,hb4⟩
  have HB4:Hid (Below w.heap.size w w4):=HB3.out.trans (hb4.mono HB3.out.size)
  clear hb4 HBE hb23
  cases rb with
  | false =>
   go_wp2
   go_ret2
   exact ⟨rfl,HB4.out⟩
  | true =>
   go_wp2
   go_ret2
   exact ⟨rfl,HB4.out⟩
end
end Go.Proofs.YtiihalknffbjpaaGreatDoor.Bd
namespace Go.Proofs.YtiihalknffbjpaaGreatDoor.Bd
open Go.RowKit
def csum (C:Cost):Nat->Nat->(Nat->Bool)->Int
 | 0,_,_=>0
 | k + 1,v,f=>C v (f v) + csum C k (v + 1) f
def Agr (k v:Nat) (f f':Nat->Bool):Prop:=∀ i,(i<v\/v + k<=i)->f' i=f i
def LexLe (k v:Nat) (f' f'':Nat->Bool):Prop:=(∀ i,v<=i->i<v + k->f' i=f'' i)\/∃ j,v<=j/\j<v + k/\f' j=true/\f'' j=false/\∀ i,v<=i->i<j->f' i=f'' i
theorem Agr.down {k v:Nat} {f f':Nat->Bool} (h:Agr (k + 1) v f f') {b:Bool} (hb:f' v=b):Agr k (v + 1) (turn f v b) f':=fun i hi=>by
 by_cases e:i=v
 ·rw [e,turnV_at,hb]
 ·rw [turnV_ne _ _ e];exact h i (by omega)
theorem Agr.up {k v:Nat} {f f':Nat->Bool} {b:Bool} (h:Agr k (v + 1) (turn f v b) f'):Agr (k + 1) v f f':=fun i hi=>by
 rw [h i (by omega),turnV_ne _ _ (by omega)]
theorem Agr.at {k v:Nat} {f f':Nat->Bool} {b:Bool} (h:Agr k (v + 1) (turn f v b) f'):f' v=b:=by rw [h v (by omega),turnV_at]
theorem LexLe.up {k v:Nat} {f' f'':Nat->Bool} (h:LexLe k (v + 1) f' f'') (e:f' v=f'' v):LexLe (k + 1) v f' f'':=by
 rcases h with h | ⟨j,h1,h2,h3,h4,h5⟩
 ·left
  intro i h1 h2
  by_cases ei:i=v
  ·rw [ei,e]
  ·exact h i (by omega) (by omega)
 ·right
  refine ⟨j,by omega,by omega,h3,h4,fun i i1 i2=>?_⟩
  by_cases ei:i=v
  ·rw [ei,e]
  ·exact h5 i (by omega) i2
structure Best (C:Cost) (k v:Nat) (g:Fn') (f:Nat->Bool) (x:Wy):Prop where
 no:x.can=false->∀ f',Agr k v f f'->g f'=false
 yes:x.can=true->∃ f',Agr k v f f'/\g f'=true/\x.cost=csum C k v f'/\(∀ i,x.items.testBit i=(decide (v<=i/\i<v + k) && f' i))/\∀ f'',Agr k v f f''->g f''=true->x.cost<csum C k v f''\/x.cost=csum C k v f''/\LexLe k v f' f''
theorem bst_best (C:Cost):∀ (k v:Nat) (g:Fn') (f:Nat->Bool),Best C k v g f (bstV C k v g f)
 | 0,v,g,f=>by
  have key:∀ f',Agr 0 v f f'->f'=f:=fun f' h=>funext fun i=>h i (by omega)
  unfold bstV
  refine ⟨fun h f' hf=>by rw [key f' hf];exact h,fun h=>⟨f,fun _ _=>rfl,h,rfl,fun i=>?_,fun f'' hf _=>Or.inr ⟨rfl,Or.inl fun i h1 h2=>by omega⟩⟩⟩
  have:decide (v<=i/\i<v + 0)=false:=decide_eq_false (by omega)
  rw [this]
  simp
 | k + 1,v,g,f=>by
  have ho:=bst_best C k (v + 1) g (turn f v false)
  have hi:=bst_best C k (v + 1) g (turn f v true)
  unfold bstV
  generalize bstV C k (v + 1) g (turn f v false)=wo at ho
  generalize bstV C k (v + 1) g (turn f v true)=wi at hi
  by_cases hc:wi.can=true/\(wo.can=false\/(wiF C v wi).cost<=(woF C v wo).cost)
  ·have hB:betF C v wo wi=wiF C v wi:=by unfold betF;rw [if_pos hc]
   rw [hB]
   obtain ⟨f',a1,a2,a3,a4,a5⟩:=hi.yes hc.1
   have hv:=a1.at
   refine ⟨fun h=>absurd (h.symm.trans hc.1) (by simp),fun _=>⟨f',a1.up,a2,?_,fun i=>?_,fun f'' hf hg=>?_⟩⟩
   ·show wi.cost + C v true=C v (f' v) + _
    rw [hv,a3];omega
   ·show (wi.items ||| 2 ^ v).testBit i=_
    rw [Nat.testBit_or,Nat.testBit_two_pow,a4 i]
    by_cases e:v=i
    ·subst e
     rw [hv]
     have:decide (v<=v/\v<v + (k + 1))=true:=decide_eq_true (by omega)
     rw [this];simp
    ·have:decide (v + 1<=i/\i<v + 1 + k)=decide (v<=i/\i<v + (k + 1)):=by
      by_cases q:v + 1<=i/\i<v + 1 + k
      ·rw [decide_eq_true q,decide_eq_true (by omega)]
      ·rw [decide_eq_false q,decide_eq_false (by omega)]
     rw [this];simp [e]
   ·show wi.cost + C v true<C v (f'' v) + _\/wi.cost + C v true=C v (f'' v) + _/\_
    cases hq:f'' v with
    | true =>
     rcases a5 f'' (hf.down hq) hg with h | ⟨h,hl⟩
     ·left;omega
     ·right;exact ⟨by omega,hl.up (hv.trans hq.symm)⟩
    | false =>
     have hcan:wo.can=true:=by
      cases e:wo.can with
      | true=>rfl
      | false=>exact absurd (hg.symm.trans (ho.no e f'' (hf.down hq))) (by simp)
     have hle:wi.cost + C v true<=wo.cost + C v false:=by
      rcases hc.2 with h | h
      ·exact absurd (h.symm.trans hcan) (by simp)
      ·exact h
     obtain ⟨fo,b1,b2,b3,b4,b5⟩:=ho.yes hcan
     have hmin:wo.cost<=csum C k (v + 1) f'':=by rcases b5 f'' (hf.down hq) hg with h | ⟨h,_⟩ <;> omega
     by_cases e:wi.cost + C v true<C v false + csum C k (v + 1) f''
     ·left;exact e
     ·right;exact ⟨by omega,Or.inr ⟨v,Nat.le_refl _,by omega,hv,hq,fun i h1 h2=>by omega⟩⟩
  ·have hB:betF C v wo wi=woF C v wo:=by unfold betF;rw [if_neg hc]
   rw [hB]
   refine ⟨fun h f' hf=>?_,fun h=>?_⟩
   ·have hco:wo.can=false:=h
    have hci:wi.can=false:=by
     cases e:wi.can with
     | false=>rfl
     | true=>exact absurd ⟨e,Or.inl hco⟩ hc
    cases hq:f' v with
    | true=>exact hi.no hci f' (hf.down hq)
    | false=>exact ho.no hco f' (hf.down hq)
   ·have hco:wo.can=true:=h
    obtain ⟨f',a1,a2,a3,a4,a5⟩:=ho.yes hco
    have hv:=a1.at
    refine ⟨f',a1.up,a2,?_,fun i=>?_,fun f'' hf hg=>?_⟩
    ·show wo.cost + C v false=C v (f' v) + _
     rw [hv,a3];omega
    ·show wo.items.testBit i=_
     rw [a4 i]
     by_cases e:v=i
     ·subst e
      rw [hv];simp
     ·have:decide (v + 1<=i/\i<v + 1 + k)=decide (v<=i/\i<v + (k + 1)):=by
       by_cases q:v + 1<=i/\i<v + 1 + k
       ·rw [decide_eq_true q,decide_eq_true (by omega)]
       ·rw [decide_eq_false q,decide_eq_false (by omega)]
      rw [this]
    ·show wo.cost + C v false<C v (f'' v) + _\/wo.cost + C v false=C v (f'' v) + _/\_
     cases hq:f'' v with
     | false =>
      rcases a5 f'' (hf.down hq) hg with h | ⟨h,hl⟩
      ·left;omega
      ·right;exact ⟨by omega,hl.up (hv.trans hq.symm)⟩
     | true =>
      left
      have hci:wi.can=true:=by
       cases e:wi.can with
       | true=>rfl
       | false=>exact absurd (hg.symm.trans (hi.no e f'' (hf.down hq))) (by simp)
      obtain ⟨fi,b1,b2,b3,b4,b5⟩:=hi.yes hci
      have hmin:wi.cost<=csum C k (v + 1) f'':=by rcases b5 f'' (hf.down hq) hg with h | ⟨h,_⟩ <;> omega
      have hlt:¬ (wi.cost + C v true<=wo.cost + C v false):=fun e=>hc ⟨hci,Or.inr e⟩
      omega
end Go.Proofs.YtiihalknffbjpaaGreatDoor.Bd
namespace Go.Proofs.YtiihalknffbjpaaGreatDoor.Bd
open Go.RowKit Go.Maps Go.Deep
theorem shr_valB (x t:Nat) (hx:x<18446744073709551616):bits BinOp.and IntKind.u64 ((x:Int) / 2 ^ t) 1=oneI (x.testBit t):=by
 have e:(x:Int) / 2 ^ t=((x / 2 ^ t:Nat):Int):=by simp
 have hd:x / 2 ^ t<=x:=Nat.div_le_self _ _
 rw [e,Nat.testBit_eq_decide_div_mod_eq]
 generalize x / 2 ^ t=m at *
 rw [and_one_u64 _ (by omega) (by omega)]
 unfold oneI
 by_cases h:m % 2=1
 ·rw [decide_eq_true h,if_pos rfl];omega
 ·rw [decide_eq_false h,if_neg (by simp)];omega
def payI (P:Nat->Int) (a:Nat):Nat->Int
 | 0=>0
 | k + 1=>payI P a k + P k * oneI (a.testBit k)
theorem oneI_01 (x:Bool):oneI x=0\/oneI x=1:=by unfold oneI;cases x <;> simp
theorem payI_le {P:Nat->Int} (hP:∀ k,0<=P k/\P k<=1000000) (a:Nat):∀ k,0<=payI P a k/\payI P a k<=1000000 * k
 | 0=>by unfold payI;omega
 | k + 1=>by
  have:=payI_le hP a k
  have:=hP k
  unfold payI
  rcases oneI_01 (a.testBit k) with h | h <;> rw [h] <;> omega
theorem ones_c (a vars q:Nat) (ha:a<18446744073709551616) (hv:vars<=24) (w:World) (hc:w.cell? ⟨q,0,none⟩=some (.int .i64 (vars:Int))) :
  Calls Tryz.prog 40 #[.int .u64 (a:Int),.pointer (some ⟨q,0,none⟩)] w fun e w'=>e=.returned (.int .i64 (payI (fun _=>1) a vars))/\w=w':=by
 go_enter Tryz.func40,Tryz.ntmps40
 go_wp2_with fail
 go_loopw [4,5] (fun nV kV wr=>∃ k:Nat,k<=vars/\kV=.int .i64 (k:Int)/\nV=.int .i64 (payI (fun _=>1) a k)/\wr=w) (fun _ kV _=>vars - (intOf kV).toNat)
 case atStart=>exact ⟨0,Nat.zero_le _,rfl,rfl,rfl⟩
 case round =>
  obtain ⟨k,hk,rfl,rfl,rfl⟩:=hrel
  by_cases hlt:k<vars
  ·have hs:=shr_valB a k ha
   have h01:=oneI_01 (a.testBit k)
   have hp:=payI_le (P:=fun _=>1) (fun _=>by omega) a k
   have hst:payI (fun _=>1) a (k + 1)=payI (fun _=>1) a k + oneI (a.testBit k):=by
    show _ + 1 * _=_
    omega
   have HST:=Lib.hid hst
   clear hst
   have hk0:(k:Int)<(vars:Int):=by omega
   generalize payI (fun _=>1) a k=pk at *
   generalize oneI (a.testBit k)=ob at *
   have hw1:IntKind.i64.wrap ob=ob:=by rw [IntKind.wrap_i64];omega
   have hw2:IntKind.i64.wrap (pk + ob)=pk + ob:=by rw [IntKind.wrap_i64];omega
   go_wp2
   go_roundw
   case rel=>exact ⟨k + 1,hlt,by go_num,by rw [HST.out],by first | rfl | trivial⟩
   case measure=>simp [intOf];omega
  ·obtain rfl:k=vars:=by omega
   go_wp2
   go_ret
   exact ⟨rfl,rfl⟩
def costP (costs:List Int):Nat->Int:=fun k=>if k<costs.length then costs.getD k 0 else 0
theorem costP_ok {costs:List Int} (h:costs.any badC=false) (k:Nat):0<=costP costs k/\costP costs k<=1000000:=by
 have:=cheapC_ok h k true
 unfold cheapC at this
 unfold costP
 by_cases q:k<costs.length
 ·rw [if_pos ⟨rfl,q⟩] at this;rw [if_pos q];exact this
 ·rw [if_neg q];omega
theorem payI_stop (costs:List Int) (a:Nat):∀ k,costs.length<=k->payI (costP costs) a k=payI (costP costs) a costs.length
 | 0,h=>by rw [show costs.length=0 by omega]
 | k + 1,h=>by
  by_cases e:costs.length=k + 1
  ·rw [e]
  ·have h1:costP costs k=0:=if_neg (by omega)
   show payI _ a k + costP costs k * _=_
   rw [h1,payI_stop costs a k (by omega)];omega
theorem price_c (a vars q:Nat) (ha:a<18446744073709551616) (hv:vars<=24) (costs:List Int) (hok:costs.any badC=false) (qc:Nat) (sa:Option Addr) (cap:Nat) (w:World) (hc:w.cell? ⟨q,0,none⟩=some (.int .i64 (vars:Int))) (hq:w.cell? ⟨qc,0,none⟩=some (.slice sa costs.length cap)) (hI:IntsIn w sa costs) :
  Calls Tryz.prog 41 #[.int .u64 (a:Int),.pointer (some ⟨q,0,none⟩),.pointer (some ⟨qc,0,none⟩)] w fun e w'=>e=.returned (.int .i64 (payI (costP costs) a vars))/\Below w.heap.size w w':=by
 have HI:=Lib.hid hI
 have HOK:=Lib.hid (costP_ok hok)
 clear hok hI
 go_enter Tryz.func41,Tryz.ntmps41
 go_wp2_with fail
 go_loopw [5,6] (fun nV kV wr=>∃ k:Nat,k<=vars/\k<=costs.length/\kV=.int .i64 (k:Int)/\nV=.int .i64 (payI (costP costs) a k)/\Below w.heap.size w wr/\wr.cell? ⟨q,0,none⟩=some (.int .i64 (vars:Int))/\wr.cell? ⟨qc,0,none⟩=some (.slice sa costs.length cap)) (fun _ kV _=>vars - (intOf kV).toNat)
 case atStart=>exact ⟨0,Nat.zero_le _,Nat.zero_le _,rfl,rfl,Below.refl _ _,hc,hq⟩
 case round =>
  clear hc hq
  obtain ⟨k,hk,hkc,rfl,rfl,hbr,hc,hq⟩:=hrel
  have HBR:=Lib.hid hbr
  by_cases hlt:k<vars
  ·have hk0:(k:Int)<(vars:Int):=by omega
   by_cases hlc:k<costs.length
   ·have hk1:(k:Int)<(costs.length:Int):=by omega
    have hk2:(0:Int)<=(k:Int):=by omega
    obtain ⟨ad,rfl,had,cA⟩:=HI.out.below hbr k hlc
    have hs:=shr_valB a k ha
    have h01:=oneI_01 (a.testBit k)
    have hp:=payI_le HOK.out a k
    have hpk:0<=costs.getD k 0/\costs.getD k 0<=1000000:=by have:=HOK.out k;unfold costP at this;rw [if_pos hlc] at this;exact this
    have hst:payI (costP costs) a (k + 1)=payI (costP costs) a k + costs.getD k 0 * oneI (a.testBit k):=by
     show _ + costP costs k * _=_
     unfold costP
     rw [if_pos hlc]
    have HST:=Lib.hid hst
    clear hst hbr had
    generalize payI (costP costs) a k=pk at *
    generalize oneI (a.testBit k)=ob at *
    generalize costs.getD k 0=ck at *
    obtain ⟨pr,hpr⟩:∃ pr,ck * ob=pr:=⟨_,rfl⟩
    have hpr1:0<=pr/\pr<=1000000:=by rcases h01 with h | h <;> rw [h] at hpr <;> omega
    have hw1:IntKind.i64.wrap ob=ob:=by rw [IntKind.wrap_i64];omega
    have hw3:IntKind.i64.wrap (ck * ob)=pr:=by rw [hpr,IntKind.wrap_i64];omega
    have hw2:IntKind.i64.wrap (pk + pr)=pk + pr:=by rw [IntKind.wrap_i64];omega
    rw [hpr] at HST
    have hIC:Hid (∀ n,Below w.heap.size w (wr.drewN n)):=fun n=>HBR.out.trans ((below_drewN _ wr n).mono HBR.out.size)
    have hcc:Hid (∀ n,(wr.drewN n).cell? ⟨q,0,none⟩=some (.int .i64 (vars:Int))/\(wr.drewN n).cell? ⟨qc,0,none⟩=some (.slice (some ad) costs.length cap)):=fun n=>⟨hc,hq⟩
    obtain ⟨ab,ao,asp⟩:=ad
    clear hpr
    go_wp2_with fail
    go_quiet (fail)
    go_wp2
    go_roundw
    case rel=>exact ⟨k + 1,hlt,hlc,by go_num,by rw [HST.out],hIC.out _,(hcc.out _).1,(hcc.out _).2⟩
    case measure=>simp [intOf];omega
   ·have hk1:¬ (k:Int)<(costs.length:Int):=by omega
    have hR:payI (costP costs) a vars=payI (costP costs) a k:=by rw [payI_stop costs a vars (by omega),show k=costs.length by omega]
    have HR:=Lib.hid hR
    clear hR hbr
    go_wp2
    go_ret
    exact ⟨by rw [HR.out];rfl,HBR.out⟩
  ·obtain rfl:k=vars:=by omega
   clear hbr
   go_wp2
   go_ret
   exact ⟨rfl,HBR.out⟩
end Go.Proofs.YtiihalknffbjpaaGreatDoor.Bd
