/- space: either: the walk. -/
import Derived.Test.YtiihalknffbjpaaGreatDoorSpEithP
import Derived.Test.YtiihalknffbjpaaGreatDoorCtSmall
set_option maxHeartbeats 4000000
set_option maxRecDepth 100000
namespace Go.Proofs.YtiihalknffbjpaaGreatDoor.Bd
open Go.RowKit Go.Maps Go.Deep
attribute [local go_sem] Oper.semAt_some
def eithR (ns:List Nd) (c:List Int):List Nd × Int:=if alwaysF (sidesF c)=true then (ns,1) else eithF ns (clauseF (sidesF c))
section
variable {B s b:Nat} {O:Nat->Prop} {vars:Nat} {room:Int} {ns:List Nd} {w:World}
structure EAsk (B:Nat) (w:World) (vars:Nat) (room:Int) (ns:List Nd):Prop where
 r:room<=4000
 l:((2 * 2 ^ vars + 25 * vars:Nat):Int)<=room + 1
 good:Good vars ns
 v:vars<=10
 cnt:cnt ns + 1<=2 ^ vars
 len:ns.length<=2 * 2 ^ vars + 600
 hB:B<=w.heap.size
theorem pow10 {vars:Nat} (h:vars<=10):2 ^ vars<=1024:=Nat.pow_le_pow_right (by omega) h
theorem room_of {ns:List Nd} {w:World} (hr:room<=4000) (hl:((2 * 2 ^ vars + 25 * vars:Nat):Int)<=room + 1) (h:cnt ns + 2 ^ vars<=2 * 2 ^ vars + 25 * vars) (hn:ns.length + 2 ^ vars<=90000) (hv:vars<=12) (hB:B<=w.heap.size):Room B w vars room ns:=⟨hr,Int.le_trans (Int.ofNat_le.2 h) hl,hn,hv,hB⟩
theorem either_always (hS:SpaceAt B w s b O vars room ns) (c:List Int) (ha:alwaysF (sidesF c)=true) (a:Option Addr) (cap:Nat) (hI:IntsIn w a c) (hm:c.length<=9223372036854775807) :
  Calls Tryz.prog 224 #[.pointer (some ⟨s,0,none⟩),.slice a c.length cap] w (OpOut B s b O vars room (ns,1) w):=by
 have k0:=((Blk.new w 35 #[.pointer (some ⟨s,0,none⟩)]).alloc (.cells #[.int .i64 0] 3)).alloc (.cells #[.nilIface] 31)
 have k1:=(Blk.new (w.alloc (.cells #[.pointer (some ⟨s,0,none⟩)] 35)) 3 #[.int .i64 0]).alloc (.cells #[.nilIface] 31)
 have k2:=Blk.new ((w.alloc (.cells #[.pointer (some ⟨s,0,none⟩)] 35)).alloc (.cells #[.int .i64 0] 3)) 31 #[.nilIface]
 simp only [World.size_alloc] at k1 k2
 have hbA:Below w.heap.size w (((w.alloc (.cells #[.pointer (some ⟨s,0,none⟩)] 35)).alloc (.cells #[.int .i64 0] 3)).alloc (.cells #[.nilIface] 31)):=(((Below.refl _ w).alloc (Nat.le_refl _) _).alloc (by simp only [World.size_alloc];omega) _).alloc (by simp only [World.size_alloc];omega) _
 have hform:=form_any c a cap _ (hI.below hbA) hm
 have hfr:formF c=([],true):=by unfold formF;rw [if_pos ha]
 rw [hfr] at hform
 have HF:=Lib.hid hform
 have HBA:=Lib.hid hbA
 have HS:=Lib.hid hS
 have K1:=Lib.hid k1
 have K2:=Lib.hid k2
 clear hform hbA hI hS k0 k1 k2 ha hfr
 go_enter Tryz.func224,Tryz.ntmps224
 go_wp2_with fail
 refine HF.out.mono ?_
 rintro e w1 ⟨⟨a1,c1,rfl,-⟩,hb1⟩
 have hb2:=HBA.out.trans (hb1.mono HBA.out.size)
 have j1:=K1.out.below hb1 K1.out.lt
 have j2:=K2.out.below hb1 K2.out.lt
 have e1:=j1.cell 0
 have f1:=j1.frozen 0
 have e2:(w1.setCell ⟨w.heap.size + 1,0,none⟩ (.int .i64 1)).cell? ⟨w.heap.size + 1 + 1,0,none⟩=some .nilIface:=(j2.other (by omega)).cell 0
 have f2:(w1.setCell ⟨w.heap.size + 1,0,none⟩ (.int .i64 1)).frozen? ⟨w.heap.size + 1 + 1,0,none⟩=false:=(j2.other (by omega)).frozen 0
 have r1:((w1.setCell ⟨w.heap.size + 1,0,none⟩ (.int .i64 1)).setCell ⟨w.heap.size + 1 + 1,0,none⟩ .nilIface).cell? ⟨w.heap.size + 1,0,none⟩=some (.int .i64 1):=((j1.set (i:=0) (v:=.int .i64 1)).other (by omega)).cell 0
 have r2:((w1.setCell ⟨w.heap.size + 1,0,none⟩ (.int .i64 1)).setCell ⟨w.heap.size + 1 + 1,0,none⟩ .nilIface).cell? ⟨w.heap.size + 1 + 1,0,none⟩=some .nilIface:=((j2.other (by omega)).set (i:=0) (v:=.nilIface)).cell 0
 have HB:Hid (Below w.heap.size w ((w1.setCell ⟨w.heap.size + 1,0,none⟩ (.int .i64 1)).setCell ⟨w.heap.size + 1 + 1,0,none⟩ .nilIface)):=(hb2.setCell (p:=⟨w.heap.size + 1,0,none⟩) (by show w.heap.size<=w.heap.size + 1;omega) _).setCell (p:=⟨w.heap.size + 1 + 1,0,none⟩) (by show w.heap.size<=w.heap.size + 1 + 1;omega) _
 clear hb1 hb2 HF j1 j2 K1 K2
 go_wp2
 refine bodyPost_ret (v:=.tuple #[.int .i64 1,.nilIface]) (by simp [results,Tryz.f224,go_sem,r1,r2]) rfl ?_
 exact ⟨rfl,O,HS.out.new HB.out,Moves.of_below O HB.out⟩
theorem either_in (hS:SpaceAt B w s b O vars room ns) (hA:EAsk B w vars room ns) (c:List Int) (ha:alwaysF (sidesF c)=false) (hl:Lits vars c) (a:Option Addr) (cap:Nat) (hI:IntsIn w a c) (hm:c.length<=9223372036854775807) :
  CallsIn Fence.wide 4 Tryz.prog 224 #[.pointer (some ⟨s,0,none⟩),.slice a c.length cap] w (OpOut B s b O vars room (eithF ns (clauseF (sidesF c))) w):=by
 have k0:=((Blk.new w 35 #[.pointer (some ⟨s,0,none⟩)]).alloc (.cells #[.int .i64 0] 3)).alloc (.cells #[.nilIface] 31)
 have k1:=(Blk.new (w.alloc (.cells #[.pointer (some ⟨s,0,none⟩)] 35)) 3 #[.int .i64 0]).alloc (.cells #[.nilIface] 31)
 have k2:=Blk.new ((w.alloc (.cells #[.pointer (some ⟨s,0,none⟩)] 35)).alloc (.cells #[.int .i64 0] 3)) 31 #[.nilIface]
 simp only [World.size_alloc] at k1 k2
 have hbA:Below w.heap.size w (((w.alloc (.cells #[.pointer (some ⟨s,0,none⟩)] 35)).alloc (.cells #[.int .i64 0] 3)).alloc (.cells #[.nilIface] 31)):=(((Below.refl _ w).alloc (Nat.le_refl _) _).alloc (by simp only [World.size_alloc];omega) _).alloc (by simp only [World.size_alloc];omega) _
 have hform:=form_any c a cap _ (hI.below hbA) hm
 have hfr:formF c=(clauseF (sidesF c),false):=by unfold formF;rw [if_neg (by rw [ha];simp)]
 rw [hfr] at hform
 have hl24:Lits 24 c:=fun x hx=>lit_24 (by have:=hA.v;omega) (hl x hx)
 have hvar:∀ x ∈ clauseF (sidesF c),varN x<vars:=fun x hx=>lit_var (hl x ((mem_form hl24 ha).1 hx))
 have hlit:∀ x ∈ clauseF (sidesF c),litB 24 x=true:=fun x hx=>hl24 x ((mem_form hl24 ha).1 hx)
 have hxl:=clauseF_vars (show vars<=24 by have:=hA.v;omega) hl
 have hroom4:=hA.r
 have HROOM:=Lib.hid hA.l
 generalize clauseF (sidesF c)=xs at *
 have hp10:=pow10 hA.v
 have hone:=Nat.one_le_two_pow (n:=vars)
 have hcn:=hA.cnt
 have hln:=hA.len
 have HEI:Hid (∀ ys:List Int,ys.length<=24->(∀ x ∈ ys,varN x<vars)->EiR vars ns ys (eithF ns ys)):=fun ys h1 h2=>eith_ok hA.good (by have:=hA.v;omega) (by omega) (by omega) (by omega) ys (by omega) h2
 have HF:=Lib.hid (callsIn_wide (n:=3).2 hform)
 have HBA:=Lib.hid hbA
 have HS:=Lib.hid hS
 have HA:=Lib.hid hA
 have HLIT:=Lib.hid hlit
 have HVAR:=Lib.hid hvar
 have K0:=Lib.hid k0
 have K1:=Lib.hid k1
 have K2:=Lib.hid k2
 have hso:=fun k h=>(hS.own k h).2
 have hsl:=hS.slt
 have hvar0:vars<=10:=hA.v
 clear hform hbA hI hS hA k0 k1 k2 ha hfr hl hl24 hvar hlit
 refine callsIn_of_wp_marks Tryz.func224 rfl trivial ?_ rfl
 simp only [Tryz.ntmps224,List.size_toArray,List.length_cons,List.length_nil,Nat.reduceAdd,Nat.reduceSub,Array.replicate_succ,Array.replicate_zero,List.push_toArray,List.append_toArray,List.nil_append,List.cons_append]
 gi_wp2_with fail
 refine ⟨trivial,?_⟩
 refine HF.out.mono ?_
 rintro e w1 ⟨⟨a1,c1,rfl,hrow⟩,hb1⟩
 have hb2:=HBA.out.trans (hb1.mono HBA.out.size)
 have j0:=K0.out.below hb1 K0.out.lt
 have j1:=K1.out.below hb1 K1.out.lt
 have j2:=K2.out.below hb1 K2.out.lt
 have hw1:=hb1.size
 simp only [World.size_alloc] at hw1
 clear HF K0 K1 K2 HBA hb1
 have HGG:Hid (CallsIn Fence.wide 3 Tryz.prog 283 #[.slice a1 xs.length c1] (w1.alloc (.cells #[.int .i64 0] 3)) fun e w'=>e=.returned (.func (.func 321) #[] #[.pointer (some ⟨w1.heap.size + 1,0,none⟩)])/\w'=(w1.alloc (.cells #[.int .i64 0] 3)).alloc (.cells #[.slice a1 xs.length c1] 81)):=by
  have:=back_in a1 xs.length c1 (w1.alloc (.cells #[.int .i64 0] 3))
  rw [World.size_alloc] at this
  exact this
 gi_wp2_with fail
 refine ⟨trivial,?_⟩
 refine HGG.out.mono ?_
 rintro e w' ⟨rfl,rfl⟩
 clear HGG
 have l0:=(j0.alloc (.cells #[.int .i64 0] 3)).alloc (.cells #[.slice a1 xs.length c1] 81)
 have l1:=(j1.alloc (.cells #[.int .i64 0] 3)).alloc (.cells #[.slice a1 xs.length c1] 81)
 have l2:=(j2.alloc (.cells #[.int .i64 0] 3)).alloc (.cells #[.slice a1 xs.length c1] 81)
 have l3:=(Blk.new w1 3 #[.int .i64 0]).alloc (.cells #[.slice a1 xs.length c1] 81)
 have l4:=Blk.new (w1.alloc (.cells #[.int .i64 0] 3)) 81 #[.slice a1 xs.length c1]
 simp only [World.size_alloc] at l4
 have hbB:Below w1.heap.size w1 ((w1.alloc (.cells #[.int .i64 0] 3)).alloc (.cells #[.slice a1 xs.length c1] 81)):=((Below.refl _ w1).alloc (Nat.le_refl _) _).alloc (by simp only [World.size_alloc];omega) _
 have hsz:((w1.alloc (.cells #[.int .i64 0] 3)).alloc (.cells #[.slice a1 xs.length c1] 81)).heap.size=w1.heap.size + 1 + 1:=by simp only [World.size_alloc]
 have hrow2:=row_new' hrow hbB
 have hrlt:=hrow.lt
 simp only [World.size_alloc] at hrlt
 obtain ⟨W0,hW0⟩:∃ W0,(w1.alloc (.cells #[.int .i64 0] 3)).alloc (.cells #[.slice a1 xs.length c1] 81)=W0:=⟨_,rfl⟩
 rw [hW0] at l0 l1 l2 l3 l4 hbB hsz hrow2 ⊢
 clear hW0 hrow
 have hbW:Below w.heap.size w W0:=hb2.trans (hbB.mono hb2.size)
 have HSZ:=Lib.hid hsz
 have hI0:IntsIn W0 a1 xs:=ints_row hrow2
 have hO0:∀ k,O k->k<W0.heap.size:=fun k h=>by have:=hso k h;omega
 have hQ:∀ i,i<xs.length->(litB 24 (xs.getD i 0)=true/\varN (xs.getD i 0)<vars):=fun i hi=>⟨HLIT.out _ (getD_mem hi),HVAR.out _ (getD_mem hi)⟩
 have hst:=back_stops (w1.heap.size + 1) (fun k=>k<W0.heap.size/\¬ O k/\k ≠ w1.heap.size) (fun x=>litB 24 x=true/\varN x<vars) xs a1 c1 (by omega) hQ W0 ⟨by omega,fun h=>by have:=hso _ h;omega,by omega⟩ (fun k h=>h.1) (l4.cell 0) (fun i hi=>by
  obtain ⟨ad,e,h1,h2⟩:=hI0 i hi
  subst e
  have hlt:=hrlt ad.block rfl
  exact ⟨ad,rfl,⟨h1,fun h=>by have:=hso _ h;omega,by omega⟩,h2⟩)
 have h0:EI B s b vars room O w1.heap.size W0 ns (litsQ ([]:List (PQ (fun x=>litB 24 x=true/\varN x<vars)))) W0:=⟨O,HS.out.new hbW,MM.refl O _ W0,l3.cell 0,l3.frozen 0⟩
 have HL0:=Lib.hid l0
 have HL1:=Lib.hid l1
 have HL2:=Lib.hid l2
 have HBW:=Lib.hid hbW
 have hBw:B<=W0.heap.size:=by have:=HA.out.hB;omega
 clear l0 l1 l2 l3 l4 hrow2 hI0 hbB hb2 j0 j1 j2 hQ hbW hrlt
 gi_wp2_with fail
 refine wpIn_rangeFunc_ownG rfl (by omega) (gf:=321) (lb:=#[.pointer (some ⟨w1.heap.size + 1,0,none⟩)]) rfl trivial (enters_of Tryz.func321 (by kernel_rfl) rfl)
  hst kpR_t (kpR_b (fun k h=>h.1)) (Below.refl _ _) (fun _=>rfl)
  (fun pre W=>EI B s b vars room O w1.heap.size W0 ns (litsQ pre) W) (fun _ _ _=>False)
  (EI.own hO0 (by omega) (by omega) ns) (fun _ _ _ _ _ h _ _=>h)
  h0 (fun x=>{ tmps:=#[.pointer (some ⟨s,0,none⟩),.slice a c.length cap,.pointer (some ⟨w.heap.size,0,none⟩),undef,.pointer (some ⟨w.heap.size + 1,0,none⟩),.pointer (some ⟨w.heap.size + 1 + 1,0,none⟩),.slice a1 xs.length c1,.bool false,.pointer (some ⟨w1.heap.size,0,none⟩),undef,.int .i64 x.1.2,undef,undef,.tuple #[.slice a1 xs.length c1,.bool false],.slice a c.length cap,.tuple #[.slice a1 xs.length c1,.bool false],.slice a1 xs.length c1,.bool false,.bool false,.slice a1 xs.length c1,.func (.func 321) #[] #[.pointer (some ⟨w1.heap.size + 1,0,none⟩)],.int .i64 (x.1.1:Int),.int .i64 x.1.2,undef,undef,undef,undef,undef,undef,undef,undef,undef,undef,undef,undef,undef,undef,undef,undef,undef,undef,undef,undef,undef,undef,undef],defers:=[] }) ?assign ?body ?done ?stop
 case assign =>
  intro l x W K hK
  unfold encB
  gi_wp2
  exact hK
 case stop=>exact fun _ _ _ _ _ _ h _=>h.elim
 case body =>
  rintro l pre x W ⟨O1,hS1,hMM,hc,hf⟩ hlen
  obtain ⟨hq1,hq2⟩:=x.2
  have hyl:=litsQ_len pre
  have hE:=HEI.out (litsQ pre) (by omega) (fun y hy=>(litsQ_all pre y hy).2)
  have HSN:Hid (eithF ns (litsQ (pre++[x]))=eStep (eithF ns (litsQ pre)) x.1.2):=by show _=_;rw [litsQ_snoc];rfl
  have hec:=hE.cnt
  have het:=hE.tight
  generalize eithF ns (litsQ pre)=st at *
  generalize hx:x.1.2=xv at *
  have hdm1:¬ O1 w1.heap.size:=hMM.beside (by omega) (fun h=>by have:=hso _ h;omega)
  have hsb1:¬ O1 w.heap.size:=hMM.beside (by omega) (fun h=>by have:=hso _ h;omega)
  have hW0s:=hMM.size
  have d0:W.drew.cell? ⟨w.heap.size,0,none⟩=some (.pointer (some ⟨s,0,none⟩)):=(hMM.cell (a:=⟨w.heap.size,0,none⟩) (by show w.heap.size<_;omega) (fun h=>by have:=hso w.heap.size h;omega) (by show w.heap.size ≠ _;omega)).trans (HL0.out.cell 0)
  have hbd:Below W.heap.size W W.drew:=(Below.refl _ _).drew
  have hLc:=lit_op (v:=(varN xv:Int)) (is:=decide (0<xv)) (hS1.new hbd) (room_of hroom4 HROOM.out (by omega) (by omega) (by omega) (by show B<=W.heap.size;omega)) (by omega) (by omega)
  have hLF:=litF_few hE.good (v:=(varN xv:Int)) (decide (0<xv)) (by omega) (by omega) (by omega) (by omega)
  have hLR:=litR_ok hE.good hq2 (by omega) (by omega)
  have HES:Hid (eStep st xv=askF true (litR st.1 xv).1 ⟨(litR st.1 xv).2,1,st.2⟩):=rfl
  change Calls _ _ _ _ (OpOut B s b O1 vars room (litR st.1 xv) W.drew) at hLc
  change cnt (litR st.1 xv).1<=_/\(litR st.1 xv).1.length<=_ at hLF
  have hOr:Hid (∀ O2 X,SpaceAt B X s b O2 vars room (litR st.1 xv).1->B<=X.heap.size->Calls Tryz.prog 285 #[.pointer (some ⟨s,0,none⟩),.int .i64 (litR st.1 xv).2,.int .i64 st.2] X (OpOut B s b O2 vars room (eStep st xv) X)):=fun O2 X h1 h2=>or_op h1 hLR.good (room_of hroom4 HROOM.out (by omega) (by omega) (by omega) h2) _ _ hLR.has (hLR.ext.has _ hE.has)
  generalize eStep st xv=r2 at *
  generalize litR st.1 xv=r1 at *
  have HVC:Hid (∀ X:World,CallsIn Fence.wide 1 Tryz.prog 222 #[.int .i64 xv] X fun e w'=>e=.returned (.int .i64 (varN xv:Int))/\X=w'):=fun X=>callsIn_wide.2 (variable_c xv hq1 X)
  have HLC:Hid (CallsIn Fence.wide 1 Tryz.prog 284 #[.pointer (some ⟨s,0,none⟩),.int .i64 (varN xv:Int),.bool (decide (0<xv))] W.drew (OpOut B s b O1 vars room r1 W.drew)):=callsIn_wide.2 hLc
  have hmx:Tryz.prog.follows .mixedOrders=true:=by kernel_rfl
  have HMM:=Lib.hid hMM
  have hcD:W.drew.cell? ⟨w1.heap.size,0,none⟩=some (.int .i64 st.2):=hc
  have HFZ:Hid (W.drew.frozen? ⟨w1.heap.size,0,none⟩=false):=hf
  have HCF:Hid (∀ k,O1 k->W0.heap.size<=k->CellsAt W.drew k):=fun k h1 h2=>hMM.from hO0 h1 h2
  have HKR:Hid (∀ k,(k<W0.heap.size/\¬ O k/\k ≠ w1.heap.size)->k<W.heap.size/\¬ O1 k):=fun k h=>⟨by omega,hMM.beside h.1 h.2.1⟩
  clear hst h0 hLc hE hec het hLF hLR hS1 hMM hc hf HES hbd
  gi_wp2_with fail
  refine region_round hmx ?nd ?any
  case nd =>
   intro j o h c hc
   have hm:=Array.mem_of_getElem? h
   simp at hm
   rcases hm with rfl | rfl | rfl | rfl | rfl | rfl | rfl | rfl | rfl | rfl | rfl <;> cases hc
  case any =>
   refine wpAnyIn_take (i:=1) (v:=.int .i64 xv) rfl rfl (by kernel_rfl) (by kernel_rfl) (by kernel_rfl) (fun _ _ _ h=>h) ⟨Or.inl ⟨by rfl,by intro w;go_simp⟩,fun _=>rfl⟩ ?_
   refine wpAnyIn_take (i:=3) (v:=.int .i64 xv) rfl rfl (by kernel_rfl) (by kernel_rfl) (by kernel_rfl) (fun _ _ _ h=>h) ⟨Or.inl ⟨by rfl,by intro w;go_simp⟩,fun _=>rfl⟩ ?_
   refine wpAnyIn_take (i:=4) (v:=.bool (decide (0<xv))) rfl rfl (by kernel_rfl) (by kernel_rfl) (by kernel_rfl) (fun _ _ _ h=>h) ⟨Or.inl ⟨by rfl,by intro w;go_simp⟩,fun _=>rfl⟩ ?_
   refine wpAnyIn_ready (rs:=[0,2]) (by kernel_rfl) (by simp) ?_
   refine AllReadyIn.cons rfl (fun K hK=>?_) (AllReadyIn.cons rfl (fun K hK=>?_) AllReadyIn.nil)
   ·skip
    go_simp
    refine hK _ _ ?_
    clear hK K
    refine wpAnyIn_ready (rs:=[2]) (by kernel_rfl) (by simp) ?_
    refine AllReadyIn.cons rfl (fun K hK=>?_) AllReadyIn.nil
    go_simp
    gi_wp2_with (refine ⟨trivial,?_⟩;gi_at_call 222;refine (HVC.out _).mono ?_;rintro e wT ⟨rfl,rfl⟩)
    refine wpAnyIn_ready (rs:=[5]) (by kernel_rfl) (by simp) ?_
    refine AllReadyIn.cons rfl (fun K hK=>?_) AllReadyIn.nil
    go_simp
    gi_wp2_with (refine ⟨trivial,?_⟩;gi_at_call 284;refine (HLC.out).mono ?_;rintro e wT ⟨rfl,O2,hS2,hM2⟩)
    refine wpAnyIn_take (i:=6) (v:=.tuple #[.int .i64 r1.2,.nilIface]) rfl rfl (by kernel_rfl) (by kernel_rfl) (by kernel_rfl) (fun _ _ _ h=>h) ⟨Or.inl ⟨by rfl,by intro w;go_simp⟩,fun _=>rfl⟩ ?_
    refine wpAnyIn_take (i:=7) (v:=.int .i64 r1.2) rfl rfl (by kernel_rfl) (by kernel_rfl) (by kernel_rfl) (fun _ _ _ h=>h) ⟨Or.inl ⟨by rfl,by intro w;go_simp⟩,fun _=>rfl⟩ ?_
    refine wpAnyIn_take (i:=9) (v:=.int .i64 r1.2) rfl rfl (by kernel_rfl) (by kernel_rfl) (by kernel_rfl) (fun _ _ _ h=>h) ⟨Or.inl ⟨by rfl,by intro w;go_simp⟩,fun _=>rfl⟩ ?_
    refine wpAnyIn_take (i:=8) (v:=.nilIface) rfl rfl (by kernel_rfl) (by kernel_rfl) (by kernel_rfl) (fun _ _ _ h=>h) ⟨Or.inl ⟨by rfl,by intro w;go_simp⟩,fun _=>rfl⟩ ?_
    refine wpAnyIn_take (i:=10) (v:=.nilIface) rfl rfl (by kernel_rfl) (by kernel_rfl) (by kernel_rfl) (fun _ _ _ h=>h) ⟨Or.inl ⟨by rfl,by intro w;go_simp⟩,fun _=>rfl⟩ ?_
    refine wpAnyIn_done (by kernel_rfl) ?_ _
    have hs2:W.heap.size<=wT.heap.size:=hM2.size
    have hbd:Below W.heap.size W W.drew:=(Below.refl _ _).drew
    have hWlt:w1.heap.size<W.drew.heap.size:=by show w1.heap.size<W.heap.size;omega
    have hwlt:w.heap.size<W.drew.heap.size:=by show w.heap.size<W.heap.size;omega
    have d2:wT.cell? ⟨w.heap.size,0,none⟩=some (.pointer (some ⟨s,0,none⟩)):=(hM2.cell (a:=⟨w.heap.size,0,none⟩) hwlt hsb1).trans d0
    have c2:wT.cell? ⟨w1.heap.size,0,none⟩=some (.int .i64 st.2):=(hM2.cell (a:=⟨w1.heap.size,0,none⟩) hWlt hdm1).trans hcD
    have hdm2:¬ O2 w1.heap.size:=hM2.beside hWlt hdm1
    have hOC:=Lib.hid (CallsIn.inRound l (callsIn_wide (n:=1).2 (hOr.out O2 wT hS2 (by omega))))
    have mm1:MM O O1 w1.heap.size W0 W.drew:=HMM.out.trans (MM.of_below hbd)
    have mm2:=mm1.trans (MM.of_moves (dm:=w1.heap.size) hM2)
    have HM2:=Lib.hid hM2
    have HMM2:=Lib.hid mm2
    have f2:wT.frozen? ⟨w1.heap.size,0,none⟩=false:=(frozen_heap (a:=⟨w1.heap.size,0,none⟩) (hM2.kept.block w1.heap.size hWlt hdm1)).trans HFZ.out
    have HF2:=Lib.hid f2
    clear hM2 mm2 f2 hS2 d0 hcD HVC HLC
    gi_wp2_with fail
    refine ⟨trivial,?_⟩
    refine hOC.out.mono ?_
    rintro e w3 ⟨rfl,O3,hS3,hM3⟩
    have hlt2:w1.heap.size<wT.heap.size:=by omega
    have c3:w3.cell? ⟨w1.heap.size,0,none⟩=some (.int .i64 st.2):=(hM3.cell (a:=⟨w1.heap.size,0,none⟩) hlt2 hdm2).trans c2
    have f3:w3.frozen? ⟨w1.heap.size,0,none⟩=false:=(frozen_heap (a:=⟨w1.heap.size,0,none⟩) (hM3.kept.block w1.heap.size hlt2 hdm2)).trans HF2.out
    have hdm3:¬ O3 w1.heap.size:=hM3.beside hlt2 hdm2
    have HKF:Hid (KeepsFrom W0.heap.size W (w3.setCell ⟨w1.heap.size,0,none⟩ (.int .i64 r2.2))):=((((KeepsOthers.drew W).from _).trans (kf_moves HM2.out HCF.out)).trans (kf_moves hM3 (fun k h1 h2=>HMM2.out.from hO0 h1 h2))).trans ((KeepsOthers.setCell _ _ _).from _)
    have HKP:Hid (KpR (fun k=>k<W0.heap.size/\¬ O k/\k ≠ w1.heap.size) W (w3.setCell ⟨w1.heap.size,0,none⟩ (.int .i64 r2.2))):=kpR_t (kpR_t (kpR_t (kp_drew W) (kp_moves HM2.out (fun k h=>HKR.out k h))) (kp_moves hM3 (fun k h=>⟨Nat.lt_of_lt_of_le (HKR.out k h).1 HM2.out.size,HM2.out.beside (HKR.out k h).1 (HKR.out k h).2⟩))) (kp_set (fun k h=>h.2.2) _ _)
    have HEN:Hid (EI B s b vars room O w1.heap.size W0 ns (litsQ (pre++[x])) (w3.setCell ⟨w1.heap.size,0,none⟩ (.int .i64 r2.2))):=by
     refine ⟨O3,?_,(HMM2.out.trans (MM.of_moves (dm:=w1.heap.size) hM3)).set _,?_,?_⟩
     ·rw [HSN.out]
      exact hS3.kept (Kept.setCell (S:=fun j=>j=w1.heap.size) w3 ⟨w1.heap.size,0,none⟩ _ rfl) (fun k hk e=>hdm3 (e ▸ hk)) (fun e=>by omega)
     ·rw [HSN.out];exact World.cell?_setCell_same _ _ _ c3
     ·rw [World.frozen?_setCell];exact f3
    clear hS3 hM3 hOC HM2 HMM2 c2 d2
    gi_wp2
    exact ⟨HKF.out,HKP.out,HEN.out⟩
   ·skip
    go_simp
    gi_wp2_with (refine ⟨trivial,?_⟩;gi_at_call 222;refine (HVC.out _).mono ?_;rintro e wT ⟨rfl,rfl⟩)
    refine wpAnyIn_ready (rs:=[0]) (by kernel_rfl) (by simp) ?_
    refine AllReadyIn.cons rfl (fun K hK=>?_) AllReadyIn.nil
    go_simp
    refine hK _ _ ?_
    clear hK K
    refine wpAnyIn_ready (rs:=[5]) (by kernel_rfl) (by simp) ?_
    refine AllReadyIn.cons rfl (fun K hK=>?_) AllReadyIn.nil
    go_simp
    gi_wp2_with (refine ⟨trivial,?_⟩;gi_at_call 284;refine (HLC.out).mono ?_;rintro e wT ⟨rfl,O2,hS2,hM2⟩)
    refine wpAnyIn_take (i:=6) (v:=.tuple #[.int .i64 r1.2,.nilIface]) rfl rfl (by kernel_rfl) (by kernel_rfl) (by kernel_rfl) (fun _ _ _ h=>h) ⟨Or.inl ⟨by rfl,by intro w;go_simp⟩,fun _=>rfl⟩ ?_
    refine wpAnyIn_take (i:=7) (v:=.int .i64 r1.2) rfl rfl (by kernel_rfl) (by kernel_rfl) (by kernel_rfl) (fun _ _ _ h=>h) ⟨Or.inl ⟨by rfl,by intro w;go_simp⟩,fun _=>rfl⟩ ?_
    refine wpAnyIn_take (i:=9) (v:=.int .i64 r1.2) rfl rfl (by kernel_rfl) (by kernel_rfl) (by kernel_rfl) (fun _ _ _ h=>h) ⟨Or.inl ⟨by rfl,by intro w;go_simp⟩,fun _=>rfl⟩ ?_
    refine wpAnyIn_take (i:=8) (v:=.nilIface) rfl rfl (by kernel_rfl) (by kernel_rfl) (by kernel_rfl) (fun _ _ _ h=>h) ⟨Or.inl ⟨by rfl,by intro w;go_simp⟩,fun _=>rfl⟩ ?_
    refine wpAnyIn_take (i:=10) (v:=.nilIface) rfl rfl (by kernel_rfl) (by kernel_rfl) (by kernel_rfl) (fun _ _ _ h=>h) ⟨Or.inl ⟨by rfl,by intro w;go_simp⟩,fun _=>rfl⟩ ?_
    refine wpAnyIn_done (by kernel_rfl) ?_ _
    have hs2:W.heap.size<=wT.heap.size:=hM2.size
    have hbd:Below W.heap.size W W.drew:=(Below.refl _ _).drew
    have hWlt:w1.heap.size<W.drew.heap.size:=by show w1.heap.size<W.heap.size;omega
    have hwlt:w.heap.size<W.drew.heap.size:=by show w.heap.size<W.heap.size;omega
    have d2:wT.cell? ⟨w.heap.size,0,none⟩=some (.pointer (some ⟨s,0,none⟩)):=(hM2.cell (a:=⟨w.heap.size,0,none⟩) hwlt hsb1).trans d0
    have c2:wT.cell? ⟨w1.heap.size,0,none⟩=some (.int .i64 st.2):=(hM2.cell (a:=⟨w1.heap.size,0,none⟩) hWlt hdm1).trans hcD
    have hdm2:¬ O2 w1.heap.size:=hM2.beside hWlt hdm1
    have hOC:=Lib.hid (CallsIn.inRound l (callsIn_wide (n:=1).2 (hOr.out O2 wT hS2 (by omega))))
    have mm1:MM O O1 w1.heap.size W0 W.drew:=HMM.out.trans (MM.of_below hbd)
    have mm2:=mm1.trans (MM.of_moves (dm:=w1.heap.size) hM2)
    have HM2:=Lib.hid hM2
    have HMM2:=Lib.hid mm2
    have f2:wT.frozen? ⟨w1.heap.size,0,none⟩=false:=(frozen_heap (a:=⟨w1.heap.size,0,none⟩) (hM2.kept.block w1.heap.size hWlt hdm1)).trans HFZ.out
    have HF2:=Lib.hid f2
    clear hM2 mm2 f2 hS2 d0 hcD HVC HLC
    gi_wp2_with fail
    refine ⟨trivial,?_⟩
    refine hOC.out.mono ?_
    rintro e w3 ⟨rfl,O3,hS3,hM3⟩
    have hlt2:w1.heap.size<wT.heap.size:=by omega
    have c3:w3.cell? ⟨w1.heap.size,0,none⟩=some (.int .i64 st.2):=(hM3.cell (a:=⟨w1.heap.size,0,none⟩) hlt2 hdm2).trans c2
    have f3:w3.frozen? ⟨w1.heap.size,0,none⟩=false:=(frozen_heap (a:=⟨w1.heap.size,0,none⟩) (hM3.kept.block w1.heap.size hlt2 hdm2)).trans HF2.out
    have hdm3:¬ O3 w1.heap.size:=hM3.beside hlt2 hdm2
    have HKF:Hid (KeepsFrom W0.heap.size W (w3.setCell ⟨w1.heap.size,0,none⟩ (.int .i64 r2.2))):=((((KeepsOthers.drew W).from _).trans (kf_moves HM2.out HCF.out)).trans (kf_moves hM3 (fun k h1 h2=>HMM2.out.from hO0 h1 h2))).trans ((KeepsOthers.setCell _ _ _).from _)
    have HKP:Hid (KpR (fun k=>k<W0.heap.size/\¬ O k/\k ≠ w1.heap.size) W (w3.setCell ⟨w1.heap.size,0,none⟩ (.int .i64 r2.2))):=kpR_t (kpR_t (kpR_t (kp_drew W) (kp_moves HM2.out (fun k h=>HKR.out k h))) (kp_moves hM3 (fun k h=>⟨Nat.lt_of_lt_of_le (HKR.out k h).1 HM2.out.size,HM2.out.beside (HKR.out k h).1 (HKR.out k h).2⟩))) (kp_set (fun k h=>h.2.2) _ _)
    have HEN:Hid (EI B s b vars room O w1.heap.size W0 ns (litsQ (pre++[x])) (w3.setCell ⟨w1.heap.size,0,none⟩ (.int .i64 r2.2))):=by
     refine ⟨O3,?_,(HMM2.out.trans (MM.of_moves (dm:=w1.heap.size) hM3)).set _,?_,?_⟩
     ·rw [HSN.out]
      exact hS3.kept (Kept.setCell (S:=fun j=>j=w1.heap.size) w3 ⟨w1.heap.size,0,none⟩ _ rfl) (fun k hk e=>hdm3 (e ▸ hk)) (fun e=>by omega)
     ·rw [HSN.out];exact World.cell?_setCell_same _ _ _ c3
     ·rw [World.frozen?_setCell];exact f3
    clear hS3 hM3 hOC HM2 HMM2 c2 d2
    gi_wp2
    exact ⟨HKF.out,HKP.out,HEN.out⟩
 case done =>
  rintro D ys WF hD hys ⟨O1,hS1,hMM,hc,hf⟩ hK
  rw [litsQ_whole hys] at hS1 hc
  have hK1:=not_cells hK rfl
  have hszW:=hMM.size
  have g1:WF.cell? ⟨w.heap.size + 1,0,none⟩=some (.int .i64 0):=(hMM.cell (a:=⟨w.heap.size + 1,0,none⟩) (by show w.heap.size + 1<_;omega) (fun h=>by have:=hso (w.heap.size + 1) h;omega) (by show w.heap.size + 1 ≠ _;omega)).trans (HL1.out.cell 0)
  have g2:WF.cell? ⟨w.heap.size + 1 + 1,0,none⟩=some .nilIface:=(hMM.cell (a:=⟨w.heap.size + 1 + 1,0,none⟩) (by show w.heap.size + 1 + 1<_;omega) (fun h=>by have:=hso (w.heap.size + 1 + 1) h;omega) (by show w.heap.size + 1 + 1 ≠ _;omega)).trans (HL2.out.cell 0)
  have e1:WF.frozen? ⟨w.heap.size + 1,0,none⟩=false:=(hMM.frozen (a:=⟨w.heap.size + 1,0,none⟩) (by show w.heap.size + 1<_;omega) (fun h=>by have:=hso (w.heap.size + 1) h;omega) (by show w.heap.size + 1 ≠ _;omega)).trans (HL1.out.frozen 0)
  have e2:(WF.setCell ⟨w.heap.size + 1,0,none⟩ (.int .i64 (eithF ns xs).2)).frozen? ⟨w.heap.size + 1 + 1,0,none⟩=false:=by
   rw [World.frozen?_setCell]
   exact (hMM.frozen (a:=⟨w.heap.size + 1 + 1,0,none⟩) (by show w.heap.size + 1 + 1<_;omega) (fun h=>by have:=hso (w.heap.size + 1 + 1) h;omega) (by show w.heap.size + 1 + 1 ≠ _;omega)).trans (HL2.out.frozen 0)
  have g3:(WF.setCell ⟨w.heap.size + 1,0,none⟩ (.int .i64 (eithF ns xs).2)).cell? ⟨w.heap.size + 1 + 1,0,none⟩=some .nilIface:=(World.cell?_setCell_other _ _ _ _ (by intro h;injection h;omega)).trans g2
  obtain ⟨W9,hW9⟩:∃ W9,(WF.setCell ⟨w.heap.size + 1,0,none⟩ (.int .i64 (eithF ns xs).2)).setCell ⟨w.heap.size + 1 + 1,0,none⟩ .nilIface=W9:=⟨_,rfl⟩
  have r1:W9.cell? ⟨w.heap.size + 1,0,none⟩=some (.int .i64 (eithF ns xs).2):=by rw [<- hW9];exact (World.cell?_setCell_other _ _ _ _ (by intro h;injection h;omega)).trans (World.cell?_setCell_same _ _ _ g1)
  have r2:W9.cell? ⟨w.heap.size + 1 + 1,0,none⟩=some .nilIface:=by rw [<- hW9];exact World.cell?_setCell_same _ _ _ g3
  have hK9:W9.heap[D]?=some (.deferred (some [])):=by rw [<- hW9];exact ((KeepsOthers.setCell _ _ _).trans (KeepsOthers.setCell _ _ _)).same D _ hK rfl
  have hkp9:Kept (fun k=>k=w.heap.size + 1\/k=w.heap.size + 1 + 1) WF W9:=by rw [<- hW9];exact (Kept.setCell WF ⟨w.heap.size + 1,0,none⟩ _ (.inl rfl)).andThen (Kept.setCell _ ⟨w.heap.size + 1 + 1,0,none⟩ _ (.inr rfl:(fun k=>k=w.heap.size + 1\/k=w.heap.size + 1 + 1) (w.heap.size + 1 + 1))) (fun i h _=>h)
  have hc9:∀ k,CellsAt WF k->CellsAt W9 k:=fun k h=>by rw [<- hW9];exact cells_set (cells_set h _ _) _ _
  have hnD:¬ CellsAt W9 D:=not_cells hK9 rfl
  have r1p:(W9.putObj D (.deferred none)).cell? ⟨w.heap.size + 1,0,none⟩=some (.int .i64 (eithF ns xs).2):=(cell_heap (a:=⟨w.heap.size + 1,0,none⟩) (World.putObj_heap_other (by show w.heap.size + 1 ≠ D;omega))).trans r1
  have r2p:(W9.putObj D (.deferred none)).cell? ⟨w.heap.size + 1 + 1,0,none⟩=some .nilIface:=(cell_heap (a:=⟨w.heap.size + 1 + 1,0,none⟩) (World.putObj_heap_other (by show w.heap.size + 1 + 1 ≠ D;omega))).trans r2
  have hkpD:Kept (fun k=>k=D) W9 (W9.putObj D (.deferred none)):=Kept.of_grown (grownBy_putObj' W9 D _) (fun i e=>by cases e;rfl)
  have hO1:∀ k,k<W0.heap.size->¬ O k->¬ O1 k:=fun k h1 h2=>hMM.beside h1 h2
  have hD1:¬ O1 D:=hMM.out hO0 hD hK1
  have HFS:Hid (SpaceAt B (W9.putObj D (.deferred none)) s b O1 vars room (eithF ns xs).1):=(hS1.kept hkp9 (fun k hk e=>by
   rcases e with rfl | rfl
   ·exact hO1 _ (by omega) (fun h=>by have:=hso _ h;omega) hk
   ·exact hO1 _ (by omega) (fun h=>by have:=hso _ h;omega) hk) (fun e=>by omega)).kept hkpD (fun k hk e=>hD1 (e ▸ hk)) (fun e=>by omega)
  have HFM:Hid (Moves O O1 w (W9.putObj D (.deferred none))):=fin_moves HBW.out (by omega) hMM ((hkp9.mono (T:=fun k=>w.heap.size<=k) (fun i h=>by show w.heap.size<=i;omega)).andThen hkpD (fun i e _=>by show w.heap.size<=i;omega)) (fun k h=>cells_put (hc9 k h) hnD _)
  have HK9:=Lib.hid hK9
  have HW9:=Lib.hid hW9
  clear hS1 hMM hK hK1 hK9 hkp9 hkpD hc9 hnD hO1 hD1 hst h0 hf hW9
  gi_wp2_with fail
  rw [HW9.out]
  refine ⟨by simp,.inl ⟨_,_,rfl,run_takeDeferred HK9.out,?_⟩⟩
  refine ⟨.tuple #[.int .i64 (eithF ns xs).2,.nilIface],?_,?_⟩
  ·simp [results,Tryz.f224,go_sem,r1p,r2p]
  ·exact ⟨rfl,O1,HFS.out,HFM.out⟩
theorem either_c (hS:SpaceAt B w s b O vars room ns) (hA:EAsk B w vars room ns) (c:List Int) (hl:Lits vars c) (a:Option Addr) (cap:Nat) (hI:IntsIn w a c) (hm:c.length<=9223372036854775807) :
  Calls Tryz.prog 224 #[.pointer (some ⟨s,0,none⟩),.slice a c.length cap] w (OpOut B s b O vars room (eithR ns c) w):=by
 unfold eithR
 cases ha:alwaysF (sidesF c) with
 | true=>rw [if_pos rfl];exact either_always hS c ha a cap hI hm
 | false=>rw [if_neg (by simp)];exact (callsIn_wide (n:=4)).1 (either_in hS hA c ha hl a cap hI hm)
end
end Go.Proofs.YtiihalknffbjpaaGreatDoor.Bd
