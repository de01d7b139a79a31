/- The keeper's fact: what may be installed of a catalog. -/
import Derived.Test.YtiihalknffbjpaaGreatDoorSpShelf
import Derived.Test.YtiihalknffbjpaaGreatDoorSvCuts
import Derived.Lib.ItoaNum
import Derived.Test.YtiihalknffbjpaaGreatDoorWyFrom
import Derived.Test.YtiihalknffbjpaaGreatDoorSpSmall
import Derived.Test.YtiihalknffbjpaaGreatDoorPfForm
import Derived.Test.YtiihalknffbjpaaGreatDoorSlOnes
import Derived.Test.YtiihalknffbjpaaGreatDoorCtParse
set_option maxHeartbeats 4000000
set_option maxRecDepth 100000
namespace Go.Proofs.YtiihalknffbjpaaGreatDoor.Bd
open Go.RowKit Num Go.Sort
theorem NatAt.small {w:World} {v:Value} {m:Nat} (h:NatAt w v m) (hm:m<=100000000) :
  (m=0/\∃ a c,v=.agg #[.slice a 0 c])\/(m ≠ 0/\∃ b off c,v=.agg #[.slice (some ⟨b,off,none⟩) 1 c]/\b<w.heap.size/\w.cell? ⟨b,off,none⟩=some (.int .u64 (m:Int))):=by
 obtain ⟨s,ds,rfl,⟨a,cap,rfl,hc,hi⟩,hN,hv,hl⟩:=h.open hm
 match ds,hl with
 | [],_=>exact .inl ⟨by rw [<- hv,val_nil],a,cap,rfl⟩
 | [d],_ =>
  obtain ⟨b,off,rfl,hb,hcell⟩:=hi 0 (by simp)
  have hd:val 1000000000 [d]=d:=by unfold val;simp [S,dig]
  have h0:=hN.last (by simp)
  have e:d=m:=by rw [<- hd];exact hv
  subst e
  exact .inr ⟨h0,b,off,cap,rfl,hb,hcell⟩
theorem zero_c {w:World} {v:Value} {m:Nat} (h:NatAt w v m) (hm:m<=100000000):Calls Tryz.prog 38 #[v] w fun e w'=>e=.returned (.bool (decide (m=0)))/\Below w.heap.size w w':=by
 rcases h.small hm with ⟨h0,a,c,rfl⟩ | ⟨h0,b,off,c,rfl,-,-⟩
 ·rw [decide_eq_true h0]
  clear h hm h0
  have HB:Hid (Below w.heap.size w (w.alloc (.cells #[.slice a 0 c] 42))):=below_new w _
  go_enter Tryz.func38,Tryz.ntmps38
  go_wp2
  go_ret
  exact ⟨by first | rfl | simp,HB.out⟩
 ·rw [decide_eq_false h0]
  clear h hm h0
  have HB:Hid (Below w.heap.size w (w.alloc (.cells #[.slice (some ⟨b,off,none⟩) 1 c] 42))):=below_new w _
  go_enter Tryz.func38,Tryz.ntmps38
  go_wp2
  go_ret
  exact ⟨by first | rfl | simp,HB.out⟩
theorem append_c (B u:Nat) (hu64:u<18446744073709551616) (w:World) (hBw:B<=w.heap.size) (htab:Lib.TabIs Tryz.prog w "internal/strconv.uint64pow10" .u64 Lib.pow10Tab) :
  Calls Tryz.prog 79 #[.slice none 0 0,.int .u64 (u:Int),.int .i64 10] w fun e w'=>∃ v',e=.returned v'/\w'.ownsRow B 5 1 v' (Lib.decDigits u).length (Lib.byteCells (Lib.decDigits u))/\Below B w w':=by
 have H0:=Tryz.internal_strconv_AppendUint_10 B 0 u hu64 (.slice none 0 0) [] w (World.ownsRow_nil _ _ _ _) hBw (by omega) htab
 have H:=Lib.hid H0
 clear H0 htab
 go_enter Tryz.func79,Tryz.ntmps79
 go_wp2_with fail
 refine H.out.mono ?_
 rintro e w1 ⟨v',rfl,h1,h2,-⟩
 have HF:Hid (w1.ownsRow B 5 1 v' (Lib.decDigits u).length (Lib.byteCells (Lib.decDigits u))/\Below B w w1):=by
  have:w1.ownsRow B 5 1 v' (Lib.decDigits u).length (Lib.byteCells (Lib.decDigits u)):=by simpa using h1
  exact ⟨this,h2⟩
 clear h1 h2
 go_wp2
 go_ret
 exact ⟨v',rfl,HF.out⟩
theorem conv_owned {w:World} {base:Nat} {v:Value} {l:List UInt8} (h:w.ownsRow base 5 1 v l.length (Lib.byteCells l)) (hl:l ≠ []) :
  (convert 163 9 v).run Tryz.prog w=.ok (.string ⟨l.toArray⟩) w:=by
 rcases id h.2 with ⟨h1,h2⟩ | ⟨g,cap,cur,h1,hb,hg,h2,_⟩
 ·exact absurd (List.length_eq_zero_iff.1 h2) hl
 ·subst h1
  refine run_convert_bytes_back (P:=Tryz.prog) w 163 9 5 ⟨g,0,none⟩ cap l Tryz.underlying163 Tryz.underlying5 Tryz.underlying9 (fun j hj=>?_)
  rw [Lib.add_plain,Nat.zero_add,h.cellAt j (by omega)]
  simp [Lib.byteCells,hj]
theorem decD_zero:Lib.decDigits 0=[48]:=by kernel_rfl
theorem text_c {w:World} {v:Value} {m:Nat} (h:NatAt w v m) (hm:m<=100000000) (htab:Lib.TabIs Tryz.prog w "internal/strconv.uint64pow10" .u64 Lib.pow10Tab) :
  Calls Tryz.prog 19 #[v] w fun e w'=>e=.returned (.string ⟨(Lib.decDigits m).toArray⟩)/\Below w.heap.size w w':=by
 rcases h.small hm with ⟨h0,a,c,rfl⟩ | ⟨h0,b,off,c,rfl,hb,hcell⟩
 ·have hb0:=below_new w (.cells #[.slice a 0 c] 42)
  have hz:=zero_c (h.new hb0) hm
  rw [decide_eq_true h0] at hz
  have HZ:=Lib.hid hz
  have HB:=Lib.hid hb0
  subst h0
  rw [decD_zero]
  clear h hm hz hb0 htab
  go_enter Tryz.func19,Tryz.ntmps19
  go_wp2_with fail
  refine HZ.out.mono ?_
  rintro e w1 ⟨rfl,hb1⟩
  have HB1:Hid (Below w.heap.size w w1):=HB.out.trans (hb1.mono HB.out.size)
  clear hb1 HZ HB
  go_wp2
  go_ret
  exact ⟨rfl,HB1.out⟩
 ·have hb0:=below_new w (.cells #[.slice (some ⟨b,off,none⟩) 1 c] 42)
  have hz:=zero_c (h.new hb0) hm
  rw [decide_eq_false h0] at hz
  have HZ:=Lib.hid hz
  have HB:=Lib.hid hb0
  have c0:(w.alloc (.cells #[.slice (some ⟨b,off,none⟩) 1 c] 42)).cell? ⟨w.heap.size,0,none⟩=some (.slice (some ⟨b,off,none⟩) 1 c):=by simp
  have c1:=(hb0.cell (p:=⟨b,off,none⟩) hb).trans hcell
  have hsz:(w.alloc (.cells #[.slice (some ⟨b,off,none⟩) 1 c] 42)).heap.size=w.heap.size + 1:=World.size_alloc _ _
  have hlt:b<(w.alloc (.cells #[.slice (some ⟨b,off,none⟩) 1 c] 42)).heap.size:=by omega
  have HT:Hid (∀ W,Below w.heap.size w W->Lib.TabIs Tryz.prog W "internal/strconv.uint64pow10" .u64 Lib.pow10Tab):=fun W hW=>Lib.tabBelow_of_tabIs htab W hW
  have hne:Lib.decDigits m ≠ []:=fun h=>by
   have h1:=Lib.decDigits_length m
   have h2:=Lib.nDigits_pos m
   rw [h,List.length_nil] at h1
   omega
  have HNE:=Lib.hid hne
  clear h hz hb0 htab hcell hne
  go_enter Tryz.func19,Tryz.ntmps19
  go_upto_region 1 with fail
  generalize w.alloc (.cells #[.slice (some ⟨b,off,none⟩) 1 c] 42)=W0 at *
  go_wp2_with fail
  refine HZ.out.mono ?_
  rintro e w1 ⟨rfl,hb1⟩
  have d0:w1.cell? ⟨w.heap.size,0,none⟩=some (.slice (some ⟨b,off,none⟩) 1 c):=(hb1.cell (p:=⟨w.heap.size,0,none⟩) (by show w.heap.size<_;omega)).trans c0
  have d1:w1.cell? ⟨b,off,none⟩=some (.int .u64 (m:Int)):=(hb1.cell (p:=⟨b,off,none⟩) hlt).trans c1
  have hB1:Below w.heap.size w w1:=HB.out.trans (hb1.mono HB.out.size)
  have HAP:=Lib.hid (append_c w1.heap.size m (by omega) w1 (Nat.le_refl _) (HT.out w1 hB1))
  have HB1:=Lib.hid hB1
  clear hb1 HZ HB c0 c1 HT hB1
  go_wp2_with fail
  refine HAP.out.mono ?_
  rintro e w2 ⟨v2,rfl,hrow,hb2⟩
  have hcv:=conv_owned hrow HNE.out
  have HB2:Hid (Below w.heap.size w w2):=HB1.out.trans (hb2.mono HB1.out.size)
  clear hb2 HAP HB1 d0 d1 hrow HNE
  go_wp2_with fail
  go_loopw [4,20] (fun o i wr=>o=v2/\i=.int .i64 0/\wr=w2) (fun _ _ _=>0)
  case atStart=>exact ⟨rfl,rfl,rfl⟩
  case round =>
   obtain ⟨rfl,rfl,rfl⟩:=hrel
   go_wp2
   go_ret
   exact ⟨rfl,HB2.out⟩
end Go.Proofs.YtiihalknffbjpaaGreatDoor.Bd
namespace Go.Proofs.YtiihalknffbjpaaGreatDoor.Bd
open Go.RowKit Go.Deep Sv
section
variable {B p s b vars:Nat} {O:Nat->Prop} {room:Int} {K:List (List Int)} {w:World}
theorem clF_all (h12:vars<=12) (hl:LitsL vars K):ClR vars K (clF K):=by
 have:=clF_ok h12 K hl K.length (Nat.le_refl _)
 rwa [List.take_length] at this
theorem clF_len (h12:vars<=12) (hl:LitsL vars K):(clF K).1.length<=90000:=by
 have:=(clF_all h12 hl).len
 have:=small_pow h12
 omega
def manyN (vars:Nat) (K:List (List Int)):Nat:=cntV vars 0 (fun f=>K.all (clS f)) (fun _=>false)
theorem sol_count (hS:SpaceAt B w s b O vars room (clF K).1) (h12:vars<=12) (hl:LitsL vars K) :
  Calls Tryz.prog 18 #[.pointer (some ⟨s,0,none⟩),.int .i64 (clF K).2] w fun e w'=>∃ a n c,e=.returned (.tuple #[.agg #[.slice a n c],.nilIface])/\NatAt w' (.agg #[.slice a n c]) (manyN vars K)/\Below w.heap.size w w':=by
 have hc:=clF_all h12 hl
 refine (count_any w hS hc.good (clF_len h12 hl) (by omega) (clF K).2 hc.has).mono ?_
 rintro e w' ⟨v,rfl,hn,hb⟩
 rw [ways_is hc.sem] at hn
 have hn0:=hn
 obtain ⟨x,rfl,-⟩:=hn0
 exact ⟨x.a,x.n,x.c,rfl,hn,hb⟩
theorem sol_holds (hS:SpaceAt B w s b O vars room (clF K).1) (h12:vars<=12) (hl:LitsL vars K) (vals:Nat) (hv:vals<18446744073709551616) :
  Calls Tryz.prog 35 #[.pointer (some ⟨s,0,none⟩),.int .i64 (clF K).2,.int .u64 (vals:Int)] w fun e w'=>e=.returned (.tuple #[.bool (allK vals K),.nilIface])/\Below w.heap.size w w':=by
 have hc:=clF_all h12 hl
 have:=holds_any hS hc.good (clF_len h12 hl) (clF K).2 hc.has vals hv
 rw [hc.sem] at this
 have e:K.all (clS (bitsF vals))=allK vals K:=by
  unfold allK
  rw [Bool.eq_iff_iff,List.all_eq_true,List.all_eq_true]
  have h24:∀ c ∈ K,Lits 24 c:=fun c hc x hx=>lit_24 (by omega) (hl c hc x hx)
  exact ⟨fun h c hc=>by rw [<- clS_bits (h24 c hc)];exact h c hc,fun h c hc=>by rw [clS_bits (h24 c hc)];exact h c hc⟩
 rw [e] at this
 exact this
end
end Go.Proofs.YtiihalknffbjpaaGreatDoor.Bd
namespace Go.Proofs.YtiihalknffbjpaaGreatDoor.Bd
open Go.RowKit
theorem cntV_pos (g:Fn'):∀ (k v:Nat) (f:Nat->Bool),cntV k v g f ≠ 0 ↔ ∃ f':Nat->Bool,(∀ i,i<v\/v + k<=i->f' i=f i)/\g f'=true
 | 0,v,f=>by
  unfold cntV
  constructor
  ·intro h
   refine ⟨f,fun _ _=>rfl,?_⟩
   cases hg:g f with
   | true=>rfl
   | false=>rw [hg] at h;exact absurd rfl h
  ·rintro ⟨f',h1,h2⟩
   have:f'=f:=funext fun i=>h1 i (by omega)
   rw [<- this,h2]
   simp
 | k + 1,v,f=>by
  unfold cntV
  have h0:=cntV_pos g k (v + 1) (turn f v false)
  have h1:=cntV_pos g k (v + 1) (turn f v true)
  constructor
  ·intro h
   by_cases e:cntV k (v + 1) g (turn f v false)=0
   ·obtain ⟨f',a,b⟩:=h1.1 (by omega)
    exact ⟨f',fun i hi=>by rw [a i (by omega),turnV_ne _ _ (by omega)],b⟩
   ·obtain ⟨f',a,b⟩:=h0.1 e
    exact ⟨f',fun i hi=>by rw [a i (by omega),turnV_ne _ _ (by omega)],b⟩
  ·rintro ⟨f',a,b⟩
   have key:∀ i,i<v + 1\/v + 1 + k<=i->f' i=turn f v (f' v) i:=fun i hi=>by
    by_cases e:i=v
    ·rw [e,turnV_at]
    ·rw [turnV_ne _ _ e];exact a i (by omega)
   cases hv:f' v with
   | false=>rw [hv] at key;have:=h0.2 ⟨f',key,b⟩;omega
   | true=>rw [hv] at key;have:=h1.2 ⟨f',key,b⟩;omega
theorem clS_agree {vars:Nat} {c:List Int} (hl:Lits vars c) {f g:Nat->Bool} (h:∀ i,i<vars->f i=g i):clS f c=clS g c:=by
 unfold clS
 rw [Bool.eq_iff_iff,List.any_eq_true,List.any_eq_true]
 have key:∀ x ∈ c,litS f x=litS g x:=fun x hx=>by unfold litS;rw [h _ (lit_var (hl x hx))]
 exact ⟨fun ⟨x,h1,h2⟩=>⟨x,h1,by rw [<- key x h1];exact h2⟩,fun ⟨x,h1,h2⟩=>⟨x,h1,by rw [key x h1];exact h2⟩⟩
theorem all_agree {vars:Nat} {K:List (List Int)} (hl:LitsL vars K) {f g:Nat->Bool} (h:∀ i,i<vars->f i=g i):K.all (clS f)=K.all (clS g):=by
 rw [Bool.eq_iff_iff,List.all_eq_true,List.all_eq_true]
 exact ⟨fun a c hc=>by rw [<- clS_agree (hl c hc) h];exact a c hc,fun a c hc=>by rw [clS_agree (hl c hc) h];exact a c hc⟩
theorem all_bits {vars:Nat} (h24:vars<=24) {K:List (List Int)} (hl:LitsL vars K) (vals:Nat):K.all (clS (bitsF vals))=allK vals K:=by
 unfold allK
 rw [Bool.eq_iff_iff,List.all_eq_true,List.all_eq_true]
 have h24:∀ c ∈ K,Lits 24 c:=fun c hc x hx=>lit_24 (by omega) (hl c hc x hx)
 exact ⟨fun h c hc=>by rw [<- clS_bits (h24 c hc)];exact h c hc,fun h c hc=>by rw [clS_bits (h24 c hc)];exact h c hc⟩
theorem satL_allK {vars:Nat} (h24:vars<=24) {K:List (List Int)} (hl:LitsL vars K) {vals:Nat} (h:SatL vals K):allK vals K=true:=by
 unfold allK
 rw [List.all_eq_true]
 intro c hc
 obtain ⟨x,hx,hh⟩:=h c hc
 unfold holdK
 rw [List.any_eq_true]
 exact ⟨x,hx,by unfold litK;rw [lit_24 (by omega) (hl c hc x hx),hh];rfl⟩
theorem many_sat {vars:Nat} (h24:vars<=24) {K:List (List Int)} (hl:LitsL vars K):manyN vars K ≠ 0 ↔ satB K=true:=by
 unfold manyN
 rw [cntV_pos,satB_true]
 constructor
 ·rintro ⟨f',-,h2⟩
  refine ⟨numOf' f' vars,satL_of ?_⟩
  rw [<- all_bits h24 hl,all_agree hl (g:=f') (fun i hi=>numOf_bit f' vars i hi)]
  exact h2
 ·rintro ⟨vals,h⟩
  refine ⟨fun i=>decide (i<vars) && bitsF vals i,fun i hi=>?_,?_⟩
  ·have:¬ i<vars:=by omega
   simp [this]
  ·rw [all_agree hl (g:=bitsF vals) (fun i hi=>by simp [hi]),all_bits h24 hl]
   exact satL_allK h24 hl h
end Go.Proofs.YtiihalknffbjpaaGreatDoor.Bd
namespace Go.Proofs.YtiihalknffbjpaaGreatDoor.Bd
open Go.RowKit
section
variable {vars:Nat} {K:List (List Int)}
theorem sat_fn (h24:vars<=24) (hl:LitsL vars K):satB K=true ↔ ∃ f:Nat->Bool,(∀ j,vars<=j->f j=false)/\K.all (clS f)=true:=by
 rw [<- many_sat h24 hl]
 unfold manyN
 rw [cntV_pos]
 exact ⟨fun ⟨f,h1,h2⟩=>⟨f,fun j hj=>h1 j (by omega),h2⟩,fun ⟨f,h1,h2⟩=>⟨f,fun j hj=>h1 j (by omega),h2⟩⟩
end
end Go.Proofs.YtiihalknffbjpaaGreatDoor.Bd
namespace Go.Proofs.YtiihalknffbjpaaGreatDoor.Bd
open Go.RowKit
theorem csum_congr (C:Cost):∀ (k v:Nat) (f g:Nat->Bool),(∀ i,v<=i->i<v + k->f i=g i)->csum C k v f=csum C k v g
 | 0,_,_,_,_=>rfl
 | k + 1,v,f,g,h=>by
  show C v (f v) + _=C v (g v) + _
  rw [h v (Nat.le_refl _) (by omega),csum_congr C k (v + 1) f g (fun i h1 h2=>h i (by omega) (by omega))]
theorem csum_snoc (C:Cost):∀ (k v:Nat) (f:Nat->Bool),csum C (k + 1) v f=csum C k v f + C (v + k) (f (v + k))
 | 0,v,f=>by show C v (f v) + 0=0 + C (v + 0) (f (v + 0));rw [Nat.add_zero];omega
 | k + 1,v,f=>by
  have:=csum_snoc C k (v + 1) f
  show C v (f v) + csum C (k + 1) (v + 1) f=(C v (f v) + csum C k (v + 1) f) + _
  rw [this,show v + 1 + k=v + (k + 1) by omega];omega
theorem csum_pay {C:Cost} {P:Nat->Int} {a:Nat} {f:Nat->Bool}:∀ (k:Nat),(∀ i,i<k->C i (f i)=P i * oneI (a.testBit i))->payI P a k=csum C k 0 f
 | 0,_=>rfl
 | k + 1,h=>by
  rw [csum_snoc,Nat.zero_add,h k (Nat.lt_succ_self _),<- csum_pay k (fun i hi=>h i (by omega))]
  rfl
theorem csum_near0 {C:Cost} (hC:∀ i b,0<=C i b):∀ (k v:Nat) (f:Nat->Bool),csum C k v f<=0->∀ i,v<=i->i<v + k->C i (f i)=0
 | 0,_,_,_,_,h1,h2=>by omega
 | k + 1,v,f,h,i,h1,h2=>by
  have hp:∀ (k v:Nat),0<=csum C k v f:=fun k=>by
   induction k with
   | zero=>intro v;exact Int.le_refl 0
   | succ k ih=>intro v;have:=ih (v + 1);have:=hC v (f v);show 0<=C v (f v) + _;omega
  have h0:C v (f v) + csum C k (v + 1) f<=0:=h
  have:=hp k (v + 1)
  have:=hC v (f v)
  by_cases e:i=v
  ·subst e;omega
  ·exact csum_near0 hC k (v + 1) f (by omega) i (by omega) (by omega)
section
variable {vars:Nat} {K:List (List Int)}
structure BestK (C:Cost) (vars:Nat) (K:List (List Int)) (x:Wy):Prop where
 can:x.can=satB K
 cost:x.can=true->x.cost=csum C vars 0 (bitsF x.items)
 small:x.can=true->x.items<2 ^ vars
 holds:x.can=true->allK x.items K=true
 least:∀ vals,allK vals K=true->x.can=true/\x.cost<=csum C vars 0 (bitsF vals)
theorem bestK (C:Cost) (h12:vars<=12) (hl:LitsL vars K):BestK C vars K (fromW C vars (clF K).1 (clF K).2 0):=by
 have hb:=bst_best C (vars - 0) 0 (sem (clF K).1 (clF K).2) (fun _=>false)
 have hs:=(clF_all h12 hl).sem
 have hsat:=sat_fn (show vars<=24 by omega) hl
 unfold fromW
 rw [Nat.sub_zero] at hb ⊢
 generalize bstV C vars 0 (sem (clF K).1 (clF K).2) (fun _=>false)=x at hb
 have key:x.can=true->∃ f':Nat->Bool,(∀ i,i<vars->bitsF x.items i=f' i)/\x.cost=csum C vars 0 (bitsF x.items)/\x.items<2 ^ vars/\K.all (clS f')=true/\(∀ j,vars<=j->f' j=false)/\∀ f'',Agr vars 0 (fun _=>false) f''->K.all (clS f'')=true->x.cost<=csum C vars 0 f'':=fun hc=>by
  obtain ⟨f',a1,a2,a3,a4,a5⟩:=hb.yes hc
  have hbit:∀ i,i<vars->bitsF x.items i=f' i:=fun i hi=>by
   show x.items.testBit i=_
   rw [a4 i,decide_eq_true (by omega),Bool.true_and]
  refine ⟨f',hbit,?_,?_,(hs f').symm.trans a2,fun j hj=>a1 j (by omega),fun f'' hf hg=>?_⟩
  ·rw [a3];exact csum_congr C vars 0 _ _ (fun i _ h2=>(hbit i (by omega)).symm)
  ·apply Nat.lt_pow_two_of_testBit
   intro i hi
   rw [a4 i,decide_eq_false (by omega),Bool.false_and]
  ·rcases a5 f'' hf ((hs f'').trans hg) with h | ⟨h,_⟩ <;> omega
 refine ⟨?_,fun hc=>?_,fun hc=>?_,fun hc=>?_,fun vals hv=>?_⟩
 ·cases hc:x.can with
  | true =>
   obtain ⟨f',-,-,-,h4,h5,-⟩:=key hc
   exact (hsat.2 ⟨f',h5,h4⟩).symm
  | false =>
   cases hq:satB K with
   | false=>rfl
   | true =>
    obtain ⟨f,a,b⟩:=hsat.1 hq
    exact absurd ((hs f).trans b) (by rw [hb.no hc f (fun j hj=>a j (by omega))];simp)
 ·obtain ⟨f',-,h2,-⟩:=key hc;exact h2
 ·obtain ⟨f',-,-,h3,-⟩:=key hc;exact h3
 ·obtain ⟨f',h1,-,-,h4,-⟩:=key hc
  rw [<- all_bits (show vars<=24 by omega) hl,all_agree hl h1];exact h4
 ·have ha:K.all (clS (fun j=>if j<vars then bitsF vals j else false))=true:=by
   rw [all_agree hl (g:=bitsF vals) (fun i hi=>if_pos hi),all_bits (by omega) hl];exact hv
  have hc:x.can=true:=by
   cases hc:x.can with
   | true=>rfl
   | false=>exact absurd ((hs _).trans ha) (by rw [hb.no hc _ (fun j hj=>if_neg (by omega))];simp)
  obtain ⟨f',-,-,-,-,-,h6⟩:=key hc
  refine ⟨hc,?_⟩
  have:=h6 _ (fun j hj=>if_neg (by omega)) ha
  rw [csum_congr C vars 0 _ (bitsF vals) (fun i _ h2=>if_pos (by omega))] at this
  exact this
theorem pay_least (a:Nat):payI (fun _=>1) a vars=csum leastC vars 0 (bitsF a):=csum_pay vars (fun i _=>by show oneI (a.testBit i)=1 * _;omega)
theorem pay_near (a now:Nat):payI (fun _=>1) (a ^^^ now) vars=csum (nearC now) vars 0 (bitsF a):=csum_pay vars (fun i _=>by
 show oneI (a.testBit i != now.testBit i)=1 * _
 rw [Nat.testBit_xor]
 cases a.testBit i <;> cases now.testBit i <;> rfl)
theorem pay_cheap (costs:List Int) (a:Nat):payI (costP costs) a vars=csum (cheapC costs) vars 0 (bitsF a):=csum_pay vars (fun i _=>by
 show cheapC costs i (a.testBit i)=_
 unfold cheapC costP oneI
 cases a.testBit i with
 | false=>rw [if_neg (by simp)];show (0:Int)=_ * 0;omega
 | true =>
  by_cases q:i<costs.length
  ·rw [if_pos ⟨rfl,q⟩,if_pos q,if_pos rfl];omega
  ·rw [if_neg (fun e=>q e.2),if_neg q];simp)
theorem near_self (h12:vars<=12) (hl:LitsL vars K) {vals:Nat} (hv:vals<2 ^ vars) (ha:allK vals K=true):(fromW (nearC vals) vars (clF K).1 (clF K).2 0).items=vals:=by
 have hb:=bestK (nearC vals) h12 hl
 generalize fromW (nearC vals) vars (clF K).1 (clF K).2 0=x at *
 obtain ⟨hc,hle⟩:=hb.least vals ha
 have h0:csum (nearC vals) vars 0 (bitsF vals)=0:=by
  rw [<- pay_near,Nat.xor_self]
  have:∀ k,payI (fun _=>1) 0 k=0:=fun k=>by
   induction k with
   | zero=>rfl
   | succ k ih=>show payI _ 0 k + 1 * oneI _=0;rw [ih,Nat.zero_testBit];rfl
  exact this vars
 rw [h0,hb.cost hc] at hle
 apply Nat.eq_of_testBit_eq
 intro i
 by_cases hi:i<vars
 ·have:=csum_near0 (fun i b=>(oneI_ok _).1) vars 0 _ hle i (Nat.zero_le _) (by omega)
  have h1:oneI (x.items.testBit i != vals.testBit i)=0:=this
  cases q1:x.items.testBit i <;> cases q2:vals.testBit i <;> rw [q1,q2] at h1 <;> first | rfl | (simp [oneI] at h1)
 ·rw [Nat.testBit_lt_two_pow (Nat.lt_of_lt_of_le (hb.small hc) (Nat.pow_le_pow_right (by omega) (by omega))),Nat.testBit_lt_two_pow (Nat.lt_of_lt_of_le hv (Nat.pow_le_pow_right (by omega) (by omega)))]
end
end Go.Proofs.YtiihalknffbjpaaGreatDoor.Bd
namespace Go.Proofs.YtiihalknffbjpaaGreatDoor
open Go.RowKit Go.Deep Sv
def nmA:ByteArray:=⟨#[97]⟩
def nmN:ByteArray:=⟨#[]⟩
theorem one_l1:lineF ⟨#[112,97,99,107,97,103,101,32,97,32,49,46,48,46,48]⟩=.ok ⟨1,nmA,1,0,0,nmN,[]⟩:=by kernel_rfl
theorem nmA_ok:NameOk nmA:=by
 refine ⟨by decide,by decide,by decide,by rw [ByteArray.toList_eq];decide,by rw [ByteArray.toList_eq];decide,fun k hk=>?_⟩
 obtain rfl:k=0:=by have:nmA.size=1:=rfl;omega
 left
 decide
theorem one_c1:ctCheck ⟨1,nmA,1,0,0,nmN,[]⟩=0:=by
 unfold ctCheck
 rw [if_neg (by simp),if_neg (fun h=>by rcases h with h | ⟨h,_⟩;exact h nmA_ok;simp [Ln.pair] at h),if_neg (fun h=>h.2 rfl),if_neg (by simp),if_neg (by simp),if_neg (by simp [InV])]
theorem one_n1:¬ (8<namesN ([]++[(⟨nmA,1,0,0⟩:It)])\/([]:List It).length=24):=by
 have:namesN ([]++[(⟨nmA,1,0,0⟩:It)])=1:=by kernel_rfl
 rw [this];simp
end Go.Proofs.YtiihalknffbjpaaGreatDoor
namespace Go.Proofs.YtiihalknffbjpaaGreatDoor
open Go.RowKit Go.Deep Sv
def plnT:ByteArray:=⟨#[112,97,99,107,97,103,101,32,97,32,49,46,48,46,48,10,112,97,99,107,97,103,101,32,98,32,49,46,48,46,48,10,110,101,101,100,115,32,97,32,49,46,48,46,48,32,98,32,97,110,121,10]⟩
def nmB:ByteArray:=⟨#[98]⟩
theorem pln_lns:lnsF plnT 52 0=[(0,⟨#[112,97,99,107,97,103,101,32,97,32,49,46,48,46,48]⟩),(16,⟨#[112,97,99,107,97,103,101,32,98,32,49,46,48,46,48]⟩),(32,⟨#[110,101,101,100,115,32,97,32,49,46,48,46,48,32,98,32,97,110,121]⟩)]:=by kernel_rfl
theorem pln_l2:lineF ⟨#[112,97,99,107,97,103,101,32,98,32,49,46,48,46,48]⟩=.ok ⟨1,nmB,1,0,0,nmN,[]⟩:=by kernel_rfl
theorem pln_l3:lineF ⟨#[110,101,101,100,115,32,97,32,49,46,48,46,48,32,98,32,97,110,121]⟩=.ok ⟨2,nmA,1,0,0,nmB,[(0,1000000000)]⟩:=by kernel_rfl
def plnL:List Ln:=[⟨1,nmA,1,0,0,nmN,[]⟩,⟨1,nmB,1,0,0,nmN,[]⟩,⟨2,nmA,1,0,0,nmB,[(0,1000000000)]⟩]
def plnI:List It:=[⟨nmA,1,0,0⟩,⟨nmB,1,0,0⟩]
theorem nmB_ok:NameOk nmB:=by
 refine ⟨by decide,by decide,by decide,by rw [ByteArray.toList_eq];decide,by rw [ByteArray.toList_eq];decide,fun k hk=>?_⟩
 obtain rfl:k=0:=by have:nmB.size=1:=rfl;omega
 left
 decide
theorem pln_c2:ctCheck ⟨1,nmB,1,0,0,nmN,[]⟩=0:=by
 unfold ctCheck
 rw [if_neg (by simp),if_neg (fun h=>by rcases h with h | ⟨h,_⟩;exact h nmB_ok;simp [Ln.pair] at h),if_neg (fun h=>h.2 rfl),if_neg (by simp),if_neg (by simp),if_neg (by simp [InV])]
theorem pln_c3:ctCheck ⟨2,nmA,1,0,0,nmB,[(0,1000000000)]⟩=0:=by
 unfold ctCheck
 rw [if_neg (by simp),if_neg (fun h=>by rcases h with h | ⟨_,h⟩;exact h nmA_ok;exact h nmB_ok),if_neg (fun h=>h.1 (Or.inl rfl)),if_neg (by simp),if_neg (by simp),if_neg (by simp [InV])]
theorem pln_n2:¬ (8<namesN ([(⟨nmA,1,0,0⟩:It)]++[(⟨nmB,1,0,0⟩:It)])\/([(⟨nmA,1,0,0⟩:It)]).length=24):=by
 have:namesN ([(⟨nmA,1,0,0⟩:It)]++[(⟨nmB,1,0,0⟩:It)])=2:=by kernel_rfl
 rw [this];simp
theorem pln_gath:gathF plnL 0 []=.ok [⟨nmA,1,0,0⟩,⟨nmB,1,0,0⟩]:=by
 unfold plnL
 rw [gathF,if_neg (by rw [one_c1];simp),if_pos rfl,if_neg (by simp),if_neg (show ¬ (8<namesN ([]++[Ln.it ⟨1,nmA,1,0,0,nmN,[]⟩])\/([]:List It).length=24) from one_n1)]
 rw [gathF,if_neg (by rw [pln_c2];simp),if_pos rfl,if_neg (by decide),if_neg (show ¬ (8<namesN ([]++[Ln.it ⟨1,nmA,1,0,0,nmN,[]⟩]++[Ln.it ⟨1,nmB,1,0,0,nmN,[]⟩])\/([]++[Ln.it ⟨1,nmA,1,0,0,nmN,[]⟩]:List It).length=24) from pln_n2)]
 rw [gathF,if_neg (by rw [pln_c3];simp),if_neg (by simp),gathF]
 rfl
theorem pln_le:(!decide (ctCmp ⟨nmB,1,0,0⟩ ⟨nmA,1,0,0⟩<0))=true:=by kernel_rfl
theorem pln_sort:sortF [⟨nmA,1,0,0⟩,⟨nmB,1,0,0⟩]=plnI:=by
 unfold sortF plnI
 rw [List.mergeSort]
 simp [List.MergeSort.Internal.splitInTwo,List.splitAt,List.splitAt.go,pln_le]
theorem pln_miss:missF plnL 0 plnI=none:=by kernel_rfl
theorem pln_new:newF plnL=.ok plnI:=by
 unfold newF
 rw [if_neg (by decide),pln_gath]
 simp only [pln_sort,pln_miss]
theorem pln_pl:plF (lnsF plnT 52 0) []=.ok [(0,⟨1,nmA,1,0,0,nmN,[]⟩),(16,⟨1,nmB,1,0,0,nmN,[]⟩),(32,⟨2,nmA,1,0,0,nmB,[(0,1000000000)]⟩)]:=by
 rw [pln_lns,plF,one_l1]
 simp only [plF,pln_l2,pln_l3]
 rfl
theorem pln_parse:parseF plnT=.ok (plnL,plnI):=by
 unfold parseF
 rw [if_neg (by decide),show plnT.size=52 from rfl,pln_pl]
 have h:=pln_new
 unfold plnL at h
 simp only [List.map_cons,List.map_nil,h]
 rfl
theorem pln_has:hasF [(0,1000000000)] (plnI.getD 1 default):=by
 refine ⟨by simp [plnI,InV],?_⟩
 simp [plnI,mem,numV]
theorem pln_row:ctRow plnI nmB=(1,2):=by kernel_rfl
theorem pln_among:amongF plnI nmB [(0,1000000000)]=[1]:=by
 unfold amongF
 rw [pln_row]
 show List.filter _ [1]=[1]
 rw [List.filter_cons,if_pos (by simpa using pln_has)]
 rfl
theorem pln_numb:ctNumb plnI (Ln.it ⟨2,nmA,1,0,0,nmB,[(0,1000000000)]⟩)=0:=by kernel_rfl
theorem pln_pr:prF plnI 2=[]:=by kernel_rfl
theorem pln_of:ofL plnI plnL=[(2,[-1,2])]:=by
 unfold ofL
 rw [show plnI.length=2 from rfl,pln_pr,show plnL.length=3 from rfl]
 have h0:lineC plnI 0 (plnL.getD 0 default)=[]:=by unfold lineC;rw [if_neg (by decide),if_neg (by decide),if_neg (by decide)]
 have h1:lineC plnI 1 (plnL.getD 1 default)=[]:=by unfold lineC;rw [if_neg (by decide),if_neg (by decide),if_neg (by decide)]
 have h2:lineC plnI 2 (plnL.getD 2 default)=[(2,[-1,2])]:=by
  unfold lineC
  rw [if_neg (by decide),if_pos (by decide)]
  show [(((2:Nat):Int),notF1 (ctNumb plnI (Ln.it ⟨2,nmA,1,0,0,nmB,[(0,1000000000)]⟩)) :: (amongF plnI nmB [(0,1000000000)]).map fun (k:Nat)=>((k:Int) + 1))]=_
  rw [pln_among,pln_numb]
  rfl
 rw [lnL_succ,lnL_succ,lnL_succ,h0,h1,h2]
 rfl
end Go.Proofs.YtiihalknffbjpaaGreatDoor
namespace Go.Proofs.YtiihalknffbjpaaGreatDoor.Bd
open Go.RowKit Go.Deep Sv
def CntBox (w:World) (m:Nat) (q e:Value) (wx:World):Prop:=∃ qb a n c,q=.pointer (some ⟨qb,0,none⟩)/\e=.nilIface/\qb<wx.heap.size/\wx.cell? ⟨qb,0,none⟩=some (.slice a n c)/\NatAt wx (.agg #[.slice a n c]) m/\Below w.heap.size w wx
theorem pln_many:manyN 2 [[-1,2]]=3:=by kernel_rfl
theorem dec3:Lib.decDigits 3=[51]:=by kernel_rfl
structure CntAt (W0:World) (p s:Nat) (al:Int) (m:Nat):Prop where
 sc:∀ W,Below W0.heap.size W0 W->W.cell? ⟨p,0,none⟩=some (.pointer (some ⟨s,0,none⟩))/\W.cell? ⟨p,1,none⟩=some (.int .i64 al)
 cn:∀ W,Below W0.heap.size W0 W->Calls Tryz.prog 18 #[.pointer (some ⟨s,0,none⟩),.int .i64 al] W fun e w'=>∃ a n c,e=.returned (.tuple #[.agg #[.slice a n c],.nilIface])/\NatAt w' (.agg #[.slice a n c]) m/\Below W.heap.size W w'
theorem cntAt_of {B p s b vars:Nat} {O:Nat->Prop} {room:Int} {K:List (List Int)} {W0:World} (h:SolAt B W0 p s b O vars room (clF K)) (h12:vars<=12) (hl:LitsL vars K):CntAt W0 p s (clF K).2 (manyN vars K) :=
 ⟨fun _ hW=>⟨(h.blk.below hW h.blk.lt).cell 0,(h.blk.below hW h.blk.lt).cell 1⟩,fun _ hW=>sol_count (h.space.new hW) h12 hl⟩
theorem cntBox_a {W0 x1:World} {m n c:Nat} {a:Option Addr} (D1:Below W0.heap.size W0 x1) (hn:NatAt x1 (.agg #[.slice a n c]) m):CntBox W0 m (.pointer (some ⟨x1.heap.size,0,none⟩)) .nilIface (x1.alloc (.cells #[.slice a n c] 42)) :=
 ⟨x1.heap.size,a,n,c,rfl,rfl,by simp,by simp,hn.new (below_new x1 _),D1.alloc D1.size _⟩
theorem cntBox_b {W0 x1:World} {m n c q:Nat} {a:Option Addr} (D1:Below W0.heap.size W0 x1) (hq:W0.heap.size<=q) (kz:Blk x1 q 42 #[.slice none 0 0]) (hn:NatAt x1 (.agg #[.slice a n c]) m):CntBox W0 m (.pointer (some ⟨q,0,none⟩)) .nilIface (x1.setCell ⟨q,0,none⟩ (.slice a n c)) :=
 ⟨q,a,n,c,rfl,rfl,by simpa using kz.lt,(kz.set (i:=0) (v:=.slice a n c)).cell 0,hn.kept (Kept.setCell (S:=fun j=>j=q) x1 ⟨q,0,none⟩ _ rfl) (fun b' o n' e=>by
  cases e
  rw [kz.cell o]
  match o with
  | 0=>simp
  | o + 1=>simp),D1.setCell (p:=⟨q,0,none⟩) hq _⟩
theorem laid_k (w:World) (hw:Lw w):Calls Tryz.prog 34 #[] w fun e w'=>e=.returned (.bool true)/\Below w.heap.size w w':=by
 have HP0:=parse_any_c plnT w hw
 rw [pln_parse] at HP0
 have HP:Hid (Calls Tryz.prog 69 #[.string plnT] w fun e w'=>∃ bc,e=.returned (.tuple #[.pointer (some ⟨bc,0,none⟩),.nilIface])/\CatAt w' bc plnL plnI/\Below w.heap.size w w'):=by
  refine HP0.mono ?_
  rintro e w' ⟨bc,vs,rfl,q1,-,q3⟩
  exact ⟨bc,rfl,q1.cat,q3⟩
 have HOF:Hid (∀ W bc,CatAt W bc plnL plnI->Calls Tryz.prog 15 #[.pointer (some ⟨bc,0,none⟩),.int .i64 100] W fun e w'=>∃ p s al,e=.returned (.tuple #[.pointer (some ⟨p,0,none⟩),.nilIface])/\CntAt w' p s al 3/\Below W.heap.size W w'):=fun W bc hcat=>by
  have hN:∀ x ∈ plnL,x.name.size<=100000/\x.other.size<=100000:=by
   intro x hx
   simp only [plnL,List.mem_cons,List.not_mem_nil,or_false] at hx
   rcases hx with rfl | rfl | rfl <;> exact ⟨by decide,by decide⟩
  have hLL:LitsL 2 [[-1,2]]:=by
   intro c hc x hx
   rw [List.mem_singleton] at hc
   subst hc
   simp at hx
   rcases hx with rfl | rfl <;> decide
  have h:=of_fine bc plnL plnI W hcat pln_new (by decide) (by decide) hN (by rw [pln_of];decide) 100 (by decide) (by decide) (by decide)
  rw [pln_of] at h
  refine h.mono ?_
  rintro e w' ⟨p,s,b,O,rfl,h1,h2⟩
  have h3:=cntAt_of (K:=[[-1,2]]) (vars:=2) h1 (by decide) hLL
  rw [pln_many] at h3
  exact ⟨p,s,_,rfl,h3,h2⟩
 have HTX:Hid (∀ W v,Below w.heap.size w W->NatAt W v 3->Calls Tryz.prog 19 #[v] W fun e w'=>e=.returned (.string ⟨#[51]⟩)/\Below W.heap.size W w'):=fun W v hb hn=>by
  have:=text_c hn (by decide) (hw.below hb).lb.tab
  rw [dec3] at this
  exact this
 have hT:plnT=⟨#[112,97,99,107,97,103,101,32,97,32,49,46,48,46,48,10,112,97,99,107,97,103,101,32,98,32,49,46,48,46,48,10,110,101,101,100,115,32,97,32,49,46,48,46,48,32,98,32,97,110,121,10]⟩:=rfl
 rw [hT] at HP
 clear HP0 hw hT
 go_enter Tryz.func34,Tryz.ntmps34
 go_wp2_with fail
 refine HP.out.mono ?_
 rintro e w1 ⟨bc,rfl,hcat,hb1⟩
 have HO1:=Lib.hid (HOF.out w1 bc hcat)
 have HB1:=Lib.hid hb1
 clear hcat hb1 HP HOF
 go_wp2_with fail
 refine HO1.out.mono ?_
 rintro e w2 ⟨p,s,al,rfl,hca,hb2⟩
 have HCA:=Lib.hid hca
 have HB2:Hid (Below w.heap.size w w2):=HB1.out.trans (hb2.mono HB1.out.size)
 have SC:=Lib.hid hca.sc
 have HCN:=Lib.hid hca.cn
 clear hca hb2 HB1 HO1
 go_wp2_with fail
 have D0:Below w2.heap.size w2 w2.drew:=(Below.refl _ _).drew
 have D0a:Below w2.heap.size w2 (w2.alloc (.cells #[.slice none 0 0] 42)).drew:=((Below.refl _ _).alloc (Nat.le_refl _) _).drew
 have k0a:Blk (w2.alloc (.cells #[.slice none 0 0] 42)).drew w2.heap.size 42 #[.slice none 0 0]:=Blk.new w2 42 #[.slice none 0 0]
 go_cut [4,2] (fun q e wx=>CntBox w2 3 q e wx)
 case first =>
  go_region_held3 (fun X=>X.cell? ⟨p,0,none⟩=some (.pointer (some ⟨s,0,none⟩))/\X.cell? ⟨p,1,none⟩=some (.int .i64 al)) (first | exact SC.out _ D0 | exact SC.out _ D0a | exact SC.out _ D1 | exact SC.out _ D1a | exact SC.out _ D1s)
   (first
    | ((with_reducible refine (HCN.out _ D0).mono ?_);rintro e x1 ⟨ca,cn,cc,rfl,hna,hb1⟩;have D1:Below w2.heap.size w2 x1:=D0.trans (hb1.mono D0.size);have D1a:Below w2.heap.size w2 (x1.alloc (.cells #[.slice none 0 0] 42)):=D1.alloc D1.size _;have D1s:Below w2.heap.size w2 (x1.alloc (.cells #[.slice ca cn cc] 42)):=D1.alloc D1.size _;have hbx:=cntBox_a D1 hna;clear HCN D0 D0a k0a hb1)
    | ((with_reducible refine (HCN.out _ D0a).mono ?_);rintro e x1 ⟨ca,cn,cc,rfl,hna,hb1⟩;have D1:Below w2.heap.size w2 x1:=D0a.trans (hb1.mono D0a.size);have kz:=k0a.below hb1 k0a.lt;have D1s:Below w2.heap.size w2 (x1.setCell ⟨w2.heap.size,0,none⟩ (.slice ca cn cc)):=D1.setCell (p:=⟨w2.heap.size,0,none⟩) (Nat.le_refl _) _;have hbx:=cntBox_b D1 (Nat.le_refl _) kz hna;have z0:=kz.cell 0;have z1:=kz.frozen 0;clear HCN D0 D0a k0a hb1 kz))
  all_goals
   have HBX:=Lib.hid hbx
   clear hbx
   go_wp2_with fail
   go_meet
   case rel=>exact HBX.out
 case rest =>
  obtain ⟨qb,a,n,c,rfl,rfl,hql,hqc,hn,hb3⟩:=hcut
  have HTX3:=Lib.hid (HTX.out _ _ (HB2.out.trans (hb3.mono HB2.out.size)) hn)
  have HB3:=Lib.hid (HB2.out.trans (hb3.mono HB2.out.size))
  clear hn hb3 HTX
  go_wp2_with fail
  refine HTX3.out.mono ?_
  rintro e w4 ⟨rfl,hb4⟩
  have HB4:=Lib.hid (HB3.out.trans (hb4.mono HB3.out.size))
  clear hb4 HTX3
  go_wp2
  go_ret
  exact ⟨by first | rfl | simp,HB4.out⟩
end Go.Proofs.YtiihalknffbjpaaGreatDoor.Bd
