/- Of how many values a function is true. -/
import Derived.Test.YtlahnpmoeefapaaGreatDoorCtNew
import Derived.Test.YtlahnpmoeefapaaGreatDoorCtOfS
import Derived.Test.YtlahnpmoeefapaaGreatDoorClDecide
import Derived.Test.YtlahnpmoeefapaaGreatDoorCtReadP
import Derived.Test.YtlahnpmoeefapaaGreatDoorSpClauses
import Derived.Test.YtlahnpmoeefapaaGreatDoorClStep
import Derived.Lib.ItoaNum
import Derived.Test.YtlahnpmoeefapaaGreatDoorProg
import Derived.WalkKit
import Derived.WalkSpells
import Derived.WalkLawsBesides
import Derived.Deep.Cut
import Derived.Deep.DeepCutAuto
import Derived.Deep.RegionWith
import Derived.Deep.LoopGhost
import Derived.Deep.DeepFit
import Derived.Deep.DeepMust
import Derived.Deep.Light
import Derived.Lib.QuietBelow
import Derived.Lib.MinMax
import Derived.BigQuiet
import Derived.Test.YtlahnpmoeefapaaGreatDoorSpBack
import Derived.Test.YtlahnpmoeefapaaGreatDoorPfForm
import Derived.Test.YtlahnpmoeefapaaGreatDoorBdFun
set_option maxHeartbeats 4000000
set_option maxRecDepth 100000
namespace Go.Proofs.YtlahnpmoeefapaaGreatDoor
open Go.RowKit Go.Deep Sv
theorem gathF_names:∀ (ls:List Ln) (i:Nat) (its out:List It),namesN its<=8->gathF ls i its=.ok out->namesN out<=8
 | [],i,its,out,h0,h=>by cases h;exact h0
 | x :: r,i,its,out,h0,h=>by
  rw [gathF] at h
  split at h
  ·cases h
  ·split at h
   ·split at h
    ·cases h
    ·split at h
     ·cases h
     ·rename_i hx
      exact gathF_names r (i + 1) _ out (by omega) h
   ·exact gathF_names r (i + 1) its out h0 h
theorem miss_mem:∀ (ls:List Ln) (i:Nat) (its:List It),missF ls i its=none->∀ x ∈ ls,x.pair->x.it ∈ its
 | [],_,_,_,x,hx,_=>by cases hx
 | y :: r,i,its,h,x,hx,hp=>by
  unfold missF at h
  split at h
  ·cases h
  ·rename_i hy
   rcases List.mem_cons.1 hx with rfl | hx
   ·exact Classical.byContradiction fun e=>hy ⟨hp,e⟩
   ·exact miss_mem r (i + 1) its h x hx hp
theorem new_more {ls:List Ln} {its:List It} (h:newF ls=.ok its):(∀ x ∈ ls,x.pair->x.it ∈ its)/\∃ g:List It,namesN g<=8/\its.Perm g:=by
 unfold newF at h
 split at h
 ·cases h
 ·split at h
  ·cases h
  ·rename_i g hg
   split at h
   ·cases h
   ·rename_i hm
    cases h
    exact ⟨miss_mem ls 0 _ hm,g,gathF_names ls 0 [] g (by decide) hg,sortF_perm g⟩
theorem numb_lt {its:List It} {x:It} (h:x ∈ its):0<=ctNumb its x/\ctNumb its x<its.length:=by
 unfold ctNumb
 cases hf:its.findIdx? (fun y=>decide (x=y)) with
 | none =>
  rw [List.findIdx?_eq_none_iff] at hf
  have:=hf x h
  simp at this
 | some i =>
  rw [List.findIdx?_eq_some_iff_getElem] at hf
  obtain ⟨hi,_⟩:=hf
  exact ⟨by simp,by simpa using hi⟩
theorem among_lits (its:List It) (nm:ByteArray) (rng:List Span):Lits its.length ((amongF its nm rng).map fun (k:Nat)=>((k:Int) + 1)):=fun x hx=>by
 obtain ⟨k,hk,rfl⟩:=List.mem_map.1 hx
 have:=amongF_lt its nm rng k hk
 rw [litB_iff]
 omega
theorem ofL_fine {ls:List Ln} {its:List It} (h:newF ls=.ok its):∀ x ∈ ofL its ls,Lits its.length x.2/\x.2.length<=48:=by
 intro x hx
 have hl:=(newF_ok h).1
 rcases List.mem_append.1 hx with hx | hx
 ·obtain ⟨k,hk,hx⟩:=List.mem_flatMap.1 hx
  obtain ⟨j,hj,hx⟩:=List.mem_flatMap.1 hx
  have hk':=List.mem_range.1 hk
  have hj':=List.mem_range.1 hj
  unfold pr0 at hx
  split at hx
  ·rw [List.mem_singleton] at hx
   subst hx
   refine ⟨fun y hy=>?_,by simp⟩
   simp only [List.mem_cons,List.not_mem_nil,or_false] at hy
   rw [litB_iff]
   unfold notF1 at hy
   rcases hy with rfl | rfl <;> omega
  ·cases hx
 ·obtain ⟨n,hn,hx⟩:=List.mem_flatMap.1 hx
  have hn':=List.mem_range.1 hn
  have hmem:ls.getD n default ∈ ls:=by rw [List.getD_eq_getElem?_getD,List.getElem?_eq_getElem hn'];exact List.getElem_mem hn'
  have hpair:=(new_more h).1 _ hmem
  generalize ls.getD n default=X at *
  have l1:=amongF_len its X.name X.rng
  have l2:=amongF_len its X.other X.rng
  unfold lineC at hx
  split at hx
  ·rw [List.mem_singleton] at hx
   subst hx
   exact ⟨among_lits _ _ _,by simp;omega⟩
  ·split at hx
   ·rename_i hk
    rw [List.mem_singleton] at hx
    subst hx
    have hnb:=numb_lt (hpair (Or.inl hk))
    refine ⟨fun y hy=>?_,by simp;omega⟩
    rcases List.mem_cons.1 hy with rfl | hy
    ·rw [litB_iff];unfold notF1;omega
    ·exact among_lits _ _ _ y hy
   ·split at hx
    ·rename_i hk
     obtain ⟨k,hk2,rfl⟩:=List.mem_map.1 hx
     have hnb:=numb_lt (hpair (Or.inr hk))
     have hka:=amongF_lt its X.other X.rng k hk2
     refine ⟨fun y hy=>?_,by simp⟩
     simp only [List.mem_cons,List.not_mem_nil,or_false] at hy
     rw [litB_iff]
     unfold notF1 at hy
     rcases hy with rfl | rfl <;> omega
    ·cases hx
end Go.Proofs.YtlahnpmoeefapaaGreatDoor
namespace Go.Proofs.YtlahnpmoeefapaaGreatDoor.Bd
open Go.RowKit Go.Deep Sv
structure SolAt (B:Nat) (w:World) (p s b:Nat) (O:Nat->Prop) (vars:Nat) (room:Int) (st:List Nd × Int):Prop where
 space:SpaceAt B w s b O vars room st.1
 blk:Blk w p 37 #[.pointer (some ⟨s,0,none⟩),.int .i64 st.2]
 out:¬ O p
theorem SpaceAt.base {B B' s b vars:Nat} {O:Nat->Prop} {room:Int} {ns:List Nd} {w:World} (h:SpaceAt B w s b O vars room ns) (hB:B'<=B):SpaceAt B' w s b O vars room ns:=by
 obtain ⟨bm,v,L,next,hA,h1,h2,h3⟩:=h.arena
 exact ⟨⟨bm,v,L,next,⟨hA.lt,hA.croom,hA.cnodes,hA.cmap,hA.cnext,hA.froz,Go.Proofs.YtlahnpmoeefapaaGreatDoor.Bd.ownsRow_base hA.row hB,hA.hmap,hA.d1,hA.d2,hA.d3,Nat.le_trans hB hA.B1,Nat.le_trans hB hA.B2⟩,h1,h2,h3⟩,fun k hk=>⟨Nat.le_trans hB (h.own k hk).1,(h.own k hk).2⟩,h.sO,h.slt,h.c0,h.c1⟩
theorem SolAt.new {B p s b vars:Nat} {O:Nat->Prop} {room:Int} {st:List Nd × Int} {w w':World} (h:SolAt B w p s b O vars room st) (hb:Below w.heap.size w w'):SolAt B w' p s b O vars room st :=
 ⟨h.space.new hb,h.blk.below hb h.blk.lt,h.out⟩
theorem cls_of_rs {B:Nat} {W:World} {a:Option Addr} {c:Nat} {fv:Value} {P:List (Int × List Int)} (h:RS B W (.slice a P.length c) fv (P.map Prod.snd) (P.map Prod.fst)):ClsIn W a (P.map Prod.snd):=by
 obtain ⟨cs,h1,h2,_⟩:=h.crow
 exact ClsK.cls (B:=0) (cap:=c) h2 (by simpa using ownsRow_base h1 (Nat.zero_le _))
theorem of_fine (bk:Nat) (ls:List Ln) (its:List It) (w:World) (h:CatAt w bk ls its) (hN:newF ls=.ok its) (hl:its.length<=10) (hll:ls.length<=120) (hnm:∀ x ∈ ls,x.name.size<=100000/\x.other.size<=100000) (hP:(ofL its ls).length<=200) (room:Int) (hr0:0<=room) (hr4:room<=4000) (hrl:((2 * 2 ^ its.length + 25 * its.length:Nat):Int)<=room + 1) :
  Calls Tryz.prog 13 #[.pointer (some ⟨bk,0,none⟩),.int .i64 room] w fun e w'=>∃ p s b O,e=.returned (.tuple #[.pointer (some ⟨p,0,none⟩),.nilIface])/\SolAt w.heap.size w' p s b O its.length room (clF ((ofL its ls).map Prod.snd))/\Below w.heap.size w w':=by
 have HO:Hid (Calls Tryz.prog 63 #[.pointer (some ⟨bk,0,none⟩)] w fun e w'=>∃ a c fa fn fc,e=.returned (.tuple #[.agg #[.int .i64 (its.length:Int),.slice a (ofL its ls).length c,.slice fa fn fc],.nilIface])/\ClsIn w' a ((ofL its ls).map Prod.snd)/\Below w.heap.size w w'):=(of_c bk ls its w h (by omega) hll hnm).mono fun e w' hr=>by
  rcases hr with ⟨h1,-⟩ | ⟨-,cv,fv,h1,h2,h3⟩
  ·omega
  ·obtain ⟨cs,c1,-⟩:=h2.crow
   obtain ⟨a,c,rfl,-,-⟩:=Go.Proofs.YtlahnpmoeefapaaGreatDoor.row_form c1
   obtain ⟨fa,fc,rfl,-,-⟩:=Go.Proofs.YtlahnpmoeefapaaGreatDoor.row_form h2.frow
   rw [List.length_map] at h1 h2
   exact ⟨a,c,fa,_,fc,h1,cls_of_rs h2,h3⟩
 have hfine:=ofL_fine hN
 have hLL:LitsL its.length ((ofL its ls).map Prod.snd):=fun c hc=>by
  obtain ⟨x,hx,rfl⟩:=List.mem_map.1 hc
  exact (hfine x hx).1
 have hmc:∀ c ∈ (ofL its ls).map Prod.snd,c.length<=9223372036854775807:=fun c hc=>by
  obtain ⟨x,hx,rfl⟩:=List.mem_map.1 hc
  have:=(hfine x hx).2
  omega
 have hKl:((ofL its ls).map Prod.snd).length=(ofL its ls).length:=List.length_map _
 generalize (ofL its ls).map Prod.snd=K at *
 rw [<- hKl] at HO hP
 have HLL:=Lib.hid hLL
 have HMC:=Lib.hid hmc
 have HRL:=Lib.hid hrl
 clear h hnm hfine hLL hmc hN hKl hrl
 generalize its.length=vars at *
 go_enter Tryz.func13,Tryz.ntmps13
 go_wp2_with fail
 refine HO.out.mono ?_
 rintro e w1 ⟨a,c,fa,fn,fc,rfl,hI1,hb1⟩
 have kR:=Blk.new w1 65 #[.int .i64 (vars:Int),.slice a K.length c,.slice fa fn fc]
 have hbA:=Go.Proofs.YtlahnpmoeefapaaGreatDoor.below_new w1 (.cells #[.int .i64 (vars:Int),.slice a K.length c,.slice fa fn fc] 65)
 have hIA:=hI1.below hbA
 have hb2:=hb1.trans (hbA.mono hb1.size)
 clear HO hI1
 go_upto_region 4 with fail
 generalize w1.alloc (.cells #[.int .i64 (vars:Int),.slice a K.length c,.slice fa fn fc] 65)=WA at *
 have HNW:=Lib.hid (bnew_any vars (by omega) room hr0 hr4 WA WA.heap.size (Nat.le_refl _))
 have HIA:=Lib.hid hIA
 have HB2:=Lib.hid hb2
 have kc0:=kR.cell 0
 have KR:=Lib.hid kR
 have hsz:=hb2.size
 have hw1:=hbA.size
 clear hIA hb2 kR hbA hb1
 go_wp2_with fail
 refine HNW.out.mono ?_
 rintro e w2 ⟨s,b,O,rfl,hS,hs,hO,hb3⟩
 have HCL:=Lib.hid (clauses_c (w0:=WA) hr4 HRL.out hb3 hS hl K HLL.out a c HIA.out (by omega) HMC.out)
 have kr2:w2.cell? ⟨w1.heap.size,1,none⟩=some (.slice a K.length c):=(KR.out.below hb3 KR.out.lt).cell 1
 have hs2:=hS.slt
 have HB3:=Lib.hid hb3
 have hso:=fun k h=>(hS.own k h).2
 clear hS hb3 HNW
 go_wp2_with fail
 refine HCL.out.mono ?_
 rintro e w3 ⟨rfl,O3,hS3,hM3⟩
 have hw3:=hM3.size
 have hw2:=HB3.out.size
 have hb4:Below WA.heap.size WA w3:=HB3.out.trans (hM3.below hw2 hO)
 have hb5:Below w3.heap.size w3 (w3.alloc (.cells #[.pointer (some ⟨s,0,none⟩),.int .i64 (clF K).2] 37)):=Go.Proofs.YtlahnpmoeefapaaGreatDoor.below_new w3 _
 have HFIN:Hid (SolAt w.heap.size (w3.alloc (.cells #[.pointer (some ⟨s,0,none⟩),.int .i64 (clF K).2] 37)) w3.heap.size s b O3 vars room (clF K)):=⟨(hS3.new hb5).base hsz,Blk.new _ _ _,fun h=>by have:=(hS3.own _ h).2;omega⟩
 have HBF:Hid (Below w.heap.size w (w3.alloc (.cells #[.pointer (some ⟨s,0,none⟩),.int .i64 (clF K).2] 37))):=(HB2.out.trans (hb4.mono hsz)).trans (hb5.mono (by omega))
 clear hS3 hM3 hb4 hb5 HCL
 go_wp2
 go_ret2
 exact ⟨_,s,b,O3,rfl,HFIN.out,HBF.out⟩
end Go.Proofs.YtlahnpmoeefapaaGreatDoor.Bd
namespace Go.Proofs.YtlahnpmoeefapaaGreatDoor.Bd.Num
def S (B:Nat) (g:Nat->Nat):Nat->Nat
 | 0=>0
 | k + 1=>S B g k + g k * B ^ k
theorem S_succ (B:Nat) (g:Nat->Nat) (k:Nat):S B g (k + 1)=S B g k + g k * B ^ k:=rfl
def dig (ds:List Nat) (i:Nat):Nat:=ds.getD i 0
def val (B:Nat) (ds:List Nat):Nat:=S B (dig ds) ds.length
structure Norm (B:Nat) (ds:List Nat):Prop where
 small:∀ i,dig ds i<B
 last:ds.length ≠ 0->dig ds (ds.length - 1) ≠ 0
theorem dig_beyond (ds:List Nat) (i:Nat) (h:ds.length<=i):dig ds i=0:=by
 unfold dig;simp [List.getD_eq_getElem?_getD,List.getElem?_eq_none h]
theorem dig_append (a:List Nat) (x:Nat) (i:Nat):dig (a++[x]) i=if i<a.length then dig a i else if i=a.length then x else 0:=by
 unfold dig
 simp only [List.getD_eq_getElem?_getD]
 by_cases h:i<a.length
 ·rw [List.getElem?_append_left h,if_pos h]
 ·rw [if_neg h,List.getElem?_append_right (by omega)]
  by_cases e:i=a.length
  ·subst e;simp
  ·rw [if_neg e,List.getElem?_eq_none (by simp;omega)];rfl
theorem S_congr (B:Nat) (g h:Nat->Nat):∀ k,(∀ i,i<k->g i=h i)->S B g k=S B h k
 | 0,_=>rfl
 | k + 1,e=>by rw [S_succ,S_succ,S_congr B g h k (fun i hi=>e i (by omega)),e k (by omega)]
theorem S_above (B:Nat) (g:Nat->Nat) (k:Nat):∀ m,(∀ i,k<=i->g i=0)->S B g (k + m)=S B g k
 | 0,_=>rfl
 | m + 1,e=>by rw [<- Nat.add_assoc,S_succ,S_above B g k m e,e (k + m) (by omega)];simp
theorem S_val (B:Nat) (ds:List Nat) (n:Nat) (h:ds.length<=n):S B (dig ds) n=val B ds:=by
 obtain ⟨m,rfl⟩:=Nat.exists_eq_add_of_le h
 exact S_above B _ _ m (fun i hi=>dig_beyond ds i hi)
theorem S_lt (B:Nat) (g:Nat->Nat):∀ k,(∀ i,g i<B)->S B g k<B ^ k
 | 0,_=>by simp [S]
 | k + 1,e=>by
  have h1:=S_lt B g k e
  have h2:(g k + 1) * B ^ k<=B * B ^ k:=Nat.mul_le_mul_right _ (e k)
  rw [S_succ,Nat.pow_succ,Nat.mul_comm (B ^ k) B]
  rw [Nat.add_mul] at h2
  omega
theorem val_lt {B:Nat} {ds:List Nat} (h:∀ i,dig ds i<B):val B ds<B ^ ds.length:=S_lt B _ _ h
theorem val_nil (B:Nat):val B []=0:=rfl
theorem dig_nil (i:Nat):dig [] i=0:=by unfold dig;simp
theorem val_pos {B:Nat} {ds:List Nat} (h:Norm B ds) (hl:ds.length ≠ 0):B ^ (ds.length - 1)<=val B ds:=by
 obtain ⟨k,hk⟩:∃ k,ds.length=k + 1:=⟨ds.length - 1,by omega⟩
 have h1:=h.last hl
 unfold val
 rw [hk] at h1 ⊢
 rw [S_succ]
 simp only [Nat.add_sub_cancel] at h1 ⊢
 have:1 * B ^ k<=dig ds k * B ^ k:=Nat.mul_le_mul_right _ (by omega)
 omega
theorem val_snoc (B:Nat) (a:List Nat) (x:Nat):val B (a++[x])=val B a + x * B ^ a.length:=by
 unfold val
 rw [List.length_append,List.length_singleton,S_succ]
 rw [S_congr B (dig (a++[x])) (dig a) a.length (fun i hi=>by rw [dig_append,if_pos hi])]
 rw [dig_append,if_neg (by omega),if_pos rfl]
theorem norm_len {B:Nat} {ds:List Nat} (hB:2<=B) (h:Norm B ds) {k:Nat} (hv:val B ds<B ^ k):ds.length<=k:=by
 by_cases hl:ds.length=0
 ·omega
 ·have h1:=val_pos h hl
  have h2:B ^ (ds.length - 1)<B ^ k:=by omega
  have h3:=(Nat.pow_lt_pow_iff_right (a:=B) (by omega)).1 h2
  omega
theorem small_snoc {B x:Nat} {a:List Nat} (ha:∀ i,dig a i<B) (hx:x<B) (i:Nat):dig (a++[x]) i<B:=by
 rw [dig_append]
 have:=ha i
 split
 ·exact this
 ·split
  ·exact hx
  ·omega
theorem last_snoc (a:List Nat) (x:Nat):dig (a++[x]) ((a++[x]).length - 1)=x:=by
 rw [dig_append];simp
theorem of_step {B n m:Nat} {ds:List Nat} (h:val B ds + m * B ^ ds.length=n):val B (ds++[m % B]) + m / B * B ^ (ds++[m % B]).length=n:=by
 rw [val_snoc,List.length_append,List.length_singleton,Nat.pow_succ,<- h]
 have h1:=Nat.div_add_mod m B
 generalize B ^ ds.length=p at *
 generalize m / B=q at *
 generalize m % B=r at *
 generalize val B ds=v at *
 subst h1
 grind
theorem of_len {n m:Nat} {ds:List Nat} (hm:1<=m) (hn:n<=9223372036854775807) (h:val 1000000000 ds + m * 1000000000 ^ ds.length=n):ds.length<=2:=by
 apply Nat.le_of_not_lt
 intro h3
 have h4:1000000000 ^ 3<=1000000000 ^ ds.length:=Nat.pow_le_pow_right (by omega) h3
 have h5:1 * 1000000000 ^ ds.length<=m * 1000000000 ^ ds.length:=Nat.mul_le_mul_right _ hm
 omega
theorem dig_take (ds:List Nat) (k i:Nat):dig (ds.take k) i=if i<k then dig ds i else 0:=by
 unfold dig
 simp only [List.getD_eq_getElem?_getD,List.getElem?_take]
 split
 ·rfl
 ·rfl
theorem dig_set (ds:List Nat) (k x i:Nat) (h:k<ds.length):dig (ds.set k x) i=if i=k then x else dig ds i:=by
 unfold dig
 simp only [List.getD_eq_getElem?_getD,List.getElem?_set]
 by_cases e:k=i
 ·subst e;simp [h]
 ·rw [if_neg e,if_neg (fun h=>e h.symm)]
theorem val_take {B k:Nat} {ds:List Nat} (hk:k<=ds.length) (hz:∀ i,k<=i->dig ds i=0):val B (ds.take k)=val B ds:=by
 unfold val
 rw [List.length_take,Nat.min_eq_left hk]
 obtain ⟨m,hm⟩:=Nat.exists_eq_add_of_le hk
 rw [hm,S_above B (dig ds) k m hz]
 exact S_congr B _ _ k (fun i hi=>by rw [dig_take,if_pos hi])
theorem norm_take {B k:Nat} {ds:List Nat} (hB:0<B) (sm:∀ i,dig ds i<B) (hk:k<=ds.length) (hl:k ≠ 0->dig ds (k - 1) ≠ 0):Norm B (ds.take k):=by
 refine ⟨fun i=>?_,fun h=>?_⟩
 ·rw [dig_take];have:=sm i;split <;> omega
 ·rw [List.length_take,Nat.min_eq_left hk] at h ⊢
  rw [dig_take,if_pos (by omega)]
  exact hl h
theorem dig_replicate (n i:Nat):dig (List.replicate n 0) i=0:=by
 unfold dig
 simp only [List.getD_eq_getElem?_getD,List.getElem?_replicate]
 split <;> rfl
theorem add_step {B k c x y:Nat} {out:List Nat} {T U:Nat->Nat} (hk:k<out.length) (h:S B (dig out) k + c * B ^ k=S B T k + S B U k) (hx:T k=x) (hy:U k=y) :
  S B (dig (out.set k ((x + y + c) % B))) (k + 1) + (x + y + c) / B * B ^ (k + 1)=S B T (k + 1) + S B U (k + 1):=by
 rw [S_succ,S_succ,S_succ,hx,hy]
 rw [S_congr B (dig (out.set k ((x + y + c) % B))) (dig out) k (fun i hi=>by rw [dig_set _ _ _ _ hk,if_neg (by omega)])]
 rw [dig_set _ _ _ _ hk,if_pos rfl,Nat.pow_succ]
 have h1:=Nat.div_add_mod (x + y + c) B
 generalize (x + y + c) % B=r at *
 generalize (x + y + c) / B=q at *
 generalize B ^ k=p at *
 generalize S B (dig out) k=s1 at *
 generalize S B T k=s2 at *
 generalize S B U k=s3 at *
 grind
theorem no_carry {B n c s t:Nat} (h:s + c * B ^ n=t) (ht:t<B ^ n):c=0:=by
 rcases Nat.eq_zero_or_pos c with e | e
 ·exact e
 ·have:1 * B ^ n<=c * B ^ n:=Nat.mul_le_mul_right _ e
  omega
theorem small_set {B k x:Nat} {out:List Nat} (hk:k<out.length) (sm:∀ i,dig out i<B) (hx:x<B) (i:Nat):dig (out.set k x) i<B:=by
 rw [dig_set _ _ _ _ hk];have:=sm i;split <;> omega
theorem shift_step {B k c x P:Nat} {out:List Nat} {T:Nat->Nat} (hk:k<out.length) (h:S B (dig out) k + c * B ^ k=S B T k * P) (hx:T k=x) :
  S B (dig (out.set k ((x * P + c) % B))) (k + 1) + (x * P + c) / B * B ^ (k + 1)=S B T (k + 1) * P:=by
 rw [S_succ,S_succ,hx]
 rw [S_congr B (dig (out.set k ((x * P + c) % B))) (dig out) k (fun i hi=>by rw [dig_set _ _ _ _ hk,if_neg (by omega)])]
 rw [dig_set _ _ _ _ hk,if_pos rfl,Nat.pow_succ]
 have h1:=Nat.div_add_mod (x * P + c) B
 generalize (x * P + c) % B=r at *
 generalize (x * P + c) / B=q at *
 generalize B ^ k=p at *
 generalize S B (dig out) k=s1 at *
 generalize S B T k=s2 at *
 grind
open Go.Lib
end Go.Proofs.YtlahnpmoeefapaaGreatDoor.Bd.Num
namespace Go.Proofs.YtlahnpmoeefapaaGreatDoor.Bd
open Go.RowKit Num
def Dig (k:IntKind) (w:World) (v:Value) (ds:List Nat):Prop :=
 ∃ a cap,v=.slice a ds.length cap/\ds.length<=cap/\∀ i,i<ds.length->∃ b off,a=some ⟨b,off,none⟩/\b<w.heap.size/\w.cell? ⟨b,off + i,none⟩=some (.int k ((dig ds i:Nat):Int))
theorem Dig.below {k:IntKind} {w w':World} {v:Value} {ds:List Nat} (h:Dig k w v ds) (hb:Below w.heap.size w w'):Dig k w' v ds:=by
 obtain ⟨a,cap,hv,hc,hi⟩:=h
 refine ⟨a,cap,hv,hc,fun i hl=>?_⟩
 obtain ⟨b,off,ha,hlt,hcell⟩:=hi i hl
 exact ⟨b,off,ha,Nat.lt_of_lt_of_le hlt hb.size,(hb.cell (p:=⟨b,off + i,none⟩) hlt).trans hcell⟩
theorem Dig.set {k:IntKind} {w:World} {v:Value} {ds:List Nat} (h:Dig k w v ds) {p:Addr} {u0:Value} (hp:w.cell? p=some u0) (hu:∀ n,u0 ≠ .int k n) (u:Value):Dig k (w.setCell p u) v ds:=by
 obtain ⟨a,cap,hv,hc,hi⟩:=h
 refine ⟨a,cap,hv,hc,fun i hl=>?_⟩
 obtain ⟨b,off,ha,hb,hcell⟩:=hi i hl
 refine ⟨b,off,ha,by simpa [World.setCell] using hb,?_⟩
 rw [World.cell?_setCell_other _ _ _ _ (fun e=>by subst e;rw [hp] at hcell;exact hu _ (Option.some.inj hcell))]
 exact hcell
theorem Dig.nil (k:IntKind) (w:World):Dig k w (.slice none 0 0) []:=⟨none,0,rfl,Nat.le_refl _,fun i h=>by simp at h⟩
def dcells (k:IntKind) (ds:List Nat):List Value:=ds.map fun d:Nat=>Value.int k (d:Int)
theorem dcells_length (k:IntKind) (ds:List Nat):(dcells k ds).length=ds.length:=by simp [dcells]
theorem dcells_snoc (k:IntKind) (ds:List Nat) (x:Nat):dcells k (ds++[x])=dcells k ds++[Value.int k (x:Int)]:=by simp [dcells]
theorem dcells_at (k:IntKind) (ds:List Nat) (i:Nat) (h:i<ds.length):(dcells k ds)[i]?=some (.int k ((dig ds i:Nat):Int)):=by
 unfold dcells dig
 simp [List.getD_eq_getElem?_getD,List.getElem?_eq_getElem h]
theorem dcells_set (k:IntKind) (ds:List Nat) (j x:Nat):(dcells k ds).set j (.int k (x:Int))=dcells k (ds.set j x):=by simp [dcells,List.map_set]
theorem dcells_made (k:IntKind) (n:Nat):(madeCells #[Value.int k 0] n).toList=dcells k (List.replicate n 0):=by rw [toList_madeCells_one];simp [dcells]
theorem owns_form {w:World} {base:Nat} {e:TypeId} {v:Value} {n:Nat} {xs:List Value} (h:w.ownsRow base e 1 v n xs):∃ a cap,v=.slice a n cap/\n<=cap:=by
 rcases h.2 with ⟨h1,h2⟩ | ⟨g,cap,cur,h1,_,_,h2,_⟩
 ·exact ⟨none,0,by rw [h1,h2],by omega⟩
 ·exact ⟨_,cap,h1,h2⟩
theorem owns_set {k:IntKind} {w:World} {base g n cap:Nat} {e:TypeId} {ds:List Nat} (h:w.ownsRow base e 1 (.slice (some ⟨g,0,none⟩) n cap) n (dcells k ds)) (j x:Nat):(w.setCell ⟨g,j,none⟩ (.int k (x:Int))).ownsRow base e 1 (.slice (some ⟨g,0,none⟩) n cap) n (dcells k (ds.set j x)):=by
 rw [<- dcells_set];exact (h.stored j _).1
theorem owns_below {w w':World} {base:Nat} {e:TypeId} {size:Nat} {v:Value} {n:Nat} {xs:List Value} (h:w.ownsRow base e size v n xs) (hb:Below w.heap.size w w'):w'.ownsRow base e size v n xs:=by
 obtain ⟨h1,h2⟩:=h
 refine ⟨h1,?_⟩
 rcases h2 with h2 | ⟨g,cap,cur,hv,hg,hh,r⟩
 ·exact Or.inl h2
 ·have hlt:g<w.heap.size:=by
   by_cases hlt:g<w.heap.size
   ·exact hlt
   ·rw [Array.getElem?_eq_none (by omega)] at hh;simp at hh
  exact Or.inr ⟨g,cap,cur,hv,hg,by rw [hb.block g hlt];exact hh,r⟩
theorem Dig.of_owns {k:IntKind} {w:World} {base:Nat} {e:TypeId} {v:Value} {ds:List Nat} (h:w.ownsRow base e 1 v ds.length (dcells k ds)):Dig k w v ds:=by
 rcases h.2 with ⟨h1,h2⟩ | ⟨g,cap,cur,h1,hb,hg,h2,_⟩
 ·obtain rfl:ds=[]:=List.length_eq_zero_iff.1 h2
  rw [h1];exact Dig.nil k w
 ·subst h1
  refine ⟨_,cap,rfl,h2,fun i hi=>⟨g,0,rfl,?_,?_⟩⟩
  ·by_cases hlt:g<w.heap.size
   ·exact hlt
   ·rw [Array.getElem?_eq_none (by omega)] at hg;simp at hg
  ·rw [Nat.zero_add,h.cellAt i (by omega),dcells_at k ds i hi]
theorem cellOld {w:World} {b off:Nat} (o:Obj) (h:b<w.heap.size):(w.alloc o).cell? ⟨b,off,none⟩=w.cell? ⟨b,off,none⟩ :=
 ((Below.refl w.heap.size w).alloc (Nat.le_refl _) o).cell (p:=⟨b,off,none⟩) h
theorem cell1_0 (w:World) (A:Value) (t:TypeId):(w.alloc (.cells #[A] t)).cell? ⟨w.heap.size,0,none⟩=some A:=by simp
theorem frozen1_0 (w:World) (A:Value) (t:TypeId):(w.alloc (.cells #[A] t)).frozen? ⟨w.heap.size,0,none⟩=false:=by simp
theorem cell2_0 (w:World) (A:Value) (t:TypeId) (o:Obj):((w.alloc (.cells #[A] t)).alloc o).cell? ⟨w.heap.size,0,none⟩=some A:=by
 rw [cellOld o (by simp),cell1_0]
theorem cell2_1 (w:World) (A:Value) (t:TypeId) (o:Obj):((w.alloc o).alloc (.cells #[A] t)).cell? ⟨w.heap.size + 1,0,none⟩=some A:=by
 have:=cell1_0 (w.alloc o) A t;rwa [World.size_alloc] at this
theorem frozen2_1 (w:World) (A:Value) (t:TypeId) (o:Obj):((w.alloc o).alloc (.cells #[A] t)).frozen? ⟨w.heap.size + 1,0,none⟩=false:=by
 have:=frozen1_0 (w.alloc o) A t;rwa [World.size_alloc] at this
theorem cell3_0 (w:World) (A:Value) (t:TypeId) (o p:Obj):(((w.alloc (.cells #[A] t)).alloc o).alloc p).cell? ⟨w.heap.size,0,none⟩=some A:=by
 rw [cellOld p (by simp;omega),cell2_0]
theorem cell3_1 (w:World) (A:Value) (t:TypeId) (o p:Obj):(((w.alloc o).alloc (.cells #[A] t)).alloc p).cell? ⟨w.heap.size + 1,0,none⟩=some A:=by
 rw [cellOld p (by simp),cell2_1]
theorem cell3_2 (w:World) (A:Value) (t:TypeId) (o p:Obj):(((w.alloc o).alloc p).alloc (.cells #[A] t)).cell? ⟨w.heap.size + 1 + 1,0,none⟩=some A:=by
 have:=cell2_1 (w.alloc o) A t p;rwa [World.size_alloc] at this
theorem frozen3_2 (w:World) (A:Value) (t:TypeId) (o p:Obj):(((w.alloc o).alloc p).alloc (.cells #[A] t)).frozen? ⟨w.heap.size + 1 + 1,0,none⟩=false:=by
 have:=frozen2_1 (w.alloc o) A t p;rwa [World.size_alloc] at this
theorem mixed:Tryz.prog.follows .mixedOrders=true:=by kernel_rfl
theorem wu64 {x:Int} (h0:0<=x) (h1:x<=18446744073709551615):IntKind.u64.wrap x=x:=IntWalk.u64_in x ⟨h0,h1⟩
theorem digit_any (v:Value) (ds:List Nat) (i:Nat) (w:World) (hd:Dig .u64 w v ds) (_hi:i<=1000000) (_hl:ds.length<=1000000) :
  Calls Tryz.prog 124 #[.agg #[v],.int .i64 (i:Int)] w fun e w'=>e=.returned (.int .u64 ((dig ds i:Nat):Int))/\Below w.heap.size w w':=by
 obtain ⟨a,cap,rfl,hc,hcell⟩:=hd
 by_cases hlt:i<ds.length
 ·obtain ⟨b,off,rfl,hb,hcl⟩:=hcell i hlt
  have hne:¬ b=w.heap.size:=by omega
  clear hcell
  generalize dig ds i=d at *
  go_enter Tryz.func124,Tryz.ntmps124
  go_wp2
  go_ret
  exact ⟨rfl,(Below.refl _ _).alloc (Nat.le_refl _) _⟩
 ·have hz:=dig_beyond ds i (by omega)
  rw [hz]
  clear hcell hz
  go_enter Tryz.func124,Tryz.ntmps124
  go_wp2
  go_ret
  exact ⟨rfl,(Below.refl _ _).alloc (Nat.le_refl _) _⟩
end Go.Proofs.YtlahnpmoeefapaaGreatDoor.Bd
namespace Go.Proofs.YtlahnpmoeefapaaGreatDoor.Bd
open Go.RowKit Go.Maps
structure NV where
 a:Option Addr
 n:Nat
 c:Nat
def NV.val (x:NV):Value:=.agg #[.slice x.a x.n x.c]
def NV.dat (x:NV):DataW Unit :=
 match x.a with
 | none=>.agg [.lit (.int .i64 x.n),.lit (.int .i64 x.c)]
 | some ⟨b,o,none⟩=>.agg [.lit (.int .i64 x.n),.lit (.int .i64 x.c),.lit (.int .i64 b),.lit (.int .i64 o)]
 | some ⟨b,o,some s⟩=>.agg [.lit (.int .i64 x.n),.lit (.int .i64 x.c),.lit (.int .i64 b),.lit (.int .i64 o),.lit (.int .i64 s)]
theorem NV.dat_inj {x y:NV} (h:x.dat=y.dat):x=y:=by
 obtain ⟨a,n,c⟩:=x
 obtain ⟨b,m,d⟩:=y
 rcases a with _ | ⟨ab,ao,_ | sa⟩ <;> rcases b with _ | ⟨bb,bo,_ | sb⟩ <;> simp [NV.dat] at h ⊢ <;> omega
def natR (v:Value):Option (DataW Unit × List MemPlace) :=
 match v with
 | .agg cs =>
  match cs.toList with
  | [.slice a n c]=>some (NV.dat ⟨a,n,c⟩,[])
  | _=>none
 | _=>none
theorem natR_val (x:NV):natR x.val=some (x.dat,[]):=rfl
theorem natR_inv {v:Value} {x:NV} {ps:List MemPlace} (h:natR v=some (x.dat,ps)):v=x.val:=by
 unfold natR at h
 split at h
 ·rename_i cs
  split at h
  ·rename_i a n c e
   simp only [Option.some.injEq,Prod.mk.injEq] at h
   rw [<- NV.dat_inj h.1]
   have:cs=#[.slice a n c]:=by cases cs;simp at e;rw [e]
   rw [this];rfl
  ·cases h
 ·cases h
theorem zeroNat (w:World):(zeroValue 42).run Tryz.prog w=.ok (.agg #[.slice none 0 0]) w:=by kernel_rfl
def NRep (D:DataW Unit) (L:List (Int × NV)):Prop:=Rep I64 (fun x=>Lit.int .i64 x) NV.dat D L
section
variable {w:World} {bm n:Nat} {D:DataW Unit} {L:List (Int × NV)}
theorem nlook_found (hD:w.ownsMap Tryz.prog 3 natR bm n D) (hR:NRep D L) {p:Int × NV} (hp:p ∈ L) :
  (Instr.lookup 147 (.map (some bm)) (.int .i64 p.1) true).run Tryz.prog w=.ok (.tuple #[p.2.val,.bool true]) w:=by
 obtain ⟨v,ps,hrun,hv⟩:=hD.look_ok lawI Tryz.underlying147 (zeroNat w) (natR_val ⟨none,0,0⟩) (keyI (Rep.oks hR p hp))
 rw [Rep.at' hR p hp] at hv
 rw [(Rep.has hR p.1 (Rep.oks hR p hp)).2 (List.mem_map_of_mem hp),natR_inv hv] at hrun
 exact hrun
theorem nlook_none (hD:w.ownsMap Tryz.prog 3 natR bm n D) (hR:NRep D L) {a:Int} (ha:I64 a) (hn:a ∉ L.map Prod.fst) :
  (Instr.lookup 147 (.map (some bm)) (.int .i64 a) true).run Tryz.prog w=.ok (.tuple #[.agg #[.slice none 0 0],.bool false]) w:=by
 obtain ⟨v,ps,hrun,hv⟩:=hD.look_ok lawI Tryz.underlying147 (zeroNat w) (natR_val ⟨none,0,0⟩) (keyI ha)
 have hh:=Rep.not hR ha hn
 rw [atKey_of_not_has hh] at hv
 rw [hh,natR_inv hv] at hrun
 exact hrun
end
end Go.Proofs.YtlahnpmoeefapaaGreatDoor.Bd
namespace Go.Proofs.YtlahnpmoeefapaaGreatDoor.Bd
open Go.RowKit Go.Maps
def numOf' (f:Nat->Bool):Nat->Nat
 | 0=>0
 | n + 1=>numOf' f n + (if f n then 2 ^ n else 0)
theorem numOf_lt (f:Nat->Bool):∀ n,numOf' f n<2 ^ n
 | 0=>by simp [numOf']
 | n + 1=>by
  have:=numOf_lt f n
  unfold numOf'
  rw [Nat.pow_succ]
  split <;> omega
theorem numOf_bit (f:Nat->Bool):∀ n i,i<n->bitsF (numOf' f n) i=f i
 | n + 1,i,h=>by
  have hl:=numOf_lt f n
  unfold numOf' bitsF
  by_cases e:i=n
  ·subst e
   cases hf:f i with
   | true =>
    rw [if_pos rfl,Nat.add_comm,Nat.testBit_two_pow_add_eq,Nat.testBit_lt_two_pow hl];rfl
   | false =>
    rw [if_neg (by simp),Nat.add_zero,Nat.testBit_lt_two_pow hl]
  ·have hi:i<n:=by omega
   have ih:=numOf_bit f n i hi
   unfold bitsF at ih
   cases hf:f n with
   | true =>
    rw [if_pos rfl,Nat.add_comm,Nat.testBit_two_pow_add_gt hi,ih]
   | false =>
    rw [if_neg (by simp),Nat.add_zero,ih]
end Go.Proofs.YtlahnpmoeefapaaGreatDoor.Bd
namespace Go.Proofs.YtlahnpmoeefapaaGreatDoor.Bd
open Go.RowKit Go.Maps
def cntV:Nat->Nat->Fn'->(Nat->Bool)->Nat
 | 0,_,g,f=>if g f then 1 else 0
 | k + 1,v,g,f=>cntV k (v + 1) g (turn f v false) + cntV k (v + 1) g (turn f v true)
theorem turnV_at (f:Nat->Bool) (v:Nat) (b:Bool):turn f v b v=b:=by unfold turn;rw [if_pos rfl]
theorem turnV_ne (f:Nat->Bool) {v i:Nat} (b:Bool) (h:i ≠ v):turn f v b i=f i:=by unfold turn;rw [if_neg h]
theorem cntV_congr:∀ (k v:Nat) {g g':Fn'} (f:Nat->Bool),(∀ f',(∀ i,i<v->f' i=f i)->g f'=g' f')->cntV k v g f=cntV k v g' f
 | 0,v,g,g',f,h=>by unfold cntV;rw [h f (fun _ _=>rfl)]
 | k + 1,v,g,g',f,h=>by
  unfold cntV
  rw [cntV_congr k (v + 1) (turn f v false) (fun f' hf=>h f' (fun i hi=>by rw [hf i (by omega),turnV_ne f false (by omega)])),
   cntV_congr k (v + 1) (turn f v true) (fun f' hf=>h f' (fun i hi=>by rw [hf i (by omega),turnV_ne f true (by omega)]))]
theorem cntV_any:∀ (k v:Nat) {g:Fn'},(∀ f f':Nat->Bool,(∀ i,v<=i->f i=f' i)->g f=g f')->∀ f f':Nat->Bool,(∀ i,v + k<=i->f i=f' i)->cntV k v g f=cntV k v g f'
 | 0,v,g,hg,f,f',h=>by unfold cntV;rw [hg f f' (fun i hi=>h i (by omega))]
 | k + 1,v,g,hg,f,f',h=>by
  have key:∀ (k v u:Nat) (g:Fn') (f f':Nat->Bool),u<=v->(∀ f f':Nat->Bool,(∀ i,u<=i->f i=f' i)->g f=g f')->(∀ i,u<=i->(i<v\/v + k<=i)->f i=f' i)->cntV k v g f=cntV k v g f':=by
   intro k
   induction k with
   | zero=>intro v u g f f' _ hg h;unfold cntV;rw [hg f f' (fun i hi=>h i hi (by omega))]
   | succ k ih =>
    intro v u g f f' huv hg h
    unfold cntV
    have e:∀ b,cntV k (v + 1) g (turn f v b)=cntV k (v + 1) g (turn f' v b):=fun b=>ih (v + 1) u g _ _ (by omega) hg (fun i hi hc=>by
     by_cases hiv:i=v
     ·subst hiv;rw [turnV_at,turnV_at]
     ·rw [turnV_ne f b hiv,turnV_ne f' b hiv];exact h i hi (by omega))
    rw [e false,e true]
  exact key (k + 1) v v g f f' (Nat.le_refl _) hg (fun i _ hc=>h i (by omega))
theorem cntV_not (p:Fn'):∀ (k v:Nat) (f:Nat->Bool),cntV k v p f + cntV k v (fun f=>!(p f)) f=2 ^ k
 | 0,v,f=>by unfold cntV;by_cases hp:p f=true <;> simp [hp]
 | k + 1,v,f=>by
  unfold cntV
  have h1:=cntV_not p k (v + 1) (turn f v false)
  have h2:=cntV_not p k (v + 1) (turn f v true)
  rw [Nat.pow_succ]
  omega
theorem cntV_le (p:Fn') (k v:Nat) (f:Nat->Bool):cntV k v p f<=2 ^ k:=by have:=cntV_not p k v f;omega
def waysN (vars:Nat) (ns:List Nd) (h:Int) (v:Nat):Nat:=cntV (vars - v) v (sem ns h) (fun _=>false)
def topN (vars:Nat) (ns:List Nd) (h:Int):Nat:=min (topOf ns h).toNat vars
def belowN (vars:Nat) (ns:List Nd) (h:Int):Nat:=waysN vars ns h (topN vars ns h)
section
variable {vars:Nat} {ns:List Nd}
theorem sem_from (hg:Good vars ns) {h:Int} {v:Nat} (hv:(v:Int)<=topOf ns h):∀ f f':Nat->Bool,(∀ i,v<=i->f i=f' i)->sem ns h f=sem ns h f':=fun f f' hf =>
 sem_agree hg.ranked (fun i hi=>hf i (by omega))
theorem ways_gap (hg:Good vars ns) {h:Int}:∀ (d v:Nat),v + d=topN vars ns h->waysN vars ns h v=belowN vars ns h * 2 ^ d
 | 0,v,e=>by
  have:v=topN vars ns h:=by omega
  subst this;simp [belowN]
 | d + 1,v,e=>by
  have h0:=(topOf_le hg.ranked h).1
  have hvt:((v + 1:Nat):Int)<=topOf ns h:=by unfold topN at e;omega
  have hvv:v<vars:=by unfold topN at e;omega
  have ih:=ways_gap hg (h:=h) d (v + 1) (by omega)
  have hs:=sem_from hg (h:=h) (v:=v + 1) hvt
  unfold waysN at ih ⊢
  rw [show vars - v=(vars - (v + 1)) + 1 by omega]
  unfold cntV
  rw [cntV_any _ (v + 1) hs (turn (fun _=>false) v false) (fun _=>false) (fun i hi=>turnV_ne _ _ (by omega)),
   cntV_any _ (v + 1) hs (turn (fun _=>false) v true) (fun _=>false) (fun i hi=>turnV_ne _ _ (by omega)),ih,Nat.pow_succ]
  rw [<- Nat.mul_assoc];omega
theorem below_end {h:Int} (hh:hasB ns h=true) (ht:topOf ns h=24) (hv:vars<=24):belowN vars ns h=h.toNat:=by
 have e:topN vars ns h=vars:=by unfold topN;rw [ht];simp;omega
 unfold belowN waysN
 rw [e,Nat.sub_self]
 unfold cntV
 rcases end_of hh ht with rfl | rfl
 ·rw [sem_false];rfl
 ·rw [sem_true];rfl
theorem below_node (hg:Good vars ns) {h:Int} (ht:topOf ns h ≠ 24):belowN vars ns h=waysN vars ns (nd ns (pl h)).l ((topOf ns h).toNat + 1) + waysN vars ns (nd ns (pl h)).h ((topOf ns h).toNat + 1):=by
 have hv:=top_vars hg ht
 have h0:=(topOf_le hg.ranked h).1
 obtain ⟨k1,-,k2,-⟩:=kids hg.ranked ht
 obtain ⟨v,e⟩:∃ v:Nat,topOf ns h=(v:Int):=⟨(topOf ns h).toNat,by omega⟩
 have et:topN vars ns h=v:=by unfold topN;rw [e];simp;omega
 have en:=sem_node hg.ranked ht
 unfold belowN
 rw [et]
 rw [e] at hv k1 k2 en ⊢
 rw [Int.toNat_natCast] at en ⊢
 unfold waysN
 rw [show vars - v=(vars - (v + 1)) + 1 by omega]
 rw [cntV]
 have hl:=sem_from hg (h:=(nd ns (pl h)).l) (v:=v + 1) (by omega)
 have hh:=sem_from hg (h:=(nd ns (pl h)).h) (v:=v + 1) (by omega)
 have e1:cntV (vars - (v + 1)) (v + 1) (sem ns h) (turn (fun _=>false) v false)=cntV (vars - (v + 1)) (v + 1) (sem ns (nd ns (pl h)).l) (turn (fun _=>false) v false) :=
  cntV_congr _ _ _ (fun f' hf=>by
   have:f' v=false:=by rw [hf v (by omega),turnV_at]
   rw [en f',this];rfl)
 have e2:cntV (vars - (v + 1)) (v + 1) (sem ns h) (turn (fun _=>false) v true)=cntV (vars - (v + 1)) (v + 1) (sem ns (nd ns (pl h)).h) (turn (fun _=>false) v true) :=
  cntV_congr _ _ _ (fun f' hf=>by
   have:f' v=true:=by rw [hf v (by omega),turnV_at]
   rw [en f',this];rfl)
 rw [e1,e2,cntV_any _ (v + 1) hl (turn (fun _=>false) v false) (fun _=>false) (fun i hi=>turnV_ne _ _ (by omega)),
  cntV_any _ (v + 1) hh (turn (fun _=>false) v true) (fun _=>false) (fun i hi=>turnV_ne _ _ (by omega))]
theorem ways_is {g:Fn'} {h:Int} (hs:∀ f,sem ns h f=g f):waysN vars ns h 0=cntV vars 0 g (fun _=>false):=by
 unfold waysN
 rw [Nat.sub_zero,show sem ns h=g from funext hs]
end
end Go.Proofs.YtlahnpmoeefapaaGreatDoor.Bd
