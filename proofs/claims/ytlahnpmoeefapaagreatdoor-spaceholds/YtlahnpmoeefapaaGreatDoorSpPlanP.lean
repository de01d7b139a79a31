/- The text of a catalog in which one needs another: plain. -/
import Derived.Test.YtlahnpmoeefapaaGreatDoorSpShelf
import Derived.Test.YtlahnpmoeefapaaGreatDoorSvPart
import Derived.Lib.ItoaNum
import Derived.Test.YtlahnpmoeefapaaGreatDoorBdCnt
import Derived.Test.YtlahnpmoeefapaaGreatDoorSpBack
import Derived.Test.YtlahnpmoeefapaaGreatDoorCtReadP
set_option maxHeartbeats 2000000
set_option maxRecDepth 100000
namespace Go.Proofs.YtlahnpmoeefapaaGreatDoor.Bd
open Go.RowKit Num Go.Sort
theorem NatAt.small {w:World} {v:Value} {m:Nat} (h:NatAt w v m) (hm:m<=100000000) :
  (m=0/\∃ a c,v=.agg #[.slice a 0 c])\/(m ≠ 0/\∃ b off c,v=.agg #[.slice (some ⟨b,off,none⟩) 1 c]/\b<w.heap.size/\w.cell? ⟨b,off,none⟩=some (.int .u64 (m:Int))):=by
 obtain ⟨s,ds,rfl,⟨a,cap,rfl,hc,hi⟩,hN,hv,hl⟩:=h.open hm
 match ds,hl with
 | [],_=>exact .inl ⟨by rw [<- hv,val_nil],a,cap,rfl⟩
 | [d],_ =>
  obtain ⟨b,off,rfl,hb,hcell⟩:=hi 0 (by simp)
  have hd:val 1000000000 [d]=d:=by unfold val;simp [S,dig]
  have h0:=hN.last (by simp)
  have e:d=m:=by rw [<- hd];exact hv
  subst e
  exact .inr ⟨h0,b,off,cap,rfl,hb,hcell⟩
theorem zero_c {w:World} {v:Value} {m:Nat} (h:NatAt w v m) (hm:m<=100000000):Calls Tryz.prog 36 #[v] w fun e w'=>e=.returned (.bool (decide (m=0)))/\Below w.heap.size w w':=by
 rcases h.small hm with ⟨h0,a,c,rfl⟩ | ⟨h0,b,off,c,rfl,-,-⟩
 ·rw [decide_eq_true h0]
  clear h hm h0
  have HB:Hid (Below w.heap.size w (w.alloc (.cells #[.slice a 0 c] 42))):=below_new w _
  go_enter Tryz.func36,Tryz.ntmps36
  go_wp2
  go_ret
  exact ⟨by first | rfl | simp,HB.out⟩
 ·rw [decide_eq_false h0]
  clear h hm h0
  have HB:Hid (Below w.heap.size w (w.alloc (.cells #[.slice (some ⟨b,off,none⟩) 1 c] 42))):=below_new w _
  go_enter Tryz.func36,Tryz.ntmps36
  go_wp2
  go_ret
  exact ⟨by first | rfl | simp,HB.out⟩
theorem append_c (B u:Nat) (hu64:u<18446744073709551616) (w:World) (hBw:B<=w.heap.size) (htab:Lib.TabIs Tryz.prog w "internal/strconv.uint64pow10" .u64 Lib.pow10Tab) :
  Calls Tryz.prog 69 #[.slice none 0 0,.int .u64 (u:Int),.int .i64 10] w fun e w'=>∃ v',e=.returned v'/\w'.ownsRow B 5 1 v' (Lib.decDigits u).length (Lib.byteCells (Lib.decDigits u))/\Below B w w':=by
 have H0:=Tryz.internal_strconv_AppendUint_10 B 0 u hu64 (.slice none 0 0) [] w (World.ownsRow_nil _ _ _ _) hBw (by omega) htab
 have H:=Lib.hid H0
 clear H0 htab
 go_enter Tryz.func69,Tryz.ntmps69
 go_wp2_with fail
 refine H.out.mono ?_
 rintro e w1 ⟨v',rfl,h1,h2,-⟩
 have HF:Hid (w1.ownsRow B 5 1 v' (Lib.decDigits u).length (Lib.byteCells (Lib.decDigits u))/\Below B w w1):=by
  have:w1.ownsRow B 5 1 v' (Lib.decDigits u).length (Lib.byteCells (Lib.decDigits u)):=by simpa using h1
  exact ⟨this,h2⟩
 clear h1 h2
 go_wp2
 go_ret
 exact ⟨v',rfl,HF.out⟩
theorem conv_owned {w:World} {base:Nat} {v:Value} {l:List UInt8} (h:w.ownsRow base 5 1 v l.length (Lib.byteCells l)) (hl:l ≠ []) :
  (convert 148 9 v).run Tryz.prog w=.ok (.string ⟨l.toArray⟩) w:=by
 rcases id h.2 with ⟨h1,h2⟩ | ⟨g,cap,cur,h1,hb,hg,h2,_⟩
 ·exact absurd (List.length_eq_zero_iff.1 h2) hl
 ·subst h1
  refine run_convert_bytes_back (P:=Tryz.prog) w 148 9 5 ⟨g,0,none⟩ cap l Tryz.underlying148 Tryz.underlying5 Tryz.underlying9 (fun j hj=>?_)
  rw [Lib.add_plain,Nat.zero_add,h.cellAt j (by omega)]
  simp [Lib.byteCells,hj]
theorem decD_zero:Lib.decDigits 0=[48]:=by kernel_rfl
theorem text_c {w:World} {v:Value} {m:Nat} (h:NatAt w v m) (hm:m<=100000000) (htab:Lib.TabIs Tryz.prog w "internal/strconv.uint64pow10" .u64 Lib.pow10Tab) :
  Calls Tryz.prog 17 #[v] w fun e w'=>e=.returned (.string ⟨(Lib.decDigits m).toArray⟩)/\Below w.heap.size w w':=by
 rcases h.small hm with ⟨h0,a,c,rfl⟩ | ⟨h0,b,off,c,rfl,hb,hcell⟩
 ·have hb0:=below_new w (.cells #[.slice a 0 c] 42)
  have hz:=zero_c (h.new hb0) hm
  rw [decide_eq_true h0] at hz
  have HZ:=Lib.hid hz
  have HB:=Lib.hid hb0
  subst h0
  rw [decD_zero]
  clear h hm hz hb0 htab
  go_enter Tryz.func17,Tryz.ntmps17
  go_wp2_with fail
  refine HZ.out.mono ?_
  rintro e w1 ⟨rfl,hb1⟩
  have HB1:Hid (Below w.heap.size w w1):=HB.out.trans (hb1.mono HB.out.size)
  clear hb1 HZ HB
  go_wp2
  go_ret
  exact ⟨rfl,HB1.out⟩
 ·have hb0:=below_new w (.cells #[.slice (some ⟨b,off,none⟩) 1 c] 42)
  have hz:=zero_c (h.new hb0) hm
  rw [decide_eq_false h0] at hz
  have HZ:=Lib.hid hz
  have HB:=Lib.hid hb0
  have c0:(w.alloc (.cells #[.slice (some ⟨b,off,none⟩) 1 c] 42)).cell? ⟨w.heap.size,0,none⟩=some (.slice (some ⟨b,off,none⟩) 1 c):=by simp
  have c1:=(hb0.cell (p:=⟨b,off,none⟩) hb).trans hcell
  have hsz:(w.alloc (.cells #[.slice (some ⟨b,off,none⟩) 1 c] 42)).heap.size=w.heap.size + 1:=World.size_alloc _ _
  have hlt:b<(w.alloc (.cells #[.slice (some ⟨b,off,none⟩) 1 c] 42)).heap.size:=by omega
  have HT:Hid (∀ W,Below w.heap.size w W->Lib.TabIs Tryz.prog W "internal/strconv.uint64pow10" .u64 Lib.pow10Tab):=fun W hW=>Lib.tabBelow_of_tabIs htab W hW
  have hne:Lib.decDigits m ≠ []:=fun h=>by
   have h1:=Lib.decDigits_length m
   have h2:=Lib.nDigits_pos m
   rw [h,List.length_nil] at h1
   omega
  have HNE:=Lib.hid hne
  clear h hz hb0 htab hcell hne
  go_enter Tryz.func17,Tryz.ntmps17
  go_upto_region 1 with fail
  generalize w.alloc (.cells #[.slice (some ⟨b,off,none⟩) 1 c] 42)=W0 at *
  go_wp2_with fail
  refine HZ.out.mono ?_
  rintro e w1 ⟨rfl,hb1⟩
  have d0:w1.cell? ⟨w.heap.size,0,none⟩=some (.slice (some ⟨b,off,none⟩) 1 c):=(hb1.cell (p:=⟨w.heap.size,0,none⟩) (by show w.heap.size<_;omega)).trans c0
  have d1:w1.cell? ⟨b,off,none⟩=some (.int .u64 (m:Int)):=(hb1.cell (p:=⟨b,off,none⟩) hlt).trans c1
  have hB1:Below w.heap.size w w1:=HB.out.trans (hb1.mono HB.out.size)
  have HAP:=Lib.hid (append_c w1.heap.size m (by omega) w1 (Nat.le_refl _) (HT.out w1 hB1))
  have HB1:=Lib.hid hB1
  clear hb1 HZ HB c0 c1 HT hB1
  go_wp2_with fail
  refine HAP.out.mono ?_
  rintro e w2 ⟨v2,rfl,hrow,hb2⟩
  have hcv:=conv_owned hrow HNE.out
  have HB2:Hid (Below w.heap.size w w2):=HB1.out.trans (hb2.mono HB1.out.size)
  clear hb2 HAP HB1 d0 d1 hrow HNE
  go_wp2_with fail
  go_loopw [4,20] (fun o i wr=>o=v2/\i=.int .i64 0/\wr=w2) (fun _ _ _=>0)
  case atStart=>exact ⟨rfl,rfl,rfl⟩
  case round =>
   obtain ⟨rfl,rfl,rfl⟩:=hrel
   go_wp2
   go_ret
   exact ⟨rfl,HB2.out⟩
end Go.Proofs.YtlahnpmoeefapaaGreatDoor.Bd
namespace Go.Proofs.YtlahnpmoeefapaaGreatDoor.Bd
open Go.RowKit Go.Deep Sv
section
variable {B p s b vars:Nat} {O:Nat->Prop} {room:Int} {K:List (List Int)} {w:World}
theorem clF_all (h12:vars<=12) (hl:LitsL vars K):ClR vars K (clF K):=by
 have:=clF_ok h12 K hl K.length (Nat.le_refl _)
 rwa [List.take_length] at this
theorem clF_len (h12:vars<=12) (hl:LitsL vars K):(clF K).1.length<=90000:=by
 have:=(clF_all h12 hl).len
 have:=small_pow h12
 omega
def manyN (vars:Nat) (K:List (List Int)):Nat:=cntV vars 0 (fun f=>K.all (clS f)) (fun _=>false)
theorem manyN_le (h12:vars<=12) (K:List (List Int)):manyN vars K<=100000000:=by
 have h1:=cntV_le (fun f=>K.all (clS f)) vars 0 (fun _=>false)
 have h2:=small_pow h12
 unfold manyN
 omega
theorem sol_count (hS:SpaceAt B w s b O vars room (clF K).1) (h12:vars<=12) (hl:LitsL vars K) :
  Calls Tryz.prog 16 #[.pointer (some ⟨s,0,none⟩),.int .i64 (clF K).2] w fun e w'=>∃ a n c,e=.returned (.tuple #[.agg #[.slice a n c],.nilIface])/\NatAt w' (.agg #[.slice a n c]) (manyN vars K)/\Below w.heap.size w w':=by
 have hc:=clF_all h12 hl
 refine (count_any w hS hc.good (clF_len h12 hl) (by omega) (clF K).2 hc.has).mono ?_
 rintro e w' ⟨v,rfl,hn,hb⟩
 rw [ways_is hc.sem] at hn
 have hn0:=hn
 obtain ⟨x,rfl,-⟩:=hn0
 exact ⟨x.a,x.n,x.c,rfl,hn,hb⟩
theorem sol_holds (hS:SpaceAt B w s b O vars room (clF K).1) (h12:vars<=12) (hl:LitsL vars K) (vals:Nat) (hv:vals<18446744073709551616) :
  Calls Tryz.prog 33 #[.pointer (some ⟨s,0,none⟩),.int .i64 (clF K).2,.int .u64 (vals:Int)] w fun e w'=>e=.returned (.tuple #[.bool (allK vals K),.nilIface])/\Below w.heap.size w w':=by
 have hc:=clF_all h12 hl
 have:=holds_any hS hc.good (clF_len h12 hl) (clF K).2 hc.has vals hv
 rw [hc.sem] at this
 have e:K.all (clS (bitsF vals))=allK vals K:=by
  unfold allK
  rw [Bool.eq_iff_iff,List.all_eq_true,List.all_eq_true]
  have h24:∀ c ∈ K,Lits 24 c:=fun c hc x hx=>lit_24 (by omega) (hl c hc x hx)
  exact ⟨fun h c hc=>by rw [<- clS_bits (h24 c hc)];exact h c hc,fun h c hc=>by rw [clS_bits (h24 c hc)];exact h c hc⟩
 rw [e] at this
 exact this
end
end Go.Proofs.YtlahnpmoeefapaaGreatDoor.Bd
namespace Go.Proofs.YtlahnpmoeefapaaGreatDoor
open Go.RowKit Go.Deep Sv
def nmA:ByteArray:=⟨#[97]⟩
def nmN:ByteArray:=⟨#[]⟩
theorem one_l1:lineF ⟨#[112,97,99,107,97,103,101,32,97,32,49,46,48,46,48]⟩=.ok ⟨1,nmA,1,0,0,nmN,[]⟩:=by kernel_rfl
theorem nmA_ok:NameOk nmA:=by
 refine ⟨by decide,by decide,by decide,by rw [ByteArray.toList_eq];decide,by rw [ByteArray.toList_eq];decide,fun k hk=>?_⟩
 obtain rfl:k=0:=by have:nmA.size=1:=rfl;omega
 left
 decide
theorem one_c1:ctCheck ⟨1,nmA,1,0,0,nmN,[]⟩=0:=by
 unfold ctCheck
 rw [if_neg (by simp),if_neg (fun h=>by rcases h with h | ⟨h,_⟩;exact h nmA_ok;simp [Ln.pair] at h),if_neg (fun h=>h.2 rfl),if_neg (by simp),if_neg (by simp),if_neg (by simp [InV])]
theorem one_n1:¬ (8<namesN ([]++[(⟨nmA,1,0,0⟩:It)])\/([]:List It).length=24):=by
 have:namesN ([]++[(⟨nmA,1,0,0⟩:It)])=1:=by kernel_rfl
 rw [this];simp
end Go.Proofs.YtlahnpmoeefapaaGreatDoor
namespace Go.Proofs.YtlahnpmoeefapaaGreatDoor
open Go.RowKit Go.Deep Sv
def plnT:ByteArray:=⟨#[112,97,99,107,97,103,101,32,97,32,49,46,48,46,48,10,112,97,99,107,97,103,101,32,98,32,49,46,48,46,48,10,110,101,101,100,115,32,97,32,49,46,48,46,48,32,98,32,97,110,121,10]⟩
def nmB:ByteArray:=⟨#[98]⟩
theorem pln_lns:lnsF plnT 52 0=[(0,⟨#[112,97,99,107,97,103,101,32,97,32,49,46,48,46,48]⟩),(16,⟨#[112,97,99,107,97,103,101,32,98,32,49,46,48,46,48]⟩),(32,⟨#[110,101,101,100,115,32,97,32,49,46,48,46,48,32,98,32,97,110,121]⟩)]:=by kernel_rfl
theorem pln_l2:lineF ⟨#[112,97,99,107,97,103,101,32,98,32,49,46,48,46,48]⟩=.ok ⟨1,nmB,1,0,0,nmN,[]⟩:=by kernel_rfl
theorem pln_l3:lineF ⟨#[110,101,101,100,115,32,97,32,49,46,48,46,48,32,98,32,97,110,121]⟩=.ok ⟨2,nmA,1,0,0,nmB,[(0,1000000000)]⟩:=by kernel_rfl
def plnL:List Ln:=[⟨1,nmA,1,0,0,nmN,[]⟩,⟨1,nmB,1,0,0,nmN,[]⟩,⟨2,nmA,1,0,0,nmB,[(0,1000000000)]⟩]
def plnI:List It:=[⟨nmA,1,0,0⟩,⟨nmB,1,0,0⟩]
theorem nmB_ok:NameOk nmB:=by
 refine ⟨by decide,by decide,by decide,by rw [ByteArray.toList_eq];decide,by rw [ByteArray.toList_eq];decide,fun k hk=>?_⟩
 obtain rfl:k=0:=by have:nmB.size=1:=rfl;omega
 left
 decide
theorem pln_c2:ctCheck ⟨1,nmB,1,0,0,nmN,[]⟩=0:=by
 unfold ctCheck
 rw [if_neg (by simp),if_neg (fun h=>by rcases h with h | ⟨h,_⟩;exact h nmB_ok;simp [Ln.pair] at h),if_neg (fun h=>h.2 rfl),if_neg (by simp),if_neg (by simp),if_neg (by simp [InV])]
theorem pln_c3:ctCheck ⟨2,nmA,1,0,0,nmB,[(0,1000000000)]⟩=0:=by
 unfold ctCheck
 rw [if_neg (by simp),if_neg (fun h=>by rcases h with h | ⟨_,h⟩;exact h nmA_ok;exact h nmB_ok),if_neg (fun h=>h.1 (Or.inl rfl)),if_neg (by simp),if_neg (by simp),if_neg (by simp [InV])]
theorem pln_n2:¬ (8<namesN ([(⟨nmA,1,0,0⟩:It)]++[(⟨nmB,1,0,0⟩:It)])\/([(⟨nmA,1,0,0⟩:It)]).length=24):=by
 have:namesN ([(⟨nmA,1,0,0⟩:It)]++[(⟨nmB,1,0,0⟩:It)])=2:=by kernel_rfl
 rw [this];simp
theorem pln_gath:gathF plnL 0 []=.ok [⟨nmA,1,0,0⟩,⟨nmB,1,0,0⟩]:=by
 unfold plnL
 rw [gathF,if_neg (by rw [one_c1];simp),if_pos rfl,if_neg (by simp),if_neg (show ¬ (8<namesN ([]++[Ln.it ⟨1,nmA,1,0,0,nmN,[]⟩])\/([]:List It).length=24) from one_n1)]
 rw [gathF,if_neg (by rw [pln_c2];simp),if_pos rfl,if_neg (by decide),if_neg (show ¬ (8<namesN ([]++[Ln.it ⟨1,nmA,1,0,0,nmN,[]⟩]++[Ln.it ⟨1,nmB,1,0,0,nmN,[]⟩])\/([]++[Ln.it ⟨1,nmA,1,0,0,nmN,[]⟩]:List It).length=24) from pln_n2)]
 rw [gathF,if_neg (by rw [pln_c3];simp),if_neg (by simp),gathF]
 rfl
theorem pln_le:(!decide (ctCmp ⟨nmB,1,0,0⟩ ⟨nmA,1,0,0⟩<0))=true:=by kernel_rfl
theorem pln_sort:sortF [⟨nmA,1,0,0⟩,⟨nmB,1,0,0⟩]=plnI:=by
 unfold sortF plnI
 rw [List.mergeSort]
 simp [List.MergeSort.Internal.splitInTwo,List.splitAt,List.splitAt.go,pln_le]
theorem pln_miss:missF plnL 0 plnI=none:=by kernel_rfl
theorem pln_new:newF plnL=.ok plnI:=by
 unfold newF
 rw [if_neg (by decide),pln_gath]
 simp only [pln_sort,pln_miss]
theorem pln_pl:plF (lnsF plnT 52 0) []=.ok [(0,⟨1,nmA,1,0,0,nmN,[]⟩),(16,⟨1,nmB,1,0,0,nmN,[]⟩),(32,⟨2,nmA,1,0,0,nmB,[(0,1000000000)]⟩)]:=by
 rw [pln_lns,plF,one_l1]
 simp only [plF,pln_l2,pln_l3]
 rfl
theorem pln_parse:parseF plnT=.ok (plnL,plnI):=by
 unfold parseF
 rw [if_neg (by decide),show plnT.size=52 from rfl,pln_pl]
 have h:=pln_new
 unfold plnL at h
 simp only [List.map_cons,List.map_nil,h]
 rfl
theorem pln_has:hasF [(0,1000000000)] (plnI.getD 1 default):=by
 refine ⟨by simp [plnI,InV],?_⟩
 simp [plnI,mem,numV]
theorem pln_row:ctRow plnI nmB=(1,2):=by kernel_rfl
theorem pln_among:amongF plnI nmB [(0,1000000000)]=[1]:=by
 unfold amongF
 rw [pln_row]
 show List.filter _ [1]=[1]
 rw [List.filter_cons,if_pos (by simpa using pln_has)]
 rfl
theorem pln_numb:ctNumb plnI (Ln.it ⟨2,nmA,1,0,0,nmB,[(0,1000000000)]⟩)=0:=by kernel_rfl
theorem pln_pr:prF plnI 2=[]:=by kernel_rfl
theorem pln_of:ofL plnI plnL=[(2,[-1,2])]:=by
 unfold ofL
 rw [show plnI.length=2 from rfl,pln_pr,show plnL.length=3 from rfl]
 have h0:lineC plnI 0 (plnL.getD 0 default)=[]:=by unfold lineC;rw [if_neg (by decide),if_neg (by decide),if_neg (by decide)]
 have h1:lineC plnI 1 (plnL.getD 1 default)=[]:=by unfold lineC;rw [if_neg (by decide),if_neg (by decide),if_neg (by decide)]
 have h2:lineC plnI 2 (plnL.getD 2 default)=[(2,[-1,2])]:=by
  unfold lineC
  rw [if_neg (by decide),if_pos (by decide)]
  show [(((2:Nat):Int),notF1 (ctNumb plnI (Ln.it ⟨2,nmA,1,0,0,nmB,[(0,1000000000)]⟩)) :: (amongF plnI nmB [(0,1000000000)]).map fun (k:Nat)=>((k:Int) + 1))]=_
  rw [pln_among,pln_numb]
  rfl
 rw [lnL_succ,lnL_succ,lnL_succ,h0,h1,h2]
 rfl
end Go.Proofs.YtlahnpmoeefapaaGreatDoor
