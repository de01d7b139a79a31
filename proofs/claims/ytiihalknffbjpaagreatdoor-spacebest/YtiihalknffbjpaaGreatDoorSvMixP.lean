/- The reference: what a rule makes of two ranges, ahead of the walk. -/
import Derived.Test.YtiihalknffbjpaaGreatDoorSiIns
import Derived.Test.YtiihalknffbjpaaGreatDoorWyMem
import Derived.Shelf.LaysM
import Derived.Shelf.LaysC
import Derived.Shelf.Strings.OnBuilder
import Derived.Shelf.Strings.Split
import Derived.Shelf.Strings.Replace
import Derived.Shelf.Strings.BuilderK
import Derived.Shelf.Small.Strs
import Derived.Shelf.Strconv.Itoa3
import Derived.Shelf.Strconv.Itoa4
import Derived.Test.YtiihalknffbjpaaGreatDoorProg
import Derived.Test.YtiihalknffbjpaaGreatDoorSvCmp
import Derived.Lib.Split
import Derived.Lib.CountLaws
import Derived.Test.YtiihalknffbjpaaGreatDoorCtLineB
import Derived.Lib.IndexBytes
import Derived.Test.YtiihalknffbjpaaGreatDoorSvCuts
import Derived.Test.YtiihalknffbjpaaGreatDoorErErrs
import Derived.Laws.CopyOwn
import Derived.Deep.RegionLaw
import Derived.Laws.BitsLemmas
set_option maxHeartbeats 4000000
set_option maxRecDepth 100000
namespace Go.Proofs.YtiihalknffbjpaaGreatDoor.Bd
open Go.RowKit Go.Deep
theorem csum_le {C:Cost} (hC:CostOk C):∀ (k v:Nat) (f:Nat->Bool),0<=csum C k v f/\csum C k v f<=1000000 * (k:Int)
 | 0,_,_=>⟨Int.le_refl _,by show (0:Int)<=_;omega⟩
 | k + 1,v,f=>by
  have h1:=csum_le hC k (v + 1) f
  have h2:=hC v (f v)
  show 0<=C v (f v) + csum C k (v + 1) f/\C v (f v) + csum C k (v + 1) f<=_
  omega
theorem rcheapest_any (C:Cost) (hC:CostOk C) (vars:Nat) (hv:vars<=8) (L:List Nat) (hlen:L.length<=1000) (hL:∀ x ∈ L,x<18446744073709551616) (la:Option Addr) (lc:Nat) (F:FuncId) (cb:Array Value) (hent:∀ args w,(callFunc F args).run Tryz.prog w=.ok (.enter F args) w) (w:World) (hU:UIn w la L) (hCA:CostAt w F cb C vars) :
  Calls Tryz.prog 25 #[.slice la L.length lc,.int .i64 (vars:Int),.func (.func F) #[] cb] w fun e w'=>e=.returned (.tuple #[.int .u64 ((chF C vars L).2.2:Nat),.bool (chF C vars L).2.1])/\Below w.heap.size w w':=by
 have HU:=Lib.hid hU
 have HL:=Lib.hid hL
 have HC:Hid (CostOk C):=hC
 have HCA:Hid (∀ W (i:Nat) (b:Bool),Below w.heap.size w W->i<vars->Calls Tryz.prog F (#[.int .i64 (i:Int),.bool b]++cb) W fun e w'=>e=.returned (.int .i64 (C i b))/\Below W.heap.size W w'):=hCA
 clear hU hL hC hCA
 go_enter Tryz.func25,Tryz.ntmps25
 go_wp2_with fail
 go_loopw [8,9,10,17] (fun bV sV aV iV wr=>∃ (i:Nat),i<=L.length/\iV=.int .i64 (i:Int)/\bV=.int .i64 (chF C vars (L.take i)).1/\sV=.bool (chF C vars (L.take i)).2.1/\aV=.int .u64 ((chF C vars (L.take i)).2.2:Nat)/\Below w.heap.size w wr) (fun _ _ _ iV _=>L.length - (intOf iV).toNat)
 case atStart=>exact ⟨0,Nat.zero_le _,rfl,rfl,rfl,rfl,Below.refl _ _⟩
 case round =>
  obtain ⟨i,hi,rfl,rfl,rfl,rfl,hbw⟩:=hrel
  by_cases hlt:i<L.length
  ·have hii0:(0:Int)<=(i:Int):=by omega
   have hii1:(i:Int)<(L.length:Int):=by omega
   obtain ⟨ad,rfl,had,hcell⟩:=HU.out.below hbw i hlt
   have hx:=HL.out _ (getD_mem (d:=0) hlt)
   have HTK:Hid (chF C vars (L.take (i + 1))=chS C vars (chF C vars (L.take i)) (L.getD i 0)):=by
    show _=_
    rw [<- chF_snoc,List.take_add_one,List.getD_eq_getElem?_getD,List.getElem?_eq_getElem hlt];rfl
   generalize L.getD i 0=x at *
   obtain ⟨ab,ao,asp⟩:=ad
   have HBW:=Lib.hid hbw
   clear hbw
   generalize hst:chF C vars (L.take i)=st at *
   clear hst
   obtain ⟨sb,ss,sx⟩:=st
   dsimp only at *
   go_wp2_with fail
   go_loopw [13,22] (fun nV kV wx=>∃ (k:Nat),k<=vars/\kV=.int .i64 (k:Int)/\nV=.int .i64 (csum C k 0 (bitsF x))/\Below w.heap.size w wx) (fun _ kV _=>vars - (intOf kV).toNat)
   case atStart=>exact ⟨0,Nat.zero_le _,rfl,rfl,HBW.out⟩
   case round =>
    obtain ⟨k,hk,rfl,rfl,hbx⟩:=hrel
    have HBX:=Lib.hid hbx
    clear hbx
    have hc1:=csum_le HC.out k 0 (bitsF x)
    by_cases hlt2:k<vars
    ·have hkk:(k:Int)<(vars:Int):=by omega
     have hk0:(0:Int)<=(k:Int):=by omega
     have hs:=shr_bit1 x k hx
     have HCL:=Lib.hid (HCA.out _ k (x.testBit k) HBX.out hlt2)
     have hsn:csum C (k + 1) 0 (bitsF x)=csum C k 0 (bitsF x) + C k (x.testBit k):=by rw [csum_snoc,Nat.zero_add];rfl
     have HSN:=Lib.hid hsn
     have hc2:=HC.out k (x.testBit k)
     have hwr:IntKind.i64.wrap (csum C k 0 (bitsF x) + C k (x.testBit k))=csum C k 0 (bitsF x) + C k (x.testBit k):=by rw [IntKind.wrap_i64];omega
     clear hsn hcell
     generalize csum C k 0 (bitsF x)=n0 at *
     generalize C k (x.testBit k)=n1 at *
     generalize x.testBit k=tb at *
     go_wp2_with fail
     refine HCL.out.mono ?_
     rintro e w2 ⟨rfl,hb2⟩
     have HB2:=Lib.hid (HBX.out.trans (hb2.mono HBX.out.size))
     clear hb2 HBX HCL
     go_wp2
     go_roundw
     case rel=>exact ⟨k + 1,hlt2,by go_num,by rw [HSN.out],HB2.out⟩
     case measure=>simp [intOf];omega
    ·obtain rfl:k=vars:=by omega
     unfold chS at HTK
     dsimp only at HTK
     generalize csum C k 0 (bitsF x)=n0 at *
     clear hcell HCA
     cases ss with
     | false =>
      rw [if_pos (Or.inl rfl)] at HTK
      go_wp2
      go_roundw
      case rel=>exact ⟨i + 1,hlt,by go_num,by rw [HTK.out],by rw [HTK.out],by rw [HTK.out],HBX.out⟩
      case measure=>simp [intOf];omega
     | true =>
      by_cases hn:n0<sb
      ·rw [if_pos (Or.inr hn)] at HTK
       go_wp2
       go_roundw
       case rel=>exact ⟨i + 1,hlt,by go_num,by rw [HTK.out],by rw [HTK.out],by rw [HTK.out],HBX.out⟩
       case measure=>simp [intOf];omega
      ·rw [if_neg (fun h=>h.elim (fun h=>by cases h) hn)] at HTK
       go_wp2
       go_roundw
       case rel=>exact ⟨i + 1,hlt,by go_num,by rw [HTK.out],by rw [HTK.out],by rw [HTK.out],HBX.out⟩
       case measure=>simp [intOf];omega
  ·obtain rfl:i=L.length:=by omega
   rw [List.take_length]
   have HBW:=Lib.hid hbw
   clear hbw HU HL HCA
   go_wp2
   go_ret2
   exact ⟨rfl,HBW.out⟩
end Go.Proofs.YtiihalknffbjpaaGreatDoor.Bd
namespace Go.Proofs
open Go.Shelf
def Tryz.lays137_ren:Go.Shelf.Ren:=⟨fun | 137=>204 | 217=>269 | 266=>310 | n=>n,fun | 9=>9 | 5=>5 | 3=>3 | n=>n,fun | n=>n⟩
theorem Tryz.lays137:Go.Proofs.Lays.n137 Tryz.prog Tryz.lays137_ren:={
 mixed:=by kernel_rfl
 f137:=Tryz.func204.trans (congrArg some (by kernel_rfl))
 f217:=Tryz.func269.trans (congrArg some (by kernel_rfl))
 f266:=Tryz.func310.trans (congrArg some (by kernel_rfl))
 t3:=Tryz.underlying3
 a3:=Tryz.isAgg3
 z3:=Tryz.sizeOf3
 v3:=Tryz.zeroValue3
 t5:=Tryz.underlying5
 a5:=Tryz.isAgg5
 z5:=Tryz.sizeOf5
 v5:=Tryz.zeroValue5
 t9:=Tryz.underlying9
 a9:=Tryz.isAgg9
 z9:=Tryz.sizeOf9
 v9:=Tryz.zeroValue9 }
open Go.RowKit in
theorem Tryz.strings_IndexByte (s:ByteArray) (c:Int) (w:World) :
  Calls Tryz.prog 204 #[.string s,.int .u8 c] w fun e w'=>e=.returned (.int .i64 (Lib.indexByte s.data.toList c.toNat.toUInt8))/\w'=w:=Any.strings_IndexByte Tryz.lays137 s c w
def Tryz.lays146_ren:Go.Shelf.Ren:=⟨fun | 146=>113 | 221=>187 | 268=>249 | 138=>207 | 143=>250 | 195=>273 | 197=>257 | 218=>274 | 219=>272 | 260=>302 | 217=>269 | 225=>313 | 224=>314 | 267=>315 | 266=>310 | 314=>349 | n=>n,fun | 9=>9 | 31=>167 | 3=>3 | 4=>4 | 0=>0 | 105=>387 | 21=>21 | 5=>5 | 46=>48 | 119=>444 | 139=>447 | 138=>446 | 146=>461 | 51=>417 | n=>n,fun | 1=>5 | 3=>6 | 4=>7 | n=>n⟩
theorem Tryz.lays146:Go.Proofs.Lays.n146 Tryz.prog Tryz.lays146_ren:={
 mixed:=by kernel_rfl
 f138:=Tryz.func207.trans (congrArg some (by kernel_rfl))
 f143:=Tryz.func250.trans (congrArg some (by kernel_rfl))
 f146:=Tryz.func113.trans (congrArg some (by kernel_rfl))
 f195:=Tryz.func273.trans (congrArg some (by kernel_rfl))
 f197:=Tryz.func257.trans (congrArg some (by kernel_rfl))
 f217:=Tryz.func269.trans (congrArg some (by kernel_rfl))
 f218:=Tryz.func274.trans (congrArg some (by kernel_rfl))
 f219:=Tryz.func272.trans (congrArg some (by kernel_rfl))
 f221:=Tryz.func187.trans (congrArg some (by kernel_rfl))
 f224:=Tryz.func314.trans (congrArg some (by kernel_rfl))
 f225:=Tryz.func313.trans (congrArg some (by kernel_rfl))
 f260:=Tryz.func302.trans (congrArg some (by kernel_rfl))
 f266:=Tryz.func310.trans (congrArg some (by kernel_rfl))
 f267:=Tryz.func315.trans (congrArg some (by kernel_rfl))
 f268:=Tryz.func249.trans (congrArg some (by kernel_rfl))
 f314:=Tryz.func349.trans (congrArg some (by kernel_rfl))
 t0:=Tryz.underlying0
 a0:=Tryz.isAgg0
 z0:=Tryz.sizeOf0
 v0:=Tryz.zeroValue0
 t3:=Tryz.underlying3
 a3:=Tryz.isAgg3
 z3:=Tryz.sizeOf3
 v3:=Tryz.zeroValue3
 t4:=Tryz.underlying4
 a4:=Tryz.isAgg4
 z4:=Tryz.sizeOf4
 v4:=Tryz.zeroValue4
 t5:=Tryz.underlying5
 a5:=Tryz.isAgg5
 z5:=Tryz.sizeOf5
 v5:=Tryz.zeroValue5
 t9:=Tryz.underlying9
 a9:=Tryz.isAgg9
 z9:=Tryz.sizeOf9
 v9:=Tryz.zeroValue9
 t21:=Tryz.underlying21
 a21:=Tryz.isAgg21
 z21:=Tryz.sizeOf21
 v21:=Tryz.zeroValue21
 t31:=Tryz.underlying167
 a31:=Tryz.isAgg167
 z31:=Tryz.sizeOf167
 v31:=Tryz.zeroValue167
 t46:=Tryz.underlying48
 a46:=Tryz.isAgg48
 z46:=Tryz.sizeOf48
 v46:=Tryz.zeroValue48
 t51:=Tryz.underlying417
 a51:=Tryz.isAgg417
 z51:=Tryz.sizeOf417
 v51:=Tryz.zeroValue417
 t105:=Tryz.underlying387
 a105:=Tryz.isAgg387
 z105:=Tryz.sizeOf387
 v105:=Tryz.zeroValue387
 t119:=Tryz.underlying444
 a119:=Tryz.isAgg444
 z119:=Tryz.sizeOf444
 t138:=Tryz.underlying446
 a138:=Tryz.isAgg446
 z138:=Tryz.sizeOf446
 v138:=Tryz.zeroValue446
 t139:=Tryz.underlying447
 a139:=Tryz.isAgg447
 z139:=Tryz.sizeOf447
 v139:=Tryz.zeroValue447
 t146:=Tryz.underlying461
 a146:=Tryz.isAgg461
 z146:=Tryz.sizeOf461
 v146:=Tryz.zeroValue461
 g1:=by kernel_rfl
 g3:=by kernel_rfl
 g4:=by kernel_rfl }
open Go.RowKit Go.Lib in
theorem Tryz.strings_Split (s sep:ByteArray) (m:Int) (w:World) (hs:s.size<4294967281) (hm:w.cell? ⟨5,0,none⟩=some (.int .i64 m)) (h1:1<=sep.size) :
  Calls Tryz.prog 113 #[.string s,.string sep] w fun e w' =>
   e=.returned (.slice (some ⟨w.heap.size,0,none⟩) (Lib.countB s sep + 1) (Lib.countB s sep + 1))/\w'=w.alloc (.cells ((Lib.splitB sep 0 (Lib.countB s sep) s).map Value.string).toArray 9):=Any.strings_Split Tryz.lays146 (by kernel_rfl) s sep m w hs hm h1
end Go.Proofs
namespace Go.Proofs.YtiihalknffbjpaaGreatDoor
open Go.RowKit Go.Shelf Sv
def ptx (n:Nat):List UInt8:=Lib.itoa (n:Int)
structure PartOk (n:Nat):Prop where
 tells:partF (ptx n)=.ok n
 digit:∀ x ∈ ptx n,48<=x/\x<=57
 some:ptx n ≠ []
 short:(ptx n).length<=3
theorem PartOk.not {n:Nat} (h:PartOk n) {c:UInt8} (hc:c<48\/57<c):c ∉ ptx n:=fun e=>by
 have:=h.digit c e
 rcases hc with hc | hc
 ·exact absurd hc (UInt8.not_lt.2 this.1)
 ·exact absurd hc (UInt8.not_lt.2 this.2)
theorem bytes_of {s:ByteArray} {l:List UInt8} (h:s.data.toList=l):s=⟨l.toArray⟩:=by
 obtain ⟨d⟩:=s
 subst h
 simp
theorem ext_list (l:List UInt8) (i j:Nat):((⟨l.toArray⟩:ByteArray).extract i j).data.toList=(l.take j).drop i:=by
 rw [ByteArray.data_extract];simp [List.take_drop]
 rcases Nat.le_total i j with h | h
 ·rw [Nat.add_sub_cancel' h]
 ·rw [List.drop_of_length_le (by simp;omega),List.drop_of_length_le (by simp;omega)]
end Go.Proofs.YtiihalknffbjpaaGreatDoor
namespace Go.Proofs.YtiihalknffbjpaaGreatDoor
open Go.RowKit Go.Shelf Sv
theorem ba_ext {s t:ByteArray} (h:s.data.toList=t.data.toList):s=t:=by
 rw [bytes_of h,<- bytes_of (s:=t) rfl]
theorem ext_list' (s:ByteArray) (i j:Nat):(s.extract i j).data.toList=(s.data.toList.take j).drop i:=by
 conv=>lhs;rw [bytes_of (s:=s) rfl]
 exact ext_list _ _ _
theorem sub_head (s:ByteArray) (k j:Nat) (h:k + j<=s.size):(s.extract k s.size).extract 0 j=s.extract k (k + j):=by
 apply ba_ext
 rw [ext_list',ext_list',ext_list',List.drop_zero,List.take_drop,List.take_take]
 congr 2
 omega
theorem sub_tail (s:ByteArray) (k i:Nat):(s.extract k s.size).extract i (s.extract k s.size).size=s.extract (k + i) s.size:=by
 apply ba_ext
 rw [Lib.extract_to_end,Lib.extract_to_end,Lib.extract_to_end,List.drop_drop]
theorem split_cut (s m:ByteArray) (hm:1<=m.size):∀ (f k:Nat),s.size<=k + f->k<=s.size->Lib.splitB m 0 (Lib.countB (s.extract k s.size) m) (s.extract k s.size)=(cutB s m f k).map (·.2):=by
 intro f
 induction f with
 | zero =>
  intro k h1 h2
  have hz:(s.extract k s.size).size=0:=by simp;omega
  have hx:Lib.indexB (s.extract k s.size) m=-1:=by
   show Lib.index (s.extract k s.size).data.toList m.data.toList=-1
   have h0:(s.extract k s.size).data.toList=[]:=by rw [Lib.extract_to_end];exact List.drop_eq_nil_of_le (by simp;omega)
   have hne:m.data.toList ≠ []:=fun e=>by
    have:m.data.toList.length=m.size:=by simp
    rw [e] at this;simp at this;omega
   rw [h0]
   cases hm':m.data.toList with
   | nil=>exact absurd hm' hne
   | cons a r=>simp [Lib.index]
  rw [Lib.splitB_miss _ _ _ _ hx];rfl
 | succ f ih =>
  intro k h1 h2
  have hge:=Lib.index_ge (s.extract k s.size).data.toList m.data.toList
  by_cases hneg:Lib.index (s.extract k s.size).data.toList m.data.toList<0
  ·have hx:Lib.indexB (s.extract k s.size) m=-1:=by
    show Lib.index (s.extract k s.size).data.toList m.data.toList=-1
    omega
   rw [Lib.splitB_miss _ _ _ _ hx,cutB_end hneg];rfl
  ·obtain ⟨j,hj⟩:=Int.eq_ofNat_of_zero_le (Int.not_lt.1 hneg)
   have hx:Lib.indexB (s.extract k s.size) m=(j:Int):=hj
   have hr:=index_room (s.extract k s.size).data.toList m.data.toList (by rw [hj];omega)
   rw [hj] at hr
   have hl:(s.extract k s.size).data.toList.length=s.size - k:=by rw [Lib.extract_to_end];simp
   have hml:m.data.toList.length=m.size:=by simp
   rw [hl,hml,Int.toNat_natCast] at hr
   rw [Lib.countB_hit _ _ j hm hx,Nat.add_comm 1,Lib.splitB_hit _ _ _ _ j hx,cutB_step hj,List.map_cons,Nat.add_zero,sub_tail,<- Nat.add_assoc,sub_head s k j (by omega),ih _ (by omega) (by omega)]
end Go.Proofs.YtiihalknffbjpaaGreatDoor
namespace Go.Proofs.YtiihalknffbjpaaGreatDoor
open Go.RowKit Go.Shelf Sv
theorem ext_end (s:ByteArray) (k:Nat):(s.extract k s.size).data.toList=s.data.toList.drop k:=by
 rw [ext_list',List.take_of_length_le (by rw [Array.length_toList];exact Nat.le_refl _)]
end Go.Proofs.YtiihalknffbjpaaGreatDoor
namespace Go.Proofs.YtiihalknffbjpaaGreatDoor
open Go.RowKit Go.Shelf Sv
theorem cutF_none {s:ByteArray} {c:UInt8} (h:Lib.index s.data.toList [c]<0):cutF s c=(s,⟨#[]⟩):=by
 unfold cutF Lib.cut
 rw [if_neg (by omega)]
theorem cutF_at {s:ByteArray} {c:UInt8} {j:Nat} (h:Lib.index s.data.toList [c]=(j:Int)):cutF s c=(s.extract 0 j,s.extract (j + 1) s.size):=by
 unfold cutF Lib.cut
 rw [if_pos (by omega),h]
 simp only [Int.toNat_natCast,List.length_singleton]
 refine Prod.ext ?_ ?_
 ·exact (bytes_of (by rw [ext_list'];simp)).symm
 ·exact (bytes_of (by rw [ext_end])).symm
theorem rnext_any (s:ByteArray) (w:World) (hs:s.size<=100000):Calls Tryz.prog 130 #[.string s] w fun e w'=>e=.returned (.tuple #[.string (cutF s 32).1,.string (cutF s 32).2])/\Below w.heap.size w w':=by
 have HI:Hid (Calls Tryz.prog 204 #[.string s,.int .u8 32] w fun e w'=>e=.returned (.int .i64 (Lib.index s.data.toList [32]))/\w'=w):=by
  have:=Tryz.strings_IndexByte s 32 w
  rw [show (32:Int).toNat.toUInt8=32 from rfl,<- Lib.index_one] at this
  exact this
 by_cases h:Lib.index s.data.toList [32]<0
 ·rw [cutF_none h]
  generalize Lib.index s.data.toList [32]=K at *
  go_enter Tryz.func130,Tryz.ntmps130
  go_wp2_with fail
  refine HI.out.mono ?_
  rintro e w1 ⟨rfl,hw1⟩
  rw [hw1]
  clear hw1 HI
  go_wp2
  refine bodyPost_ret (v:=.tuple #[.string s,.string ⟨#[]⟩]) (by simp [results,Tryz.results130,go_sem]) rfl ?_
  exact ⟨rfl,Below.refl _ _⟩
 ·obtain ⟨j,hj⟩:∃ j:Nat,Lib.index s.data.toList [32]=(j:Int):=⟨(Lib.index s.data.toList [32]).toNat,by omega⟩
  have hroom:=index_room s.data.toList [32] (by omega)
  rw [hj] at hroom HI
  have hln:s.data.toList.length=s.size:=by simp
  rw [hln] at hroom
  simp only [Int.toNat_natCast,List.length_singleton] at hroom
  rw [cutF_at hj]
  obtain ⟨J1,hJ1⟩:∃ J1,j + 1=J1:=⟨_,rfl⟩
  rw [hJ1] at hroom ⊢
  have hwr:IntKind.i64.wrap ((j:Int) + 1)=(J1:Int):=by rw [IntKind.wrap_i64];omega
  have hj0:¬ (j:Int)<0:=by omega
  have i2:(j:Int)<=(s.size:Int):=by omega
  have i3:(J1:Int)<=(s.size:Int):=by omega
  have hsl:=fun W'=>run_slice_string_h (P:=Tryz.prog) W' 9 s Tryz.underlying9 .i64 (j:Int) (by omega) i2
  have hsl2:=fun W'=>run_slice_string_l (P:=Tryz.prog) W' 9 s Tryz.underlying9 .i64 (J1:Int) (by omega) i3
  simp only [Int.toNat_natCast] at hsl hsl2
  clear h hj hln hJ1
  go_enter Tryz.func130,Tryz.ntmps130
  go_wp2_with fail
  refine HI.out.mono ?_
  rintro e w1 ⟨rfl,hw1⟩
  rw [hw1]
  clear hw1 HI
  go_wp2_with fail
  go_big_region
  have HB:Hid (Below w.heap.size w w.drew):=(Below.refl _ _).drew
  go_wp2
  refine bodyPost_ret (v:=.tuple #[.string (s.extract 0 j),.string (s.extract J1 s.size)]) (by simp [results,Tryz.results130,go_sem]) rfl ?_
  exact ⟨rfl,HB.out⟩
end Go.Proofs.YtiihalknffbjpaaGreatDoor
namespace Go.Proofs.YtiihalknffbjpaaGreatDoor.Sv
def inP:List Nat->Nat->Bool
 | [],_=>false
 | a :: r,n=>if a<=n then !inP r n else false
def Up:List Nat->Prop
 | []=>True
 | a :: r=>(∀ x ∈ r,a<x)/\Up r
def tp:List Span->List Nat
 | []=>[]
 | s :: r=>s.1 :: s.2 :: tp r
theorem inP_low {l:List Nat} {n:Nat} (h:∀ x ∈ l,n<x):inP l n=false:=by
 cases l with
 | nil=>rfl
 | cons a r=>rw [inP,if_neg (by have:=h a List.mem_cons_self;omega)]
theorem up_ext {l m:List Nat}:Up l->Up m->(∀ n,inP l n=inP m n)->l=m:=by
 induction l generalizing m with
 | nil =>
  intro _ hm h
  cases m with
  | nil=>rfl
  | cons b q =>
   have:=h b
   rw [inP,inP,if_pos (Nat.le_refl _),inP_low (fun x hx=>hm.1 x hx)] at this
   cases this
 | cons a r ih =>
  intro hl hm h
  cases m with
  | nil =>
   have:=h a
   rw [inP,inP,if_pos (Nat.le_refl _),inP_low (fun x hx=>hl.1 x hx)] at this
   cases this
  | cons b q =>
   have hab:a=b:=by
    rcases Nat.lt_trichotomy a b with hlt | heq | hlt
    ·have:=h a
     rw [inP,inP,if_pos (Nat.le_refl _),if_neg (by omega),inP_low (fun x hx=>hl.1 x hx)] at this
     cases this
    ·exact heq
    ·have:=h b
     rw [inP,inP,if_neg (by omega),if_pos (Nat.le_refl _),inP_low (fun x hx=>hm.1 x hx)] at this
     cases this
   subst hab
   rw [ih hl.2 hm.2 fun n=>?_]
   by_cases hn:a<=n
   ·have:=h n
    rw [inP,inP,if_pos hn,if_pos hn] at this
    cases hx:inP r n <;> cases hy:inP q n <;> simp_all
   ·rw [inP_low (fun x hx=>by have:=hl.1 x hx;omega),inP_low (fun x hx=>by have:=hm.1 x hx;omega)]
theorem tp_ge:∀ {l:List Span} {lo:Nat},Canon lo l->∀ x ∈ tp l,lo<=x:=by
 intro l
 induction l with
 | nil=>intro lo _ x hx;cases hx
 | cons s r ih =>
  intro lo h x hx
  obtain ⟨h1,h2,h3,h4⟩:=h
  rw [tp] at hx
  rcases List.mem_cons.1 hx with rfl | hx
  ·exact h1
  ·rcases List.mem_cons.1 hx with rfl | hx
   ·omega
   ·have:=ih h4 x hx;omega
theorem tp_up:∀ {l:List Span} {lo:Nat},Canon lo l->Up (tp l):=by
 intro l
 induction l with
 | nil=>intro lo _;trivial
 | cons s r ih =>
  intro lo h
  obtain ⟨h1,h2,h3,h4⟩:=h
  refine ⟨fun x hx=>?_,fun x hx=>?_,ih h4⟩
  ·rcases List.mem_cons.1 hx with rfl | hx
   ·exact h2
   ·have:=tp_ge h4 x hx;omega
  ·have:=tp_ge h4 x hx;omega
theorem tp_in:∀ {l:List Span} {lo n:Nat},Canon lo l->(inP (tp l) n=true ↔ mem l n):=by
 intro l
 induction l with
 | nil=>intro lo n _;simp [tp,inP,mem_nil]
 | cons s r ih =>
  intro lo n h
  obtain ⟨h1,h2,h3,h4⟩:=h
  have hr:=ih (n:=n) h4
  have hg:mem r n->s.2 + 1<=n:=h4.ge
  rw [tp,inP,inP,mem_cons]
  by_cases a:s.1<=n
  ·rw [if_pos a]
   by_cases b:s.2<=n
   ·rw [if_pos b];simp only [Bool.not_not,hr]
    constructor
    ·exact Or.inr
    ·rintro (⟨_,h⟩ | h)
     ·omega
     ·exact h
   ·rw [if_neg b];simp only [Bool.not_false,true_iff];left;omega
  ·rw [if_neg a];simp only [Bool.false_eq_true,false_iff]
   rintro (⟨h,_⟩ | h)
   ·omega
   ·have:=hg h;omega
theorem tp_len (l:List Span):(tp l).length=l.length * 2:=by
 induction l with
 | nil=>rfl
 | cons s r ih=>rw [tp,List.length_cons,List.length_cons,ih,List.length_cons];omega
theorem tp_row {a b:Nat}:tp (rowF a b)=if a<b then [a,b] else []:=by
 unfold rowF;split <;> rfl
def Srt:List Nat->Prop
 | []=>True
 | a :: r=>(∀ x ∈ r,a<=x)/\Srt r
theorem srt_app {l r:List Nat}:Srt (l++r) ↔ Srt l/\Srt r/\∀ x ∈ l,∀ y ∈ r,x<=y:=by
 induction l with
 | nil=>simp [Srt]
 | cons a l ih =>
  rw [List.cons_append,Srt,Srt,ih]
  constructor
  ·rintro ⟨h1,h2,h3,h4⟩
   refine ⟨⟨fun x hx=>h1 x (List.mem_append_left _ hx),h2⟩,h3,fun x hx y hy=>?_⟩
   rcases List.mem_cons.1 hx with rfl | hx
   ·exact h1 y (List.mem_append_right _ hy)
   ·exact h4 x hx y hy
  ·rintro ⟨⟨h1,h2⟩,h3,h4⟩
   refine ⟨fun x hx=>?_,h2,h3,fun x hx y hy=>h4 x (List.mem_cons_of_mem _ hx) y hy⟩
   rcases List.mem_append.1 hx with hx | hx
   ·exact h1 x hx
   ·exact h4 a List.mem_cons_self x hx
def posF (l:List Nat) (n:Nat):Nat->Nat
 | 0=>0
 | k + 1=>if n<l.getD k 0 then posF l n k else k + 1
theorem pos_le (l:List Nat) (n k:Nat):posF l n k<=k:=by
 induction k with
 | zero=>exact Nat.le_refl _
 | succ k ih=>unfold posF;split <;> omega
def insP (l:List Nat) (n:Nat):List Nat:=l.take (posF l n l.length)++n :: l.drop (posF l n l.length)
theorem pos_hi (l:List Nat) (n:Nat):∀ k j,posF l n k<=j->j<k->n<l.getD j 0:=by
 intro k
 induction k with
 | zero=>intro j _ h;omega
 | succ k ih =>
  intro j h1 h2
  unfold posF at h1
  split at h1
  ·rename_i hlt
   by_cases hj:j<k
   ·exact ih j h1 hj
   ·obtain rfl:j=k:=by omega
    exact hlt
  ·omega
theorem pos_lo (l:List Nat) (n:Nat):∀ k,0<posF l n k->l.getD (posF l n k - 1) 0<=n:=by
 intro k
 induction k with
 | zero=>intro h;exact absurd h (by simp [posF])
 | succ k ih =>
  unfold posF
  split
  ·exact ih
  ·rename_i h;intro _;simpa using h
theorem ins_mem {l:List Nat} {n x:Nat}:x ∈ insP l n ↔ x=n\/x ∈ l:=by
 unfold insP
 rw [List.mem_append,List.mem_cons]
 have:x ∈ l ↔ x ∈ l.take (posF l n l.length)\/x ∈ l.drop (posF l n l.length):=by
  rw [<- List.mem_append,List.take_append_drop]
 rw [this]
 constructor
 ·rintro (h | h | h) <;> simp [h]
 ·rintro (h | h | h) <;> simp [h]
theorem ins_srt {l:List Nat} {n:Nat} (h:Srt l):Srt (insP l n):=by
 unfold insP
 have hsplit:=h
 rw [<- List.take_append_drop (posF l n l.length) l,srt_app] at hsplit
 obtain ⟨h1,h2,h3⟩:=hsplit
 have hp:=pos_le l n l.length
 rw [srt_app]
 refine ⟨h1,⟨fun x hx=>?_,h2⟩,fun x hx y hy=>?_⟩
 ·obtain ⟨i,hi,rfl⟩:=List.getElem_of_mem hx
  rw [List.length_drop] at hi
  have:=pos_hi l n l.length (posF l n l.length + i) (by omega) (by omega)
  rw [List.getD_eq_getElem?_getD,List.getElem?_eq_getElem (by omega)] at this
  rw [List.getElem_drop]
  simp at this
  omega
 ·rcases List.mem_cons.1 hy with rfl | hy
  ·by_cases hz:0<posF l y l.length
   ·have hlo:=pos_lo l y l.length hz
    -- the last one of the first part is not greater,and all of them are not greater than it
    have hlast:l.getD (posF l y l.length - 1) 0 ∈ l.take (posF l y l.length):=by
     rw [List.getD_eq_getElem?_getD,List.getElem?_eq_getElem (by omega)]
     simp only [Option.getD_some]
     exact List.mem_iff_getElem.2 ⟨posF l y l.length - 1,by rw [List.length_take];omega,by rw [List.getElem_take]⟩
    obtain ⟨i,hi,rfl⟩:=List.getElem_of_mem hx
    rw [List.length_take] at hi
    rw [List.getElem_take]
    have hsr:∀ (a b:Nat) (hb:b<l.length),(hab:a<=b)->l[a]'(by omega)<=l[b]:=by
     intro a b hb hab
     rcases Nat.lt_or_eq_of_le hab with hlt | rfl
     ·have hs2:=h
      rw [<- List.take_append_drop (a + 1) l,srt_app] at hs2
      refine hs2.2.2 _ ?_ _ ?_
      ·exact List.mem_iff_getElem.2 ⟨a,by rw [List.length_take];omega,by rw [List.getElem_take]⟩
      ·exact List.mem_iff_getElem.2 ⟨b - (a + 1),by rw [List.length_drop];omega,by rw [List.getElem_drop];congr 1;omega⟩
     ·exact Nat.le_refl _
    have:=hsr i (posF l y l.length - 1) (by omega) (by omega)
    rw [List.getD_eq_getElem?_getD,List.getElem?_eq_getElem (by omega)] at hlo
    simp only [Option.getD_some] at hlo
    omega
   ·rw [show posF l y l.length=0 by omega] at hx;simp at hx
  ·exact h3 x hx y hy
def allP (acc:List Nat) (l:List Nat):List Nat:=l.foldl insP acc
theorem allP_srt:∀ {l acc:List Nat},Srt acc->Srt (allP acc l):=by
 intro l
 induction l with
 | nil=>intro acc h;exact h
 | cons a r ih=>intro acc h;exact ih (acc:=insP acc a) (ins_srt h)
theorem allP_mem:∀ {l acc:List Nat} {x:Nat},x ∈ allP acc l ↔ x ∈ acc\/x ∈ l:=by
 intro l
 induction l with
 | nil=>intro acc x;simp [allP]
 | cons a r ih =>
  intro acc x
  show x ∈ allP (insP acc a) r ↔ _
  rw [ih,ins_mem,List.mem_cons]
  constructor
  ·rintro ((h | h) | h) <;> simp [h]
  ·rintro (h | h | h) <;> simp [h]
def turnsF (f:Nat->Bool):Bool->List Nat->List Nat
 | _,[]=>[]
 | is,n :: r=>if f n=is then turnsF f is r else n :: turnsF f (f n) r
def lastF (f:Nat->Bool):Bool->List Nat->Nat->Bool
 | is,[],_=>is
 | is,n :: r,x=>if n<=x then lastF f (f n) r x else is
theorem turns_mem {f:Nat->Bool}:∀ {l:List Nat} {is:Bool},∀ x ∈ turnsF f is l,x ∈ l:=by
 intro l
 induction l with
 | nil=>intro is x hx;cases hx
 | cons n r ih =>
  intro is x hx
  unfold turnsF at hx
  split at hx
  ·exact List.mem_cons_of_mem _ (ih x hx)
  ·rcases List.mem_cons.1 hx with rfl | hx
   ·exact List.mem_cons_self
   ·exact List.mem_cons_of_mem _ (ih x hx)
theorem turns_gt {f:Nat->Bool} {n:Nat}:∀ {l:List Nat},Srt l->(∀ x ∈ l,n<=x)->∀ x ∈ turnsF f (f n) l,n<x:=by
 intro l
 induction l with
 | nil=>intro _ _ x hx;cases hx
 | cons m r ih =>
  intro hs hl x hx
  have hm:=hl m List.mem_cons_self
  unfold turnsF at hx
  split at hx
  ·exact ih hs.2 (fun y hy=>hl y (List.mem_cons_of_mem _ hy)) x hx
  ·rename_i hne
   have hlt:n<m:=by
    rcases Nat.lt_or_eq_of_le hm with h | rfl
    ·exact h
    ·exact absurd rfl hne
   rcases List.mem_cons.1 hx with rfl | hx
   ·exact hlt
   ·have:=hs.1 x (turns_mem x hx);omega
theorem turns_up {f:Nat->Bool}:∀ {l:List Nat} {is:Bool},Srt l->Up (turnsF f is l):=by
 intro l
 induction l with
 | nil=>intro is _;trivial
 | cons n r ih =>
  intro is hs
  unfold turnsF
  split
  ·exact ih hs.2
  ·exact ⟨turns_gt hs.2 hs.1,ih hs.2⟩
theorem turns_in {f:Nat->Bool} {x:Nat}:∀ {l:List Nat} {is:Bool},Srt l->(inP (turnsF f is l) x ^^ is)=lastF f is l x:=by
 intro l
 induction l with
 | nil=>intro is _;simp [turnsF,inP,lastF]
 | cons n r ih =>
  intro is hs
  have h1:=ih (is:=f n) hs.2
  unfold turnsF lastF
  by_cases hn:n<=x
  ·rw [if_pos hn]
   split
   ·rename_i e;rw [<- e];exact h1
   ·rename_i e
    rw [inP,if_pos hn,<- h1]
    cases hf:f n <;> cases is <;> simp_all
  ·rw [if_neg hn]
   split
   ·rw [inP_low (fun y hy=>by have:=hs.1 y (turns_mem y hy);omega)];simp
   ·rw [inP,if_neg hn];simp
theorem last_is {f:Nat->Bool} {x:Nat}:∀ {l:List Nat} {is:Bool},Srt l->(∃ e ∈ l,e<=x)->∃ m ∈ l,(∀ e ∈ l,e<=m ↔ e<=x)/\lastF f is l x=f m:=by
 intro l
 induction l with
 | nil=>rintro is _ ⟨e,he,_⟩;cases he
 | cons n r ih =>
  intro is hs hex
  have hn:n<=x:=by
   obtain ⟨e,he,hle⟩:=hex
   rcases List.mem_cons.1 he with rfl | he
   ·exact hle
   ·have:=hs.1 e he;omega
  unfold lastF
  rw [if_pos hn]
  by_cases h:∃ e ∈ r,e<=x
  ·obtain ⟨m,hm,h1,h2⟩:=ih (is:=f n) hs.2 h
   refine ⟨m,List.mem_cons_of_mem _ hm,fun e he=>?_,h2⟩
   rcases List.mem_cons.1 he with rfl | he
   ·have:=hs.1 m hm;exact ⟨fun _=>hn,fun _=>this⟩
   ·exact h1 e he
  ·refine ⟨n,List.mem_cons_self,fun e he=>?_,?_⟩
   ·rcases List.mem_cons.1 he with rfl | he
    ·exact ⟨fun _=>hn,fun _=>Nat.le_refl _⟩
    ·have hgt:¬ e<=x:=fun hle=>h ⟨e,he,hle⟩
     constructor
     ·intro hle;omega
     ·intro hle;exact absurd hle hgt
   ·cases r with
    | nil=>rfl
    | cons m q =>
     unfold lastF
     rw [if_neg (fun hle=>h ⟨m,List.mem_cons_self,hle⟩)]
theorem inP_congr {m x:Nat}:∀ {l:List Nat},(∀ e ∈ l,e<=m ↔ e<=x)->inP l m=inP l x:=by
 intro l
 induction l with
 | nil=>intro _;rfl
 | cons a r ih =>
  intro h
  have:=h a List.mem_cons_self
  unfold inP
  rw [ih (fun e he=>h e (List.mem_cons_of_mem _ he))]
  by_cases ha:a<=x
  ·rw [if_pos ha,if_pos (this.2 ha)]
  ·rw [if_neg ha,if_neg (fun hm=>ha (this.1 hm))]
def ruleF (a b:List Nat) (rule:Bool->Bool->Bool) (n:Nat):Bool:=decide (n<ALL) && rule (inP a n) (inP b n)
def placesF (a b:List Nat):List Nat:=allP (allP (allP [] [0,ALL]) a) b
def mixF (a b:List Nat) (rule:Bool->Bool->Bool):List Nat:=turnsF (ruleF a b rule) false (placesF a b)
theorem places_srt (a b:List Nat):Srt (placesF a b):=allP_srt (allP_srt (allP_srt trivial))
theorem places_mem {a b:List Nat} {x:Nat}:x ∈ placesF a b ↔ (x=0\/x=ALL)\/x ∈ a\/x ∈ b:=by
 unfold placesF
 rw [allP_mem,allP_mem,allP_mem]
 simp [or_assoc]
theorem mix_in (a b:List Nat) (rule:Bool->Bool->Bool) (x:Nat):inP (mixF a b rule) x=ruleF a b rule x:=by
 have h:=turns_in (f:=ruleF a b rule) (x:=x) (is:=false) (places_srt a b)
 obtain ⟨m,hm,h1,h2⟩:=last_is (f:=ruleF a b rule) (x:=x) (is:=false) (places_srt a b) ⟨0,places_mem.2 (Or.inl (Or.inl rfl)),Nat.zero_le _⟩
 rw [h2] at h
 simp only [Bool.xor_false] at h
 unfold mixF
 rw [h]
 unfold ruleF
 have hA:=h1 ALL (places_mem.2 (Or.inl (Or.inr rfl)))
 rw [inP_congr (l:=a) (fun e he=>h1 e (places_mem.2 (Or.inr (Or.inl he)))),inP_congr (l:=b) (fun e he=>h1 e (places_mem.2 (Or.inr (Or.inr he))))]
 congr 1
 rw [decide_eq_decide]
 omega
theorem mix_up (a b:List Nat) (rule:Bool->Bool->Bool):Up (mixF a b rule):=turns_up (places_srt a b)
open Classical in
theorem mix_and {l m:List Span} (hl:Rg l) (hm:Rg m):mixF (tp l) (tp m) (fun x y=>x && y)=tp (nd l m) :=
 up_ext (mix_up _ _ _) (tp_up (rg_nd hl hm)) fun n=>by
  rw [mix_in,Bool.eq_iff_iff,tp_in (rg_nd hl hm),mem_nd hl hm]
  unfold ruleF
  rw [Bool.and_eq_true,Bool.and_eq_true,tp_in hl,tp_in hm,decide_eq_true_iff]
  exact ⟨fun h=>h.2,fun h=>⟨hl.lt h.1,h⟩⟩
theorem mix_or {l m:List Span} (hl:Rg l) (hm:Rg m):mixF (tp l) (tp m) (fun x y=>x || y)=tp (orr l m) :=
 up_ext (mix_up _ _ _) (tp_up (rg_orr hl hm)) fun n=>by
  rw [mix_in,Bool.eq_iff_iff,tp_in (rg_orr hl hm),mem_orr hl hm]
  unfold ruleF
  rw [Bool.and_eq_true,Bool.or_eq_true,tp_in hl,tp_in hm,decide_eq_true_iff]
  exact ⟨fun h=>h.2,fun h=>⟨h.elim hl.lt hm.lt,h⟩⟩
theorem mix_not {l:List Span} (hl:Rg l):mixF (tp l) [] (fun x _=>!x)=tp (nt l) :=
 up_ext (mix_up _ _ _) (tp_up (rg_nt hl)) fun n=>by
  rw [mix_in,Bool.eq_iff_iff,tp_in (rg_nt hl),mem_nt hl]
  unfold ruleF
  rw [Bool.and_eq_true,Bool.not_eq_true',decide_eq_true_iff,<- Bool.not_eq_true,tp_in hl]
theorem places_len (a b:List Nat):(placesF a b).length=a.length + b.length + 2:=by
 have hi:∀ (l:List Nat) (n:Nat),(insP l n).length=l.length + 1:=fun l n=>by
  unfold insP;rw [List.length_append,List.length_cons,List.length_take,List.length_drop];have:=pos_le l n l.length;omega
 have ha:∀ (l acc:List Nat),(allP acc l).length=acc.length + l.length:=fun l=>by
  induction l with
  | nil=>intro acc;rfl
  | cons x l ih=>intro acc;show (allP (insP acc x) l).length=_;rw [ih,hi,List.length_cons];omega
 unfold placesF
 rw [ha,ha,ha];simp;omega
end Go.Proofs.YtiihalknffbjpaaGreatDoor.Sv
namespace Go.Proofs.YtiihalknffbjpaaGreatDoor
open Go.RowKit Sv
def ncells (l:List Nat):List Value:=l.map fun (n:Nat)=>.int .i64 (n:Int)
def nv (l:List Nat) (i:Nat):Nat:=l.getD i 0
theorem nv_at (l:List Nat) (i:Nat) (h:i<l.length):nv l i=l[i]:=by unfold nv;simp [List.getD_eq_getElem?_getD,List.getElem?_eq_getElem h]
theorem ncells_length (l:List Nat):(ncells l).length=l.length:=by simp [ncells]
theorem ncells_append (a b:List Nat):ncells (a++b)=ncells a++ncells b:=by simp [ncells]
theorem ncells_at (l:List Nat) (i:Nat) (h:i<l.length):(ncells l)[i]?=some (.int .i64 (nv l i:Int)):=by simp [ncells,h,nv_at]
structure NsAt (w:World) (v:Value) (l:List Nat):Prop where
 form:∃ a cap,v=.slice a l.length cap
 cells:∀ i,i<l.length->∃ g cap,v=.slice (some ⟨g,0,none⟩) l.length cap/\g<w.heap.size/\w.cell? ⟨g,i,none⟩=some (.int .i64 (nv l i:Int))
theorem nsAt_nil (w:World):NsAt w (.slice none 0 0) []:=⟨⟨none,0,rfl⟩,fun i h=>by simp at h⟩
theorem NsAt.below {B:Nat} {w w':World} {v:Value} {l:List Nat} (h:NsAt w v l) (hb:Below B w w') (hB:w.heap.size<=B):NsAt w' v l :=
 ⟨h.form,fun i hi=>by
  obtain ⟨g,cap,e,hg,c0⟩:=h.cells i hi
  exact ⟨g,cap,e,Nat.lt_of_lt_of_le hg hb.size,(hb.cell (p:=⟨g,i,none⟩) (by show g<B;omega)).trans c0⟩⟩
theorem NsAt.drew {w:World} {v:Value} {l:List Nat} (h:NsAt w v l):NsAt w.drew v l:=⟨h.form,h.cells⟩
theorem nsAt_row {B:Nat} {w:World} {v:Value} {l:List Nat} (h:w.ownsRow B 3 1 v l.length (ncells l)):NsAt w v l:=by
 rcases h.2 with ⟨e,e0⟩ | ⟨g,cap,cur,e,hB,hg,hn,hm,hsz,htake⟩
 ·exact ⟨⟨none,0,by rw [e,e0]⟩,fun i hi=>by omega⟩
 ·refine ⟨⟨_,_,e⟩,fun i hi=>?_⟩
  have hlt:g<w.heap.size:=(h.lt g (by rw [e];rfl)).2
  have cell:w.cell? ⟨g,i,none⟩=(ncells l)[i]?:=by
   rw [<- htake,List.getElem?_take,if_pos (by omega)]
   simp [World.cell?,hg]
  exact ⟨g,cap,e,hlt,cell.trans (ncells_at l i hi)⟩
theorem nsrow_form {B n:Nat} {w:World} {v:Value} {t:TypeId} {cs:List Value} (h:w.ownsRow B t 1 v n cs):∃ a c,v=.slice a n c:=by
 rcases h.2 with ⟨e,e0⟩ | ⟨g,cap,cur,e,-⟩
 ·exact ⟨none,0,by rw [e,e0]⟩
 ·exact ⟨_,_,e⟩
def NsOut (w:World) (l:List Nat) (e:Ending) (w':World):Prop:=∃ a c,e=.returned (.slice a l.length c)/\NsAt w' (.slice a l.length c) l/\(∀ g,(Value.slice a l.length c).ownBlock=some g->w.heap.size<=g)/\Below w.heap.size w w'
theorem in_step {l:List Nat} {n k:Nat} (hk:k<l.length) (h:nv l k<=n):inP (l.drop k) n=!inP (l.drop (k + 1)) n:=by
 rw [List.drop_eq_getElem_cons hk,inP,<- nv_at l k hk,if_pos h]
theorem in_stop {l:List Nat} {n k:Nat} (hk:k<l.length) (h:¬ nv l k<=n):inP (l.drop k) n=false:=by
 rw [List.drop_eq_getElem_cons hk,inP,<- nv_at l k hk,if_neg h]
theorem rem2 (k:Nat):((k:Int) % 2 == 1)=(k % 2 == 1):=by
 rw [show (k:Int) % 2=((k % 2:Nat):Int) by omega]
 rcases Nat.mod_two_eq_zero_or_one k with e | e <;> rw [e] <;> rfl
theorem odd_succ (k:Nat) (b:Bool):(b ^^ (k % 2 == 1))=((!b) ^^ ((k + 1) % 2 == 1)):=by
 rcases Nat.mod_two_eq_zero_or_one k with e | e
 ·have:(k + 1) % 2=1:=by omega
  rw [e,this];cases b <;> rfl
 ·have:(k + 1) % 2=0:=by omega
  rw [e,this];cases b <;> rfl
theorem in_any (l:List Nat) (n:Nat) (v:Value) (w:World) (hv:NsAt w v l) (hlen:l.length<=1000000000) :
  Calls Tryz.prog 256 #[v,.int .i64 (n:Int)] w fun e w'=>e=.returned (.bool (inP l n))/\w'=w:=by
 obtain ⟨a,cap,rfl⟩:=hv.form
 have HV:=Lib.hid hv
 clear hv
 go_enter Tryz.func256,Tryz.ntmps256
 go_wp2_with fail
 go_loopw [5] (fun kV wr=>∃ k:Nat,k<=l.length/\kV=.int .i64 (k:Int)/\(inP (l.drop k) n ^^ (k % 2 == 1))=inP l n/\wr=w) (fun kV _=>l.length - (intOf kV).toNat)
 case atStart=>exact ⟨0,Nat.zero_le _,rfl,by simp,rfl⟩
 case round =>
  obtain ⟨k,hk,rfl,hres,rfl⟩:=hrel
  have HR:=Lib.hid hres
  clear hres
  by_cases hlt:k<l.length
  ·obtain ⟨g,cap',e1,hg,c0⟩:=HV.out.cells k hlt
   simp at e1
   obtain ⟨rfl,rfl⟩:=e1
   by_cases hle:nv l k<=n
   ·have hres:=HR.out
    rw [in_step hlt hle,odd_succ,Bool.not_not] at hres
    have HRS:=Lib.hid hres
    clear hres HR
    generalize nv l k=A at *
    go_wp2
    go_roundw
    case rel=>exact ⟨k + 1,by omega,by go_num,HRS.out,trivial⟩
    case measure=>simp [intOf];omega
   ·have hres:=HR.out
    rw [in_stop hlt hle,Bool.false_xor] at hres
    have hr2:=rem2 k
    rw [hres] at hr2
    have HRS:=Lib.hid hr2
    clear hres HR hr2
    generalize nv l k=A at *
    go_wp2
    go_ret
    exact ⟨congrArg (fun b=>Ending.returned (.bool b)) HRS.out,rfl⟩
  ·obtain rfl:k=l.length:=by omega
   have hres:=HR.out
   rw [List.drop_length,inP,Bool.false_xor] at hres
   have hr2:=rem2 l.length
   rw [hres] at hr2
   have HRS:=Lib.hid hr2
   clear hres HR hr2
   go_wp2
   go_ret
   exact ⟨congrArg (fun b=>Ending.returned (.bool b)) HRS.out,rfl⟩
theorem rrow_any (x y:Nat) (w:World):Calls Tryz.prog 114 #[.int .i64 (x:Int),.int .i64 (y:Int)] w (NsOut w (tp (rowF x y))):=by
 rw [tp_row]
 by_cases h:x<y
 ·rw [if_pos h]
  have h1:¬ (y:Int)<=(x:Int):=by omega
  clear h
  go_enter Tryz.func114,Tryz.ntmps114
  go_wp2
  go_ret
  refine ⟨_,_,rfl,⟨⟨_,_,rfl⟩,fun i hi=>⟨w.heap.size,2,rfl,by simp,?_⟩⟩,fun g hg=>by simp [Value.ownBlock] at hg;omega,(Below.refl _ w).alloc (Nat.le_refl _) _⟩
  match i,hi with
  | 0,_=>simp [nv]
  | 1,_=>simp [nv]
 ·rw [if_neg h]
  have h1:(y:Int)<=(x:Int):=by omega
  clear h
  go_enter Tryz.func114,Tryz.ntmps114
  go_wp2
  go_ret
  exact ⟨none,0,rfl,nsAt_nil _,fun g hg=>by simp [Value.ownBlock] at hg,Below.refl _ _⟩
theorem rnum_any (a b c:Nat) (ha:a<=1000) (hb:b<=1000) (hc:c<=1000) (w:World) :
  Calls Tryz.prog 189 #[.agg #[.int .i64 (a:Int),.int .i64 (b:Int),.int .i64 (c:Int)]] w fun e w'=>e=.returned (.int .i64 (((a * 1000 + b) * 1000 + c:Nat):Int))/\Below w.heap.size w w':=by
 have hB:Hid (Below w.heap.size w (w.alloc (.cells #[.int .i64 (a:Int),.int .i64 (b:Int),.int .i64 (c:Int)] 91))):=(Below.refl _ w).alloc (Nat.le_refl _) _
 have HN:Hid ((a:Int) * 1000000 + (b:Int) * 1000 + (c:Int)=(((a * 1000 + b) * 1000 + c:Nat):Int)):=by show _=_;omega
 go_enter Tryz.func189,Tryz.ntmps189
 go_wp2
 go_ret
 exact ⟨congrArg (fun z=>Ending.returned (Value.int .i64 z)) HN.out,hB.out⟩
end Go.Proofs.YtiihalknffbjpaaGreatDoor
namespace Go.Proofs.YtiihalknffbjpaaGreatDoor
open Go.RowKit Sv
theorem infoIntN:(Tryz.prog.info? 3).map (fun i=>(i.zero,i.size,i.bytes))=some (some (.int .i64 0),1,8):=by kernel_rfl
theorem sizeIntN:(Tryz.prog.info? 3).map (·.size)=some 1:=by kernel_rfl
theorem cell_one_newN (w:World) (A:Value) (t:TypeId):∀ (j:Nat) (u:Value),[A][j]?=some u->(w.alloc (.cells #[A] t)).cell? (Addr.add ⟨w.heap.size,0,none⟩ j)=some u:=by
 intro j u h
 match j,h with
 | 0,h=>simp at h;subst h;simp [Addr.add]
 | j + 1,h=>simp at h
def rowsX (a b:List Nat):Nat->List Nat
 | 0=>[0,ALL]
 | 1=>a
 | _=>b
def accX (a b:List Nat):Nat->List Nat
 | 0=>[]
 | j + 1=>allP (accX a b j) (rowsX a b j)
theorem allP_snoc (acc l:List Nat) (k:Nat) (hk:k<l.length):allP acc (l.take (k + 1))=insP (allP acc (l.take k)) (nv l k):=by
 unfold allP
 rw [List.take_succ_eq_append_getElem hk,List.foldl_append,List.foldl_cons,List.foldl_nil,nv_at l k hk]
theorem allP_len (l acc:List Nat):(allP acc l).length=acc.length + l.length:=by
 have hi:∀ (l:List Nat) (n:Nat),(insP l n).length=l.length + 1:=fun l n=>by
  unfold insP;rw [List.length_append,List.length_cons,List.length_take,List.length_drop];have:=pos_le l n l.length;omega
 induction l generalizing acc with
 | nil=>rfl
 | cons x l ih=>show (allP (insP acc x) l).length=_;rw [ih,hi,List.length_cons];omega
theorem accX_len (a b:List Nat) (j:Nat) (hj:j<=3):(accX a b j).length<=a.length + b.length + 2:=by
 match j,hj with
 | 0,_=>simp [accX]
 | 1,_=>simp [accX,allP_len,rowsX]
 | 2,_=>simp [accX,allP_len,rowsX];omega
 | 3,_=>simp [accX,allP_len,rowsX];omega
theorem accX_len2 (a b:List Nat) (j k:Nat) (hj:j<3):(allP (accX a b j) ((rowsX a b j).take k)).length<=a.length + b.length + 2:=by
 have h:=accX_len a b (j + 1) hj
 rw [accX,allP_len] at h
 rw [allP_len,List.length_take]
 omega
theorem ins_row {acc:List Nat} {n i:Nat} {cur:List Value} (hi:i<=acc.length) (hc:cur.take (acc.length + 1)=ncells acc++[.int .i64 0]) :
  ((splice cur (i + 1) ((ncells acc).drop i)).set i (.int .i64 (n:Int))).take (acc.length + 1)=ncells (acc.take i++n :: acc.drop i):=by
 have hlen:acc.length + 1<=cur.length:=by
  have:=congrArg List.length hc
  rw [List.length_take,List.length_append,ncells_length,List.length_singleton] at this
  omega
 apply List.ext_getElem?
 intro j
 have hcj:∀ j,j<acc.length + 1->cur[j]?=(ncells acc++[.int .i64 0])[j]?:=fun j hj=>by
  rw [<- hc,List.getElem?_take,if_pos hj]
 by_cases hj:j<acc.length + 1
 ·rw [List.getElem?_take,if_pos hj]
  unfold splice
  rw [List.getElem?_set]
  have hdl:((ncells acc).drop i).length=acc.length - i:=by rw [List.length_drop,ncells_length]
  by_cases hij:i=j
  ·subst hij
   rw [if_pos rfl,if_pos (by simp;omega)]
   unfold ncells
   rw [List.getElem?_map,List.getElem?_append_right (by rw [List.length_take];omega)]
   rw [List.length_take,show i - min i acc.length=0 by omega]
   rfl
  ·rw [if_neg hij]
   by_cases hlt:j<i
   ·rw [List.getElem?_append_left (by rw [List.length_take];omega),List.getElem?_take,if_pos (by omega),hcj j hj,List.getElem?_append_left (by rw [ncells_length];omega)]
    unfold ncells
    rw [List.getElem?_map,List.getElem?_map,List.getElem?_append_left (by rw [List.length_take];omega),List.getElem?_take,if_pos hlt]
   ·rw [List.getElem?_append_right (by rw [List.length_take];omega),List.length_take,show min (i + 1) cur.length=i + 1 by omega,List.getElem?_append_left (by rw [hdl];omega),List.getElem?_drop]
    unfold ncells
    rw [List.getElem?_map,List.getElem?_map,List.getElem?_append_right (by rw [List.length_take];omega),List.length_take,show j - min i acc.length=(j - i - 1) + 1 by omega,List.getElem?_cons_succ,List.getElem?_drop]
    congr 2
 ·rw [List.getElem?_take,if_neg hj,List.getElem?_eq_none]
  rw [ncells_length,List.length_append,List.length_cons,List.length_take,List.length_drop]
  omega
theorem ins_owns {w4:World} {B g cap i n:Nat} {acc:List Nat} {cur:List Value} (hi:i<=acc.length) (hB:B<=g) (hnc:acc.length + 1<=cap) (hmx:cap<=maxLen) (hsz:cur.length=cap) (htk:cur.take (acc.length + 1)=ncells acc++[.int .i64 0])
  (h4:w4.heap[g]?=some (.cells (splice cur (i + 1) ((ncells acc).drop i)).toArray 3 (0,0))) :
  (∃ u,w4.cell? ⟨g,i,none⟩=some u)/\w4.frozen? ⟨g,i,none⟩=false/\(w4.setCell ⟨g,i,none⟩ (.int .i64 (n:Int))).ownsRow B 3 1 (.slice (some ⟨g,0,none⟩) (acc.length + 1) cap) (acc.length + 1) (ncells (acc.take i++n :: acc.drop i)):=by
 have k:Blk w4 g 3 (splice cur (i + 1) ((ncells acc).drop i)).toArray:=h4
 have hdl:((ncells acc).drop i).length=acc.length - i:=by rw [List.length_drop,ncells_length]
 have hsl:(splice cur (i + 1) ((ncells acc).drop i)).length=cap:=by rw [length_splice _ _ _ (by rw [hdl];omega),hsz]
 refine ⟨?_,k.frozen i,?_,.inr ⟨g,cap,_,rfl,hB,k.set (i:=i),hnc,hmx,?_,?_⟩⟩
 ·rw [k.cell i]
  exact ⟨_,by rw [List.getElem?_toArray,List.getElem?_eq_getElem (by omega)]⟩
 ·rw [ncells_length,List.length_append,List.length_cons,List.length_take,List.length_drop];omega
 ·rw [Array.size_setIfInBounds,List.size_toArray,hsl,Nat.mul_one]
 ·rw [Array.toList_setIfInBounds,Nat.mul_one]
  exact ins_row hi htk
theorem turns_len (f:Nat->Bool) (is:Bool) (l:List Nat):(turnsF f is l).length<=l.length:=by
 induction l generalizing is with
 | nil=>exact Nat.le_refl _
 | cons n r ih =>
  unfold turnsF
  split
  ·have:=ih is;rw [List.length_cons];omega
  ·have:=ih (f n);rw [List.length_cons,List.length_cons];omega
theorem turns_same {f:Nat->Bool} {is:Bool} {l:List Nat} {k:Nat} (hk:k<l.length) (h:f (nv l k)=is):turnsF f is (l.drop k)=turnsF f is (l.drop (k + 1)):=by
 rw [List.drop_eq_getElem_cons hk,turnsF,<- nv_at l k hk,if_pos h]
theorem turns_turn {f:Nat->Bool} {is:Bool} {l:List Nat} {k:Nat} (hk:k<l.length) (h:¬ f (nv l k)=is):turnsF f is (l.drop k)=nv l k :: turnsF f (f (nv l k)) (l.drop (k + 1)):=by
 rw [List.drop_eq_getElem_cons hk,turnsF,<- nv_at l k hk,if_neg h]
theorem rowsX_len (a b:List Nat) (hla:a.length<=1000000000) (hlb:b.length<=1000000000):∀ j,(rowsX a b j).length<=1000000000
 | 0=>Nat.le_of_ble_eq_true rfl
 | 1=>hla
 | _ + 2=>hlb
theorem rows_facts (a b:List Nat) (aa ab:Option Addr) (ca cb:Nat) (w W0:World) (hW0:(w.alloc (.cells #[.int .i64 0,.int .i64 1000000000] 3)).alloc (.cells #[.slice (some ⟨w.heap.size,0,none⟩) 2 2,.slice aa a.length ca,.slice ab b.length cb] 94)=W0)
  (HVA:NsAt w (.slice aa a.length ca) a) (HVB:NsAt w (.slice ab b.length cb) b) :
  Below w.heap.size w W0/\(∀ j,j<3->∃ x c,∀ W,Below W0.heap.size W0 W->W.cell? ⟨w.heap.size + 1,j,none⟩=some (.slice x (rowsX a b j).length c)/\NsAt W (.slice x (rowsX a b j).length c) (rowsX a b j)):=by
 have HB0:Below w.heap.size w W0:=by rw [<- hW0];exact ((Below.refl _ w).alloc (Nat.le_refl _) _).alloc (by simp) _
 refine ⟨HB0,fun j hj=>?_⟩
 have k0:Blk W0 w.heap.size 3 #[.int .i64 0,.int .i64 1000000000]:=by rw [<- hW0];exact (Blk.new w 3 _).alloc _
 have k1:Blk W0 (w.heap.size + 1) 94 #[.slice (some ⟨w.heap.size,0,none⟩) 2 2,.slice aa a.length ca,.slice ab b.length cb]:=by rw [<- hW0];have:=Blk.new (w.alloc (.cells #[.int .i64 0,.int .i64 1000000000] 3)) 94 #[.slice (some ⟨w.heap.size,0,none⟩) 2 2,.slice aa a.length ca,.slice ab b.length cb];rw [World.size_alloc] at this;exact this
 match j,hj with
 | 0,_=>exact ⟨some ⟨w.heap.size,0,none⟩,2,fun W hb=>⟨(k1.below hb k1.lt).cell 0,⟨_,_,rfl⟩,fun i hi=>⟨_,_,rfl,(k0.below hb k0.lt).lt,by
   match i,hi with
   | 0,_=>exact (k0.below hb k0.lt).cell 0
   | 1,_=>exact (k0.below hb k0.lt).cell 1⟩⟩⟩
 | 1,_=>exact ⟨aa,ca,fun W hb=>⟨(k1.below hb k1.lt).cell 1,HVA.below (HB0.trans (hb.mono HB0.size)) (Nat.le_refl _)⟩⟩
 | 2,_=>exact ⟨ab,cb,fun W hb=>⟨(k1.below hb k1.lt).cell 2,HVB.below (HB0.trans (hb.mono HB0.size)) (Nat.le_refl _)⟩⟩
theorem ins_facts {w3:World} {B i n:Nat} {acc:List Nat} {v':Value} (hi:i<=acc.length) (hown:w3.ownsRow B 3 1 v' (acc.length + 1) (ncells acc++[.int .i64 0])) :
  ∃ (g cap:Nat) (cur CS:List Value),v'=.slice (some ⟨g,0,none⟩) (acc.length + 1) cap/\B<=g/\acc.length + 1<=cap/\w3.heap[g]?=some (.cells cur.toArray 3 (0,0)) /\
   (∀ w4:World,w4.heap[g]?=some (.cells (splice cur (i + 1) CS).toArray 3 (0,0))->(∃ u,w4.cell? ⟨g,i,none⟩=some u)/\w4.frozen? ⟨g,i,none⟩=false/\(w4.setCell ⟨g,i,none⟩ (.int .i64 (n:Int))).ownsRow B 3 1 (.slice (some ⟨g,0,none⟩) (acc.length + 1) cap) (acc.length + 1) (ncells (acc.take i++n :: acc.drop i))) /\
   (∀ j v,CS[j]?=some v->w3.cell? ⟨g,i + j,none⟩=some v)/\(∀ v ∈ CS,v.oneCell'=true)/\CS.length=Nat.min (acc.length + 1 - i) (acc.length + 1 - (i + 1))/\(i + 1) + CS.length<=cur.length:=by
 rcases hown.2 with ⟨_,h0'⟩ | ⟨g,cap,cur,rfl,hBg,hg,hnc,hmx,hsz,htk⟩
 ·exact absurd h0' (by simp)
 have hdl:((ncells acc).drop i).length=acc.length - i:=by rw [List.length_drop,ncells_length]
 have hsz':cur.toList.length=cap:=by simpa using hsz
 refine ⟨g,cap,cur.toList,(ncells acc).drop i,rfl,hBg,hnc,hg,fun w4 h4=>ins_owns hi hBg hnc hmx hsz' (by simpa using htk) h4,fun j v hv=>?_,fun v hv=>?_,?_,?_⟩
 ·have hj:i + j<acc.length:=by have:=(List.getElem?_eq_some_iff.1 hv).1;rw [List.length_drop,ncells_length] at this;omega
  rw [(show Blk w3 g 3 cur from hg).cell,<- hv,List.getElem?_drop,<- Array.getElem?_toList,show cur.toList[i + j]?=(cur.toList.take ((acc.length + 1) * 1))[i + j]? by rw [List.getElem?_take,if_pos (by omega)],htk,List.getElem?_append_left (by rw [ncells_length];omega)]
 ·obtain ⟨x,_,rfl⟩:=List.mem_map.1 (List.mem_of_mem_drop hv);rfl
 ·rw [hdl];show _=min _ _;omega
 ·rw [hdl,hsz'];omega
end Go.Proofs.YtiihalknffbjpaaGreatDoor
