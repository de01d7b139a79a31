/- Contracts of the library's functions at this program, laid by the kit's own tool in plain words: strings.Index, Count, TrimLeft, Cut, Compare, strconv.FormatInt, ParseInt. -/
import Derived.WalkKit
import Derived.RangeFuncBound
import Derived.Test.YtlahnpmoeefapaaGreatDoorPfForm
import Derived.Laws.NewBlocks
import Derived.Maps.AppendAt
import Derived.OneCell
import Derived.OwnWalk
import Derived.Lib.Builder
import Derived.Deep.AppendLies
import Derived.Laws.OwnMore
import Derived.Laws.Bits64b
import Derived.Laws.BitsAllLaws
import Derived.RegionTactic
import Derived.ChangeAlike
import Derived.Shelf.LaysM
import Derived.Shelf.LaysC
import Derived.Shelf.Strconv.Itoa3
import Derived.Shelf.Strconv.Itoa4
import Derived.Shelf.Strconv.ParseIntPublic10
import Derived.Shelf.Strings.Search3
import Derived.Shelf.Strings.Count
import Derived.Shelf.Strings.Cut
import Derived.Shelf.Small.Strs
import Derived.Shelf.Strings.SlTrimAscii
import Derived.Test.YtlahnpmoeefapaaGreatDoorProg
set_option maxHeartbeats 2000000
set_option maxRecDepth 100000
namespace Go.Proofs.YtlahnpmoeefapaaGreatDoor
section
open Go.RowKit
def Blk (W:World) (b:Nat) (t:TypeId) (cs:Array Value):Prop:=W.heap[b]?=some (.cells cs t (0,0))
theorem Blk.lt {W:World} {b:Nat} {t:TypeId} {cs:Array Value} (h:Blk W b t cs):b<W.heap.size:=(Array.getElem?_eq_some_iff.1 h).1
theorem Blk.cell {W:World} {b:Nat} {t:TypeId} {cs:Array Value} (h:Blk W b t cs) (i:Nat):W.cell? ⟨b,i,none⟩=cs[i]?:=by
 simp [World.cell?,show W.heap[b]?=_ from h]
theorem Blk.frozen {W:World} {b:Nat} {t:TypeId} {cs:Array Value} (h:Blk W b t cs) (i:Nat):W.frozen? ⟨b,i,none⟩=false:=by simp [World.frozen?,show W.heap[b]?=_ from h]
theorem Blk.new (W:World) (t:TypeId) (cs:Array Value):Blk (W.alloc (.cells cs t)) W.heap.size t cs:=World.alloc_heap_new W _
theorem Blk.kept {W W':World} {row:Option Nat} {b:Nat} {t:TypeId} {cs:Array Value} (h:Blk W b t cs) (hg:W.grownBy W' row) (hne:some b ≠ row):Blk W' b t cs:=(hg.block b h.lt hne).trans h
theorem Blk.alloc {W:World} {b:Nat} {t:TypeId} {cs:Array Value} (h:Blk W b t cs) (o:Obj):Blk (W.alloc o) b t cs:=h.kept (World.grownBy_alloc W o none) (by simp)
theorem Blk.below {B:Nat} {W W':World} {b:Nat} {t:TypeId} {cs:Array Value} (h:Blk W b t cs) (hb:Below B W W') (hB:b<B):Blk W' b t cs:=(hb.block b hB).trans h
theorem Blk.other {W:World} {b b' i:Nat} {t:TypeId} {cs:Array Value} {v:Value} (h:Blk W b t cs) (hne:b ≠ b'):Blk (W.setCell ⟨b',i,none⟩ v) b t cs:=(Below.heap_setCell _ _ _ b hne).trans h
theorem Blk.put {W:World} {b l:Nat} {t:TypeId} {cs:Array Value} {o':Obj} (h:Blk W b t cs) (hne:b ≠ l):Blk (W.putObj l o') b t cs:=(World.putObj_heap_other hne).trans h
theorem Blk.set {W:World} {b i:Nat} {t:TypeId} {cs:Array Value} {v:Value} (h:Blk W b t cs):Blk (W.setCell ⟨b,i,none⟩ v) b t (cs.setIfInBounds i v):=by
 obtain ⟨hlt,hk⟩:=Array.getElem?_eq_some_iff.1 h
 show (W.heap.modify b _)[b]?=_
 rw [Array.getElem?_eq_getElem (by rw [Array.size_modify];exact hlt),Array.getElem_modify_self,hk]
 rfl
end
section
open Go.RowKit Go.Deep
theorem add_plain (b o i:Nat):(⟨b,o,none⟩:Addr).add i=⟨b,o + i,none⟩:=by
 unfold Addr.add
 by_cases h:i=0
 ·subst h;rfl
 ·rw [if_neg h]
def icells (l:List Int):List Value:=l.map (Value.int .i64)
theorem icells_length (l:List Int):(icells l).length=l.length:=by simp [icells]
theorem icells_at (l:List Int) (i:Nat) (h:i<l.length):(icells l)[i]?=some (.int .i64 (l.getD i 0)):=by simp [icells,List.getD_eq_getElem?_getD,h]
theorem icells_snoc (l:List Int) (x:Int):icells (l++[x])=icells l++[.int .i64 x]:=by simp [icells]
theorem infoInt:(Tryz.prog.info? 3).map (fun i=>(i.zero,i.size,i.bytes))=some (some (.int .i64 0),1,8):=by kernel_rfl
theorem row_form {B n:Nat} {w:World} {v:Value} {t:TypeId} {cs:List Value} (h:w.ownsRow B t 1 v n cs):∃ a c,v=.slice a n c/\n<=c/\c<=9223372036854775807:=by
 rcases h.2 with ⟨e,e0⟩ | ⟨g,cap,cur,e,-,-,h1,h2,-⟩
 ·exact ⟨none,0,by rw [e,e0],by omega,by omega⟩
 ·unfold maxLen at h2;exact ⟨_,_,e,h1,h2⟩
theorem ints_row {B:Nat} {w:World} {a:Option Addr} {c:Nat} {l:List Int} (h:w.ownsRow B 3 1 (.slice a l.length c) l.length (icells l)):IntsIn w a l:=by
 intro i hi
 rcases h.2 with ⟨e,e0⟩ | ⟨g,cap,cur,e,hB,hg,-⟩
 ·omega
 ·injection e with e1 e2 e3
  subst e1 e3
  refine ⟨_,rfl,(Array.getElem?_eq_some_iff.1 hg).1,?_⟩
  have:=h.cellAt i (by omega)
  rw [add_plain,Nat.zero_add,this,icells_at l i hi]
theorem row_new {B:Nat} {w w':World} {t:TypeId} {v:Value} {n:Nat} {cs:List Value} (h:w.ownsRow B t 1 v n cs) (hb:Below w.heap.size w w'):w'.ownsRow B t 1 v n cs:=by
 obtain ⟨h1,h2⟩:=h
 refine ⟨h1,?_⟩
 rcases h2 with h2 | ⟨g,cap,cur,hv,hg,hh,r⟩
 ·exact Or.inl h2
 ·exact Or.inr ⟨g,cap,cur,hv,hg,by rw [hb.block g (Array.getElem?_eq_some_iff.1 hh).1];exact hh,r⟩
theorem cell_lit (w:World) (x:Int) (t:TypeId):∀ (j:Nat) (u:Value),[Value.int .i64 x][j]?=some u->(w.alloc (.cells #[.int .i64 x] t)).cell? ((⟨w.heap.size,0,none⟩:Addr).add j)=some u:=by
 intro j u hu
 cases j with
 | zero=>simp at hu;subst hu;rw [add_plain];simp
 | succ j=>simp at hu
theorem one_lit (x:Int):∀ u ∈ [Value.int .i64 x],u.oneCell'=true:=by
 intro u hu
 rw [List.mem_singleton] at hu
 subst hu
 rfl
theorem infoCls:(Tryz.prog.info? 81).map (fun i=>(i.zero,i.size,i.bytes))=some (some (.slice none 0 0),1,24):=by kernel_rfl
theorem take_succ' {c:List Int} {j:Nat} (h:j<c.length):c.take (j + 1)=c.take j++[c.getD j 0]:=by
 rw [List.take_succ_eq_append_getElem h,List.getD_eq_getElem?_getD,List.getElem?_eq_getElem h];rfl
theorem drop_cons {α:Type} {l:List α} {k:Nat} {d:α} (h:k<l.length):l.drop k=l.getD k d :: l.drop (k + 1):=by
 rw [List.drop_eq_getElem_cons h,List.getD_eq_getElem?_getD,List.getElem?_eq_getElem h];rfl
theorem ownsRow_base {w:World} {base base':Nat} {e:TypeId} {size:Nat} {v:Value} {n:Nat} {xs:List Value} (h:w.ownsRow base e size v n xs) (hb:base'<=base):w.ownsRow base' e size v n xs:=by
 obtain ⟨h1,h2⟩:=h
 refine ⟨h1,?_⟩
 rcases h2 with h2 | ⟨g,cap,cur,hv,hg,r⟩
 ·exact Or.inl h2
 ·exact Or.inr ⟨g,cap,cur,hv,Nat.le_trans hb hg,r⟩
end
section
open Go.RowKit Go.Deep
def sidesV (s:Nat × Nat):Value:=.agg #[.int .u64 (s.1:Int),.int .u64 (s.2:Int)]
theorem pow_small {k:Nat} (hk:k<24):2 ^ k<2 ^ 24:=Nat.pow_lt_pow_right (by omega) hk
theorem or_bit {o k:Nat} (ho:o<2 ^ 24) (hk:k<24):bits BinOp.or IntKind.u64 (o:Int) ((2:Int) ^ k)=((o ||| 2 ^ k:Nat):Int):=by
 have h:=pow_small hk
 have h63:(2:Nat) ^ 24<18446744073709551616:=by decide
 have e:((2:Int) ^ k)=((2 ^ k:Nat):Int):=by simp
 rw [e,bits_or_u64_nat o (2 ^ k) (by omega) (by omega)]
theorem shl_bit {k:Nat} (hk:k<24):IntKind.u64.wrap ((2:Int) ^ k)=(2:Int) ^ k:=by
 have h:=pow_small hk
 have h63:(2:Nat) ^ 24<2 ^ 63:=by decide
 have e:((2:Int) ^ k)=((2 ^ k:Nat):Int):=by simp
 rw [e,IntKind.wrap_u64]
 exact Int.emod_eq_of_lt (Int.natCast_nonneg _) (by omega)
structure SB (w wr:World) (s:Nat × Nat):Prop where
 res:Blk wr w.heap.size 405 #[.int .u64 0,.int .u64 0]
 blk:Blk wr (w.heap.size + 1) 405 #[.int .u64 (s.1:Int),.int .u64 (s.2:Int)]
 below:Below w.heap.size w wr
theorem SB.start (w:World):SB w ((w.alloc (.cells #[.int .u64 0,.int .u64 0] 405)).alloc (.cells #[.int .u64 0,.int .u64 0] 405)) (0,0):=by
 have h1:=Blk.new w 405 #[.int .u64 0,.int .u64 0]
 have h2:=Blk.new (w.alloc (.cells #[.int .u64 0,.int .u64 0] 405)) 405 #[.int .u64 0,.int .u64 0]
 rw [World.size_alloc] at h2
 exact ⟨h1.alloc _,h2,(below_new w _).alloc (by simp) _⟩
theorem SB.yes {w wr:World} {s:Nat × Nat} (h:SB w wr s) (m:Nat):SB w (wr.setCell ⟨w.heap.size + 1,0,none⟩ (.int .u64 (m:Int))) (m,s.2) :=
 ⟨h.res.other (by omega),h.blk.set,h.below.setCell (by show w.heap.size<=w.heap.size + 1;omega) _⟩
theorem SB.no {w wr:World} {s:Nat × Nat} (h:SB w wr s) (m:Nat):SB w (wr.setCell ⟨w.heap.size + 1,1,none⟩ (.int .u64 (m:Int))) (s.1,m) :=
 ⟨h.res.other (by omega),h.blk.set,h.below.setCell (by show w.heap.size<=w.heap.size + 1;omega) _⟩
theorem SB.drew {w wr:World} {s:Nat × Nat} (h:SB w wr s):SB w wr.drew s:=⟨h.res,h.blk,h.below.drew⟩
theorem sidesOf_any (c:List Int) (a:Option Addr) (cap:Nat) (w:World) (hI:IntsIn w a c) (hm:c.length<=9223372036854775807) :
  Calls Tryz.prog 297 #[.slice a c.length cap] w fun e w'=>e=.returned (sidesV (sidesF c))/\Below w.heap.size w w':=by
 have HI:=Lib.hid hI
 have HS:=Lib.hid (SB.start w)
 clear hI
 go_enter Tryz.func297,Tryz.ntmps297
 go_wp2_with fail
 go_loopw [8] (fun kV wr=>∃ k:Nat,k<=c.length/\kV=.int .i64 (k:Int)/\SB w wr (sidesF (c.take k))) (fun kV _=>c.length - (intOf kV).toNat)
 case atStart=>exact ⟨0,Nat.zero_le _,rfl,HS.out⟩
 case round =>
  obtain ⟨k,hk,rfl,hsb⟩:=hrel
  have HSB:=Lib.hid hsb
  clear hsb HS
  by_cases hlt:k<c.length
  ·obtain ⟨ad,rfl,hl,hc⟩:=HI.out.below HSB.out.below k hlt
   have HN:=Lib.hid (show sidesF (c.take (k + 1))=sideS (sidesF (c.take k)) (c.getD k 0) by rw [take_succ' hlt,sidesF_snoc])
   have hsm:=sides_small (c.take k)
   generalize c.getD k 0=x at *
   generalize sidesF (c.take k)=s at *
   have c0:=HSB.out.blk.cell 0
   have c1:=HSB.out.blk.cell 1
   have f0:=HSB.out.blk.frozen 0
   have f1:=HSB.out.blk.frozen 1
   simp at c0 c1
   by_cases h1:0<x/\x<=24
   ·obtain ⟨t,rfl⟩:∃ t:Nat,x=(t:Int) + 1:=⟨x.toNat - 1,by omega⟩
    have ht:t<24:=by omega
    have HE:=Lib.hid (show sideS s ((t:Int) + 1)=(s.1 ||| 2 ^ t,s.2) by unfold sideS;rw [if_pos h1,show ((t:Int) + 1).toNat - 1=t by omega])
    have HO:=Lib.hid (or_bit hsm.1 ht)
    have HW:=Lib.hid (shl_bit ht)
    obtain ⟨h1a,h1b⟩:=h1
    clear hsm
    go_wp2_with fail
    go_region
    have HQ:=Lib.hid ((HSB.out.yes (s.1 ||| 2 ^ t)).drew)
    rw [<- HO.out,<- HW.out] at HQ
    clear c0 c1 f0 f1
    go_wp2
    go_roundw
    case rel=>exact ⟨k + 1,hlt,by go_num,by rw [HN.out,HE.out];exact HQ.out⟩
    case measure=>simp [intOf];omega
   ·by_cases h2:-24<=x/\x<0
    ·obtain ⟨t,rfl⟩:∃ t:Nat,x=-((t:Int) + 1):=⟨(-x).toNat - 1,by omega⟩
     have ht:t<24:=by omega
     have HE:=Lib.hid (show sideS s (-((t:Int) + 1))=(s.1,s.2 ||| 2 ^ t) by unfold sideS;rw [if_neg h1,if_pos h2,show (- -((t:Int) + 1)).toNat - 1=t by omega])
     have HO:=Lib.hid (or_bit hsm.2 ht)
     have HW:=Lib.hid (shl_bit ht)
     obtain ⟨h2a,h2b⟩:=h2
     have h1':¬ (0 < -((t:Int) + 1)):=by omega
     clear hsm h1
     go_wp2_with fail
     go_region
     have HQ:=Lib.hid ((HSB.out.no (s.2 ||| 2 ^ t)).drew)
     rw [<- HO.out,<- HW.out] at HQ
     clear c0 c1 f0 f1
     go_wp2
     go_roundw
     case rel=>exact ⟨k + 1,hlt,by go_num,by rw [HN.out,HE.out];exact HQ.out⟩
     case measure=>simp [intOf];omega
    ·have HE:=Lib.hid (show sideS s x=s by unfold sideS;rw [if_neg h1,if_neg h2])
     clear hsm c0 c1 f0 f1
     by_cases hp:0<x
     ·have h3:24<x:=by omega
      clear h1 h2
      go_wp2
      go_roundw
      case rel=>exact ⟨k + 1,hlt,by go_num,by rw [HN.out,HE.out];exact HSB.out⟩
      case measure=>simp [intOf];omega
     ·by_cases hz:x=0
      ·subst hz
       clear h1 h2
       go_wp2
       go_roundw
       case rel=>exact ⟨k + 1,hlt,by go_num,by rw [HN.out,HE.out];exact HSB.out⟩
       case measure=>simp [intOf];omega
      ·have h3:x < -24:=by omega
       clear h1 h2
       go_wp2
       go_roundw
       case rel=>exact ⟨k + 1,hlt,by go_num,by rw [HN.out,HE.out];exact HSB.out⟩
       case measure=>simp [intOf];omega
  ·obtain rfl:k=c.length:=by omega
   rw [List.take_length] at HSB
   have c0:=HSB.out.blk.cell 0
   have c1:=HSB.out.blk.cell 1
   have r0:=HSB.out.res.cell 0
   have r1:=HSB.out.res.cell 1
   have f0:=HSB.out.res.frozen 0
   have f1:=HSB.out.res.frozen 1
   simp at c0 c1 r0 r1
   have HB:Hid (Below w.heap.size w ((wr.setCell ⟨w.heap.size,0,none⟩ (.int .u64 ((sidesF c).1:Int))).setCell ⟨w.heap.size,1,none⟩ (.int .u64 ((sidesF c).2:Int)))):=(HSB.out.below.setCell (Nat.le_refl _) _).setCell (Nat.le_refl _) _
   have HR:=Lib.hid ((HSB.out.res.set (i:=0) (v:=.int .u64 ((sidesF c).1:Int))).set (i:=1) (v:=.int .u64 ((sidesF c).2:Int)))
   clear HSB
   go_wp2
   have k0:=HR.out.cell 0
   have k1:=HR.out.cell 1
   simp at k0 k1
   exact bodyPost_ret (v:=sidesV (sidesF c)) (by simp [results,Tryz.results297,go_sem,k0,k1,sidesV]) rfl ⟨rfl,HB.out⟩
theorem always_any (s:Nat × Nat) (hs:Small s) (w:World) :
  Calls Tryz.prog 298 #[sidesV s] w fun e w'=>e=.returned (.bool (alwaysF s))/\Below w.heap.size w w':=by
 have h63:(2:Nat) ^ 24<18446744073709551616:=by decide
 have HA:=Lib.hid (bits_and_u64_nat s.1 s.2 (by have:=hs.1;omega) (by have:=hs.2;omega))
 have HB:=Lib.hid (below_new w (.cells #[.int .u64 (s.1:Int),.int .u64 (s.2:Int)] 405))
 have HF:Hid (((((s.1 &&& s.2:Nat):Int)) != 0)=alwaysF s):=by
  show _=_
  unfold alwaysF
  rw [Bool.eq_iff_iff]
  simp
 clear hs
 unfold sidesV
 go_enter Tryz.func298,Tryz.ntmps298
 go_wp2
 go_ret
 exact ⟨by rw [HA.out,HF.out];rfl,HB.out⟩
theorem shr_bit (m t:Nat) (hm:m<18446744073709551616):(bits BinOp.and IntKind.u64 ((m:Int) / 2 ^ t) 1 == 1)=m.testBit t:=shr_bit1 m t hm
structure CK (w wr:World) (s:Nat × Nat) (cV:Value) (k:Nat):Prop where
 row:wr.ownsRow w.heap.size 3 1 cV (clauseK s k).length (icells (clauseK s k))
 blk:Blk wr w.heap.size 405 #[.int .u64 (s.1:Int),.int .u64 (s.2:Int)]
 below:Below w.heap.size w wr
theorem CK.skip {w wr:World} {s:Nat × Nat} {cV:Value} {k:Nat} (h:CK w wr s cV k) (hn:litOf s k=none):CK w wr s cV (k + 1):=by
 have e:clauseK s (k + 1)=clauseK s k:=by rw [clauseK_succ,hn];simp
 exact ⟨by rw [e];exact h.row,h.blk,h.below⟩
theorem CK.app {w wr wr':World} {s:Nat × Nat} {cV v':Value} {k:Nat} {x:Int} (h:CK w wr s cV k) (hn:litOf s k=some x) (o:Obj) (hown:wr'.ownsRow w.heap.size 3 1 v' ((clauseK s k).length + 1) (icells (clauseK s k)++[.int .i64 x])) (hg:(wr.alloc o).grownBy wr' cV.ownBlock):CK w wr' s v' (k + 1):=by
 have e:clauseK s (k + 1)=clauseK s k++[x]:=by rw [clauseK_succ,hn];simp
 have hne:cV.ownBlock ≠ some w.heap.size:=Lib.ownBlock_ne h.row h.blk (by decide)
 refine ⟨by rw [e,icells_snoc];simpa using hown,(h.blk.alloc o).kept hg (fun e=>hne e.symm),?_⟩
 exact (h.below.alloc h.below.size o).grown hg (by have:=h.below.size;simp;omega) (fun k hk=>(h.row.lt k hk).1)
def OutI (B:Nat) (xs:List Int) (e:Ending) (w':World):Prop:=∃ a cap,e=.returned (.slice a xs.length cap)/\w'.ownsRow B 3 1 (.slice a xs.length cap) xs.length (icells xs)
theorem clause_any (s:Nat × Nat) (hs:Small s) (w:World) :
  Calls Tryz.prog 299 #[sidesV s] w fun e w'=>OutI w.heap.size (clauseF s) e w'/\Below w.heap.size w w':=by
 have h63:(2:Nat) ^ 24<18446744073709551616:=by decide
 have HY:Hid (∀ t,(bits BinOp.and IntKind.u64 ((s.1:Int) / 2 ^ t) 1 == 1)=s.1.testBit t):=fun t=>shr_bit s.1 t (by have:=hs.1;omega)
 have HN:Hid (∀ t,(bits BinOp.and IntKind.u64 ((s.2:Int) / 2 ^ t) 1 == 1)=s.2.testBit t):=fun t=>shr_bit s.2 t (by have:=hs.2;omega)
 have HS:Hid (CK w (w.alloc (.cells #[.int .u64 (s.1:Int),.int .u64 (s.2:Int)] 405)) s (.slice none 0 0) 0):=⟨World.ownsRow_nil _ _ _ _,Blk.new _ _ _,below_new w _⟩
 obtain ⟨i0,hin,hz0,hz1,hz2⟩:=info_parts infoInt
 clear hs h63
 unfold sidesV
 go_enter Tryz.func299,Tryz.ntmps299
 go_wp2_with fail
 go_loopw [3,5] (fun cV kV wr=>∃ k:Nat,k<=24/\kV=.int .i64 (k:Int)/\CK w wr s cV k) (fun _ kV _=>24 - (intOf kV).toNat)
 case atStart=>exact ⟨0,by omega,rfl,HS.out⟩
 case round =>
  obtain ⟨k,hk,rfl,hck⟩:=hrel
  obtain ⟨wo,rfl⟩:∃ wo,wo=wr:=⟨_,rfl⟩
  obtain ⟨ca,cc,rfl,hcl,-⟩:=row_form hck.row
  have HCK:=Lib.hid hck
  have hlen:=clauseK_len s k
  clear hck HS
  by_cases hlt:k<24
  ·have c0:=HCK.out.blk.cell 0
   have c1:=HCK.out.blk.cell 1
   simp at c0 c1
   have hi1:(k:Int)<24:=by omega
   have hws:=HCK.out.below.size
   cases hy:s.1.testBit k with
   | true =>
    have hq:=HY.out k
    rw [hy] at hq
    have HL:=Lib.hid (show litOf s k=some ((k:Int) + 1) by unfold litOf;rw [if_pos hy])
    clear hy
    go_wp2_with (first | (at_builtin;refine wpList_append_own_at _ rfl _ _ 81 rfl w.heap.size 3 i0 (.int .i64 0) 1 8 Tryz.underlying81 hin hz0 hz1 hz2 rfl (by decide) _ _ _ rfl (HCK.out.row.alloc _) ⟨wo.heap.size,0,none⟩ 1 1 [.int .i64 ((k:Int) + 1)] rfl rfl ?c1 ?c2 ?c3 ?c4 ?c5 ?_))
    case c1=>exact cell_lit _ _ _
    case c2=>exact one_lit _
    case c3=>unfold maxLen;omega
    case c4=>omega
    case c5=>simp;omega
    intro v7 w7 hown7 hgrow7 _ _
    have HX:=Lib.hid (HCK.out.app HL.out _ hown7 hgrow7)
    clear hown7 hgrow7 c0 c1 hq
    go_wp2
    go_roundw
    case rel=>exact ⟨k + 1,hlt,by go_num,HX.out⟩
    case measure=>simp [intOf];omega
   | false =>
    have hq:=HY.out k
    rw [hy] at hq
    cases hn:s.2.testBit k with
    | true =>
     have hr:=HN.out k
     rw [hn] at hr
     have HL:=Lib.hid (show litOf s k=some (-((k:Int) + 1)) by unfold litOf;rw [hy,if_neg (by simp),if_pos hn])
     clear hy hn
     go_wp2_with (first | (at_builtin;refine wpList_append_own_at _ rfl _ _ 81 rfl w.heap.size 3 i0 (.int .i64 0) 1 8 Tryz.underlying81 hin hz0 hz1 hz2 rfl (by decide) _ _ _ rfl (HCK.out.row.alloc _) ⟨wo.heap.size,0,none⟩ 1 1 [.int .i64 (-((k:Int) + 1))] rfl rfl ?c1 ?c2 ?c3 ?c4 ?c5 ?_))
     case c1=>exact cell_lit _ _ _
     case c2=>exact one_lit _
     case c3=>unfold maxLen;omega
     case c4=>omega
     case c5=>simp;omega
     intro v7 w7 hown7 hgrow7 _ _
     have HX:=Lib.hid (HCK.out.app HL.out _ hown7 hgrow7)
     clear hown7 hgrow7 c0 c1 hq hr
     go_wp2
     go_roundw
     case rel=>exact ⟨k + 1,hlt,by go_num,HX.out⟩
     case measure=>simp [intOf];omega
    | false =>
     have hr:=HN.out k
     rw [hn] at hr
     have HX:=Lib.hid (HCK.out.skip (show litOf s k=none by unfold litOf;rw [hy,hn];simp))
     clear hy hn
     go_wp2
     go_roundw
     case rel=>exact ⟨k + 1,hlt,by go_num,HX.out⟩
     case measure=>simp [intOf];omega
  ·obtain rfl:k=24:=by omega
   have HR:Hid (wo.ownsRow w.heap.size 3 1 (.slice ca (clauseF s).length cc) (clauseF s).length (icells (clauseF s))):=HCK.out.row
   go_wp2
   go_ret
   exact ⟨⟨ca,cc,rfl,HR.out⟩,HCK.out.below⟩
end
section
open Go.RowKit Go.Deep
def formF (c:List Int):List Int × Bool:=if alwaysF (sidesF c)=true then ([],true) else (clauseF (sidesF c),false)
def FormAns (B:Nat) (r:List Int × Bool) (e:Ending) (w':World):Prop:=∃ a cap,e=.returned (.tuple #[.slice a r.1.length cap,.bool r.2])/\w'.ownsRow B 3 1 (.slice a r.1.length cap) r.1.length (icells r.1)
theorem form_any (c:List Int) (a:Option Addr) (cap:Nat) (w:World) (hI:IntsIn w a c) (hm:c.length<=9223372036854775807) :
  Calls Tryz.prog 256 #[.slice a c.length cap] w fun e w'=>FormAns w.heap.size (formF c) e w'/\Below w.heap.size w w':=by
 have HS:=Lib.hid (sidesOf_any c a cap w hI hm)
 have hsm:=sides_small (c)
 have HF:Hid (formF c=if alwaysF (sidesF c)=true then ([],true) else (clauseF (sidesF c),false)):=rfl
 generalize sidesF c=s at *
 have HAL:Hid (∀ W:World,Calls Tryz.prog 298 #[.agg #[.int .u64 (s.1:Int),.int .u64 (s.2:Int)]] W fun e w'=>e=.returned (.bool (alwaysF s))/\Below W.heap.size W w'):=fun W=>always_any s hsm W
 have HCL:Hid (∀ W:World,Calls Tryz.prog 299 #[.agg #[.int .u64 (s.1:Int),.int .u64 (s.2:Int)]] W fun e w'=>OutI W.heap.size (clauseF s) e w'/\Below W.heap.size W w'):=fun W=>clause_any s hsm W
 clear hI hsm
 go_enter Tryz.func256,Tryz.ntmps256
 go_wp2_with fail
 refine HS.out.mono ?_
 rintro e w1 ⟨rfl,hb1⟩
 clear HS
 unfold sidesV
 have HB2:Hid (Below w.heap.size w (w1.alloc (.cells #[.int .u64 (s.1:Int),.int .u64 (s.2:Int)] 405))):=hb1.alloc hb1.size _
 have HK:=Lib.hid (Blk.new w1 405 #[.int .u64 (s.1:Int),.int .u64 (s.2:Int)])
 clear hb1
 go_wp2_with fail
 refine (HAL.out _).mono ?_
 rintro e w2 ⟨rfl,hb2⟩
 have HB3:Hid (Below w.heap.size w w2):=HB2.out.trans (hb2.mono HB2.out.size)
 have hk2:=HK.out.below hb2 HK.out.lt
 have k0:=hk2.cell 0
 have k1:=hk2.cell 1
 simp at k0 k1
 clear hb2 hk2 HAL HK HB2
 cases hal:alwaysF s with
 | true =>
  rw [hal,if_pos rfl] at HF
  clear hal
  go_wp2
  go_ret2
  exact ⟨⟨none,0,by rw [HF.out];rfl,by rw [HF.out];exact World.ownsRow_nil _ _ _ _⟩,HB3.out⟩
 | false =>
  rw [hal,if_neg (by simp)] at HF
  clear hal
  go_wp2_with fail
  refine (HCL.out _).mono ?_
  rintro e w3 ⟨⟨ra,rc,rfl,hrow⟩,hb3⟩
  have HB4:Hid (Below w.heap.size w w3):=HB3.out.trans (hb3.mono HB3.out.size)
  have HR:=Lib.hid (ownsRow_base hrow HB3.out.size)
  clear hb3 hrow HCL
  go_wp2
  go_ret2
  exact ⟨⟨ra,rc,by rw [HF.out];rfl,by rw [HF.out];exact HR.out⟩,HB4.out⟩
end
end Go.Proofs.YtlahnpmoeefapaaGreatDoor
namespace Go.Proofs
open Go.Shelf
def Tryz.lays161_ren:Go.Shelf.Ren:=⟨fun | 161=>237 | 231=>286 | 227=>287 | 233=>288 | 235=>289 | 228=>327 | 197=>295 | 151=>328 | 260=>330 | 152=>343 | 137=>174 | 119=>346 | 224=>292 | 225=>291 | 217=>234 | 266=>283 | n=>n,fun | 9=>9 | 4=>4 | 3=>3 | 5=>5 | 117=>395 | 116=>394 | 0=>0 | 124=>398 | 105=>401 | 21=>21 | 119=>452 | 46=>48 | 139=>455 | 138=>454 | n=>n,fun | 3=>10 | 4=>11 | n=>n⟩
theorem Tryz.lays161:Go.Proofs.Lays.n161 Tryz.prog Tryz.lays161_ren:={
 mixed:=by kernel_rfl
 f119:=Tryz.func346.trans (congrArg some (by kernel_rfl))
 f137:=Tryz.func174.trans (congrArg some (by kernel_rfl))
 f151:=Tryz.func328.trans (congrArg some (by kernel_rfl))
 f152:=Tryz.func343.trans (congrArg some (by kernel_rfl))
 f161:=Tryz.func237.trans (congrArg some (by kernel_rfl))
 f197:=Tryz.func295.trans (congrArg some (by kernel_rfl))
 f217:=Tryz.func234.trans (congrArg some (by kernel_rfl))
 f224:=Tryz.func292.trans (congrArg some (by kernel_rfl))
 f225:=Tryz.func291.trans (congrArg some (by kernel_rfl))
 f227:=Tryz.func287.trans (congrArg some (by kernel_rfl))
 f228:=Tryz.func327.trans (congrArg some (by kernel_rfl))
 f231:=Tryz.func286.trans (congrArg some (by kernel_rfl))
 f233:=Tryz.func288.trans (congrArg some (by kernel_rfl))
 f235:=Tryz.func289.trans (congrArg some (by kernel_rfl))
 f260:=Tryz.func330.trans (congrArg some (by kernel_rfl))
 f266:=Tryz.func283.trans (congrArg some (by kernel_rfl))
 t0:=Tryz.underlying0
 a0:=Tryz.isAgg0
 z0:=Tryz.sizeOf0
 v0:=Tryz.zeroValue0
 t3:=Tryz.underlying3
 a3:=Tryz.isAgg3
 z3:=Tryz.sizeOf3
 v3:=Tryz.zeroValue3
 t4:=Tryz.underlying4
 a4:=Tryz.isAgg4
 z4:=Tryz.sizeOf4
 v4:=Tryz.zeroValue4
 t5:=Tryz.underlying5
 a5:=Tryz.isAgg5
 z5:=Tryz.sizeOf5
 v5:=Tryz.zeroValue5
 t9:=Tryz.underlying9
 a9:=Tryz.isAgg9
 z9:=Tryz.sizeOf9
 v9:=Tryz.zeroValue9
 t21:=Tryz.underlying21
 a21:=Tryz.isAgg21
 z21:=Tryz.sizeOf21
 v21:=Tryz.zeroValue21
 t46:=Tryz.underlying48
 a46:=Tryz.isAgg48
 z46:=Tryz.sizeOf48
 v46:=Tryz.zeroValue48
 t105:=Tryz.underlying401
 a105:=Tryz.isAgg401
 z105:=Tryz.sizeOf401
 v105:=Tryz.zeroValue401
 t116:=Tryz.underlying394
 a116:=Tryz.isAgg394
 z116:=Tryz.sizeOf394
 t117:=Tryz.underlying395
 a117:=Tryz.isAgg395
 z117:=Tryz.sizeOf395
 v117:=Tryz.zeroValue395
 t119:=Tryz.underlying452
 a119:=Tryz.isAgg452
 z119:=Tryz.sizeOf452
 t124:=Tryz.underlying398
 a124:=Tryz.isAgg398
 z124:=Tryz.sizeOf398
 v124:=Tryz.zeroValue398
 t138:=Tryz.underlying454
 a138:=Tryz.isAgg454
 z138:=Tryz.sizeOf454
 v138:=Tryz.zeroValue454
 t139:=Tryz.underlying455
 a139:=Tryz.isAgg455
 z139:=Tryz.sizeOf455
 v139:=Tryz.zeroValue455
 g3:=by kernel_rfl
 g4:=by kernel_rfl }
def Tryz.lays106_ren:Go.Shelf.Ren:=⟨fun | 106=>233 | 213=>282 | 265=>321 | n=>n,fun | 9=>9 | 3=>3 | n=>n,fun | n=>n⟩
theorem Tryz.lays106:Go.Proofs.Lays.n106 Tryz.prog Tryz.lays106_ren:={
 mixed:=by kernel_rfl
 f106:=Tryz.func233.trans (congrArg some (by kernel_rfl))
 f213:=Tryz.func282.trans (congrArg some (by kernel_rfl))
 f265:=Tryz.func321.trans (congrArg some (by kernel_rfl))
 t3:=Tryz.underlying3
 a3:=Tryz.isAgg3
 z3:=Tryz.sizeOf3
 v3:=Tryz.zeroValue3
 t9:=Tryz.underlying9
 a9:=Tryz.isAgg9
 z9:=Tryz.sizeOf9
 v9:=Tryz.zeroValue9 }
open Go.RowKit in
theorem Tryz.strings_Compare (a b:ByteArray) (w:World) :
  Calls Tryz.prog 233 #[.string a,.string b] w fun e w'=>e=.returned (.int .i64 (Lib.compareBytes a.data.toList b.data.toList))/\w'=w:=Any.strings_Compare Tryz.lays106 a b w
def Tryz.laysM173_ren:Go.Shelf.Ren:=⟨fun | 173=>236 | 246=>211 | 283=>207 | 284=>208 | 285=>209 | 286=>210 | 129=>267 | 317=>266 | 318=>268 | 319=>269 | 320=>270 | 337=>307 | 338=>308 | n=>n,fun | 2=>2 | 3=>3 | 9=>9 | 4=>4 | 171=>320 | 0=>0 | 53=>150 | 37=>148 | 5=>5 | 173=>323 | 212=>380 | 51=>381 | 20=>20 | 213=>382 | 46=>48 | 232=>438 | 233=>439 | n=>n,fun | 17=>4 | 18=>6 | 19=>7 | n=>n⟩
theorem Tryz.laysM173:Go.Proofs.LaysM.n173 Tryz.prog Tryz.laysM173_ren:={
 mixed:=by kernel_rfl
 f129:=Tryz.func267.trans (congrArg some (by kernel_rfl))
 f173:=Tryz.func236.trans (congrArg some (by kernel_rfl))
 f246:=Tryz.func211.trans (congrArg some (by kernel_rfl))
 f283:=Tryz.func207.trans (congrArg some (by kernel_rfl))
 f284:=Tryz.func208.trans (congrArg some (by kernel_rfl))
 f285:=Tryz.func209.trans (congrArg some (by kernel_rfl))
 f286:=Tryz.func210.trans (congrArg some (by kernel_rfl))
 f317:=Tryz.func266.trans (congrArg some (by kernel_rfl))
 f318:=Tryz.func268.trans (congrArg some (by kernel_rfl))
 f319:=Tryz.func269.trans (congrArg some (by kernel_rfl))
 f320:=Tryz.func270.trans (congrArg some (by kernel_rfl))
 f337:=Tryz.func307.trans (congrArg some (by kernel_rfl))
 f338:=Tryz.func308.trans (congrArg some (by kernel_rfl))
 t0:=Tryz.underlying0
 a0:=Tryz.isAgg0
 z0:=Tryz.sizeOf0
 v0:=Tryz.zeroValue0
 t2:=Tryz.underlying2
 a2:=Tryz.isAgg2
 z2:=Tryz.sizeOf2
 v2:=Tryz.zeroValue2
 t3:=Tryz.underlying3
 a3:=Tryz.isAgg3
 z3:=Tryz.sizeOf3
 v3:=Tryz.zeroValue3
 t4:=Tryz.underlying4
 a4:=Tryz.isAgg4
 z4:=Tryz.sizeOf4
 v4:=Tryz.zeroValue4
 t5:=Tryz.underlying5
 a5:=Tryz.isAgg5
 z5:=Tryz.sizeOf5
 v5:=Tryz.zeroValue5
 t9:=Tryz.underlying9
 a9:=Tryz.isAgg9
 z9:=Tryz.sizeOf9
 v9:=Tryz.zeroValue9
 t20:=Tryz.underlying20
 a20:=Tryz.isAgg20
 z20:=Tryz.sizeOf20
 v20:=Tryz.zeroValue20
 t37:=Tryz.underlying148
 a37:=Tryz.isAgg148
 z37:=Tryz.sizeOf148
 v37:=Tryz.zeroValue148
 t46:=Tryz.underlying48
 a46:=Tryz.isAgg48
 z46:=Tryz.sizeOf48
 v46:=Tryz.zeroValue48
 t51:=Tryz.underlying381
 a51:=Tryz.isAgg381
 z51:=Tryz.sizeOf381
 v51:=Tryz.zeroValue381
 t53:=Tryz.underlying150
 a53:=Tryz.isAgg150
 z53:=Tryz.sizeOf150
 v53:=Tryz.zeroValue150
 t171:=Tryz.underlying320
 a171:=Tryz.isAgg320
 z171:=Tryz.sizeOf320
 v171:=Tryz.zeroValue320
 t173:=Tryz.underlying323
 a173:=Tryz.isAgg323
 z173:=Tryz.sizeOf323
 v173:=Tryz.zeroValue323
 t212:=Tryz.underlying380
 a212:=Tryz.isAgg380
 z212:=Tryz.sizeOf380
 v212:=Tryz.zeroValue380
 t213:=Tryz.underlying382
 a213:=Tryz.isAgg382
 z213:=Tryz.sizeOf382
 t232:=Tryz.underlying438
 a232:=Tryz.isAgg438
 z232:=Tryz.sizeOf438
 v232:=Tryz.zeroValue438
 t233:=Tryz.underlying439
 a233:=Tryz.isAgg439
 z233:=Tryz.sizeOf439
 v233:=Tryz.zeroValue439
 g17:=by kernel_rfl
 g18:=by kernel_rfl
 g19:=by kernel_rfl
 i0:=by kernel_rfl
 i2:=by kernel_rfl
 i3:=by kernel_rfl
 i4:=by kernel_rfl
 i5:=by kernel_rfl
 i9:=by kernel_rfl
 i20:=by kernel_rfl
 i37:=by kernel_rfl
 i46:=by kernel_rfl
 i51:=by kernel_rfl
 i53:=by kernel_rfl
 i171:=by kernel_rfl
 i173:=by kernel_rfl
 i212:=by kernel_rfl
 i232:=by kernel_rfl
 i233:=by kernel_rfl
 m17:=by kernel_rfl
 m18:=by kernel_rfl
 m19:=by kernel_rfl }
open Go.RowKit Go.Sort Go.Lib in
theorem Tryz.strconv_FormatInt_10 (n:Int) (h0:-9223372036854775808<=n) (h1:n<=9223372036854775807) (w:World) (htab:Lib.TabIs Tryz.prog w "internal/strconv.uint64pow10" .u64 Lib.pow10Tab) :
  Calls Tryz.prog 236 #[.int .i64 n,.int .i64 10] w fun e w'=>e=.returned (.string ⟨(Lib.itoa n).toArray⟩)/\∃ k os,w'=grow (w.drewN k) os:=Any.strconv_FormatInt_10 Tryz.laysM173 n h0 h1 w htab
def Tryz.laysC174_ren:Go.Shelf.Ren:=⟨fun | 174=>235 | 247=>284 | 245=>285 | 287=>322 | 279=>323 | 280=>324 | 281=>325 | 282=>326 | 321=>339 | 322=>340 | 316=>341 | 171=>71 | 205=>342 | 243=>148 | 246=>211 | 283=>207 | 284=>208 | 285=>209 | 286=>210 | 129=>267 | 317=>266 | 318=>268 | 319=>269 | 320=>270 | 337=>307 | 338=>308 | n=>n,fun | 9=>9 | 3=>3 | 2=>2 | 75=>31 | 85=>355 | 4=>4 | 167=>423 | 5=>5 | 53=>150 | 175=>424 | 46=>48 | 168=>426 | 37=>148 | 0=>0 | 210=>449 | 21=>21 | 127=>305 | 145=>460 | 143=>458 | 171=>320 | 173=>323 | 212=>380 | 51=>381 | 20=>20 | 213=>382 | 232=>438 | 233=>439 | 80=>45 | n=>n,fun | 15=>8 | 16=>9 | 17=>4 | 18=>6 | 19=>7 | n=>n⟩
theorem Tryz.laysC174:Go.Proofs.LaysC.n174 Tryz.prog Tryz.laysC174_ren:={
 mixed:=by kernel_rfl
 f129:=Tryz.func267.trans (congrArg some (by kernel_rfl))
 f171:=Tryz.func71.trans (congrArg some (by kernel_rfl))
 f174:=Tryz.func235.trans (congrArg some (by kernel_rfl))
 f205:=Tryz.func342.trans (congrArg some (by kernel_rfl))
 f243:=Tryz.func148.trans (congrArg some (by kernel_rfl))
 f245:=Tryz.func285.trans (congrArg some (by kernel_rfl))
 f246:=Tryz.func211.trans (congrArg some (by kernel_rfl))
 f247:=Tryz.func284.trans (congrArg some (by kernel_rfl))
 f279:=Tryz.func323.trans (congrArg some (by kernel_rfl))
 f280:=Tryz.func324.trans (congrArg some (by kernel_rfl))
 f281:=Tryz.func325.trans (congrArg some (by kernel_rfl))
 f282:=Tryz.func326.trans (congrArg some (by kernel_rfl))
 f283:=Tryz.func207.trans (congrArg some (by kernel_rfl))
 f284:=Tryz.func208.trans (congrArg some (by kernel_rfl))
 f285:=Tryz.func209.trans (congrArg some (by kernel_rfl))
 f286:=Tryz.func210.trans (congrArg some (by kernel_rfl))
 f287:=Tryz.func322.trans (congrArg some (by kernel_rfl))
 f316:=Tryz.func341.trans (congrArg some (by kernel_rfl))
 f317:=Tryz.func266.trans (congrArg some (by kernel_rfl))
 f318:=Tryz.func268.trans (congrArg some (by kernel_rfl))
 f319:=Tryz.func269.trans (congrArg some (by kernel_rfl))
 f320:=Tryz.func270.trans (congrArg some (by kernel_rfl))
 f321:=Tryz.func339.trans (congrArg some (by kernel_rfl))
 f322:=Tryz.func340.trans (congrArg some (by kernel_rfl))
 f337:=Tryz.func307.trans (congrArg some (by kernel_rfl))
 f338:=Tryz.func308.trans (congrArg some (by kernel_rfl))
 t0:=Tryz.underlying0
 a0:=Tryz.isAgg0
 z0:=Tryz.sizeOf0
 v0:=Tryz.zeroValue0
 t2:=Tryz.underlying2
 a2:=Tryz.isAgg2
 z2:=Tryz.sizeOf2
 v2:=Tryz.zeroValue2
 t3:=Tryz.underlying3
 a3:=Tryz.isAgg3
 z3:=Tryz.sizeOf3
 v3:=Tryz.zeroValue3
 t4:=Tryz.underlying4
 a4:=Tryz.isAgg4
 z4:=Tryz.sizeOf4
 v4:=Tryz.zeroValue4
 t5:=Tryz.underlying5
 a5:=Tryz.isAgg5
 z5:=Tryz.sizeOf5
 v5:=Tryz.zeroValue5
 t9:=Tryz.underlying9
 a9:=Tryz.isAgg9
 z9:=Tryz.sizeOf9
 v9:=Tryz.zeroValue9
 t20:=Tryz.underlying20
 a20:=Tryz.isAgg20
 z20:=Tryz.sizeOf20
 v20:=Tryz.zeroValue20
 t21:=Tryz.underlying21
 a21:=Tryz.isAgg21
 z21:=Tryz.sizeOf21
 v21:=Tryz.zeroValue21
 t37:=Tryz.underlying148
 a37:=Tryz.isAgg148
 z37:=Tryz.sizeOf148
 v37:=Tryz.zeroValue148
 t46:=Tryz.underlying48
 a46:=Tryz.isAgg48
 z46:=Tryz.sizeOf48
 v46:=Tryz.zeroValue48
 t51:=Tryz.underlying381
 a51:=Tryz.isAgg381
 z51:=Tryz.sizeOf381
 v51:=Tryz.zeroValue381
 t53:=Tryz.underlying150
 a53:=Tryz.isAgg150
 z53:=Tryz.sizeOf150
 v53:=Tryz.zeroValue150
 t75:=Tryz.underlying31
 a75:=Tryz.isAgg31
 z75:=Tryz.sizeOf31
 v75:=Tryz.zeroValue31
 t85:=Tryz.underlying355
 a85:=Tryz.isAgg355
 z85:=Tryz.sizeOf355
 v85:=Tryz.zeroValue355
 t127:=Tryz.underlying305
 a127:=Tryz.isAgg305
 z127:=Tryz.sizeOf305
 v127:=Tryz.zeroValue305
 t143:=Tryz.underlying458
 a143:=Tryz.isAgg458
 z143:=Tryz.sizeOf458
 v143:=Tryz.zeroValue458
 t145:=Tryz.underlying460
 a145:=Tryz.isAgg460
 z145:=Tryz.sizeOf460
 v145:=Tryz.zeroValue460
 t167:=Tryz.underlying423
 a167:=Tryz.isAgg423
 z167:=Tryz.sizeOf423
 v167:=Tryz.zeroValue423
 t168:=Tryz.underlying426
 a168:=Tryz.isAgg426
 z168:=Tryz.sizeOf426
 v168:=Tryz.zeroValue426
 t171:=Tryz.underlying320
 a171:=Tryz.isAgg320
 z171:=Tryz.sizeOf320
 v171:=Tryz.zeroValue320
 t173:=Tryz.underlying323
 a173:=Tryz.isAgg323
 z173:=Tryz.sizeOf323
 v173:=Tryz.zeroValue323
 t175:=Tryz.underlying424
 a175:=Tryz.isAgg424
 z175:=Tryz.sizeOf424
 v175:=Tryz.zeroValue424
 t210:=Tryz.underlying449
 a210:=Tryz.isAgg449
 z210:=Tryz.sizeOf449
 v210:=Tryz.zeroValue449
 t212:=Tryz.underlying380
 a212:=Tryz.isAgg380
 z212:=Tryz.sizeOf380
 v212:=Tryz.zeroValue380
 t213:=Tryz.underlying382
 a213:=Tryz.isAgg382
 z213:=Tryz.sizeOf382
 t232:=Tryz.underlying438
 a232:=Tryz.isAgg438
 z232:=Tryz.sizeOf438
 v232:=Tryz.zeroValue438
 t233:=Tryz.underlying439
 a233:=Tryz.isAgg439
 z233:=Tryz.sizeOf439
 v233:=Tryz.zeroValue439
 g15:=by kernel_rfl
 g16:=by kernel_rfl
 g17:=by kernel_rfl
 g18:=by kernel_rfl
 g19:=by kernel_rfl
 t80:=Tryz.underlying45
 a80:=Tryz.isAgg45
 z80:=Tryz.sizeOf45
 v80:=Tryz.zeroValue45
 i0:=by kernel_rfl
 i2:=by kernel_rfl
 i3:=by kernel_rfl
 i4:=by kernel_rfl
 i5:=by kernel_rfl
 i9:=by kernel_rfl
 i20:=by kernel_rfl
 i21:=by kernel_rfl
 i37:=by kernel_rfl
 i46:=by kernel_rfl
 i51:=by kernel_rfl
 i53:=by kernel_rfl
 i75:=by kernel_rfl
 i80:=by kernel_rfl
 i85:=by kernel_rfl
 i127:=by kernel_rfl
 i143:=by kernel_rfl
 i145:=by kernel_rfl
 i167:=by kernel_rfl
 i168:=by kernel_rfl
 i171:=by kernel_rfl
 i173:=by kernel_rfl
 i175:=by kernel_rfl
 i210:=by kernel_rfl
 i212:=by kernel_rfl
 i232:=by kernel_rfl
 i233:=by kernel_rfl
 m15:=by kernel_rfl
 m16:=by kernel_rfl
 m17:=by kernel_rfl
 m18:=by kernel_rfl
 m19:=by kernel_rfl
 c0:=by kernel_rfl
 c2:=by kernel_rfl
 c3:=by kernel_rfl
 c4:=by kernel_rfl
 c5:=by kernel_rfl
 c9:=by kernel_rfl
 c20:=by kernel_rfl
 c21:=by kernel_rfl
 c37:=by kernel_rfl
 c46:=by kernel_rfl
 c51:=by kernel_rfl
 c53:=by kernel_rfl
 c75:=by kernel_rfl
 c80:=by kernel_rfl
 c85:=by kernel_rfl
 c127:=by kernel_rfl
 c143:=by kernel_rfl
 c145:=by kernel_rfl
 c167:=by kernel_rfl
 c168:=by kernel_rfl
 c171:=by kernel_rfl
 c173:=by kernel_rfl
 c175:=by kernel_rfl
 c210:=by kernel_rfl
 c212:=by kernel_rfl
 c213:=by kernel_rfl
 c232:=by kernel_rfl
 c233:=by kernel_rfl }
open Go.RowKit in
theorem Tryz.strconv_ParseInt_10_at64_ok (s:ByteArray) (hmax:s.size<=9223372036854775806) (v:Int) (h:Lib.parseIntB 64 s.data.toList=.ok v) (w:World) :
  Calls Tryz.prog 235 #[.string s,.int .i64 10,.int .i64 64] w fun e w'=>e=.returned (.tuple #[.int .i64 v,.nilIface])/\(w'=w\/∃ t,w'=Lib.bytesWorld w 5 t):=Any.strconv_ParseInt_10_at64_ok Tryz.laysC174 s hmax v h w
open Go.RowKit in
theorem Tryz.strconv_ParseInt_10_at64_syntax (s:ByteArray) (hlim:s.size<=281474976710656) (h:Lib.parseIntB 64 s.data.toList=.«syntax») (ev:Value) (w:World) (hv:w.cell? ⟨8,0,none⟩=some ev) (hev:ev=.nilIface\/∃ te pe,ev=.iface te pe) :
  Calls Tryz.prog 235 #[.string s,.int .i64 10,.int .i64 64] w fun e w'=>∃ N,e=.returned (.tuple #[.int .i64 (0),.iface 426 (.pointer (some ⟨N,0,none⟩))])/\w.heap.size<=N/\w'.heap[N]?=some (.cells #[.string ⟨#[80,97,114,115,101,73,110,116]⟩,.string s,ev] 449 (0,0))/\Below w.heap.size w w':=Any.strconv_ParseInt_10_at64_syntax Tryz.laysC174 s hlim h ev w hv hev
open Go.RowKit in
theorem Tryz.strconv_ParseInt_10_at64_range (s:ByteArray) (hlim:s.size<=281474976710656) (h:Lib.parseIntB 64 s.data.toList=.range) (ev:Value) (w:World) (hv:w.cell? ⟨9,0,none⟩=some ev) (hev:ev=.nilIface\/∃ te pe,ev=.iface te pe) :
  Calls Tryz.prog 235 #[.string s,.int .i64 10,.int .i64 64] w fun e w'=>∃ N,e=.returned (.tuple #[.int .i64 (Lib.intSat 64 s.data.toList),.iface 426 (.pointer (some ⟨N,0,none⟩))])/\w.heap.size<=N/\w'.heap[N]?=some (.cells #[.string ⟨#[80,97,114,115,101,73,110,116]⟩,.string s,ev] 449 (0,0))/\Below w.heap.size w w':=Any.strconv_ParseInt_10_at64_range Tryz.laysC174 s hlim h ev w hv hev
def Tryz.lays143_ren:Go.Shelf.Ren:=⟨fun | 143=>223 | 219=>243 | 217=>234 | 225=>291 | 224=>292 | 267=>293 | 266=>283 | 314=>329 | n=>n,fun | 9=>9 | 3=>3 | 4=>4 | 5=>5 | 46=>48 | 146=>431 | 51=>381 | n=>n,fun | 1=>5 | n=>n⟩
theorem Tryz.lays143:Go.Proofs.Lays.n143 Tryz.prog Tryz.lays143_ren:={
 mixed:=by kernel_rfl
 f143:=Tryz.func223.trans (congrArg some (by kernel_rfl))
 f217:=Tryz.func234.trans (congrArg some (by kernel_rfl))
 f219:=Tryz.func243.trans (congrArg some (by kernel_rfl))
 f224:=Tryz.func292.trans (congrArg some (by kernel_rfl))
 f225:=Tryz.func291.trans (congrArg some (by kernel_rfl))
 f266:=Tryz.func283.trans (congrArg some (by kernel_rfl))
 f267:=Tryz.func293.trans (congrArg some (by kernel_rfl))
 f314:=Tryz.func329.trans (congrArg some (by kernel_rfl))
 t3:=Tryz.underlying3
 a3:=Tryz.isAgg3
 z3:=Tryz.sizeOf3
 v3:=Tryz.zeroValue3
 t4:=Tryz.underlying4
 a4:=Tryz.isAgg4
 z4:=Tryz.sizeOf4
 v4:=Tryz.zeroValue4
 t5:=Tryz.underlying5
 a5:=Tryz.isAgg5
 z5:=Tryz.sizeOf5
 v5:=Tryz.zeroValue5
 t9:=Tryz.underlying9
 a9:=Tryz.isAgg9
 z9:=Tryz.sizeOf9
 v9:=Tryz.zeroValue9
 t46:=Tryz.underlying48
 a46:=Tryz.isAgg48
 z46:=Tryz.sizeOf48
 v46:=Tryz.zeroValue48
 t51:=Tryz.underlying381
 a51:=Tryz.isAgg381
 z51:=Tryz.sizeOf381
 v51:=Tryz.zeroValue381
 t146:=Tryz.underlying431
 a146:=Tryz.isAgg431
 z146:=Tryz.sizeOf431
 v146:=Tryz.zeroValue431
 g1:=by kernel_rfl }
open Go.RowKit Go.Lib in
theorem Tryz.strings_Index (s sub:ByteArray) (m:Int) (w:World) (hs:s.size<4294967281) (hm:w.cell? ⟨5,0,none⟩=some (.int .i64 m)) :
  Calls Tryz.prog 223 #[.string s,.string sub] w fun e w'=>e=.returned (.int .i64 (Lib.index s.data.toList sub.data.toList))/\w'=w:=Any.strings_Index Tryz.lays143 s sub m w hs hm
def Tryz.lays145_ren:Go.Shelf.Ren:=⟨fun | 145=>107 | 220=>180 | 219=>243 | 217=>234 | 225=>291 | 224=>292 | 267=>293 | 266=>283 | 314=>329 | n=>n,fun | 9=>9 | 4=>4 | 59=>199 | 3=>3 | 5=>5 | 46=>48 | 146=>431 | 51=>381 | n=>n,fun | 1=>5 | n=>n⟩
theorem Tryz.lays145:Go.Proofs.Lays.n145 Tryz.prog Tryz.lays145_ren:={
 mixed:=by kernel_rfl
 f145:=Tryz.func107.trans (congrArg some (by kernel_rfl))
 f217:=Tryz.func234.trans (congrArg some (by kernel_rfl))
 f219:=Tryz.func243.trans (congrArg some (by kernel_rfl))
 f220:=Tryz.func180.trans (congrArg some (by kernel_rfl))
 f224:=Tryz.func292.trans (congrArg some (by kernel_rfl))
 f225:=Tryz.func291.trans (congrArg some (by kernel_rfl))
 f266:=Tryz.func283.trans (congrArg some (by kernel_rfl))
 f267:=Tryz.func293.trans (congrArg some (by kernel_rfl))
 f314:=Tryz.func329.trans (congrArg some (by kernel_rfl))
 t3:=Tryz.underlying3
 a3:=Tryz.isAgg3
 z3:=Tryz.sizeOf3
 v3:=Tryz.zeroValue3
 t4:=Tryz.underlying4
 a4:=Tryz.isAgg4
 z4:=Tryz.sizeOf4
 v4:=Tryz.zeroValue4
 t5:=Tryz.underlying5
 a5:=Tryz.isAgg5
 z5:=Tryz.sizeOf5
 v5:=Tryz.zeroValue5
 t9:=Tryz.underlying9
 a9:=Tryz.isAgg9
 z9:=Tryz.sizeOf9
 v9:=Tryz.zeroValue9
 t46:=Tryz.underlying48
 a46:=Tryz.isAgg48
 z46:=Tryz.sizeOf48
 v46:=Tryz.zeroValue48
 t51:=Tryz.underlying381
 a51:=Tryz.isAgg381
 z51:=Tryz.sizeOf381
 v51:=Tryz.zeroValue381
 t59:=Tryz.underlying199
 a59:=Tryz.isAgg199
 z59:=Tryz.sizeOf199
 v59:=Tryz.zeroValue199
 t146:=Tryz.underlying431
 a146:=Tryz.isAgg431
 z146:=Tryz.sizeOf431
 v146:=Tryz.zeroValue431
 g1:=by kernel_rfl }
open Go.RowKit Go.Lib in
theorem Tryz.strings_Cut (s sep:ByteArray) (m:Int) (w:World) (hs:s.size<4294967281) (hm:w.cell? ⟨5,0,none⟩=some (.int .i64 m)) :
  Calls Tryz.prog 107 #[.string s,.string sep] w fun e w'=>e=.returned (.tuple #[.string ⟨(Lib.cut s.data.toList sep.data.toList).1.toArray⟩,.string ⟨(Lib.cut s.data.toList sep.data.toList).2.1.toArray⟩,.bool (Lib.cut s.data.toList sep.data.toList).2.2])/\∃ n,w'=w.drewN n:=Any.strings_Cut Tryz.lays145 s sep m w hs hm
def Tryz.lays138_ren:Go.Shelf.Ren:=⟨fun | 138=>181 | 195=>244 | 218=>245 | 143=>223 | 219=>243 | 217=>234 | 225=>291 | 224=>292 | 267=>293 | 266=>283 | 314=>329 | n=>n,fun | 9=>9 | 3=>3 | 4=>4 | 5=>5 | 0=>0 | 46=>48 | 146=>431 | 51=>381 | n=>n,fun | 1=>5 | n=>n⟩
theorem Tryz.lays138:Go.Proofs.Lays.n138 Tryz.prog Tryz.lays138_ren:={
 mixed:=by kernel_rfl
 f138:=Tryz.func181.trans (congrArg some (by kernel_rfl))
 f143:=Tryz.func223.trans (congrArg some (by kernel_rfl))
 f195:=Tryz.func244.trans (congrArg some (by kernel_rfl))
 f217:=Tryz.func234.trans (congrArg some (by kernel_rfl))
 f218:=Tryz.func245.trans (congrArg some (by kernel_rfl))
 f219:=Tryz.func243.trans (congrArg some (by kernel_rfl))
 f224:=Tryz.func292.trans (congrArg some (by kernel_rfl))
 f225:=Tryz.func291.trans (congrArg some (by kernel_rfl))
 f266:=Tryz.func283.trans (congrArg some (by kernel_rfl))
 f267:=Tryz.func293.trans (congrArg some (by kernel_rfl))
 f314:=Tryz.func329.trans (congrArg some (by kernel_rfl))
 t0:=Tryz.underlying0
 a0:=Tryz.isAgg0
 z0:=Tryz.sizeOf0
 v0:=Tryz.zeroValue0
 t3:=Tryz.underlying3
 a3:=Tryz.isAgg3
 z3:=Tryz.sizeOf3
 v3:=Tryz.zeroValue3
 t4:=Tryz.underlying4
 a4:=Tryz.isAgg4
 z4:=Tryz.sizeOf4
 v4:=Tryz.zeroValue4
 t5:=Tryz.underlying5
 a5:=Tryz.isAgg5
 z5:=Tryz.sizeOf5
 v5:=Tryz.zeroValue5
 t9:=Tryz.underlying9
 a9:=Tryz.isAgg9
 z9:=Tryz.sizeOf9
 v9:=Tryz.zeroValue9
 t46:=Tryz.underlying48
 a46:=Tryz.isAgg48
 z46:=Tryz.sizeOf48
 v46:=Tryz.zeroValue48
 t51:=Tryz.underlying381
 a51:=Tryz.isAgg381
 z51:=Tryz.sizeOf381
 v51:=Tryz.zeroValue381
 t146:=Tryz.underlying431
 a146:=Tryz.isAgg431
 z146:=Tryz.sizeOf431
 v146:=Tryz.zeroValue431
 g1:=by kernel_rfl }
open Go.RowKit Go.Lib in
theorem Tryz.strings_Count_one (s:ByteArray) (c:UInt8) (w:World) :
  Calls Tryz.prog 181 #[.string s,.string ⟨#[c]⟩] w fun e w'=>e=.returned (.int .i64 (Lib.countByte s.data.toList c))/\w'=w:=Any.strings_Count_one Tryz.lays138 s c w
end Go.Proofs
