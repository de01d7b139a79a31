/- Maps from handles to ways. -/
import Derived.Test.YtiihalknffbjpaaGreatDoorCnDouble
import Derived.Test.YtiihalknffbjpaaGreatDoorPfForm
import Derived.Test.YtiihalknffbjpaaGreatDoorCnNum
set_option maxHeartbeats 2000000
set_option maxRecDepth 100000
namespace Go.Proofs.YtiihalknffbjpaaGreatDoor.Bd
open Go.RowKit Go.Maps Num
def NatAt (w:World) (v:Value) (m:Nat):Prop:=∃ x:NV,v=x.val/\∃ ds,Dig .u64 w (.slice x.a x.n x.c) ds/\Norm 1000000000 ds/\val 1000000000 ds=m
theorem NatAt.new {w w':World} {v:Value} {m:Nat} (h:NatAt w v m) (hb:Below w.heap.size w w'):NatAt w' v m:=by
 obtain ⟨x,e,ds,h1,h2,h3⟩:=h
 exact ⟨x,e,ds,h1.below hb,h2,h3⟩
theorem NatAt.kept {S:Nat->Prop} {w w':World} {v:Value} {m:Nat} (h:NatAt w v m) (hk:Kept S w w') (hn:∀ b o n,S b->w.cell? ⟨b,o,none⟩ ≠ some (.int .u64 n)):NatAt w' v m:=by
 obtain ⟨x,e,ds,⟨a,cap,hv,hc,hi⟩,h2,h3⟩:=h
 refine ⟨x,e,ds,⟨a,cap,hv,hc,fun i hl=>?_⟩,h2,h3⟩
 obtain ⟨b,off,ha,hb,hcell⟩:=hi i hl
 exact ⟨b,off,ha,Nat.lt_of_lt_of_le hb hk.size,(hk.cell (a:=⟨b,off + i,none⟩) hb (fun hs=>hn b _ _ hs hcell)).trans hcell⟩
theorem natAt_mk {w:World} {s:Value} {ds:List Nat} {m:Nat} (h:Dig .u64 w s ds) (hN:Norm 1000000000 ds) (hv:val 1000000000 ds=m):NatAt w (.agg #[s]) m:=by
 have h0:=h
 obtain ⟨a,cap,e,-⟩:=h0
 subst e
 exact ⟨⟨a,ds.length,cap⟩,rfl,ds,h,hN,hv⟩
theorem NatAt.open {w:World} {v:Value} {m:Nat} (h:NatAt w v m) (hm:m<=100000000):∃ s ds,v=.agg #[s]/\Dig .u64 w s ds/\Norm 1000000000 ds/\val 1000000000 ds=m/\ds.length<=1:=by
 obtain ⟨x,e,ds,h1,h2,h3⟩:=h
 exact ⟨_,ds,e,h1,h2,h3,norm_len (by omega) h2 (by rw [h3];omega)⟩
structure DoneN (w:World) (dk vars:Nat) (ns:List Nd) (L:List (Int × NV)):Prop where
 hmap:∃ D,w.ownsMap Tryz.prog 3 natR dk L.length D/\NRep D L
 keys:∀ p ∈ L,topOf ns p.1 ≠ 24
 nums:∀ p ∈ L,NatAt w p.2.val (belowN vars ns p.1)
section
variable {w w':World} {dk vars:Nat} {ns:List Nd} {L:List (Int × NV)}
theorem DoneN.lt (h:DoneN w dk vars ns L):dk<w.heap.size:=by obtain ⟨D,hD,-⟩:=h.hmap;exact hD.lt
theorem DoneN.none (h:DoneN w dk vars ns L) (o:Nat):w.cell? ⟨dk,o,none⟩=none:=by
 obtain ⟨D,⟨es,clock,hb,-⟩,-⟩:=h.hmap
 unfold World.cell?
 simp only [hb]
theorem DoneN.kept {S:Nat->Prop} (h:DoneN w dk vars ns L) (hk:Kept S w w') (hn:¬ S dk) (hc:∀ b o n,S b->w.cell? ⟨b,o,Option.none⟩ ≠ some (.int .u64 n)):DoneN w' dk vars ns L:=by
 obtain ⟨D,hD,hR⟩:=h.hmap
 exact ⟨⟨D,ownsMap_kept hD hk hn,hR⟩,h.keys,fun p hp=>(h.nums p hp).kept hk hc⟩
theorem DoneN.new (h:DoneN w dk vars ns L) (hb:Below w.heap.size w w'):DoneN w' dk vars ns L:=h.kept (Kept.of_below hb (fun _=>False)) (fun h=>h) (fun _ _ _ h=>h.elim)
theorem DoneN.no (h:DoneN w dk vars ns L) (b o:Nat) (n:Int) (e:b=dk):w.cell? ⟨b,o,Option.none⟩ ≠ some (.int .u64 n):=by rw [e,h.none];exact fun h=>by cases h
theorem box_new (w:World) (o:Nat) (n:Int):(w.alloc (.cells #[.slice none 0 0] 42)).cell? ⟨w.heap.size,o,Option.none⟩ ≠ some (.int .u64 n):=by
 cases o with
 | zero=>simp
 | succ o=>simp
theorem NatAt.box {v:Value} {m bx:Nat} (h:NatAt w v m) (hb:∀ o n,w.cell? ⟨bx,o,Option.none⟩ ≠ some (.int .u64 n)) (u:Value):NatAt (w.setCell ⟨bx,0,Option.none⟩ u) v m :=
 h.kept (S:=fun j=>j=bx) (Kept.setCell _ _ _ rfl) (fun b o n e=>by rw [e];exact hb o n)
theorem DoneN.box {bx:Nat} (h:DoneN w dk vars ns L) (hb:∀ o n,w.cell? ⟨bx,o,Option.none⟩ ≠ some (.int .u64 n)) (hne:bx ≠ dk) (u:Value):DoneN (w.setCell ⟨bx,0,Option.none⟩ u) dk vars ns L :=
 h.kept (S:=fun j=>j=bx) (Kept.setCell _ _ _ rfl) (fun e=>hne e.symm) (fun b o n e=>by rw [e];exact hb o n)
theorem nodup_le:∀ (n:Nat) (l:List Nat),l.Nodup->(∀ x ∈ l,x<n)->l.length<=n
 | 0,l,_,h=>by
  cases l with
  | nil=>simp
  | cons a l=>have:=h a (List.mem_cons_self ..);omega
 | n + 1,l,hd,h=>by
  have ih:=nodup_le n (l.erase n) (hd.erase n) (fun x hx=>by
   have h1:=(hd.mem_erase_iff).1 hx
   have h2:=h x h1.2
   have h3:=h1.1
   omega)
  by_cases hm:n ∈ l
  ·rw [List.length_erase_of_mem hm] at ih;omega
  ·rw [List.erase_of_not_mem hm] at ih;omega
theorem DoneN.len (h:DoneN w dk vars ns L):L.length<=ns.length:=by
 obtain ⟨D,-,hR⟩:=h.hmap
 have hk:∀ p ∈ L,p.1=2 + (pl p.1:Int)/\pl p.1<ns.length:=fun p hp=>⟨(node_at (h.keys p hp)).2.2.2,(node_at (h.keys p hp)).2.1⟩
 have hd:=Rep.nodup hR
 have:=nodup_le ns.length (L.map fun p=>pl p.1) (by
  have e:(L.map fun p=>pl p.1)=(L.map Prod.fst).map pl:=by simp
  rw [e]
  refine (List.nodup_iff_pairwise_ne.1 hd |> fun hp=>?_)
  refine List.nodup_iff_pairwise_ne.2 (List.pairwise_map.2 (hp.imp_of_mem fun {a b} ha hb hab e=>hab ?_))
  obtain ⟨p,hp1,rfl⟩:=List.mem_map.1 ha
  obtain ⟨q,hq1,rfl⟩:=List.mem_map.1 hb
  rw [(hk p hp1).1,(hk q hq1).1,e]) (fun x hx=>by
  obtain ⟨p,hp1,rfl⟩:=List.mem_map.1 hx
  exact (hk p hp1).2)
 simpa using this
end
def CntOut (dk vars:Nat) (ns:List Nd) (m:Nat) (w:World) (e:Ending) (w':World):Prop :=
 ∃ v L',e=.returned v/\NatAt w' v m/\DoneN w' dk vars ns L'/\Kept (fun j=>j=dk) w w'
def BelowOk (B s b dk:Nat) (O:Nat->Prop) (vars:Nat) (room:Int) (ns:List Nd) (d:Nat):Prop :=
 ∀ (h:Int) (L:List (Int × NV)) (w:World),SpaceAt B w s b O vars room ns->DoneN w dk vars ns L->hasB ns h=true->24<=topOf ns h + d ->
  Calls Tryz.prog 165 #[.pointer (some ⟨s,0,none⟩),.int .i64 h,.map (some dk)] w (CntOut dk vars ns (belowN vars ns h) w)
def WaysOk (B s b dk:Nat) (O:Nat->Prop) (vars:Nat) (room:Int) (ns:List Nd) (d:Nat):Prop :=
 ∀ (h:Int) (v:Nat) (L:List (Int × NV)) (w:World),SpaceAt B w s b O vars room ns->DoneN w dk vars ns L->hasB ns h=true->24<=topOf ns h + d->v<=topN vars ns h ->
  Calls Tryz.prog 78 #[.pointer (some ⟨s,0,none⟩),.int .i64 h,.int .i64 (v:Int),.map (some dk)] w (CntOut dk vars ns (waysN vars ns h v) w)
theorem ways_le (vars:Nat) (ns:List Nd) (h:Int) (v:Nat) (hv:vars<=24):waysN vars ns h v<=16777216:=by
 unfold waysN
 have h1:=cntV_le (sem ns h) (vars - v) v (fun _=>false)
 have h2:2 ^ (vars - v)<=2 ^ 24:=Nat.pow_le_pow_right (by omega) (by omega)
 have h3:2 ^ 24=16777216:=by decide
 omega
section
variable {B s b dk:Nat} {O:Nat->Prop} {vars:Nat} {room:Int} {ns:List Nd}
theorem ways_step (hg:Good vars ns) (hl:ns.length<=90000) (hv:vars<=24) {d:Nat} (ih:BelowOk B s b dk O vars room ns d):WaysOk B s b dk O vars room ns d:=by
 intro h v L w hS hD hh hd hvt
 have hi:=has_i64 hh (by omega)
 have hb1:=below_new w (.cells #[.slice none 0 0] 42)
 have HT:Hid (∀ X,Below w.heap.size w X->Calls Tryz.prog 164 #[.pointer (some ⟨b,0,none⟩),.int .i64 h] X fun e w'=>e=.returned (.int .i64 (topOf ns h))/\X=w'):=fun X hX=>spTop (hS.new hX) h hi hl
 have SC:Hid (∀ X,Below w.heap.size w X->X.cell? ⟨s,0,none⟩=some (.pointer (some ⟨b,0,none⟩))/\X.cell? ⟨s,1,none⟩=some (.int .i64 (vars:Int))):=fun X hX=>⟨(hS.new hX).c0,(hS.new hX).c1⟩
 have HC:Hid (∀ X,Below w.heap.size w X->Calls Tryz.prog 165 #[.pointer (some ⟨s,0,none⟩),.int .i64 h,.map (some dk)] X (CntOut dk vars ns (belowN vars ns h) X)):=fun X hX=>ih h L X (hS.new hX) (hD.new hX) hh hd
 have h0:=(topOf_le hg.ranked h).1
 have htop:min (topOf ns h) (vars:Int)=(topN vars ns h:Int):=by unfold topN;omega
 have hgap:=ways_gap hg (h:=h) (topN vars ns h - v) v (by omega)
 have hbl:belowN vars ns h<=16777216:=ways_le vars ns h _ hv
 have htl:topN vars ns h<=24:=by unfold topN;omega
 have hdl:=hD.lt
 have hsl:=hS.slt
 have e1:IntKind.i64.wrap ((topN vars ns h:Int) - (v:Int))=((topN vars ns h - v:Nat):Int):=by
  rw [show ((topN vars ns h:Int) - (v:Int))=((topN vars ns h - v:Nat):Int) by omega]
  exact IntWalk.i64_in _ ⟨by omega,by omega⟩
 have HGAP:=Lib.hid hgap
 have HBL:=Lib.hid hbl
 have HB1:=Lib.hid hb1
 have hS0:=SC.out _ hb1.drew
 have bxl:w.heap.size<(w.alloc (.cells #[.slice none 0 0] 42)).heap.size:=by simp
 have bc:(w.alloc (.cells #[.slice none 0 0] 42)).cell? ⟨w.heap.size,0,none⟩=some (.slice none 0 0):=by simp
 have bf:(w.alloc (.cells #[.slice none 0 0] 42)).frozen? ⟨w.heap.size,0,none⟩=false:=by simp
 have bo:∀ o n,(w.alloc (.cells #[.slice none 0 0] 42)).drew.cell? ⟨w.heap.size,o,none⟩ ≠ some (.int .u64 n):=fun o n=>box_new w o n
 have BO:=Lib.hid bo
 clear bo
 have HTP:=Lib.hid htop
 have E1:=Lib.hid e1
 clear ih hS hD hg hh hgap hbl hb1 htop e1
 generalize belowN vars ns h=m at *
 generalize waysN vars ns h v=r at *
 generalize topN vars ns h=tn at *
 generalize topOf ns h=tp at *
 go_enter Tryz.func78,Tryz.ntmps78
 go_wp2_with fail
 go_region_held3 (fun X=>X.cell? ⟨s,0,none⟩=some (.pointer (some ⟨b,0,none⟩))/\X.cell? ⟨s,1,none⟩=some (.int .i64 (vars:Int))) (exact hS0)
  (first | (go_at_call 164;with_reducible refine (HT.out _ HB1.out.drew).mono ?_;rintro e wz ⟨rfl,rfl⟩))
 simp only [HTP.out]
 have HC1:=Lib.hid (HC.out _ HB1.out.drew)
 have HB2:=Lib.hid HB1.out.drew
 have bxl2:w.heap.size<(w.alloc (.cells #[.slice none 0 0] 42)).drew.heap.size:=bxl
 have bc2:(w.alloc (.cells #[.slice none 0 0] 42)).drew.cell? ⟨w.heap.size,0,none⟩=some (.slice none 0 0):=bc
 have bf2:(w.alloc (.cells #[.slice none 0 0] 42)).drew.frozen? ⟨w.heap.size,0,none⟩=false:=bf
 clear HC HT SC hS0 HB1 bxl bc bf
 generalize (w.alloc (.cells #[.slice none 0 0] 42)).drew=W1 at *
 go_wp2_with fail
 refine HC1.out.mono ?_
 rintro e w2 ⟨v2,L2,rfl,hn2,hD2,hk2⟩
 obtain ⟨s2,ds2,rfl,hdg,hnm,hvl,hlen⟩:=hn2.open (by have:=HBL.out;omega)
 have hdo:=double_any s2 ds2 ((tn - v:Nat):Int) w2 hdg hnm (by omega) (by omega) (by omega)
 rw [hvl] at hdo
 have HDO:=Lib.hid hdo
 have hne:w.heap.size ≠ dk:=by omega
 have bc3:=(hk2.cell (a:=⟨w.heap.size,0,none⟩) bxl2 hne).trans bc2
 have bf3:=(hk2.frozen (a:=⟨w.heap.size,0,none⟩) bxl2 hne).trans bf2
 have bxl3:=Nat.lt_of_lt_of_le bxl2 hk2.size
 have HKC:Hid (∀ o,w2.cell? ⟨w.heap.size,o,none⟩=W1.cell? ⟨w.heap.size,o,none⟩):=fun o=>hk2.cell (a:=⟨w.heap.size,o,none⟩) bxl2 hne
 have HK2:=Lib.hid ((Kept.of_below HB2.out (fun j=>j=dk)).trans hk2)
 have HD2:=Lib.hid hD2
 have e2:=E1.out
 clear HC1 hn2 hD2 hk2 hdg hnm hvl hlen hdo bc2 bf2 bxl2
 go_wp2_with fail
 refine HDO.out.mono ?_
 rintro e w3 ⟨v3,rfl,ds3,hdg3,hnm3,hvl3,-,hb3⟩
 have hnat:=natAt_mk hdg3 hnm3 hvl3
 have hmn:(min ((tn - v:Nat):Int) 1000).toNat=tn - v:=by omega
 rw [hmn,<- HGAP.out] at hnat
 obtain ⟨a3,c3,e3,-⟩:=id hdg3
 subst e3
 have bc4:=(hb3.cell (p:=⟨w.heap.size,0,none⟩) bxl3).trans bc3
 have bf4:=(hb3.frozen (p:=⟨w.heap.size,0,none⟩) bxl3).trans bf3
 have hcs:(w3.setCell ⟨w.heap.size,0,none⟩ (.slice a3 ds3.length c3)).cell? ⟨w.heap.size,0,none⟩=some (.slice a3 ds3.length c3):=World.cell?_setCell_same _ _ _ bc4
 have hno:∀ o n,w3.cell? ⟨w.heap.size,o,none⟩ ≠ some (.int .u64 n):=fun o n=>by
  rw [hb3.cell (p:=⟨w.heap.size,o,none⟩) bxl3,HKC.out o]
  exact BO.out o n
 have hk3:Kept (fun j=>j=dk) w (w3.setCell ⟨w.heap.size,0,none⟩ (.slice a3 ds3.length c3)):=(HK2.out.trans (Kept.of_below hb3 _)).andThen (Kept.setCell (S:=fun j=>j=w.heap.size) _ _ _ rfl) (fun i hi hlt=>by omega)
 have HFIN:Hid (CntOut dk vars ns r w (.returned (.agg #[.slice a3 ds3.length c3])) (w3.setCell ⟨w.heap.size,0,none⟩ (.slice a3 ds3.length c3))):=⟨_,L2,rfl,hnat.box hno _,(HD2.out.new hb3).box hno hne _,hk3⟩
 clear hdg3 hnm3 hvl3 hnat hno hk3 HK2 HD2 HDO hb3 bc3 bf3
 go_wp2
 refine bodyPost_ret (v:=.agg #[.slice a3 ds3.length c3]) (by simp [results,Tryz.results78,go_sem,hcs]) rfl HFIN.out
end
end Go.Proofs.YtiihalknffbjpaaGreatDoor.Bd
namespace Go.Proofs.YtiihalknffbjpaaGreatDoor.Bd
open Go.RowKit Go.Maps
def Wy.dat (x:Wy):DataW Unit:=.agg [.lit (.int .i64 (x.items:Int)),.lit (.int .i64 x.cost),.lit (.bool x.can)]
theorem Wy.dat_inj {x y:Wy} (h:x.dat=y.dat):x=y:=by
 obtain ⟨a,b,c⟩:=x
 obtain ⟨d,e,f⟩:=y
 simp [Wy.dat] at h ⊢
 obtain ⟨h1,h2,h3⟩:=h
 exact ⟨by omega,h2,h3⟩
def wayR (v:Value):Option (DataW Unit × List MemPlace) :=
 match v with
 | .agg cs =>
  match cs.toList with
  | [.int .u64 a,.int .i64 b,.bool c]=>if 0<=a then some (Wy.dat ⟨a.toNat,b,c⟩,[]) else none
  | _=>none
 | _=>none
theorem wayR_val (x:Wy):wayR x.val=some (x.dat,[]):=by
 unfold wayR Wy.val
 simp
theorem wayR_inv {v:Value} {x:Wy} {ps:List MemPlace} (h:wayR v=some (x.dat,ps)):v=x.val:=by
 unfold wayR at h
 split at h
 ·rename_i cs
  split at h
  ·rename_i a b c e
   split at h
   ·rename_i h0
    simp only [Option.some.injEq,Prod.mk.injEq] at h
    rw [<- Wy.dat_inj h.1]
    have:cs=#[.int .u64 a,.int .i64 b,.bool c]:=by cases cs;simp at e;rw [e]
    rw [this]
    unfold Wy.val
    simp only [Int.toNat_of_nonneg h0]
   ·cases h
  ·cases h
 ·cases h
theorem zeroWay (w:World):(zeroValue 279).run Tryz.prog w=.ok (Wy.val ⟨0,0,false⟩) w:=by kernel_rfl
def WRep (D:DataW Unit) (L:List (Int × Wy)):Prop:=Rep I64 (fun x=>Lit.int .i64 x) Wy.dat D L
section
variable {w:World} {bm n:Nat} {D:DataW Unit} {L:List (Int × Wy)}
theorem wlook_found (hD:w.ownsMap Tryz.prog 3 wayR bm n D) (hR:WRep D L) {p:Int × Wy} (hp:p ∈ L) :
  (Instr.lookup 355 (.map (some bm)) (.int .i64 p.1) true).run Tryz.prog w=.ok (.tuple #[p.2.val,.bool true]) w:=by
 obtain ⟨v,ps,hrun,hv⟩:=hD.look_ok lawI Tryz.underlying355 (zeroWay w) (wayR_val ⟨0,0,false⟩) (keyI (Rep.oks hR p hp))
 rw [Rep.at' hR p hp] at hv
 rw [(Rep.has hR p.1 (Rep.oks hR p hp)).2 (List.mem_map_of_mem hp),wayR_inv hv] at hrun
 exact hrun
theorem wlook_none (hD:w.ownsMap Tryz.prog 3 wayR bm n D) (hR:WRep D L) {a:Int} (ha:I64 a) (hn:a ∉ L.map Prod.fst) :
  (Instr.lookup 355 (.map (some bm)) (.int .i64 a) true).run Tryz.prog w=.ok (.tuple #[Wy.val ⟨0,0,false⟩,.bool false]) w:=by
 obtain ⟨v,ps,hrun,hv⟩:=hD.look_ok lawI Tryz.underlying355 (zeroWay w) (wayR_val ⟨0,0,false⟩) (keyI ha)
 have hh:=Rep.not hR ha hn
 rw [atKey_of_not_has hh] at hv
 rw [hh,wayR_inv hv] at hrun
 exact hrun
theorem wstore (hD:w.ownsMap Tryz.prog 3 wayR bm L.length D) (hR:WRep D L) (hl:L.length<1000000) {a:Int} (ha:I64 a) (hn:a ∉ L.map Prod.fst) (x:Wy) :
  ∃ w' D',(Instr.mapUpdate 355 (.map (some bm)) (.int .i64 a) x.val).run Tryz.prog w=.ok () w'/\w'.ownsMap Tryz.prog 3 wayR bm (L++[(a,x)]).length D'/\WRep D' (L++[(a,x)])/\Kept (fun k=>k=bm) w w':=by
 obtain ⟨w',hrun,h1,h2⟩:=hD.update lawI Tryz.underlying355 (by unfold maxLen;omega) (keyI ha) (wayR_val x)
 have hR':WRep (D.put (.int .i64 a) x.dat) (L++[(a,x)]):=Rep.put hR (fun a b _ _ e=>by injection e) (fun _=>trivial) ha hn x
 exact ⟨w',_,hrun,hR'.size ▸ ownsMap_norm h1,hR',Kept.of_grown h2 (fun i h=>by cases h;rfl)⟩
end
structure WayM (C:Cost) (w:World) (dk vars:Nat) (ns:List Nd) (L:List (Int × Wy)):Prop where
 hmap:∃ D,w.ownsMap Tryz.prog 3 wayR dk L.length D/\WRep D L
 keys:∀ p ∈ L,topOf ns p.1 ≠ 24
 vals:∀ p ∈ L,p.2=belowW C vars ns p.1
 nodup:(L.map Prod.fst).Nodup
section
variable {C:Cost} {w w':World} {dk vars:Nat} {ns:List Nd} {L:List (Int × Wy)}
theorem WayM.lt (h:WayM C w dk vars ns L):dk<w.heap.size:=by obtain ⟨D,hD,-⟩:=h.hmap;exact hD.lt
theorem WayM.kept {S:Nat->Prop} (h:WayM C w dk vars ns L) (hk:Kept S w w') (hn:¬ S dk):WayM C w' dk vars ns L:=by
 obtain ⟨D,hD,hR⟩:=h.hmap
 exact ⟨⟨D,ownsMap_kept hD hk hn,hR⟩,h.keys,h.vals,h.nodup⟩
theorem WayM.new (h:WayM C w dk vars ns L) (hb:Below w.heap.size w w'):WayM C w' dk vars ns L:=h.kept (Kept.of_below hb (fun _=>False)) (fun h=>h)
theorem WayM.len (h:WayM C w dk vars ns L):L.length<=ns.length:=by
 have h1:(L.map fun p=>pl p.1).length<=ns.length:=by
  refine nodup_le _ _ ?_ ?_
  ·have:=h.nodup
   rw [List.nodup_iff_pairwise_ne,List.pairwise_map] at this ⊢
   refine List.Pairwise.imp_of_mem ?_ this
   intro a b ha hb hne e
   have h1:=node_at (h.keys a ha)
   have h2:=node_at (h.keys b hb)
   apply hne
   rw [h1.2.2.2,h2.2.2.2,e]
  ·intro x hx
   obtain ⟨p,hp,rfl⟩:=List.mem_map.1 hx
   exact (node_at (h.keys p hp)).2.1
 simpa using h1
end
end Go.Proofs.YtiihalknffbjpaaGreatDoor.Bd
