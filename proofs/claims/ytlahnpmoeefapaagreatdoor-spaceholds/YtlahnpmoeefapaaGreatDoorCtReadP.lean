/- What read tells, plain. -/
import Derived.Test.YtlahnpmoeefapaaGreatDoorClDecide
import Derived.Test.YtlahnpmoeefapaaGreatDoorClRefuteW
import Derived.Test.YtlahnpmoeefapaaGreatDoorClStep
import Derived.Test.YtlahnpmoeefapaaGreatDoorProg
import Derived.Shelf.SlGeneric
import Derived.Shelf.SlicesE.Clone
import Derived.Shelf.SlicesG.Delete
import Derived.Lib.OwnBridge
set_option maxHeartbeats 4000000
set_option maxRecDepth 100000
namespace Go.Proofs.YtlahnpmoeefapaaGreatDoor
section
open Go.RowKit Go.Deep
section
variable {v:Nat} {l:List (List Int)} {s:St}
theorem step_tell {i x:Int} (h:nextF s.told (l++s.prf)=(i,x)) (hx:x ≠ 0):stepF v l s=.inl ⟨s.told++[x],s.decs,s.prf⟩:=by
  unfold stepF;rw [h,if_pos hx]
theorem step_unsat {i:Int} (h:nextF s.told (l++s.prf)=(i,0)) (hi:0<=i) (hd:s.decs=[]):stepF v l s=.inr (.unsat (s.prf++[refC s.decs])):=by
  unfold stepF;rw [h,if_neg (by simp),if_pos hi,hd];rfl
theorem step_limit {i:Int} {ds:List (Int × List Int)} {d:Int × List Int} (h:nextF s.told (l++s.prf)=(i,0)) (hi:0<=i) (hd:s.decs=ds++[d]) (hp:s.prf.length + 1=2000):stepF v l s=.inr .limit:=by
  unfold stepF;rw [h,if_neg (by simp),if_pos hi,hd];simp [hp]
theorem step_back {i:Int} {ds:List (Int × List Int)} {d:Int × List Int} (h:nextF s.told (l++s.prf)=(i,0)) (hi:0<=i) (hd:s.decs=ds++[d]) (hp:s.prf.length + 1 ≠ 2000):stepF v l s=.inl ⟨d.2,ds,s.prf++[refC s.decs]⟩:=by
  unfold stepF;rw [h,if_neg (by simp),if_pos hi,hd];simp [hp]
theorem step_sat {i:Int} (h:nextF s.told (l++s.prf)=(i,0)) (hi:i<0) (hl:leastF v s.told<0):stepF v l s=.inr (.sat s.told):=by
  unfold stepF;rw [h,if_neg (by simp),if_neg (by simp;omega),if_pos hl]
theorem step_dec {i:Int} (h:nextF s.told (l++s.prf)=(i,0)) (hi:i<0) (hl:¬ leastF v s.told<0):stepF v l s=.inl ⟨s.told++[leastF v s.told + 1],s.decs++[(leastF v s.told + 1,s.told)],s.prf⟩:=by
  unfold stepF;rw [h,if_neg (by simp),if_neg (by simp;omega),if_neg hl]
end
def SolveR (v:Int) (l:List (List Int)) (e:Ending) (w':World):Prop :=
  ((checkF v l).1 ≠ 0/\∃ er,e=.returned (.tuple #[.agg #[.bool false,.int .u64 0,.slice none 0 0],er])/\ErrIs w' er (checkF v l).1 (checkF v l).2) \/
  ((checkF v l).1=0/\∃ r,Run v.toNat l st0 r /\
    ((∃ t,r=.sat t/\e=.returned (.tuple #[.agg #[.bool true,.int .u64 ((numF t 24:Nat):Int),.slice none 0 0],.nilIface])) \/
     (∃ p a c,r=.unsat p/\e=.returned (.tuple #[.agg #[.bool false,.int .u64 0,.slice a p.length c],.nilIface])/\ClsIn w' a p) \/
     (r=.limit/\e=.returned (.tuple #[.agg #[.bool false,.int .u64 0,.slice none 0 0],.iface 57 (.int .i64 4)]))))
structure Put3 (W:World) (b:Nat) (x0 x1 x2 y0 y1 y2:Value):Prop where
  a0:W.cell? ⟨b,0,none⟩=some x0
  f0:W.frozen? ⟨b,0,none⟩=false
  a1:(W.setCell ⟨b,0,none⟩ y0).cell? ⟨b,1,none⟩=some x1
  f1:(W.setCell ⟨b,0,none⟩ y0).frozen? ⟨b,1,none⟩=false
  a2:((W.setCell ⟨b,0,none⟩ y0).setCell ⟨b,1,none⟩ y1).cell? ⟨b,2,none⟩=some x2
  f2:((W.setCell ⟨b,0,none⟩ y0).setCell ⟨b,1,none⟩ y1).frozen? ⟨b,2,none⟩=false
  r0:(((W.setCell ⟨b,0,none⟩ y0).setCell ⟨b,1,none⟩ y1).setCell ⟨b,2,none⟩ y2).cell? ⟨b,0,none⟩=some y0
  r1:(((W.setCell ⟨b,0,none⟩ y0).setCell ⟨b,1,none⟩ y1).setCell ⟨b,2,none⟩ y2).cell? ⟨b,1,none⟩=some y1
  r2:(((W.setCell ⟨b,0,none⟩ y0).setCell ⟨b,1,none⟩ y1).setCell ⟨b,2,none⟩ y2).cell? ⟨b,2,none⟩=some y2
theorem put3 {W:World} {b:Nat} {t:TypeId} {x0 x1 x2:Value} (h:Blk W b t #[x0,x1,x2]) (y0 y1 y2:Value):Put3 W b x0 x1 x2 y0 y1 y2:=by
  have h1:=h.set (i:=0) (v:=y0)
  have h2:=h1.set (i:=1) (v:=y1)
  have h3:=h2.set (i:=2) (v:=y2)
  exact ⟨h.cell 0,h.frozen 0,h1.cell 1,h1.frozen 1,h2.cell 2,h2.frozen 2,h3.cell 0,h3.cell 1,h3.cell 2⟩
theorem ErrIs.set3 {W:World} {b:Nat} {e:Value} {m pl:Int} (h:ErrIs W e m pl) (hb:W.cell? ⟨b,0,none⟩=some (.bool false)) (y0 y1 y2:Value):ErrIs (((W.setCell ⟨b,0,none⟩ y0).setCell ⟨b,1,none⟩ y1).setCell ⟨b,2,none⟩ y2) e m pl:=by
  rcases h with h | h | ⟨h0,k,h1,h2,h3,h4⟩
  · exact Or.inl h
  · exact Or.inr (Or.inl h)
  · have hk:k ≠ b:=fun e=>by rw [e,hb] at h3;cases h3
    refine Or.inr (Or.inr ⟨h0,k,by simpa [World.setCell] using h1,h2,?_,?_⟩)
    · rw [World.cell?_setCell_other _ _ _ _ (fun e=>hk (congrArg Addr.block e).symm),World.cell?_setCell_other _ _ _ _ (fun e=>hk (congrArg Addr.block e).symm),World.cell?_setCell_other _ _ _ _ (fun e=>hk (congrArg Addr.block e).symm)];exact h3
    · rw [World.cell?_setCell_other _ _ _ _ (fun e=>hk (congrArg Addr.block e).symm),World.cell?_setCell_other _ _ _ _ (fun e=>hk (congrArg Addr.block e).symm),World.cell?_setCell_other _ _ _ _ (fun e=>hk (congrArg Addr.block e).symm)];exact h4
theorem cls_set3 {B b:Nat} {W:World} {t:TypeId} {cs:Array Value} {ps:List Value} {p:List (List Int)} {a:Option Addr} {c:Nat} (hb:Blk W b t cs) (ht:t ≠ 3) (ht2:t ≠ 81) (hk:ClsK 0 W ps p) (hr:W.ownsRow B 81 1 (.slice a p.length c) p.length ps) (y0 y1 y2:Value) :
    ClsIn (((W.setCell ⟨b,0,none⟩ y0).setCell ⟨b,1,none⟩ y1).setCell ⟨b,2,none⟩ y2) a p:=by
  have h1:=hb.set (i:=0) (v:=y0)
  have h2:=h1.set (i:=1) (v:=y1)
  have k1:=hk.kp (Kp.set (B:=0) (i:=0) (v:=y0) (Nat.zero_le _) hb ht)
  have k2:=k1.kp (Kp.set (B:=0) (i:=1) (v:=y1) (Nat.zero_le _) h1 ht)
  have k3:=k2.kp (Kp.set (B:=0) (i:=2) (v:=y2) (Nat.zero_le _) h2 ht)
  have r1:=ownsRow_setCell_other hr (a:=⟨b,0,none⟩) (ownBlock_ne' hr hb ht2) y0
  have r2:=ownsRow_setCell_other r1 (a:=⟨b,1,none⟩) (ownBlock_ne' r1 h1 ht2) y1
  have r3:=ownsRow_setCell_other r2 (a:=⟨b,2,none⟩) (ownBlock_ne' r2 h2 ht2) y2
  exact ClsK.cls ⟨k3.1,fun i hi=>by
    obtain ⟨a',cap,q1,q2,q3,q4⟩:=k3.2 i hi
    exact ⟨a',cap,q1,q2,q3,q4.more⟩⟩ r3
structure SS (w wr:World) (rb sb:Nat) (v:Nat) (l:List (List Int)) (s:St) (r:Res) (cV dV pV:Value):Prop where
  at':SAt (rb + 1) wr sb l s cV dV pV
  good:Good v s
  run:Run v l s r
  below:Below rb w wr
  blk:Blk wr rb 72 #[.bool false,.int .u64 0,.slice none 0 0]
theorem infoSearch:(Tryz.prog.info? 171).map (·.size)=some 27:=by kernel_rfl
theorem search_one (va:Option Addr) (n vc:Nat):(#[.slice va n vc,.int .i8 0,.int .i8 0,.int .i8 0,.int .i8 0,.int .i8 0,.int .i8 0,.int .i8 0,.int .i8 0,.int .i8 0,.int .i8 0,.int .i8 0,.int .i8 0,.int .i8 0,.int .i8 0,.int .i8 0,.int .i8 0,.int .i8 0,.int .i8 0,.int .i8 0,.int .i8 0,.int .i8 0,.int .i8 0,.int .i8 0,.int .i8 0,.slice none 0 0,.slice none 0 0]:Array Value).all (·.oneCell')=true :=
  all_oneCell_toArray (cs:=[.slice va n vc,.int .i8 0,.int .i8 0,.int .i8 0,.int .i8 0,.int .i8 0,.int .i8 0,.int .i8 0,.int .i8 0,.int .i8 0,.int .i8 0,.int .i8 0,.int .i8 0,.int .i8 0,.int .i8 0,.int .i8 0,.int .i8 0,.int .i8 0,.int .i8 0,.int .i8 0,.int .i8 0,.int .i8 0,.int .i8 0,.int .i8 0,.int .i8 0,.slice none 0 0,.slice none 0 0]) (fun v hv=>by
    rcases List.mem_cons.1 hv with rfl | hv
    · rfl
    · have:∀ u ∈ ([.int .i8 0,.int .i8 0,.int .i8 0,.int .i8 0,.int .i8 0,.int .i8 0,.int .i8 0,.int .i8 0,.int .i8 0,.int .i8 0,.int .i8 0,.int .i8 0,.int .i8 0,.int .i8 0,.int .i8 0,.int .i8 0,.int .i8 0,.int .i8 0,.int .i8 0,.int .i8 0,.int .i8 0,.int .i8 0,.int .i8 0,.int .i8 0,.slice none 0 0,.slice none 0 0]:List Value),u.oneCell'=true:=by decide
      exact this v hv)
theorem ss_start {w w1 w2 WS:World} {n:Nat} {l:List (List Int)} {r:Res} {va:Option Addr} {vc:Nat} {cs:List Value} (hbn:Below w2.heap.size w2 WS) (hbs:Blk WS w2.heap.size 171 #[.slice none 0 0,.int .i8 0,.int .i8 0,.int .i8 0,.int .i8 0,.int .i8 0,.int .i8 0,.int .i8 0,.int .i8 0,.int .i8 0,.int .i8 0,.int .i8 0,.int .i8 0,.int .i8 0,.int .i8 0,.int .i8 0,.int .i8 0,.int .i8 0,.int .i8 0,.int .i8 0,.int .i8 0,.int .i8 0,.int .i8 0,.int .i8 0,.int .i8 0,.slice none 0 0,.slice none 0 0]) (hrow:w2.ownsRow w1.heap.size 81 1 (.slice va l.length vc) l.length cs) (hck:ClsK (w.heap.size + 1) w2 cs l) (hs1:w.heap.size + 1<=w1.heap.size) (hs2:w1.heap.size<=w2.heap.size) (hB1:Below w.heap.size w w1) (hBL:Blk w1 w.heap.size 72 #[.bool false,.int .u64 0,.slice none 0 0]) (hb2:Below w1.heap.size w1 w2) (hrun:Run n l st0 r) :
    SS w (WS.setCells w2.heap.size 0 [.slice va l.length vc,.int .i8 0,.int .i8 0,.int .i8 0,.int .i8 0,.int .i8 0,.int .i8 0,.int .i8 0,.int .i8 0,.int .i8 0,.int .i8 0,.int .i8 0,.int .i8 0,.int .i8 0,.int .i8 0,.int .i8 0,.int .i8 0,.int .i8 0,.int .i8 0,.int .i8 0,.int .i8 0,.int .i8 0,.int .i8 0,.int .i8 0,.int .i8 0,.slice none 0 0,.slice none 0 0]) w.heap.size w2.heap.size n l st0 r (.slice va l.length vc) (.slice none 0 0) (.slice none 0 0)/\WS.there w2.heap.size 0 27:=by
  have hrowS:=row_new' (ownsRow_base hrow hs1) hbn
  have hne:=ownBlock_ne' hrowS hbs (by decide)
  have hset:=set_range (cs:=[.slice none 0 0,.int .i8 0,.int .i8 0,.int .i8 0,.int .i8 0,.int .i8 0,.int .i8 0,.int .i8 0,.int .i8 0,.int .i8 0,.int .i8 0,.int .i8 0,.int .i8 0,.int .i8 0,.int .i8 0,.int .i8 0,.int .i8 0,.int .i8 0,.int .i8 0,.int .i8 0,.int .i8 0,.int .i8 0,.int .i8 0,.int .i8 0,.int .i8 0,.slice none 0 0,.slice none 0 0]) hbs [.slice va l.length vc,.int .i8 0,.int .i8 0,.int .i8 0,.int .i8 0,.int .i8 0,.int .i8 0,.int .i8 0,.int .i8 0,.int .i8 0,.int .i8 0,.int .i8 0,.int .i8 0,.int .i8 0,.int .i8 0,.int .i8 0,.int .i8 0,.int .i8 0,.int .i8 0,.int .i8 0,.int .i8 0,.int .i8 0,.int .i8 0,.int .i8 0,.int .i8 0,.slice none 0 0,.slice none 0 0] 0 (by simp)
  have hblA:=(hBL.below hb2 hBL.lt).below hbn (hBL.below hb2 hBL.lt).lt
  have hkp:Kp (w.heap.size + 1) WS (WS.setCells w2.heap.size 0 [.slice va l.length vc,.int .i8 0,.int .i8 0,.int .i8 0,.int .i8 0,.int .i8 0,.int .i8 0,.int .i8 0,.int .i8 0,.int .i8 0,.int .i8 0,.int .i8 0,.int .i8 0,.int .i8 0,.int .i8 0,.int .i8 0,.int .i8 0,.int .i8 0,.int .i8 0,.int .i8 0,.int .i8 0,.int .i8 0,.int .i8 0,.int .i8 0,.int .i8 0,.slice none 0 0,.slice none 0 0]):=kp_cells (by omega) (by decide) _ _ _ _ hbs
  refine ⟨⟨⟨hset,by omega,⟨cs,?_,?_⟩,⟨[],World.ownsRow_nil _ _ _ _,ClsK.nil⟩,World.ownsRow_nil _ _ _ _,?_⟩,good0 n,hrun,below_cells (by omega) _ _ _ ((hB1.trans (hb2.mono hB1.size)).trans (hbn.mono (by omega))),?_⟩,?_⟩
  · have:=clRow_cells hne [.slice va l.length vc,.int .i8 0,.int .i8 0,.int .i8 0,.int .i8 0,.int .i8 0,.int .i8 0,.int .i8 0,.int .i8 0,.int .i8 0,.int .i8 0,.int .i8 0,.int .i8 0,.int .i8 0,.int .i8 0,.int .i8 0,.int .i8 0,.int .i8 0,.int .i8 0,.int .i8 0,.int .i8 0,.int .i8 0,.int .i8 0,.int .i8 0,.int .i8 0,.slice none 0 0,.slice none 0 0] 0 _ hrowS
    simpa [st0] using this
  · have:=(hck.kp (Kp.new (B:=w.heap.size + 1) hbn)).kp hkp
    simpa [st0] using this
  · cases va with
    | none=>exact Or.inl rfl
    | some ad=>exact Or.inr (by simp [Value.ownBlock])
  · have:=hkp.block w.heap.size hblA.lt (Or.inl (by omega))
    exact this.trans hblA
  · intro j hj
    refine ⟨?_,hbs.frozen _⟩
    rw [hbs.cell,Nat.zero_add,Array.getElem?_eq_getElem (by simpa using hj)]
    rfl
theorem solve_any (v:Int) (l:List (List Int)) (a:Option Addr) (cap:Nat) (hn:a=none->cap=0) (w:World) (hI:ClsIn w a l) (hm:l.length<=9223372036854775807) :
    Calls Tryz.prog 34 #[.int .i64 v,.slice a l.length cap] w fun e w'=>SolveR v l e w'/\Below w.heap.size w w':=by
  have hbA:=below_new w (.cells #[.bool false,.int .u64 0,.slice none 0 0] 72)
  have hIA:=hI.below hbA
  have hblkA:=Blk.new w 72 #[.bool false,.int .u64 0,.slice none 0 0]
  have HCH:=Lib.hid (check_any v l a cap _ hIA hm)
  have hszA:(w.alloc (.cells #[.bool false,.int .u64 0,.slice none 0 0] 72)).heap.size=w.heap.size + 1:=by simp
  have HBA:=Lib.hid hbA
  have HIA:=Lib.hid hIA
  have HBLK:=Lib.hid hblkA
  have HSZ:=Lib.hid hszA
  clear hI hbA hIA hblkA hszA
  go_enter Tryz.func34,Tryz.ntmps34
  go_wp2_with fail
  generalize w.alloc (.cells #[.bool false,.int .u64 0,.slice none 0 0] 72)=WA at *
  refine HCH.out.mono ?_
  rintro e w1 ⟨er,rfl,her,hb1⟩
  rw [HSZ.out] at hb1
  have hbl1:=HBLK.out.below hb1 (by omega)
  have hbw1:Below w.heap.size w w1:=HBA.out.trans (hb1.mono (by omega))
  clear HCH
  by_cases hz:(checkF v l).1=0
  · obtain ⟨hv0,hv1,hl200,hls,hck,hcl⟩:=check_fine hz
    obtain rfl:er=.nilIface:=by
      rcases her with h | h | h
      · exact h.2.2
      · exact absurd hz h.1
      · exact absurd hz h.1
    obtain ⟨n,rfl⟩:∃ n:Nat,v=(n:Int):=⟨v.toNat,by omega⟩
    obtain ⟨r,hrun⟩:=run_ex (v:=n) (l:=l) (by omega) hls (mu st0) st0 (Nat.le_refl _) (good0 n)
    have HCL:=Lib.hid (clone_any WA l a cap hn (by omega) w1 HIA.out (by rw [HSZ.out];exact hb1))
    have HZ:=Lib.hid hz
    have HLS:=Lib.hid hls
    have HRUN:=Lib.hid hrun
    have HB1:=Lib.hid hbw1
    have HBL:=Lib.hid hbl1
    have hs1:=hb1.size
    clear her hz hls hck hcl hb1 hbl1 hbw1 hrun HBA HIA HBLK
    go_wp2_with fail
    refine HCL.out.mono ?_
    rintro e w2 ⟨va,vc,rfl,⟨cs,hrow,hck⟩,hb2⟩
    have hs2:=hb2.size
    rw [HSZ.out] at hs1 hck
    have hbn:=below_new w2 (.cells #[.slice none 0 0,.int .i8 0,.int .i8 0,.int .i8 0,.int .i8 0,.int .i8 0,.int .i8 0,.int .i8 0,.int .i8 0,.int .i8 0,.int .i8 0,.int .i8 0,.int .i8 0,.int .i8 0,.int .i8 0,.int .i8 0,.int .i8 0,.int .i8 0,.int .i8 0,.int .i8 0,.int .i8 0,.int .i8 0,.int .i8 0,.int .i8 0,.int .i8 0,.slice none 0 0,.slice none 0 0] 171)
    have hstart:=ss_start (w:=w) (n:=n) (l:=l) (r:=r) hbn (Blk.new _ _ _) hrow hck hs1 hs2 HB1.out HBL.out hb2 HRUN.out
    have HST:=Lib.hid hstart.1
    have HTH:=Lib.hid hstart.2
    have HON:=Lib.hid (search_one va l.length vc)
    clear hrow hck hb2 hstart HCL HB1 HBL hbn
    go_wp2_with (first
      | (refine wpList_store_mid (by rfl) 171 _ _ (by rfl) w2.heap.size 0 #[.slice va l.length vc,.int .i8 0,.int .i8 0,.int .i8 0,.int .i8 0,.int .i8 0,.int .i8 0,.int .i8 0,.int .i8 0,.int .i8 0,.int .i8 0,.int .i8 0,.int .i8 0,.int .i8 0,.int .i8 0,.int .i8 0,.int .i8 0,.int .i8 0,.int .i8 0,.int .i8 0,.int .i8 0,.int .i8 0,.int .i8 0,.int .i8 0,.int .i8 0,.slice none 0 0,.slice none 0 0] (by rfl) (by rfl) HTH.out infoSearch HON.out ?_)
      | fail)
    generalize (w2.alloc (.cells #[.slice none 0 0,.int .i8 0,.int .i8 0,.int .i8 0,.int .i8 0,.int .i8 0,.int .i8 0,.int .i8 0,.int .i8 0,.int .i8 0,.int .i8 0,.int .i8 0,.int .i8 0,.int .i8 0,.int .i8 0,.int .i8 0,.int .i8 0,.int .i8 0,.int .i8 0,.int .i8 0,.int .i8 0,.int .i8 0,.int .i8 0,.int .i8 0,.int .i8 0,.slice none 0 0,.slice none 0 0] 171)).setCells w2.heap.size 0 [.slice va l.length vc,.int .i8 0,.int .i8 0,.int .i8 0,.int .i8 0,.int .i8 0,.int .i8 0,.int .i8 0,.int .i8 0,.int .i8 0,.int .i8 0,.int .i8 0,.int .i8 0,.int .i8 0,.int .i8 0,.int .i8 0,.int .i8 0,.int .i8 0,.int .i8 0,.int .i8 0,.int .i8 0,.int .i8 0,.int .i8 0,.int .i8 0,.int .i8 0,.slice none 0 0,.slice none 0 0]=W3 at *
    simp only [Act.put]
    go_loopg [8] (mu st0) (fun k _ wr=>∃ (s:St) (cV dV pV:Value),SS w wr w.heap.size w2.heap.size n l s r cV dV pV/\mu s<=k)
    case atStart=>exact ⟨st0,_,_,_,HST.out,Nat.le_refl _⟩
    case round =>
      obtain ⟨s,cV,dV,pV,hss,hmu⟩:=hrel
      clear HST
      obtain ⟨cs,hcs,hck⟩:=hss.at'.crow
      obtain ⟨ca,cc,rfl,-,-⟩:=row_form hcs
      have hlp:LitsL n (l++s.prf):=litsL_append HLS.out hss.good.litsP
      have h24:LitsL 24 (l++s.prf):=fun c hc x hx=>lit_24 hv1 (hlp c hc x hx)
      have c0:=hss.at'.c0
      have hpl:=hss.good.pl
      have hll:(l++s.prf).length<=2200:=by rw [List.length_append];omega
      have HN:=next_any ⟨w2.heap.size,1,none⟩ s.told hss.good.cons (l++s.prf) h24 ca cc wr hss.at'.vals (hck.cls hcs) (by omega)
      have hnx:=next_is (l:=l++s.prf) hss.good.cons
      have HSS:=Lib.hid hss
      have HLP:=Lib.hid hlp
      have hsg:Hid (∀ s',stepF n l s=.inl s'->Good n s'/\mu s'<mu s):=fun s' h=>step_good (by omega) HLS.out hss.good h
      generalize hr:nextF s.told (l++s.prf)=nx at *
      obtain ⟨i,x⟩:=nx
      have HR:=Lib.hid hr
      obtain ⟨L0,hL0⟩:∃ L0,L0=(l++s.prf).length:=⟨_,rfl⟩
      rw [<- hL0] at HN c0 hll
      simp only at HN
      have HNN:=Lib.hid HN
      have hi01:(i=-1/\x=0)\/0<=i:=by
        cases hnx with
        | none=>exact Or.inl ⟨rfl,rfl⟩
        | bad=>exact Or.inr (by omega)
        | one=>exact Or.inr (by omega)
      clear hcs hck hlp h24 hnx hr HN hss hL0
      by_cases hx0:x=0
      · subst hx0
        by_cases hi:0<=i
        · -- a clause can't hold
          have hdl:s.decs.length<=24:=by have:=HSS.out.good.few;omega
          clear hi01
          go_wp2_with fail
          refine HNN.out.mono ?_
          rintro e w3 ⟨rfl,hb3⟩
          have ha3:=HSS.out.at'.new hb3
          have hbl3:=HSS.out.blk.below hb3 HSS.out.blk.lt
          have hbw3:=HSS.out.below.trans (hb3.mono HSS.out.below.size)
          have hB3:w.heap.size + 1<=w3.heap.size:=by have:=hbl3.lt;omega
          have HRF:=Lib.hid (refute_any (w.heap.size + 1) w2.heap.size l s _ _ _ hdl (fun d hd=>by
            obtain ⟨k,hk⟩:=List.getElem?_of_mem hd
            have:=(HSS.out.good.ds k d hk).2.2.2
            rw [litB_iff] at this;omega) hpl hl200 w3 hB3 ha3)
          have HBL3:=Lib.hid hbl3
          have HBW3:=Lib.hid hbw3
          clear hb3 ha3 hbl3 hbw3 HNN
          go_wp2_with fail
          refine HRF.out.mono ?_
          rintro e w4 ⟨rfl,⟨cV',pV',ha4⟩,hb4⟩
          have hbl4:=HBL3.out.below hb4 (by omega)
          have hbw4:Below w.heap.size w w4:=HBW3.out.trans (hb4.mono (by omega))
          obtain ⟨ps,hps,hpk⟩:=ha4.prow
          obtain ⟨pa,pc,rfl,-,-⟩:=row_form hps
          have d25:=ha4.c25
          have d26:=ha4.c26
          have hprl:(s.prf++[refC s.decs]).length=s.prf.length + 1:=by simp
          have HPC:Hid (∀ (y0 y1 y2:Value),ClsIn (((w4.setCell ⟨w.heap.size,0,none⟩ y0).setCell ⟨w.heap.size,1,none⟩ y1).setCell ⟨w.heap.size,2,none⟩ y2) pa (s.prf++[refC s.decs])):=fun y0 y1 y2=>cls_set3 hbl4 (by decide) (by decide) hpk hps y0 y1 y2
          simp only [hprl] at d26
          obtain ⟨da,dc,rfl⟩:∃ a c,dV=.slice a s.decs.length c:=by
            rcases ha4.drow.2 with ⟨e,e0⟩ | ⟨g,cap,cur,e,-⟩
            · exact ⟨none,0,by rw [e];exact congrArg (fun k=>Value.slice none k 0) e0.symm⟩
            · exact ⟨_,_,e⟩
          have HA4:=Lib.hid ha4
          have HB4:=Lib.hid hb4
          have HBL4:=Lib.hid hbl4
          have HBW4:=Lib.hid hbw4
          have HPRL:=Lib.hid hprl
          clear ha4 hb4 hbl4 hbw4 hps hpk HRF HBL3 HBW3 hprl
          by_cases hd0:s.decs=[]
          · have HRES:=Lib.hid (HSS.out.run.at_done (step_unsat HR.out hi hd0))
            have hdz:s.decs.length=0:=by rw [hd0];rfl
            rw [hdz] at d25
            have P:=put3 HBL4.out (.bool false) (.int .u64 0) (.slice pa (s.prf.length + 1) pc)
            have q0:=P.a0
            have f0:=P.f0
            have q1:=P.a1
            have f1:=P.f1
            have q2:=P.a2
            have f2:=P.f2
            have HP:=Lib.hid P
            have HPB:Hid (Below w.heap.size w (((w4.setCell ⟨w.heap.size,0,none⟩ (.bool false)).setCell ⟨w.heap.size,1,none⟩ (.int .u64 0)).setCell ⟨w.heap.size,2,none⟩ (.slice pa (s.prf.length + 1) pc))):=((HBW4.out.setCell (Nat.le_refl _) _).setCell (Nat.le_refl _) _).setCell (Nat.le_refl _) _
            have HPC2:Hid (ClsIn (((w4.setCell ⟨w.heap.size,0,none⟩ (.bool false)).setCell ⟨w.heap.size,1,none⟩ (.int .u64 0)).setCell ⟨w.heap.size,2,none⟩ (.slice pa (s.prf.length + 1) pc)) pa (s.prf++[refC s.decs])):=HPC.out _ _ _
            clear P hdz hd0 HPC
            go_wp2
            refine bodyPost_ret (v:=.tuple #[.agg #[.bool false,.int .u64 0,.slice pa (s.prf.length + 1) pc],.nilIface]) (by simp [results,Tryz.results34,go_sem,HP.out.r0,HP.out.r1,HP.out.r2]) rfl ?_
            refine ⟨Or.inr ⟨HZ.out,r,HRUN.out,Or.inr (Or.inl ⟨_,pa,pc,HRES.out,?_,HPC2.out⟩)⟩,HPB.out⟩
            rw [HPRL.out]
          · obtain ⟨ds,⟨y,t⟩,hds⟩:∃ ds d,s.decs=ds++[d]:=⟨_,_,(List.dropLast_concat_getLast hd0).symm⟩
            have hpos:¬ s.decs.length=0:=fun h=>hd0 (List.length_eq_zero_iff.1 h)
            have hdn:((s.decs.length:Int) == 0)=false:=by simp;omega
            by_cases hlim:s.prf.length + 1=2000
            · have HRES:=Lib.hid (HSS.out.run.at_done (step_limit HR.out hi hds hlim))
              have P:=put3 HBL4.out (.bool false) (.int .u64 0) (.slice none 0 0)
              have q0:=P.a0
              have f0:=P.f0
              have q1:=P.a1
              have f1:=P.f1
              have q2:=P.a2
              have f2:=P.f2
              have HP:=Lib.hid P
              have HPB:Hid (Below w.heap.size w (((w4.setCell ⟨w.heap.size,0,none⟩ (.bool false)).setCell ⟨w.heap.size,1,none⟩ (.int .u64 0)).setCell ⟨w.heap.size,2,none⟩ (.slice none 0 0))):=((HBW4.out.setCell (Nat.le_refl _) _).setCell (Nat.le_refl _) _).setCell (Nat.le_refl _) _
              clear P hd0 hds HPC
              generalize s.decs.length=dl at *
              rw [hlim] at d26
              go_wp2
              refine bodyPost_ret (v:=.tuple #[.agg #[.bool false,.int .u64 0,.slice none 0 0],.iface 57 (.int .i64 4)]) (by simp [results,Tryz.results34,go_sem,HP.out.r0,HP.out.r1,HP.out.r2]) rfl ?_
              exact ⟨Or.inr ⟨HZ.out,r,HRUN.out,Or.inr (Or.inr ⟨HRES.out,rfl⟩)⟩,HPB.out⟩
            · have hst:=step_back (v:=n) HR.out hi hds hlim
              have HGO:=Lib.hid (HSS.out.run.at_go hst)
              have HGD:=Lib.hid (hsg.out _ hst).1
              have hmu2:=(hsg.out _ hst).2
              have HTB:=Lib.hid (back_any (w.heap.size + 1) w2.heap.size l ⟨s.told,s.decs,s.prf++[refC s.decs]⟩ _ _ _ ds y t hds hdl w4 HA4.out)
              have hl2:(((s.prf.length:Int) + 1) == 2000)=false:=by simp;omega
              have hl3:(((s.prf.length + 1:Nat):Int) == 2000)=false:=by simp;omega
              clear hst hd0 hds HPC
              generalize s.decs.length=dl at *
              generalize s.prf.length=pl at *
              go_wp2_with fail
              refine HTB.out.mono ?_
              rintro e w5 ⟨rfl,⟨dV',ha5⟩,hb5⟩
              have HS5:Hid (SS w w5 w.heap.size w2.heap.size n l ⟨t,ds,s.prf++[refC s.decs]⟩ r cV' dV' _):=⟨ha5,HGD.out,HGO.out,HBW4.out.trans (hb5.mono (by omega)),HBL4.out.below hb5 (by omega)⟩
              clear ha5 hb5 HTB
              go_wp2
              go_roundg (mu ⟨t,ds,s.prf++[refC s.decs]⟩)
              case rel=>exact ⟨_,_,_,_,HS5.out,Nat.le_refl _⟩
              case measure=>exact Nat.lt_of_lt_of_le hmu2 hmu
        · -- nothing follows
          have hi1:i=-1:=by rcases hi01 with h | h <;> omega
          subst hi1
          clear hi01
          have hn24:n<=24:=by omega
          have hle:=least_is (v:=n) (told:=s.told)
          have hdl:s.decs.length<=24:=by have:=HSS.out.good.few;omega
          go_wp2_with fail
          refine HNN.out.mono ?_
          rintro e w3 ⟨rfl,hb3⟩
          have ha3:=HSS.out.at'.new hb3
          have hbl3:=HSS.out.blk.below hb3 HSS.out.blk.lt
          have hbw3:=HSS.out.below.trans (hb3.mono HSS.out.below.size)
          have HIX:=Lib.hid (ix_i8 ⟨w2.heap.size,1,none⟩ s.told n hn24 24 w3 ha3.vals)
          have HA3:=Lib.hid ha3
          have HBL3:=Lib.hid hbl3
          have HBW3:=Lib.hid hbw3
          clear hb3 ha3 hbl3 hbw3 HNN
          rcases hle with ⟨hneg,-⟩ | ⟨k,hk,hkn,htz,-⟩
          · have HRES:=Lib.hid (HSS.out.run.at_done (step_sat HR.out (by omega) (by rw [hneg];omega)))
            rw [hneg] at HIX
            have HNU:=Lib.hid (clNumber_any ⟨w2.heap.size,1,none⟩ s.told w3 HA3.out.vals)
            clear hneg
            obtain ⟨N,hN⟩:∃ N,N=numF s.told 24:=⟨_,rfl⟩
            rw [<- hN] at HNU
            have HNE:=Lib.hid hN
            clear hN
            go_wp2_with fail
            refine HIX.out.mono ?_
            rintro e w4 ⟨rfl,rfl⟩
            clear HIX
            go_wp2_with fail
            refine HNU.out.mono ?_
            rintro e w4 ⟨rfl,hb4⟩
            have P:=put3 (HBL3.out.below hb4 HBL3.out.lt) (.bool true) (.int .u64 (N:Int)) (.slice none 0 0)
            have q0:=P.a0
            have f0:=P.f0
            have q1:=P.a1
            have f1:=P.f1
            have q2:=P.a2
            have f2:=P.f2
            have HP:=Lib.hid P
            have HPB:Hid (Below w.heap.size w (((w4.setCell ⟨w.heap.size,0,none⟩ (.bool true)).setCell ⟨w.heap.size,1,none⟩ (.int .u64 (N:Int))).setCell ⟨w.heap.size,2,none⟩ (.slice none 0 0))):=(((HBW3.out.trans (hb4.mono HBW3.out.size)).setCell (Nat.le_refl _) _).setCell (Nat.le_refl _) _).setCell (Nat.le_refl _) _
            clear P hb4 HNU
            go_wp2
            refine bodyPost_ret (v:=.tuple #[.agg #[.bool true,.int .u64 (N:Int),.slice none 0 0],.nilIface]) (by simp [results,Tryz.results34,go_sem,HP.out.r0,HP.out.r1,HP.out.r2]) rfl ?_
            exact ⟨Or.inr ⟨HZ.out,r,HRUN.out,Or.inl ⟨s.told,HRES.out,by rw [HNE.out]⟩⟩,HPB.out⟩
          · have hst:=step_dec (v:=n) HR.out (by omega) (by rw [hk];omega)
            rw [hk] at hst HIX
            have HGO:=Lib.hid (HSS.out.run.at_go hst)
            have HGD:=Lib.hid (hsg.out _ hst).1
            have hmu2:=(hsg.out _ hst).2
            obtain ⟨z0,z1⟩:=tv_zero.1 htz
            have hlk:litB 24 ((k:Int) + 1)=true:=by rw [litB_iff];omega
            have HDC:=Lib.hid (decide_any (w.heap.size + 1) w2.heap.size l s _ _ _ ((k:Int) + 1) hlk z1 hdl w3 HA3.out)
            clear hst hk htz z0 z1 hlk
            go_wp2_with fail
            refine HIX.out.mono ?_
            rintro e w4 ⟨rfl,rfl⟩
            clear HIX
            go_wp2_with fail
            refine HDC.out.mono ?_
            rintro e w5 ⟨rfl,⟨dV',ha5⟩,hb5⟩
            have HS5:Hid (SS w w5 w.heap.size w2.heap.size n l ⟨s.told++[(k:Int) + 1],s.decs++[((k:Int) + 1,s.told)],s.prf⟩ r _ dV' _):=⟨ha5,HGD.out,HGO.out,HBW3.out.trans (hb5.mono (by omega)),HBL3.out.below hb5 (by omega)⟩
            clear ha5 hb5 HDC
            go_wp2
            go_roundg (mu ⟨s.told++[(k:Int) + 1],s.decs++[((k:Int) + 1,s.told)],s.prf⟩)
            case rel=>exact ⟨_,_,_,_,HS5.out,Nat.le_refl _⟩
            case measure=>exact Nat.lt_of_lt_of_le hmu2 hmu
      · -- a literal is told
        have hst:=step_tell (v:=n) HR.out hx0
        have HGO:=Lib.hid (HSS.out.run.at_go hst)
        have HGD:=Lib.hid (hsg.out _ hst).1
        have hmu2:=(hsg.out _ hst).2
        obtain ⟨p1,p2,p3,-,-⟩:=next_step HLP.out HSS.out.good.cons HSS.out.good.lits HR.out hx0
        have hl24:=lit_24 hv1 p1
        have hxn:(x != 0)=true:=by simpa using hx0
        have HPP:Hid (-x ∉ s.told):=p3
        clear hst p1 p2 p3 hi01 hx0
        go_wp2_with fail
        refine HNN.out.mono ?_
        rintro e w3 ⟨rfl,hb3⟩
        have ha3:=HSS.out.at'.new hb3
        have HT:=Lib.hid (tell_any ⟨w2.heap.size,1,none⟩ s.told x hl24 w3 ha3.vals)
        have hbl3:=HSS.out.blk.below hb3 HSS.out.blk.lt
        have hbw3:=HSS.out.below.trans (hb3.mono HSS.out.below.size)
        have hsb:=HSS.out.at'.Bsb
        have HS5:Hid (SS w (w3.setCell ((⟨w2.heap.size,1,none⟩:Addr).add (tellAt x)) (.int .i8 (tellV x))) w.heap.size w2.heap.size n l ⟨s.told++[x],s.decs,s.prf⟩ r _ _ _):=⟨ha3.tell hl24 HPP.out,HGD.out,HGO.out,hbw3.setCell (by rw [addr_block];show w.heap.size<=w2.heap.size;omega) _,by rw [add_plain];exact hbl3.other (by omega)⟩
        clear hb3 ha3 hbl3 hbw3 HNN
        go_wp2_with fail
        refine HT.out.mono ?_
        rintro e w4 ⟨rfl,hw4⟩
        rw [<- hw4] at HS5
        clear hw4 HT
        go_wp2
        go_roundg (mu ⟨s.told++[x],s.decs,s.prf⟩)
        case rel=>exact ⟨_,_,_,_,HS5.out,Nat.le_refl _⟩
        case measure=>exact Nat.lt_of_lt_of_le hmu2 hmu
  · have HZ:=Lib.hid hz
    have HER:=Lib.hid her
    have hnn:∃ t u,er=.iface t u:=by
      rcases her with h | h | ⟨_,b,_,h,_⟩
      · exact absurd h.1 hz
      · exact ⟨_,_,h.2.2⟩
      · exact ⟨_,_,h⟩
    obtain ⟨t,u,rfl⟩:=hnn
    have P:=put3 hbl1 (.bool false) (.int .u64 0) (.slice none 0 0)
    have q0:=P.a0
    have f0:=P.f0
    have q1:=P.a1
    have f1:=P.f1
    have q2:=P.a2
    have f2:=P.f2
    have HP:=Lib.hid P
    have HB:Hid (Below w.heap.size w (((w1.setCell ⟨w.heap.size,0,none⟩ (.bool false)).setCell ⟨w.heap.size,1,none⟩ (.int .u64 0)).setCell ⟨w.heap.size,2,none⟩ (.slice none 0 0))):=((hbw1.setCell (Nat.le_refl _) _).setCell (Nat.le_refl _) _).setCell (Nat.le_refl _) _
    have HK:Hid (ErrIs (((w1.setCell ⟨w.heap.size,0,none⟩ (.bool false)).setCell ⟨w.heap.size,1,none⟩ (.int .u64 0)).setCell ⟨w.heap.size,2,none⟩ (.slice none 0 0)) (.iface t u) (checkF v l).1 (checkF v l).2):=HER.out.set3 (hbl1.cell 0) _ _ _
    clear her hz hb1 hbl1 P
    go_wp2
    refine bodyPost_ret (v:=.tuple #[.agg #[.bool false,.int .u64 0,.slice none 0 0],.iface t u]) (by simp [results,Tryz.results34,go_sem,HP.out.r0,HP.out.r1,HP.out.r2]) rfl ?_
    exact ⟨Or.inl ⟨HZ.out,_,rfl,HK.out⟩,HB.out⟩
end
section
open Go.RowKit Go.Deep Sv
def CanE (v:Nat) (l:List (List Int)) (b:Bool) (er:Value):Prop :=
  ∃ r,Run v l st0 r/\((∃ t,r=.sat t/\b=true/\er=.nilIface)\/(∃ p,r=.unsat p/\b=false/\er=.nilIface)\/(r=.limit/\b=false/\er=.iface 57 (.int .i64 4)))
theorem solve_can (v:Nat) (l:List (List Int)) (a:Option Addr) (cap:Nat) (hn:a=none->cap=0) (w:World) (hI:ClsIn w a l) (hm:l.length<=9223372036854775807) (hc:(checkF v l).1=0) :
    Calls Tryz.prog 34 #[.int .i64 v,.slice a l.length cap] w fun e w'=>∃ b nn pa pn pc er,e=.returned (.tuple #[.agg #[.bool b,.int .u64 nn,.slice pa pn pc],er])/\CanE v l b er/\Below w.heap.size w w':=by
  refine (solve_any v l a cap hn w hI hm).mono ?_
  rintro e w' ⟨hs,hb⟩
  rcases hs with ⟨h,_⟩ | ⟨-,r,hr,h⟩
  · exact absurd hc h
  · rw [Int.toNat_natCast] at hr
    rcases h with ⟨t,rfl,rfl⟩ | ⟨p,pa,pc,rfl,rfl,-⟩ | ⟨rfl,rfl⟩
    · exact ⟨_,_,_,_,_,_,rfl,⟨_,hr,Or.inl ⟨t,rfl,rfl,rfl⟩⟩,hb⟩
    · exact ⟨_,_,_,_,_,_,rfl,⟨_,hr,Or.inr (Or.inl ⟨p,rfl,rfl,rfl⟩)⟩,hb⟩
    · exact ⟨_,_,_,_,_,_,rfl,⟨_,hr,Or.inr (Or.inr ⟨rfl,rfl,rfl⟩)⟩,hb⟩
end
section
open Go.RowKit Go.Deep Sv
noncomputable def satB (l:List (List Int)):Bool:=@decide (∃ vals,SatL vals l) (Classical.propDecidable _)
theorem satB_true {l:List (List Int)}:satB l=true ↔ ∃ vals,SatL vals l:=by unfold satB;exact @decide_eq_true_iff _ (Classical.propDecidable _)
theorem satB_false {l:List (List Int)}:satB l=false ↔ ∀ vals,¬ SatL vals l:=by
  rw [<- Bool.not_eq_true,satB_true]
  exact ⟨fun h v hv=>h ⟨v,hv⟩,fun h ⟨v,hv⟩=>h v hv⟩
theorem canE_sat {v:Nat} {l:List (List Int)} {b:Bool} {er:Value} (hv:v<=24) (hl:LitsL v l) (hn:∀ r,Run v l st0 r->r ≠ .limit) (h:CanE v l b er):b=satB l/\er=.nilIface:=by
  obtain ⟨r,hr,h⟩:=h
  obtain ⟨h1,h2⟩:=run_inv hv hl hr (good0 v) (inv0 l)
  rcases h with ⟨t,rfl,rfl,rfl⟩ | ⟨p,rfl,rfl,rfl⟩ | ⟨rfl,-,-⟩
  · obtain ⟨ds,-,hli,hco,-,hall⟩:=h2 t rfl
    refine ⟨(satB_true.2 ⟨numF t 24,fun c hc=>?_⟩).symm,rfl⟩
    obtain ⟨x,hx,ht⟩:=hall c hc
    exact ⟨x,hx,numF_sat hli hco hv x ht⟩
  · exact ⟨(satB_false.2 (h1 p rfl)).symm,rfl⟩
  · exact absurd rfl (hn _ hr)
end
section
open Go.RowKit Go.Deep Sv
theorem gathF_24:∀ (ls:List Ln) (i:Nat) (its out:List It),its.length<=24->gathF ls i its=.ok out->out.length<=24/\∀ x ∈ ls,ctCheck x=0
  | [],i,its,out,h0,h=>by cases h;exact ⟨h0,fun x hx=>by cases hx⟩
  | x :: r,i,its,out,h0,h=>by
    rw [gathF] at h
    split at h
    · cases h
    · rename_i hc
      have hc':ctCheck x=0:=Decidable.not_not.1 hc
      have key:∀ its',its'.length<=24->gathF r (i + 1) its'=.ok out->out.length<=24/\∀ y ∈ x :: r,ctCheck y=0:=fun its' h1 h2=>by
        obtain ⟨g1,g2⟩:=gathF_24 r (i + 1) its' out h1 h2
        exact ⟨g1,fun y hy=>by rcases List.mem_cons.1 hy with rfl | hy;exact hc';exact g2 y hy⟩
      split at h
      · split at h
        · cases h
        · split at h
          · cases h
          · rename_i h8
            exact key _ (by simp;omega) h
      · exact key _ h0 h
theorem newF_ok {ls:List Ln} {its:List It} (h:newF ls=.ok its):its.length<=24/\ls.length<=100/\∀ x ∈ ls,ctCheck x=0:=by
  unfold newF at h
  split at h
  · cases h
  · split at h
    · cases h
    · rename_i its' hg
      split at h
      · cases h
      · cases h
        obtain ⟨h1,h2⟩:=gathF_24 ls 0 [] its' (by simp) hg
        refine ⟨?_,by omega,h2⟩
        unfold sortF
        rw [List.length_mergeSort]
        exact h1
theorem parseF_ok {s:ByteArray} {ls:List Ln} {its:List It} (h:parseF s=.ok (ls,its)):newF ls=.ok its:=by
  unfold parseF at h
  split at h
  · cases h
  · split at h
    · cases h
    · split at h
      · cases h
      · cases h
      · rename_i hn
        cases h
        exact hn
theorem check_names {x:Ln} (h:ctCheck x=0):x.name.size<=100000/\x.other.size<=100000:=by
  unfold ctCheck at h
  split at h
  · cases h
  · split at h
    · cases h
    · rename_i h5
      split at h
      · cases h
      · rename_i h6
        have hn:NameOk x.name:=by
          apply Classical.byContradiction
          intro hc
          exact h5 (Or.inl hc)
        refine ⟨by have:=hn.len;omega,?_⟩
        by_cases hp:x.pair
        · have ho:NameOk x.other:=by
            apply Classical.byContradiction
            intro hc
            exact h5 (Or.inr ⟨hp,hc⟩)
          have:=ho.len;omega
        · have:x.other.size=0:=by
            apply Classical.byContradiction
            intro hc
            exact h6 ⟨hp,hc⟩
          omega
noncomputable def readF (s:ByteArray) (most:Nat):Option (List Ln × List It) :=
  if 1500<s.size then none else match parseF s with
    | .error _=>none
    | .ok (ls,its)=>if 200<(ofL its ls).length\/most<its.length then none else some (ls,its)
end
end Go.Proofs.YtlahnpmoeefapaaGreatDoor
