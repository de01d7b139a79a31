/- SpaceHolds: the law's walk. -/
import Derived.Test.YtlahnpmoeefapaaGreatDoorSpPlanP
import Derived.Test.YtlahnpmoeefapaaGreatDoorCtParse
import Derived.Test.YtlahnpmoeefapaaGreatDoorBdCnt
import Derived.Test.YtlahnpmoeefapaaGreatDoorCtReadP
import Derived.Test.YtlahnpmoeefapaaGreatDoorCtNew
import Derived.Lib.QuietBelow
import Derived.Deep.CutRange
import Derived.Laws.Cover1
set_option maxHeartbeats 4000000
set_option maxRecDepth 100000
namespace Go.Proofs.YtlahnpmoeefapaaGreatDoor.Bd
open Go.RowKit Go.Deep Sv
def CntBox (w:World) (m:Nat) (q e:Value) (wx:World):Prop:=∃ qb a n c,q=.pointer (some ⟨qb,0,none⟩)/\e=.nilIface/\qb<wx.heap.size/\wx.cell? ⟨qb,0,none⟩=some (.slice a n c)/\NatAt wx (.agg #[.slice a n c]) m/\Below w.heap.size w wx
theorem pln_many:manyN 2 [[-1,2]]=3:=by kernel_rfl
theorem dec3:Lib.decDigits 3=[51]:=by kernel_rfl
structure CntAt (W0:World) (p s:Nat) (al:Int) (m:Nat):Prop where
 sc:∀ W,Below W0.heap.size W0 W->W.cell? ⟨p,0,none⟩=some (.pointer (some ⟨s,0,none⟩))/\W.cell? ⟨p,1,none⟩=some (.int .i64 al)
 cn:∀ W,Below W0.heap.size W0 W->Calls Tryz.prog 16 #[.pointer (some ⟨s,0,none⟩),.int .i64 al] W fun e w'=>∃ a n c,e=.returned (.tuple #[.agg #[.slice a n c],.nilIface])/\NatAt w' (.agg #[.slice a n c]) m/\Below W.heap.size W w'
theorem cntAt_of {B p s b vars:Nat} {O:Nat->Prop} {room:Int} {K:List (List Int)} {W0:World} (h:SolAt B W0 p s b O vars room (clF K)) (h12:vars<=12) (hl:LitsL vars K):CntAt W0 p s (clF K).2 (manyN vars K) :=
 ⟨fun _ hW=>⟨(h.blk.below hW h.blk.lt).cell 0,(h.blk.below hW h.blk.lt).cell 1⟩,fun _ hW=>sol_count (h.space.new hW) h12 hl⟩
theorem cntBox_a {W0 x1:World} {m n c:Nat} {a:Option Addr} (D1:Below W0.heap.size W0 x1) (hn:NatAt x1 (.agg #[.slice a n c]) m):CntBox W0 m (.pointer (some ⟨x1.heap.size,0,none⟩)) .nilIface (x1.alloc (.cells #[.slice a n c] 42)) :=
 ⟨x1.heap.size,a,n,c,rfl,rfl,by simp,by simp,hn.new (below_new x1 _),D1.alloc D1.size _⟩
theorem cntBox_b {W0 x1:World} {m n c q:Nat} {a:Option Addr} (D1:Below W0.heap.size W0 x1) (hq:W0.heap.size<=q) (kz:Blk x1 q 42 #[.slice none 0 0]) (hn:NatAt x1 (.agg #[.slice a n c]) m):CntBox W0 m (.pointer (some ⟨q,0,none⟩)) .nilIface (x1.setCell ⟨q,0,none⟩ (.slice a n c)) :=
 ⟨q,a,n,c,rfl,rfl,by simpa using kz.lt,(kz.set (i:=0) (v:=.slice a n c)).cell 0,hn.kept (Kept.setCell (S:=fun j=>j=q) x1 ⟨q,0,none⟩ _ rfl) (fun b' o n' e=>by
  cases e
  rw [kz.cell o]
  match o with
  | 0=>simp
  | o + 1=>simp),D1.setCell (p:=⟨q,0,none⟩) hq _⟩
theorem laid_k (w:World) (hw:Lw w):Calls Tryz.prog 32 #[] w fun e w'=>e=.returned (.bool true)/\Below w.heap.size w w':=by
 have HP0:=parse_any_c plnT w hw
 rw [pln_parse] at HP0
 have HP:Hid (Calls Tryz.prog 58 #[.string plnT] w fun e w'=>∃ bc,e=.returned (.tuple #[.pointer (some ⟨bc,0,none⟩),.nilIface])/\CatAt w' bc plnL plnI/\Below w.heap.size w w'):=by
  refine HP0.mono ?_
  rintro e w' ⟨bc,vs,rfl,q1,-,q3⟩
  exact ⟨bc,rfl,q1.cat,q3⟩
 have HOF:Hid (∀ W bc,CatAt W bc plnL plnI->Calls Tryz.prog 13 #[.pointer (some ⟨bc,0,none⟩),.int .i64 100] W fun e w'=>∃ p s al,e=.returned (.tuple #[.pointer (some ⟨p,0,none⟩),.nilIface])/\CntAt w' p s al 3/\Below W.heap.size W w'):=fun W bc hcat=>by
  have hN:∀ x ∈ plnL,x.name.size<=100000/\x.other.size<=100000:=by
   intro x hx
   simp only [plnL,List.mem_cons,List.not_mem_nil,or_false] at hx
   rcases hx with rfl | rfl | rfl <;> exact ⟨by decide,by decide⟩
  have hLL:LitsL 2 [[-1,2]]:=by
   intro c hc x hx
   rw [List.mem_singleton] at hc
   subst hc
   simp at hx
   rcases hx with rfl | rfl <;> decide
  have h:=of_fine bc plnL plnI W hcat pln_new (by decide) (by decide) hN (by rw [pln_of];decide) 100 (by decide) (by decide) (by decide)
  rw [pln_of] at h
  refine h.mono ?_
  rintro e w' ⟨p,s,b,O,rfl,h1,h2⟩
  have h3:=cntAt_of (K:=[[-1,2]]) (vars:=2) h1 (by decide) hLL
  rw [pln_many] at h3
  exact ⟨p,s,_,rfl,h3,h2⟩
 have HTX:Hid (∀ W v,Below w.heap.size w W->NatAt W v 3->Calls Tryz.prog 17 #[v] W fun e w'=>e=.returned (.string ⟨#[51]⟩)/\Below W.heap.size W w'):=fun W v hb hn=>by
  have:=text_c hn (by decide) (hw.below hb).lb.tab
  rw [dec3] at this
  exact this
 have hT:plnT=⟨#[112,97,99,107,97,103,101,32,97,32,49,46,48,46,48,10,112,97,99,107,97,103,101,32,98,32,49,46,48,46,48,10,110,101,101,100,115,32,97,32,49,46,48,46,48,32,98,32,97,110,121,10]⟩:=rfl
 rw [hT] at HP
 clear HP0 hw hT
 go_enter Tryz.func32,Tryz.ntmps32
 go_wp2_with fail
 refine HP.out.mono ?_
 rintro e w1 ⟨bc,rfl,hcat,hb1⟩
 have HO1:=Lib.hid (HOF.out w1 bc hcat)
 have HB1:=Lib.hid hb1
 clear hcat hb1 HP HOF
 go_wp2_with fail
 refine HO1.out.mono ?_
 rintro e w2 ⟨p,s,al,rfl,hca,hb2⟩
 have HCA:=Lib.hid hca
 have HB2:Hid (Below w.heap.size w w2):=HB1.out.trans (hb2.mono HB1.out.size)
 have SC:=Lib.hid hca.sc
 have HCN:=Lib.hid hca.cn
 clear hca hb2 HB1 HO1
 go_wp2_with fail
 have D0:Below w2.heap.size w2 w2.drew:=(Below.refl _ _).drew
 have D0a:Below w2.heap.size w2 (w2.alloc (.cells #[.slice none 0 0] 42)).drew:=((Below.refl _ _).alloc (Nat.le_refl _) _).drew
 have k0a:Blk (w2.alloc (.cells #[.slice none 0 0] 42)).drew w2.heap.size 42 #[.slice none 0 0]:=Blk.new w2 42 #[.slice none 0 0]
 go_cut [4,2] (fun q e wx=>CntBox w2 3 q e wx)
 case first =>
  go_region_held3 (fun X=>X.cell? ⟨p,0,none⟩=some (.pointer (some ⟨s,0,none⟩))/\X.cell? ⟨p,1,none⟩=some (.int .i64 al)) (first | exact SC.out _ D0 | exact SC.out _ D0a | exact SC.out _ D1 | exact SC.out _ D1a | exact SC.out _ D1s)
   (first
    | ((with_reducible refine (HCN.out _ D0).mono ?_);rintro e x1 ⟨ca,cn,cc,rfl,hna,hb1⟩;have D1:Below w2.heap.size w2 x1:=D0.trans (hb1.mono D0.size);have D1a:Below w2.heap.size w2 (x1.alloc (.cells #[.slice none 0 0] 42)):=D1.alloc D1.size _;have D1s:Below w2.heap.size w2 (x1.alloc (.cells #[.slice ca cn cc] 42)):=D1.alloc D1.size _;have hbx:=cntBox_a D1 hna;clear HCN D0 D0a k0a hb1)
    | ((with_reducible refine (HCN.out _ D0a).mono ?_);rintro e x1 ⟨ca,cn,cc,rfl,hna,hb1⟩;have D1:Below w2.heap.size w2 x1:=D0a.trans (hb1.mono D0a.size);have kz:=k0a.below hb1 k0a.lt;have D1s:Below w2.heap.size w2 (x1.setCell ⟨w2.heap.size,0,none⟩ (.slice ca cn cc)):=D1.setCell (p:=⟨w2.heap.size,0,none⟩) (Nat.le_refl _) _;have hbx:=cntBox_b D1 (Nat.le_refl _) kz hna;have z0:=kz.cell 0;have z1:=kz.frozen 0;clear HCN D0 D0a k0a hb1 kz))
  all_goals
   have HBX:=Lib.hid hbx
   clear hbx
   go_wp2_with fail
   go_meet
   case rel=>exact HBX.out
 case rest =>
  obtain ⟨qb,a,n,c,rfl,rfl,hql,hqc,hn,hb3⟩:=hcut
  have HTX3:=Lib.hid (HTX.out _ _ (HB2.out.trans (hb3.mono HB2.out.size)) hn)
  have HB3:=Lib.hid (HB2.out.trans (hb3.mono HB2.out.size))
  clear hn hb3 HTX
  go_wp2_with fail
  refine HTX3.out.mono ?_
  rintro e w4 ⟨rfl,hb4⟩
  have HB4:=Lib.hid (HB3.out.trans (hb4.mono HB3.out.size))
  clear hb4 HTX3
  go_wp2
  go_ret
  exact ⟨by first | rfl | simp,HB4.out⟩
end Go.Proofs.YtlahnpmoeefapaaGreatDoor.Bd
namespace Go.Proofs.YtlahnpmoeefapaaGreatDoor.Bd
open Go.RowKit
theorem cntV_pos (g:Fn'):∀ (k v:Nat) (f:Nat->Bool),cntV k v g f ≠ 0 ↔ ∃ f':Nat->Bool,(∀ i,i<v\/v + k<=i->f' i=f i)/\g f'=true
 | 0,v,f=>by
  unfold cntV
  constructor
  ·intro h
   refine ⟨f,fun _ _=>rfl,?_⟩
   cases hg:g f with
   | true=>rfl
   | false=>rw [hg] at h;exact absurd rfl h
  ·rintro ⟨f',h1,h2⟩
   have:f'=f:=funext fun i=>h1 i (by omega)
   rw [<- this,h2]
   simp
 | k + 1,v,f=>by
  unfold cntV
  have h0:=cntV_pos g k (v + 1) (turn f v false)
  have h1:=cntV_pos g k (v + 1) (turn f v true)
  constructor
  ·intro h
   by_cases e:cntV k (v + 1) g (turn f v false)=0
   ·obtain ⟨f',a,b⟩:=h1.1 (by omega)
    exact ⟨f',fun i hi=>by rw [a i (by omega),turnV_ne _ _ (by omega)],b⟩
   ·obtain ⟨f',a,b⟩:=h0.1 e
    exact ⟨f',fun i hi=>by rw [a i (by omega),turnV_ne _ _ (by omega)],b⟩
  ·rintro ⟨f',a,b⟩
   have key:∀ i,i<v + 1\/v + 1 + k<=i->f' i=turn f v (f' v) i:=fun i hi=>by
    by_cases e:i=v
    ·rw [e,turnV_at]
    ·rw [turnV_ne _ _ e];exact a i (by omega)
   cases hv:f' v with
   | false=>rw [hv] at key;have:=h0.2 ⟨f',key,b⟩;omega
   | true=>rw [hv] at key;have:=h1.2 ⟨f',key,b⟩;omega
theorem clS_agree {vars:Nat} {c:List Int} (hl:Lits vars c) {f g:Nat->Bool} (h:∀ i,i<vars->f i=g i):clS f c=clS g c:=by
 unfold clS
 rw [Bool.eq_iff_iff,List.any_eq_true,List.any_eq_true]
 have key:∀ x ∈ c,litS f x=litS g x:=fun x hx=>by unfold litS;rw [h _ (lit_var (hl x hx))]
 exact ⟨fun ⟨x,h1,h2⟩=>⟨x,h1,by rw [<- key x h1];exact h2⟩,fun ⟨x,h1,h2⟩=>⟨x,h1,by rw [key x h1];exact h2⟩⟩
theorem all_agree {vars:Nat} {K:List (List Int)} (hl:LitsL vars K) {f g:Nat->Bool} (h:∀ i,i<vars->f i=g i):K.all (clS f)=K.all (clS g):=by
 rw [Bool.eq_iff_iff,List.all_eq_true,List.all_eq_true]
 exact ⟨fun a c hc=>by rw [<- clS_agree (hl c hc) h];exact a c hc,fun a c hc=>by rw [clS_agree (hl c hc) h];exact a c hc⟩
theorem all_bits {vars:Nat} (h24:vars<=24) {K:List (List Int)} (hl:LitsL vars K) (vals:Nat):K.all (clS (bitsF vals))=allK vals K:=by
 unfold allK
 rw [Bool.eq_iff_iff,List.all_eq_true,List.all_eq_true]
 have h24:∀ c ∈ K,Lits 24 c:=fun c hc x hx=>lit_24 (by omega) (hl c hc x hx)
 exact ⟨fun h c hc=>by rw [<- clS_bits (h24 c hc)];exact h c hc,fun h c hc=>by rw [clS_bits (h24 c hc)];exact h c hc⟩
theorem satL_allK {vars:Nat} (h24:vars<=24) {K:List (List Int)} (hl:LitsL vars K) {vals:Nat} (h:SatL vals K):allK vals K=true:=by
 unfold allK
 rw [List.all_eq_true]
 intro c hc
 obtain ⟨x,hx,hh⟩:=h c hc
 unfold holdK
 rw [List.any_eq_true]
 exact ⟨x,hx,by unfold litK;rw [lit_24 (by omega) (hl c hc x hx),hh];rfl⟩
theorem many_sat {vars:Nat} (h24:vars<=24) {K:List (List Int)} (hl:LitsL vars K):manyN vars K ≠ 0 ↔ satB K=true:=by
 unfold manyN
 rw [cntV_pos,satB_true]
 constructor
 ·rintro ⟨f',-,h2⟩
  refine ⟨numOf' f' vars,satL_of ?_⟩
  rw [<- all_bits h24 hl,all_agree hl (g:=f') (fun i hi=>numOf_bit f' vars i hi)]
  exact h2
 ·rintro ⟨vals,h⟩
  refine ⟨fun i=>decide (i<vars) && bitsF vals i,fun i hi=>?_,?_⟩
  ·have:¬ i<vars:=by omega
   simp [this]
  ·rw [all_agree hl (g:=bitsF vals) (fun i hi=>by simp [hi]),all_bits h24 hl]
   exact satL_allK h24 hl h
theorem many_zero {vars:Nat} (h24:vars<=24) {K:List (List Int)} (hl:LitsL vars K):decide (manyN vars K=0)=!satB K:=by
 have:=many_sat h24 hl
 cases hs:satB K with
 | true=>simpa using this.2 hs
 | false =>
  rw [hs] at this
  have:¬ manyN vars K ≠ 0:=fun h=>by cases this.1 h
  simpa using this
end Go.Proofs.YtlahnpmoeefapaaGreatDoor.Bd
namespace Go.Proofs.YtlahnpmoeefapaaGreatDoor
open Go.RowKit Go.Deep Sv
def ReadRes (w:World) (r:Option (List Ln × List It)) (e:Ending) (w':World):Prop :=
 match r with
 | none=>e=.returned (.tuple #[.pointer none,.agg #[.int .i64 0,.slice none 0 0,.slice none 0 0],.bool false])/\Below w.heap.size w w'
 | some (ls,its)=>∃ bc cv fv,e=.returned (.tuple #[.pointer (some ⟨bc,0,none⟩),.agg #[.int .i64 (its.length:Int),cv,fv],.bool true])/\CatAt w' bc ls its/\RS w.heap.size w' cv fv ((ofL its ls).map Prod.snd) ((ofL its ls).map Prod.fst)/\Below w.heap.size w w'
theorem set3 {W:World} {b:Nat} {t:TypeId} {x y z:Value} (h:Blk W b t #[x,y,z]) (p q r:Value):Blk (((W.setCell ⟨b,0,none⟩ p).setCell ⟨b,1,none⟩ q).setCell ⟨b,2,none⟩ r) b t #[p,q,r]:=((h.set (i:=0)).set (i:=1)).set (i:=2)
theorem below3 {w W:World} (h:Below w.heap.size w W) (p q r:Value):Below w.heap.size w (((W.setCell ⟨w.heap.size,0,none⟩ p).setCell ⟨w.heap.size,1,none⟩ q).setCell ⟨w.heap.size,2,none⟩ r) :=
 ((h.setCell (p:=⟨w.heap.size,0,none⟩) (Nat.le_refl _) _).setCell (p:=⟨w.heap.size,1,none⟩) (Nat.le_refl _) _).setCell (p:=⟨w.heap.size,2,none⟩) (Nat.le_refl _) _
theorem read_c (s:ByteArray) (most:Nat) (w:World) (hw:Lw w):Calls Tryz.prog 31 #[.string s,.int .i64 (most:Int)] w (ReadRes w (readF s most)):=by
 obtain ⟨R,hR⟩:∃ R,readF s most=R:=⟨_,rfl⟩
 rw [hR]
 have HRF:=Lib.hid hR
 have hb0:=below_new w (.cells #[.int .i64 0,.slice none 0 0,.slice none 0 0] 65)
 have k5:=Blk.new w 65 #[.int .i64 0,.slice none 0 0,.slice none 0 0]
 have HPA:=Lib.hid (parse_any_c s (w.alloc (.cells #[.int .i64 0,.slice none 0 0,.slice none 0 0] 65)) (hw.below hb0))
 clear hR hw
 have K5:=Lib.hid k5
 have HB0:=Lib.hid hb0
 have hsz:(w.alloc (.cells #[.int .i64 0,.slice none 0 0,.slice none 0 0] 65)).heap.size=w.heap.size + 1:=World.size_alloc _ _
 go_enter Tryz.func31,Tryz.ntmps31
 go_upto_region 1 with fail
 generalize w.alloc (.cells #[.int .i64 0,.slice none 0 0,.slice none 0 0] 65)=W0 at *
 have hzs:(0:Nat)=0:=rfl
 by_cases hs:1500<s.size
 ·obtain rfl:R=none:=by rw [<- HRF.out];unfold readF;rw [if_pos hs]
  have hsi:(1500:Int)<(s.size:Int):=by omega
  have f0:=k5.frozen 0
  have f1:=k5.frozen 1
  have f2:=k5.frozen 2
  have c0:W0.cell? ⟨w.heap.size,0,none⟩=some (.int .i64 0):=k5.cell 0
  have c1:W0.cell? ⟨w.heap.size,1,none⟩=some (.slice none 0 0):=k5.cell 1
  have c2:W0.cell? ⟨w.heap.size,2,none⟩=some (.slice none 0 0):=k5.cell 2
  have Q0:=Lib.hid (set3 K5.out (.int .i64 0) (.slice none 0 0) (.slice none 0 0))
  have HB:=Lib.hid (below3 HB0.out (.int .i64 0) (.slice none 0 0) (.slice none 0 0))
  clear k5 hb0 HPA
  go_wp2
  generalize ((W0.setCell ⟨w.heap.size,0,none⟩ (.int .i64 0)).setCell ⟨w.heap.size,1,none⟩ (.slice none 0 0)).setCell ⟨w.heap.size,2,none⟩ (.slice none 0 0)=WG at *
  have r0:=Q0.out.cell 0
  have r1:=Q0.out.cell 1
  have r2:=Q0.out.cell 2
  refine bodyPost_ret (v:=.tuple #[.pointer none,.agg #[.int .i64 0,.slice none 0 0,.slice none 0 0],.bool false]) (by simp [results,Tryz.f31,go_sem,r0,r1,r2]) rfl ?_
  exact ⟨rfl,HB.out⟩
 ·have hsi:¬ (1500:Int)<(s.size:Int):=by omega
  cases hp:parseF s with
  | error e2 =>
   obtain ⟨pk,pp⟩:=e2
   obtain rfl:R=none:=by rw [<- HRF.out];unfold readF;rw [if_neg hs,hp]
   rw [hp] at HPA
   have HP2:Hid (Calls Tryz.prog 58 #[.string s] W0 fun e w'=>∃ er,e=.returned (.tuple #[.pointer none,er])/\ErrP w' er pk pp/\Below W0.heap.size W0 w'):=HPA.out
   clear hp HPA k5 hb0
   go_wp2_with fail
   refine HP2.out.mono ?_
   rintro e w1 ⟨er,rfl,herr,hb1⟩
   obtain ⟨et,ev,rfl⟩:=herr.form
   have hlt:w.heap.size<W0.heap.size:=K5.out.lt
   have k5:=K5.out.below hb1 hlt
   have f0:=k5.frozen 0
   have f1:=k5.frozen 1
   have f2:=k5.frozen 2
   have c0:w1.cell? ⟨w.heap.size,0,none⟩=some (.int .i64 0):=k5.cell 0
   have c1:w1.cell? ⟨w.heap.size,1,none⟩=some (.slice none 0 0):=k5.cell 1
   have c2:w1.cell? ⟨w.heap.size,2,none⟩=some (.slice none 0 0):=k5.cell 2
   have Q0:=Lib.hid (set3 k5 (.int .i64 0) (.slice none 0 0) (.slice none 0 0))
   have HB:=Lib.hid (below3 (HB0.out.trans (hb1.mono HB0.out.size)) (.int .i64 0) (.slice none 0 0) (.slice none 0 0))
   clear k5 hb1 HP2 herr
   go_wp2
   generalize ((w1.setCell ⟨w.heap.size,0,none⟩ (.int .i64 0)).setCell ⟨w.heap.size,1,none⟩ (.slice none 0 0)).setCell ⟨w.heap.size,2,none⟩ (.slice none 0 0)=WG at *
   have r0:=Q0.out.cell 0
   have r1:=Q0.out.cell 1
   have r2:=Q0.out.cell 2
   refine bodyPost_ret (v:=.tuple #[.pointer none,.agg #[.int .i64 0,.slice none 0 0,.slice none 0 0],.bool false]) (by simp [results,Tryz.f31,go_sem,r0,r1,r2]) rfl ?_
   exact ⟨rfl,HB.out⟩
  | ok li =>
   obtain ⟨ls,its⟩:=li
   have hnw:=newF_ok (parseF_ok hp)
   have hrf:R=if 200<(ofL its ls).length\/most<its.length then none else some (ls,its):=by rw [<- HRF.out];unfold readF;rw [if_neg hs,hp]
   rw [hp] at HPA
   have HP2:Hid (Calls Tryz.prog 58 #[.string s] W0 fun e w'=>∃ bc vs,e=.returned (.tuple #[.pointer (some ⟨bc,0,none⟩),.nilIface])/\CatV w' bc ls vs its W0.heap.size/\(∀ k,k<W0.heap.size->RgN ls vs (some k))/\Below W0.heap.size W0 w'):=HPA.out
   have HRR:=Lib.hid hrf
   clear hp HPA k5 hb0 HRF hrf
   go_wp2_with fail
   refine HP2.out.mono ?_
   rintro e w1 ⟨bc,vs,rfl,hcat,hlow,hb1⟩
   have HOF:=Lib.hid (of_c bc ls its w1 hcat.cat hnw.1 (by omega) (fun x hx=>check_names (hnw.2.2 x hx)))
   have HCAT:=Lib.hid hcat
   have HLOW:=Lib.hid hlow
   have HB1:=Lib.hid hb1
   have hs1:=hb1.size
   have hlt:w.heap.size<W0.heap.size:=K5.out.lt
   have K51:=Lib.hid (K5.out.below hb1 hlt)
   have hn24:=hnw.1
   clear HP2 hcat hlow hb1 hnw K5
   obtain ⟨PF,hPF⟩:∃ PF,ofL its ls=PF:=⟨_,rfl⟩
   rw [hPF] at HOF HRR
   have HPF:=Lib.hid hPF
   clear hPF
   go_wp2_with fail
   refine HOF.out.mono ?_
   intro e w2 hres
   rcases hres with ⟨hbig,rfl,hb2⟩ | ⟨hbig,cv,fv,rfl,hrs,hb2⟩
   ·obtain rfl:R=none:=by rw [HRR.out,if_pos (Or.inl hbig)]
    have k5:=((K51.out.below hb2 K51.out.lt).alloc (.cells #[.int .i64 0,.slice none 0 0,.slice none 0 0] 65))
    have hbn:=below_new w2 (.cells #[.int .i64 0,.slice none 0 0,.slice none 0 0] 65)
    have HBX:=Lib.hid ((HB0.out.trans (HB1.out.mono HB0.out.size)).trans (hb2.mono (by have:=HB0.out.size;omega)))
    have HBY:=Lib.hid (HBX.out.trans (hbn.mono HBX.out.size))
    have K5:=Lib.hid k5
    clear k5 hbn hb2 HOF K51 HCAT HLOW HB1
    go_upto_region 7 with fail
    generalize w2.alloc (.cells #[.int .i64 0,.slice none 0 0,.slice none 0 0] 65)=W3 at *
    have k5:=K5.out
    have f0:=k5.frozen 0
    have f1:=k5.frozen 1
    have f2:=k5.frozen 2
    have c0:W3.cell? ⟨w.heap.size,0,none⟩=some (.int .i64 0):=k5.cell 0
    have c1:W3.cell? ⟨w.heap.size,1,none⟩=some (.slice none 0 0):=k5.cell 1
    have c2:W3.cell? ⟨w.heap.size,2,none⟩=some (.slice none 0 0):=k5.cell 2
    have Q0:=Lib.hid (set3 k5 (.int .i64 0) (.slice none 0 0) (.slice none 0 0))
    have HB:=Lib.hid (below3 HBY.out (.int .i64 0) (.slice none 0 0) (.slice none 0 0))
    clear k5
    go_wp2
    generalize ((W3.setCell ⟨w.heap.size,0,none⟩ (.int .i64 0)).setCell ⟨w.heap.size,1,none⟩ (.slice none 0 0)).setCell ⟨w.heap.size,2,none⟩ (.slice none 0 0)=WG at *
    have r0:=Q0.out.cell 0
    have r1:=Q0.out.cell 1
    have r2:=Q0.out.cell 2
    refine bodyPost_ret (v:=.tuple #[.pointer none,.agg #[.int .i64 0,.slice none 0 0,.slice none 0 0],.bool false]) (by simp [results,Tryz.f31,go_sem,r0,r1,r2]) rfl ?_
    exact ⟨rfl,HB.out⟩
   ·obtain ⟨ca,cc,rfl⟩:∃ a c,cv=.slice a PF.length c:=by obtain ⟨cs,h1,_⟩:=hrs.crow;obtain ⟨a,c,e,_⟩:=(rowAt_own h1).form;exact ⟨a,c,by simpa using e⟩
    obtain ⟨fa,fc,rfl⟩:∃ a c,fv=.slice a PF.length c:=by obtain ⟨a,c,e,_⟩:=(rowAt_own hrs.frow).form;exact ⟨a,c,by simpa using e⟩
    have hbn:=below_new w2 (.cells #[.int .i64 (its.length:Int),.slice ca PF.length cc,.slice fa PF.length fc] 65)
    have k5:=((K51.out.below hb2 K51.out.lt).alloc (.cells #[.int .i64 (its.length:Int),.slice ca PF.length cc,.slice fa PF.length fc] 65))
    have k9:=Blk.new w2 65 #[.int .i64 (its.length:Int),.slice ca PF.length cc,.slice fa PF.length fc]
    have HBX:=Lib.hid ((HB0.out.trans (HB1.out.mono HB0.out.size)).trans (hb2.mono (by have:=HB0.out.size;omega)))
    have HBY:=Lib.hid (HBX.out.trans (hbn.mono HBX.out.size))
    have HRS:=Lib.hid (hrs.new hbn)
    have HCA:=Lib.hid ((HCAT.out.below hb2 (Nat.le_refl _)).below hbn (Nat.le_refl _))
    have K5:=Lib.hid k5
    have K9:=Lib.hid k9
    have h29:w1.heap.size<=w2.heap.size:=hb2.size
    clear k5 k9 hbn hb2 HOF K51 HCAT hrs HB1
    go_upto_region 7 with fail
    generalize w2.alloc (.cells #[.int .i64 (its.length:Int),.slice ca PF.length cc,.slice fa PF.length fc] 65)=W3 at *
    generalize w2.heap.size=b9 at *
    have k5:=K5.out
    have f0:=k5.frozen 0
    have f1:=k5.frozen 1
    have f2:=k5.frozen 2
    have c0:W3.cell? ⟨w.heap.size,0,none⟩=some (.int .i64 0):=k5.cell 0
    have c1:W3.cell? ⟨w.heap.size,1,none⟩=some (.slice none 0 0):=k5.cell 1
    have c2:W3.cell? ⟨w.heap.size,2,none⟩=some (.slice none 0 0):=k5.cell 2
    have e0:W3.cell? ⟨b9,0,none⟩=some (.int .i64 (its.length:Int)):=K9.out.cell 0
    have e1:W3.cell? ⟨b9,1,none⟩=some (.slice ca PF.length cc):=K9.out.cell 1
    have e2:W3.cell? ⟨b9,2,none⟩=some (.slice fa PF.length fc):=K9.out.cell 2
    clear k5
    by_cases hmo:most<its.length
    ·obtain rfl:R=none:=by rw [HRR.out,if_pos (Or.inr hmo)]
     have hmi:(most:Int)<(its.length:Int):=by omega
     have Q0:=Lib.hid (set3 K5.out (.int .i64 0) (.slice none 0 0) (.slice none 0 0))
     have HB:=Lib.hid (below3 HBY.out (.int .i64 0) (.slice none 0 0) (.slice none 0 0))
     clear HCA HRS HLOW
     go_wp2
     generalize ((W3.setCell ⟨w.heap.size,0,none⟩ (.int .i64 0)).setCell ⟨w.heap.size,1,none⟩ (.slice none 0 0)).setCell ⟨w.heap.size,2,none⟩ (.slice none 0 0)=WG at *
     have r0:=Q0.out.cell 0
     have r1:=Q0.out.cell 1
     have r2:=Q0.out.cell 2
     refine bodyPost_ret (v:=.tuple #[.pointer none,.agg #[.int .i64 0,.slice none 0 0,.slice none 0 0],.bool false]) (by simp [results,Tryz.f31,go_sem,r0,r1,r2]) rfl ?_
     exact ⟨rfl,HB.out⟩
    ·obtain rfl:R=some (ls,its):=by rw [HRR.out,if_neg (by omega)]
     have hmi:¬ (most:Int)<(its.length:Int):=by omega
     have hkl:w.heap.size<w1.heap.size:=by omega
     have q0:=set3 K5.out (.int .i64 (its.length:Int)) (.slice ca PF.length cc) (.slice fa PF.length fc)
     have hB:=below3 HBY.out (.int .i64 (its.length:Int)) (.slice ca PF.length cc) (.slice fa PF.length fc)
     have hR:=((HRS.out.set (i:=0) (v:=.int .i64 (its.length:Int)) K5.out hkl).set (i:=1) (v:=.slice ca PF.length cc) (K5.out.set (i:=0)) hkl).set (i:=2) (v:=.slice fa PF.length fc) ((K5.out.set (i:=0)).set (i:=1)) hkl
     have hCA:=((HCA.out.set (k:=w.heap.size) (i:=0) (x:=.int .i64 (its.length:Int)) hlt (HLOW.out _ hlt)).set (k:=w.heap.size) (i:=1) (x:=.slice ca PF.length cc) hlt (HLOW.out _ hlt)).set (k:=w.heap.size) (i:=2) (x:=.slice fa PF.length fc) hlt (HLOW.out _ hlt)
     have Q0:Hid (Blk (((W3.setCell ⟨w.heap.size,0,none⟩ (.int .i64 (its.length:Int))).setCell ⟨w.heap.size,1,none⟩ (.slice ca PF.length cc)).setCell ⟨w.heap.size,2,none⟩ (.slice fa PF.length fc)).drew w.heap.size 65 #[.int .i64 (its.length:Int),.slice ca PF.length cc,.slice fa PF.length fc]):=q0
     have HB:Hid (Below w.heap.size w (((W3.setCell ⟨w.heap.size,0,none⟩ (.int .i64 (its.length:Int))).setCell ⟨w.heap.size,1,none⟩ (.slice ca PF.length cc)).setCell ⟨w.heap.size,2,none⟩ (.slice fa PF.length fc)).drew):=hB.drew
     have hbd:Below (((W3.setCell ⟨w.heap.size,0,none⟩ (.int .i64 (its.length:Int))).setCell ⟨w.heap.size,1,none⟩ (.slice ca PF.length cc)).setCell ⟨w.heap.size,2,none⟩ (.slice fa PF.length fc)).heap.size (((W3.setCell ⟨w.heap.size,0,none⟩ (.int .i64 (its.length:Int))).setCell ⟨w.heap.size,1,none⟩ (.slice ca PF.length cc)).setCell ⟨w.heap.size,2,none⟩ (.slice fa PF.length fc)) (((W3.setCell ⟨w.heap.size,0,none⟩ (.int .i64 (its.length:Int))).setCell ⟨w.heap.size,1,none⟩ (.slice ca PF.length cc)).setCell ⟨w.heap.size,2,none⟩ (.slice fa PF.length fc)).drew:=(Below.refl _ _).drew
     have HR3:Hid (RS w.heap.size (((W3.setCell ⟨w.heap.size,0,none⟩ (.int .i64 (its.length:Int))).setCell ⟨w.heap.size,1,none⟩ (.slice ca PF.length cc)).setCell ⟨w.heap.size,2,none⟩ (.slice fa PF.length fc)).drew (.slice ca PF.length cc) (.slice fa PF.length fc) (PF.map Prod.snd) (PF.map Prod.fst)):=(hR.new hbd).base (Nat.le_of_lt hkl)
     have HC3:Hid (CatAt (((W3.setCell ⟨w.heap.size,0,none⟩ (.int .i64 (its.length:Int))).setCell ⟨w.heap.size,1,none⟩ (.slice ca PF.length cc)).setCell ⟨w.heap.size,2,none⟩ (.slice fa PF.length fc)).drew bc ls its):=(hCA.below hbd (Nat.le_refl _)).cat
     clear q0 hB hR hCA hbd HRS HCA HLOW
     go_upto_region 9 with fail
     go_big_region
     generalize (((W3.setCell ⟨w.heap.size,0,none⟩ (.int .i64 (its.length:Int))).setCell ⟨w.heap.size,1,none⟩ (.slice ca PF.length cc)).setCell ⟨w.heap.size,2,none⟩ (.slice fa PF.length fc)).drew=WG at *
     go_wp2
     have r0:=Q0.out.cell 0
     have r1:=Q0.out.cell 1
     have r2:=Q0.out.cell 2
     refine bodyPost_ret (v:=.tuple #[.pointer (some ⟨bc,0,none⟩),.agg #[.int .i64 (its.length:Int),.slice ca PF.length cc,.slice fa PF.length fc],.bool true]) (by simp [results,Tryz.f31,go_sem,r0,r1,r2]) rfl ?_
     refine ⟨bc,_,_,rfl,HC3.out,?_,HB.out⟩
     rw [HPF.out]
     exact HR3.out
end Go.Proofs.YtlahnpmoeefapaaGreatDoor
namespace Go.Proofs.YtlahnpmoeefapaaGreatDoor
open Go.RowKit Go.Deep Sv
theorem read_some (s:ByteArray) (w:World) (hw:Lw w) (ls:List Ln) (its:List It) (m:Nat) (hr:readF s m=some (ls,its)):Calls Tryz.prog 31 #[.string s,.int .i64 (m:Int)] w fun e w'=>∃ bc ca cc fa fc,e=.returned (.tuple #[.pointer (some ⟨bc,0,none⟩),.agg #[.int .i64 (its.length:Int),.slice ca (ofL its ls).length cc,.slice fa (ofL its ls).length fc],.bool true])/\(ca=none->cc=0)/\CatAt w' bc ls its/\RS w.heap.size w' (.slice ca (ofL its ls).length cc) (.slice fa (ofL its ls).length fc) ((ofL its ls).map Prod.snd) ((ofL its ls).map Prod.fst)/\Below w.heap.size w w':=by
 have HRD0:=read_c s m w hw
 rw [hr] at HRD0
 refine HRD0.mono fun e w' ⟨bc,cv,fv,h1,h2,h3,h4⟩=>?_
 obtain ⟨ca,cc,e1,hn1⟩:∃ a c,cv=.slice a (ofL its ls).length c/\(a=none->c=0):=by obtain ⟨cs,h1,_⟩:=h3.crow;obtain ⟨a,c,e,hn,_⟩:=(rowAt_own h1).form;exact ⟨a,c,by simpa using e,hn⟩
 obtain ⟨fa,fc,e2⟩:∃ a c,fv=.slice a (ofL its ls).length c:=by obtain ⟨a,c,e,_⟩:=(rowAt_own h3.frow).form;exact ⟨a,c,by simpa using e⟩
 subst e1 e2
 exact ⟨bc,ca,cc,fa,fc,h1,hn1,h2,h3,h4⟩
theorem readF_ok {s:ByteArray} {m:Nat} {ls:List Ln} {its:List It} (hr:readF s m=some (ls,its)):newF ls=.ok its/\(ofL its ls).length<=200/\its.length<=m:=by
 unfold readF at hr
 split at hr
 ·cases hr
 ·split at hr
  ·cases hr
  ·rename_i ls' its' hp
   split at hr
   ·cases hr
   ·rename_i hle
    cases hr
    exact ⟨parseF_ok hp,by omega,by omega⟩
theorem all_check {ls:List Ln} {its:List It} (h:newF ls=.ok its) (hP:(ofL its ls).length<=200):(checkF (its.length:Nat) ((ofL its ls).map Prod.snd)).1=0:=by
 have hl:=(newF_ok h).1
 rw [checkF_ok (by omega) (by omega) (by rw [List.length_map];exact hP) (fun j hj=>?_)]
 have hm:((ofL its ls).map Prod.snd).getD j [] ∈ (ofL its ls).map Prod.snd:=by rw [List.getD_eq_getElem?_getD,List.getElem?_eq_getElem hj];exact List.getElem_mem hj
 obtain ⟨x,hx,e⟩:=List.mem_map.1 hm
 obtain ⟨h1,h2⟩:=ofL_fine h x hx
 rw [<- e]
 unfold badC
 rw [Bool.or_eq_false_iff]
 refine ⟨by simp;omega,?_⟩
 rw [List.any_eq_false]
 intro y hy
 simp [h1 y hy]
end Go.Proofs.YtlahnpmoeefapaaGreatDoor
namespace Go.Proofs.YtlahnpmoeefapaaGreatDoor
open Sv
theorem mixedP:Tryz.prog.follows .mixedOrders=true:=by kernel_rfl
end Go.Proofs.YtlahnpmoeefapaaGreatDoor
namespace Go.Proofs.YtlahnpmoeefapaaGreatDoor.Bd
open Go.RowKit Go.Deep Sv Lib Go.Sort
theorem sholds_none (s:ByteArray) (vals:Nat) (w:World) (hw:Lw w) (hr:readF s 10=none):Calls Tryz.prog 5 #[.string s,.int .u64 (vals:Int)] w fun e w'=>e=.returned (.bool true)/\Below w.heap.size w w':=by
 have HRD0:=read_c s 10 w hw
 rw [hr] at HRD0
 have HRD:Hid (Calls Tryz.prog 31 #[.string s,.int .i64 10] w fun e w'=>e=.returned (.tuple #[.pointer none,.agg #[.int .i64 0,.slice none 0 0,.slice none 0 0],.bool false])/\Below w.heap.size w w'):=HRD0
 have HCO:Hid (∀ W,Below w.heap.size w W->Calls Tryz.prog 32 #[] W fun e w'=>e=.returned (.bool true)/\Below W.heap.size W w'):=fun W hb=>laid_k W (hw.below hb)
 clear HRD0 hr hw
 go_enter Tryz.func5,Tryz.ntmps5
 go_wp2_with fail
 refine HRD.out.mono ?_
 rintro e w1 ⟨rfl,hb1⟩
 have HB1:Hid (Below w.heap.size w (w1.alloc (.cells #[.int .i64 0,.slice none 0 0,.slice none 0 0] 65))):=hb1.alloc hb1.size _
 clear hb1 HRD
 go_upto_region 2 with fail
 generalize w1.alloc (.cells #[.int .i64 0,.slice none 0 0,.slice none 0 0] 65)=W1 at *
 go_wp2_with fail
 refine (HCO.out W1 HB1.out).mono ?_
 rintro e w2 ⟨rfl,hb2⟩
 have HB2:Hid (Below w.heap.size w w2):=HB1.out.trans (hb2.mono HB1.out.size)
 clear hb2 HB1
 go_wp2_with fail
 refine (HCO.out w2 HB2.out).mono ?_
 rintro e w3 ⟨rfl,hb3⟩
 have HB3:Hid (Below w.heap.size w w3):=HB2.out.trans (hb3.mono HB2.out.size)
 clear hb3 HB2 HCO
 go_wp2
 go_ret
 exact ⟨rfl,HB3.out⟩
theorem below_dn (w:World) (n:Nat):Below w.heap.size w (w.drewN n):=⟨rfl,rfl,rfl,Nat.le_refl _,fun _ _=>rfl⟩
theorem solve_ten (n:Nat) (hn:n<=10) (K:List (List Int)) (hl:LitsL n K) (hc:(checkF n K).1=0) (hm:K.length<=9223372036854775807) (a:Option Addr) (cap:Nat) (h0:a=none->cap=0) (w:World) (hI:ClsIn w a K) :
  Calls Tryz.prog 34 #[.int .i64 (n:Int),.slice a K.length cap] w fun e w'=>∃ nn pa pn pc,e=.returned (.tuple #[.agg #[.bool (satB K),.int .u64 nn,.slice pa pn pc],.nilIface])/\Below w.heap.size w w' :=
 (solve_can n K a cap h0 w hI hm hc).mono fun e w' ⟨b,nn,pa,pn,pc,er,he,hce,hb⟩=>by
  obtain ⟨rfl,rfl⟩:=canE_sat (by omega) hl (fun r hr=>ten_not_limit hn hl hr) hce
  exact ⟨nn,pa,pn,pc,he,hb⟩
theorem sholds_some (s:ByteArray) (vals:Nat) (hvals:vals<18446744073709551616) (w:World) (hw:Lw w) (ls:List Ln) (its:List It) (hr:readF s 10=some (ls,its)):Calls Tryz.prog 5 #[.string s,.int .u64 (vals:Int)] w fun e w'=>e=.returned (.bool true)/\Below w.heap.size w w':=by
 obtain ⟨hN,hP,hv⟩:=readF_ok hr
 have HRD:=Lib.hid (read_some s w hw ls its 10 hr)
 have HCO:Hid (∀ W,Below w.heap.size w W->Calls Tryz.prog 32 #[] W fun e w'=>e=.returned (.bool true)/\Below W.heap.size W w'):=fun W hb=>laid_k W (hw.below hb)
 have hnk:=newF_ok hN
 have hnm:∀ x ∈ ls,x.name.size<=100000/\x.other.size<=100000:=fun x hx=>check_names (hnk.2.2 x hx)
 have hfine:=ofL_fine hN
 have hLL:LitsL its.length ((ofL its ls).map Prod.snd):=fun c hc=>by
  obtain ⟨x,hx,rfl⟩:=List.mem_map.1 hc
  exact (hfine x hx).1
 have hchk:(checkF its.length ((ofL its ls).map Prod.snd)).1=0:=all_check hN hP
 have hroom:((2 * 2 ^ its.length + 25 * its.length:Nat):Int)<=4000 + 1:=by
  have:=pow10 hv
  omega
 have HOF:Hid (∀ W bk,CatAt W bk ls its->Calls Tryz.prog 13 #[.pointer (some ⟨bk,0,none⟩),.int .i64 4000] W fun e w'=>∃ p s b O,e=.returned (.tuple #[.pointer (some ⟨p,0,none⟩),.nilIface])/\SolAt W.heap.size w' p s b O its.length 4000 (clF ((ofL its ls).map Prod.snd))/\Below W.heap.size W w'):=fun W bk hc=>of_fine bk ls its W hc hN hv (by omega) hnm hP 4000 (by decide) (by decide) hroom
 have hKl:((ofL its ls).map Prod.snd).length=(ofL its ls).length:=List.length_map _
 generalize hvr:its.length=vars at *
 generalize hK:(ofL its ls).map Prod.snd=K at *
 have HSV:Hid (∀ W a cap,(a=none->cap=0)->ClsIn W a K->Calls Tryz.prog 34 #[.int .i64 (vars:Int),.slice a K.length cap] W fun e w'=>∃ nn pa pn pc,e=.returned (.tuple #[.agg #[.bool (satB K),.int .u64 nn,.slice pa pn pc],.nilIface])/\Below W.heap.size W w'):=fun W a cap h0 hc=>solve_ten vars hv K hLL hchk (by omega) a cap h0 W hc
 have HAL:Hid (∀ W a cap,ClsIn W a K->Calls Tryz.prog 35 #[.slice a K.length cap,.int .u64 (vals:Int)] W fun e w'=>e=.returned (.bool (allK vals K))/\Below W.heap.size W w'):=fun W a cap hc=>allHold_any K a cap vals hvals W hc (by omega)
 have HMZ:=Lib.hid (many_zero (show vars<=24 by omega) hLL)
 have HLL:=Lib.hid hLL
 have HML:=Lib.hid (manyN_le (show vars<=12 by omega) K)
 rw [<- hKl] at HRD hP
 clear hr hw hN hnk hnm hfine hchk hroom hvr hLL hKl hK
 go_enter Tryz.func5,Tryz.ntmps5
 go_wp2_with fail
 refine HRD.out.mono ?_
 rintro e w1 ⟨bc,ca,cc,fa,fc,rfl,hnc,hcat,hrs,hb1⟩
 have hcls:ClsIn w1 ca K:=by
  obtain ⟨cs,h1,h2,_⟩:=hrs.crow
  exact ClsK.cls (B:=0) (cap:=cc) h2 (ownsRow_base h1 (Nat.zero_le _))
 have hbn:=Go.Proofs.YtlahnpmoeefapaaGreatDoor.below_new w1 (.cells #[.int .i64 (vars:Int),.slice ca K.length cc,.slice fa K.length fc] 65)
 have kr:=Blk.new w1 65 #[.int .i64 (vars:Int),.slice ca K.length cc,.slice fa K.length fc]
 have HCLS:=Lib.hid (hcls.below hbn)
 have HCAT:=Lib.hid (hcat.below hbn (Nat.le_refl _))
 have HB1:=Lib.hid (hb1.trans (hbn.mono hb1.size))
 clear hcat hrs hb1 hbn HRD hcls
 go_upto_region 2 with fail
 generalize w1.alloc (.cells #[.int .i64 (vars:Int),.slice ca K.length cc,.slice fa K.length fc] 65)=W1 at *
 generalize w1.heap.size=b4 at *
 go_wp2_with fail
 refine (HCO.out W1 HB1.out).mono ?_
 rintro e w2 ⟨rfl,hb2⟩
 have HB2:Hid (Below w.heap.size w w2):=HB1.out.trans (hb2.mono HB1.out.size)
 have kr2:=kr.below hb2 kr.lt
 have HCL2:=Lib.hid (HCLS.out.below hb2)
 have HO2:=Lib.hid (HOF.out w2 bc (HCAT.out.below hb2 (Nat.le_refl _)))
 clear hb2 HB1 HCO HCLS HCAT HOF kr
 go_wp2_with fail
 refine HO2.out.mono ?_
 rintro e w3 ⟨p,sp,b,O,rfl,hsol,hb3⟩
 have kr3:=kr2.below hb3 kr2.lt
 have HCL3:=Lib.hid (HCL2.out.below hb3)
 have HB3:=Lib.hid (HB2.out.trans (hb3.mono HB2.out.size))
 have d0:w3.cell? ⟨p,0,none⟩=some (.pointer (some ⟨sp,0,none⟩)):=hsol.blk.cell 0
 have d1:w3.cell? ⟨b4,0,none⟩=some (.int .i64 (vars:Int)):=kr3.cell 0
 have HVQ:Hid (∀ n,Calls Tryz.prog 14 #[.pointer (some ⟨sp,0,none⟩)] (w3.drewN n) fun e w'=>e=.returned (.int .i64 (vars:Int))/\w'=w3.drewN n):=fun n=>(vars_any (hsol.space.new (below_dn w3 n))).mono fun e w' ⟨h1,h2⟩=>⟨h1,h2.symm⟩
 have HSOL:=Lib.hid hsol
 have KR3:=Lib.hid kr3
 clear hb3 hsol HB2 HCL2 HO2 kr2 kr3
 go_wp2_with fail
 go_quiet (first | (go_at_call 14;refine Calls.quiet_of_same (HVQ.out _)))
 have hbq:=below_dn w3 nq
 have hsol4:=HSOL.out.new hbq
 have kr4:=KR3.out.below hbq KR3.out.lt
 have HCL4:=Lib.hid (HCL3.out.below hbq)
 have HB4:=Lib.hid (HB3.out.trans (hbq.mono HB3.out.size))
 clear HSOL KR3 HCL3 HB3 HVQ d0 d1 hbq
 go_wp2_with fail
 generalize w3.drewN nq=w4 at *
 have HCA:Hid (∀ W,Below w4.heap.size w4 W->CntAt W p sp (clF K).2 (manyN vars K)):=fun W hW=>cntAt_of (hsol4.new hW) (by omega) HLL.out
 have HHD:Hid (∀ W,Below w4.heap.size w4 W->Calls Tryz.prog 33 #[.pointer (some ⟨sp,0,none⟩),.int .i64 (clF K).2,.int .u64 (vals:Int)] W fun e w'=>e=.returned (.tuple #[.bool (allK vals K),.nilIface])/\Below W.heap.size W w'):=fun W hW=>sol_holds (hsol4.space.new hW) (by omega) HLL.out vals hvals
 have SC:=Lib.hid (HCA.out w4 (Below.refl _ _)).sc
 have KR4:=Lib.hid kr4
 clear hsol4 kr4 HLL
 generalize (clF K).2=al at *
 generalize allK vals K=AB at *
 generalize manyN vars K=mn at *
 generalize satB K=SB at *
 have D0:Below w4.heap.size w4 w4.drew:=(Below.refl _ _).drew
 go_region_held3 (fun X=>X.cell? ⟨p,0,none⟩=some (.pointer (some ⟨sp,0,none⟩))/\X.cell? ⟨p,1,none⟩=some (.int .i64 al)) (first | exact SC.out _ D0 | exact SC.out _ D1)
  (first | ((with_reducible refine (HHD.out _ D0).mono ?_);rintro e w5 ⟨rfl,hb5⟩;have D1:Below w4.heap.size w4 w5:=D0.trans (hb5.mono D0.size);clear hb5))
 have hca5:=HCA.out w5 D1
 have HCN:=Lib.hid hca5.cn
 have SC5:=Lib.hid hca5.sc
 have KR5:=Lib.hid (KR4.out.below D1 KR4.out.lt)
 have HCL5:=Lib.hid (HCL4.out.below D1)
 have HB5:=Lib.hid (HB4.out.trans (D1.mono HB4.out.size))
 clear hca5 KR4 HCL4 HB4 D0 D1 SC HHD HCA
 go_wp2_with fail
 have D0:Below w5.heap.size w5 w5.drew:=(Below.refl _ _).drew
 have D0a:Below w5.heap.size w5 (w5.alloc (.cells #[.slice none 0 0] 42)).drew:=((Below.refl _ _).alloc (Nat.le_refl _) _).drew
 have k0a:Blk (w5.alloc (.cells #[.slice none 0 0] 42)).drew w5.heap.size 42 #[.slice none 0 0]:=Blk.new w5 42 #[.slice none 0 0]
 go_cut [11,12] (fun q e wx=>CntBox w5 mn q e wx)
 case first =>
  go_region_held3 (fun X=>X.cell? ⟨p,0,none⟩=some (.pointer (some ⟨sp,0,none⟩))/\X.cell? ⟨p,1,none⟩=some (.int .i64 al)) (first | exact SC5.out _ D0 | exact SC5.out _ D0a | exact SC5.out _ D1 | exact SC5.out _ D1a | exact SC5.out _ D1s)
   (first
    | ((with_reducible refine (HCN.out _ D0).mono ?_);rintro e x1 ⟨na,cn,nc,rfl,hna,hb1⟩;have D1:Below w5.heap.size w5 x1:=D0.trans (hb1.mono D0.size);have D1a:Below w5.heap.size w5 (x1.alloc (.cells #[.slice none 0 0] 42)):=D1.alloc D1.size _;have D1s:Below w5.heap.size w5 (x1.alloc (.cells #[.slice na cn nc] 42)):=D1.alloc D1.size _;have hbx:=cntBox_a D1 hna;clear HCN D0 D0a k0a hb1)
    | ((with_reducible refine (HCN.out _ D0a).mono ?_);rintro e x1 ⟨na,cn,nc,rfl,hna,hb1⟩;have D1:Below w5.heap.size w5 x1:=D0a.trans (hb1.mono D0a.size);have kz:=k0a.below hb1 k0a.lt;have D1s:Below w5.heap.size w5 (x1.setCell ⟨w5.heap.size,0,none⟩ (.slice na cn nc)):=D1.setCell (p:=⟨w5.heap.size,0,none⟩) (Nat.le_refl _) _;have hbx:=cntBox_b D1 (Nat.le_refl _) kz hna;have z0:=kz.cell 0;have z1:=kz.frozen 0;clear HCN D0 D0a k0a hb1 kz))
  all_goals
   have HBX:=Lib.hid hbx
   clear hbx
   go_wp2_with fail
   go_meet
   case rel=>exact HBX.out
 case rest =>
  obtain ⟨qb,na,nn,nc,rfl,rfl,hql,hqc,hn,hb6⟩:=hcut
  have kr6:=KR5.out.below hb6 KR5.out.lt
  have d0:wc.cell? ⟨b4,0,none⟩=some (.int .i64 (vars:Int)):=kr6.cell 0
  have d1:wc.cell? ⟨b4,1,none⟩=some (.slice ca K.length cc):=kr6.cell 1
  have HCL6:=Lib.hid (HCL5.out.below hb6)
  have HS6:=Lib.hid (HSV.out wc ca cc hnc HCL6.out)
  have HB6:=Lib.hid (HB5.out.trans (hb6.mono HB5.out.size))
  have HN6:=Lib.hid hn
  have KR6:=Lib.hid kr6
  clear KR5 HCL5 HB5 hb6 HSV hn kr6 SC5
  go_wp2_with fail
  refine HS6.out.mono ?_
  rintro e w7 ⟨an,pa,pn,pc,rfl,hb7⟩
  have hb8:=hb7.alloc hb7.size (.cells #[.bool SB,.int .u64 an,.slice pa pn pc] 72)
  have ka:=Blk.new w7 72 #[.bool SB,.int .u64 an,.slice pa pn pc]
  have HN8:=Lib.hid (HN6.out.new hb8)
  have HCL8:=Lib.hid (HCL6.out.below hb8)
  have HB8:=Lib.hid (HB6.out.trans (hb8.mono HB6.out.size))
  have x0:=(hb8.cell (p:=⟨qb,0,none⟩) hql).trans hqc
  have x1:(w7.alloc (.cells #[.bool SB,.int .u64 an,.slice pa pn pc] 72)).cell? ⟨w7.heap.size,0,none⟩=some (.bool SB):=ka.cell 0
  have x2:(w7.alloc (.cells #[.bool SB,.int .u64 an,.slice pa pn pc] 72)).cell? ⟨b4,1,none⟩=some (.slice ca K.length cc):=(KR6.out.below hb8 KR6.out.lt).cell 1
  clear hb7 hb8 ka HN6 HCL6 HB6 KR6 HS6 d0 d1 hqc
  go_upto_region 10 with fail
  generalize w7.alloc (.cells #[.bool SB,.int .u64 an,.slice pa pn pc] 72)=W8 at *
  have HALq:Hid (∀ d os,Calls Tryz.prog 35 #[.slice ca K.length cc,.int .u64 (vals:Int)] (grow (redrawn W8 d) os) fun e w''=>e=.returned (.bool AB)/\∃ p:Regrown,w''=grow (redrawn W8 p.d) p.os):=fun d os=>Calls.regrown_of (HAL.out _ ca cc (HCL8.out.below (below_regrown W8 d os)))
  have HZq:Hid (∀ d os,Calls Tryz.prog 36 #[.agg #[.slice na nn nc]] (grow (redrawn W8 d) os) fun e w''=>e=.returned (.bool (!SB))/\∃ p:Regrown,w''=grow (redrawn W8 p.d) p.os):=fun d os=>Calls.regrown_of (by
   have:=zero_c (HN8.out.new (below_regrown W8 d os)) HML.out
   rw [HMZ.out] at this
   exact this)
  have k0:=cell_regrown x0
  have k1:=cell_regrown x1
  have k2:=cell_regrown x2
  clear x0 x1 x2 HN8 HCL8 HAL HML HMZ
  refine wp_region_quiet_below mixedP (by kernel_rfl) ?_
  repeat (quiet_step (first | (go_at_call 35;exact HALq.out _ _) | (go_at_call 36;exact HZq.out _ _)))
  refine wpQuiet_nil ?_
  intro _ hw'
  obtain ⟨⟨dq,osq⟩,hw''⟩:=hw'
  subst hw''
  have hbq:=below_regrown W8 dq osq
  have HBQ:=Lib.hid (HB8.out.trans (hbq.mono HB8.out.size))
  clear hbq k0 k1 k2 HALq HZq
  generalize grow (redrawn W8 dq) osq=wq at *
  go_wp2
  go_ret
  exact ⟨by cases SB <;> first | rfl | simp,HBQ.out⟩
theorem sholds_any (s:ByteArray) (vals:Nat) (hvals:vals<18446744073709551616) (w:World) (hw:Lw w):Calls Tryz.prog 5 #[.string s,.int .u64 (vals:Int)] w fun e w'=>e=.returned (.bool true)/\Below w.heap.size w w':=by
 cases hr:readF s 10 with
 | none=>exact sholds_none s vals w hw hr
 | some r=>obtain ⟨ls,its⟩:=r;exact sholds_some s vals hvals w hw ls its hr
end Go.Proofs.YtlahnpmoeefapaaGreatDoor.Bd
