/- space: from. -/
import Derived.Test.YtiihalknffbjpaaGreatDoorSpEither
import Derived.Deep.RegionLaw
import Derived.Deep.RegionHeldLaw
import Derived.Test.YtiihalknffbjpaaGreatDoorPfForm
import Derived.Lib.Hide
import Derived.Test.YtiihalknffbjpaaGreatDoorSpSmall
import Derived.Test.YtiihalknffbjpaaGreatDoorCtOf
import Derived.Test.YtiihalknffbjpaaGreatDoorCtSmall
import Derived.Lib.SliceRun
import Derived.Laws.NewBlocks
import Derived.Test.YtiihalknffbjpaaGreatDoorErErrs
import Derived.Laws.Bits64b
import Derived.Deep.MidRow
import Derived.WalkSmall
import Derived.Test.YtiihalknffbjpaaGreatDoorProg
import Derived.Shelf.SlGeneric
import Derived.Shelf.SlicesE.Clone
import Derived.Shelf.SlicesG.Delete
import Derived.Lib.OwnBridge
import Derived.Test.YtiihalknffbjpaaGreatDoorCtNew
import Derived.Test.YtiihalknffbjpaaGreatDoorCtOfS
import Derived.Test.YtiihalknffbjpaaGreatDoorCtParse
import Derived.Test.YtiihalknffbjpaaGreatDoorWyMem
set_option maxHeartbeats 4000000
set_option maxRecDepth 100000
namespace Go.Proofs.YtiihalknffbjpaaGreatDoor.Bd
open Go.RowKit Go.Maps Go.Deep
theorem step_app_own {P:Program} {ops:Array Oper} {o:Oper} {a:Act} {w:World} {K:Act->World->Prop} {Q:Exit->Act->World->Prop} {E:Prop}
  (hg:o.guard=none) (s x:Operand) (t:TypeId) (hop:o.op=Op.call { callee:=Callee.builtin Builtin.append,args:=#[s,x],argTypes:=#[t,t] })
  (B:Nat) (e:TypeId) (i:TypeInfo) (z:Value) (size bytes:Nat) (h1:P.underlying t=some (.slice e)) (h2:P.info? e=some i) (h3:i.zero=some z) (h4:i.size=size) (h5:i.bytes=bytes) (h6:z.cells.size=size) (h7:0<size)
  (v:Value) (n:Nat) (olds:List Value) (hs:a.eval s=v) (hrow:w.ownsRow B e size v n olds)
  (ad:Addr) (m c:Nat) (news:List Value) (hx:a.eval x=.slice (some ad) m c) (hn:news.length=m * size) (hc:∀ j u,news[j]?=some u->w.cell? (ad.add j)=some u) (h1c:∀ u ∈ news,u.oneCell'=true)
  (b1:n + m<=maxLen) (hB:B<=w.heap.size) (b2:(n + m) * bytes<=140737488355328)
  (hK:∀ v' w',w'.ownsRow B e size v' (n + m) (olds++news)->w.grownBy w' v.ownBlock->K (a.put o.dst v') w') :
  if Region.wanted o (yielded ops a.tmps)=true then Oper.wp P o a w K Q else E:=by
 have hw:Region.wanted o (yielded ops a.tmps)=true:=by simp [Region.wanted,hg]
 rw [if_pos hw]
 obtain ⟨v',w',hrun,r1,r2,-⟩:=run_append_own_at (P:=P) w B t o.type e i z size bytes h1 h2 h3 h4 h5 h6 h7 v n olds hrow ad m c news hn hc h1c b1 b2 hB
 unfold Oper.wp
 simp [execOp,hop,resolve,invoke,builtin,hs,hx,hrun,Result.andThen]
 exact hK v' w' r1 r2
theorem oneF_eq (st:List Nd × Int) (c:List Int):oneF st c=askF true (eithR st.1 c).1 ⟨st.2,(eithR st.1 c).2,0⟩:=by
 unfold oneF eithR
 split <;> rfl
section
variable {B s b:Nat} {O:Nat->Prop} {vars:Nat} {room:Int} {ns:List Nd} {w:World}
theorem eithR_ok (hA:EAsk B w vars room ns) {c:List Int} (hl:Lits vars c):Good vars (eithR ns c).1/\Ext ns (eithR ns c).1/\hasB (eithR ns c).1 (eithR ns c).2=true/\cnt (eithR ns c).1<=cnt ns + 25 * vars/\(eithR ns c).1.length<=max ns.length (cnt ns + 600):=by
 have hv:=hA.v
 have hp:=pow10 hA.v
 have hc:=hA.cnt
 have hn:=hA.len
 unfold eithR
 cases ha:alwaysF (sidesF c) with
 | true=>rw [if_pos rfl];exact ⟨hA.good,Ext.refl _,has_end1 _,by show cnt ns<=_;omega,Nat.le_max_left _ _⟩
 | false =>
  rw [if_neg (by simp)]
  have hl24:Lits 24 c:=fun x hx=>lit_24 (by omega) (hl x hx)
  have hcl:=clauseF_vars (show vars<=24 by omega) hl
  have:=eith_ok hA.good (by omega) (by omega) (by omega) (by omega) (clauseF (sidesF c)) (by omega) (fun x hx=>lit_var (hl x ((mem_form hl24 ha).1 hx)))
  exact ⟨this.good,this.ext,this.has,by have:=this.cnt;omega,by have:=this.tight;omega⟩
theorem narrowed_c (hS:SpaceAt B w s b O vars room ns) (hA:EAsk B w vars room ns) (x:Int) (hx:hasB ns x=true) (c:List Int) (hl:Lits vars c) (a:Option Addr) (cap:Nat) (hI:IntsIn w a c) (hm:c.length<=9223372036854775807) :
  Calls Tryz.prog 160 #[.pointer (some ⟨s,0,none⟩),.int .i64 x,.slice a c.length cap] w (OpOut B s b O vars room (oneF (ns,x) c) w):=by
 rw [oneF_eq]
 have hE:=Lib.hid (either_c hS hA c hl a cap hI hm)
 obtain ⟨h1,h2,h3,h4,h5⟩:=eithR_ok hA hl
 have hv:=hA.v
 have hp:=pow10 hA.v
 have hcn:=hA.cnt
 have hn:=hA.len
 have HAN:Hid (∀ O' W,SpaceAt B W s b O' vars room (eithR ns c).1->B<=W.heap.size->Calls Tryz.prog 225 #[.pointer (some ⟨s,0,none⟩),.int .i64 x,.int .i64 (eithR ns c).2] W (OpOut B s b O' vars room (askF true (eithR ns c).1 ⟨x,(eithR ns c).2,0⟩) W)):=fun O' W hW hB=>and_op hW h1 (room_of hA.r hA.l (by omega) (by omega) (by omega) hB) _ _ (h2.has _ hx) h3
 have hB:=hA.hB
 simp only at HAN ⊢
 generalize eithR ns c=r at *
 generalize askF true r.1 ⟨x,r.2,0⟩=q at *
 clear hS hA hl hI h1 h2 h3 h4 h5 hcn hn hp hx
 go_enter Tryz.func160,Tryz.ntmps160
 go_wp2_with fail
 refine hE.out.mono ?_
 rintro e w1 ⟨rfl,O1,hS1,hM1⟩
 have HA2:=Lib.hid (HAN.out O1 w1 hS1 (Nat.le_trans hB hM1.size))
 have HM1:=Lib.hid hM1
 clear hS1 hM1 hE HAN
 go_wp2_with fail
 refine HA2.out.mono ?_
 rintro e w2 ⟨rfl,O2,hS2,hM2⟩
 have HF:Hid (∃ O',SpaceAt B w2 s b O' vars room q.1/\Moves O O' w w2):=⟨O2,hS2,HM1.out.trans hM2⟩
 clear hS2 hM2 HA2
 go_wp2
 go_ret2
 exact ⟨rfl,HF.out⟩
theorem ints_one {w:World} {B:Nat} {v:Value} {x:Int} (h:w.ownsRow B 3 1 v 1 [.int .i64 x]) (hx:I64 x):∃ g c,v=.slice (some ⟨g,0,none⟩) 1 c/\IntsAt w g [x]:=by
 rcases h.2 with ⟨e,e0⟩ | ⟨g,cap,cur,rfl,hB,hg,h1,h2,h3,h4⟩
 ·cases e0
 ·refine ⟨g,cap,rfl,⟨(h.lt g rfl).2,fun i hi=>?_,fun y hy=>by rw [List.mem_singleton.1 hy];exact hx⟩⟩
  simp at hi
  subst hi
  exact h.cellAt 0 (by omega)
theorem clauses_c {w0:World} (hr4:room<=4000) (hrl:((2 * 2 ^ vars + 25 * vars:Nat):Int)<=room + 1) (hb0:Below w0.heap.size w0 w) (hS:SpaceAt w0.heap.size w s b O vars room []) (hv:vars<=10) (K:List (List Int)) (hl:LitsL vars K) (a:Option Addr) (cap:Nat) (hI:ClsIn w0 a K) (hm:K.length<=100000) (hmc:∀ c ∈ K,c.length<=9223372036854775807) :
  Calls Tryz.prog 75 #[.pointer (some ⟨s,0,none⟩),.slice a K.length cap] w (OpOut w0.heap.size s b O vars room (clF K) w):=by
 have k0:=Blk.new w 35 #[.pointer (some ⟨s,0,none⟩)]
 have hbA:=Go.Proofs.YtiihalknffbjpaaGreatDoor.below_new w (.cells #[.pointer (some ⟨s,0,none⟩)] 35)
 have hso:=fun k h=>(hS.own k h).2
 have hsb:=fun k h=>(hS.own k h).1
 have hw0:=hb0.size
 obtain ⟨W1,hW1⟩:∃ W1,w.alloc (.cells #[.pointer (some ⟨s,0,none⟩)] 35)=W1:=⟨_,rfl⟩
 have hsz:W1.heap.size=w.heap.size + 1:=by rw [<- hW1];exact World.size_alloc _ _
 rw [hW1] at k0 hbA
 have hS1:=hS.new hbA
 have hb1:=hb0.trans (hbA.mono hb0.size)
 have HCF:Hid (Calls Tryz.prog 102 #[.slice a K.length cap,.func (.func 157) #[] #[.pointer (some ⟨w.heap.size,0,none⟩)]] W1 fun e w'=>e=.returned (.bool false)/\Below W1.heap.size W1 w'):=by
  have:=cf_cls 157 #[.pointer (some ⟨w.heap.size,0,none⟩)] (fun _=>false) K a cap W1 (by omega) ent_clauses1 (hI.below hb1) (fun W i a' cap' hW hi hc1 hc2 hi'=>clauses1_c (hS1.new hW) (by omega) (K.getD i []) (hl _ (getD_mem hi)) a' cap' hi' (hmc _ (getD_mem hi)) w.heap.size ((hW.cell (p:=⟨w.heap.size,0,none⟩) (by show w.heap.size<_;omega)).trans (k0.cell 0)))
  rw [show (K.any fun _=>false)=false by simp] at this
  exact this
 have HAB:=Lib.hid (absent_c hS1)
 have HLD:Hid (∀ W,Below W1.heap.size W1 W->Calls Tryz.prog 159 #[.pointer (some ⟨s,0,none⟩)] W fun e w'=>e=.returned (.slice none 0 0)/\W=w'):=fun W hW=>laid_c (hS1.new hW) rfl
 have HCL:=Lib.hid (clF_ok (show vars<=12 by omega) K hl)
 have HI:=Lib.hid hI
 have HL:=Lib.hid hl
 have HMC:=Lib.hid hmc
 have HB1:=Lib.hid hb1
 have HS1:=Lib.hid hS1
 have HBA:=Lib.hid hbA
 have K0:=Lib.hid k0
 have HP:=Lib.hid (pow10 hv)
 have HRL:=Lib.hid hrl
 have c0:=k0.cell 0
 have HW1:=Lib.hid hW1
 clear hI hl hmc hb1 hS1 hbA k0 hW1 hS hb0 hrl
 obtain ⟨i3,hin,hz0,hz1,hz2⟩:=info_parts infoInt
 go_enter Tryz.func75,Tryz.ntmps75
 go_upto_region 1 with fail
 rw [HW1.out]
 go_wp2_with fail
 refine HAB.out.mono ?_
 rintro e w1 ⟨rfl,rfl⟩
 clear HAB
 go_wp2_with fail
 refine HCF.out.mono ?_
 rintro e w2 ⟨rfl,hb2⟩
 have HLD2:=Lib.hid (HLD.out w2 hb2)
 have c2:w2.cell? ⟨w.heap.size,0,none⟩=some (.pointer (some ⟨s,0,none⟩)):=(hb2.cell (p:=⟨w.heap.size,0,none⟩) (by show w.heap.size<_;omega)).trans c0
 have HB2:=Lib.hid hb2
 clear hb2 HCF HLD c0
 go_wp2_with fail
 refine HLD2.out.mono ?_
 rintro e w3 ⟨rfl,rfl⟩
 clear HLD2
 go_wp2_with fail
 go_loopw [7,23] (fun o iV wr=>∃ (i:Nat) (Oi:Nat->Prop),i<=K.length/\iV=.int .i64 (i:Int)/\o=.int .i64 (clF (K.take i)).2/\SpaceAt w0.heap.size wr s b Oi vars room (clF (K.take i)).1/\Moves O Oi w2 wr) (fun _ iV _=>K.length - (intOf iV).toNat)
 case atStart=>exact ⟨0,O,Nat.zero_le _,rfl,rfl,HS1.out.new HB2.out,Moves.refl _ _⟩
 case round =>
  obtain ⟨i,Oi,hi,rfl,rfl,hSi,hMi⟩:=hrel
  have hw2:W1.heap.size<=w2.heap.size:=HB2.out.size
  have hwr:=hMi.size
  have hbr:Below w0.heap.size w0 wr:=(HB1.out.trans (HB2.out.mono HB1.out.size)).trans (hMi.below (by omega) hsb)
  have hnb:¬ O w.heap.size:=fun h=>by have:=hso _ h;omega
  have cR:wr.cell? ⟨w.heap.size,0,none⟩=some (.pointer (some ⟨s,0,none⟩)):=(hMi.cell (a:=⟨w.heap.size,0,none⟩) (by show w.heap.size<_;omega) hnb).trans c2
  have hnbi:¬ Oi w.heap.size:=hMi.beside (by omega) hnb
  by_cases hlt:i<K.length
  ·have hcr:=HCL.out i (by omega)
   have hp:=HP.out
   have hcn:=hcr.cnt
   have hln:=hcr.len
   obtain ⟨ad,a',cap',rfl,had,hcell,hc1,hc2,hii⟩:=(HI.out.below hbr) i hlt
   have hLc:Lits vars (K.getD i []):=HL.out _ (getD_mem hlt)
   have hst:clF (K.take (i + 1))=clStep (clF (K.take i)) (K.getD i []):=by
    rw [List.take_succ_eq_append_getElem hlt,clF_snoc]
    simp [List.getD_eq_getElem?_getD,List.getElem?_eq_getElem hlt]
   have hone:=one_ok hcr (show vars<=12 by omega) hLc
   have hA:EAsk w0.heap.size wr vars room (clF (K.take i)).1:=⟨hr4,HRL.out,hcr.good,hv,hcn,by omega,by omega⟩
   have HNR:Hid (Calls Tryz.prog 160 #[.pointer (some ⟨s,0,none⟩),.int .i64 (clF (K.take i)).2,.slice a' (K.getD i []).length cap'] wr (OpOut w0.heap.size s b Oi vars room (oneF (clF (K.take i)) (K.getD i [])) wr)):=narrowed_c hSi hA _ hcr.has (K.getD i []) hLc a' cap' hii (HMC.out _ (getD_mem hlt))
   have hfew:(oneF (clF (K.take i)) (K.getD i [])).1.length<=90000:=by
    have h1:=hone.tight
    have h2:=eithR_ok hA hLc
    unfold eithR at h2
    cases hq:alwaysF (sidesF (K.getD i [])) with
    | true=>rw [hq,if_pos rfl] at h1;omega
    | false=>rw [hq,if_neg (by simp)] at h1 h2;omega
   have HST:Hid (clF (K.take (i + 1))=(swept (oneF (clF (K.take i)) (K.getD i [])).1 (marksOf (oneF (clF (K.take i)) (K.getD i [])).1 [(oneF (clF (K.take i)) (K.getD i [])).2]),(oneF (clF (K.take i)) (K.getD i [])).2)):=hst
   have hgood:=hone.good
   have hi64:=has_i64 hone.has (by omega)
   generalize oneF (clF (K.take i)) (K.getD i [])=r at *
   generalize (clF (K.take i)).2=ov at *
   generalize K.getD i []=cc at *
   have HMi:=Lib.hid hMi
   have hi0:(0:Int)<=(i:Int):=by omega
   have hi1:(i:Int)<(K.length:Int):=by omega
   obtain ⟨ab,ao,asp⟩:=ad
   clear hcr hone hA hLc hst hSi hMi hbr hii hcn hln had
   go_wp2_with fail
   refine HNR.out.mono ?_
   rintro e w4 ⟨rfl,O4,hS4,hM4⟩
   have hw4:=hM4.size
   have c4:w4.cell? ⟨w.heap.size,0,none⟩=some (.pointer (some ⟨s,0,none⟩)):=(hM4.cell (a:=⟨w.heap.size,0,none⟩) (by show w.heap.size<_;omega) hnbi).trans cR
   have hbd:Below w4.heap.size w4 (w4.drew.alloc (.cells #[.int .i64 r.2] 3)):=((Below.refl _ w4).drew).alloc (Nat.le_refl _) _
   have c5:w4.drew.cell? ⟨w.heap.size,0,none⟩=some (.pointer (some ⟨s,0,none⟩)):=c4
   have c6:(w4.drew.alloc (.cells #[.int .i64 r.2] 3)).cell? ⟨w.heap.size,0,none⟩=some (.pointer (some ⟨s,0,none⟩)):=(hbd.cell (p:=⟨w.heap.size,0,none⟩) (by show w.heap.size<_;omega)).trans c4
   have hnb4:¬ O4 w.heap.size:=hM4.beside (by omega) hnbi
   have HFR:Hid (∀ W g c,Below w4.heap.size w4 W->W.cell? ⟨w.heap.size,0,none⟩=some (.pointer (some ⟨s,0,none⟩))->IntsAt W g [r.2]->Calls Tryz.prog 161 #[.pointer (some ⟨s,0,none⟩),.slice (some ⟨g,0,none⟩) 1 c] W fun e w'=>∃ n:Int,e=.returned (.int .i64 n)/\∃ O',SpaceAt w0.heap.size w' s b O' vars room (swept r.1 (marksOf r.1 [r.2]))/\Moves O4 O' W w'/\w'.cell? ⟨w.heap.size,0,none⟩=some (.pointer (some ⟨s,0,none⟩))):=fun W g c hW hcW hi=>(free_op (cp:=c) (hS4.new hW) hgood.ranked hfew (by have:=hW.size;omega) g [r.2] hi (by simp)).mono fun e w' ⟨n,he,O',h1,h2⟩=>⟨n,he,O',h1,h2,(h2.cell (a:=⟨w.heap.size,0,none⟩) (by have:=hW.size;show w.heap.size<_;omega) hnb4).trans hcW⟩
   have HRN:Hid ((w4.drew.alloc (.cells #[.int .i64 r.2] 3)).ownsRow w4.heap.size 3 1 (.slice none 0 0) 0 []):=World.ownsRow_nil _ _ _ _
   have HLI:Hid (∀ (j:Nat) (u:Value),[Value.int .i64 r.2][j]?=some u->(w4.drew.alloc (.cells #[.int .i64 r.2] 3)).cell? ((⟨w4.heap.size,0,none⟩:Addr).add j)=some u):=cell_lit w4.drew r.2 3
   have HLO:=Lib.hid (one_lit r.2)
   have HQ1:Hid (0 + 1<=maxLen):=by show 0 + 1<=maxLen;unfold maxLen;omega
   have HQ2:Hid ((0 + 1) * 8<=140737488355328):=by show (0 + 1) * 8<=140737488355328;omega
   have HSZ:Hid (w4.heap.size<=(w4.drew.alloc (.cells #[.int .i64 r.2] 3)).heap.size):=hbd.size
   have HX:Hid (∀ v7 w7,w7.ownsRow w4.heap.size 3 1 v7 (0 + 1) ([]++[.int .i64 r.2])->(w4.drew.alloc (.cells #[.int .i64 r.2] 3)).grownBy w7 (Value.ownBlock (.slice none 0 0))->Below w4.heap.size w4 w7/\w7.cell? ⟨w.heap.size,0,none⟩=some (.pointer (some ⟨s,0,none⟩))/\∃ g c,v7=.slice (some ⟨g,0,none⟩) 1 c/\IntsAt w7 g [r.2]):=fun v7 w7 h1 h2=>by
    have hb7:Below w4.heap.size w4 w7:=hbd.grown h2 hbd.size (fun k e=>by cases e)
    exact ⟨hb7,(hb7.cell (p:=⟨w.heap.size,0,none⟩) (by show w.heap.size<_;omega)).trans c4,ints_one h1 hi64⟩
   have HM4:=Lib.hid (HMi.out.trans hM4)
   clear hS4 hM4 HNR hbd c4 cR HMi hgood hfew hi64
   go_upto_region 14 with fail
   go_region_held_law (fun X=>X.cell? ⟨w.heap.size,0,none⟩=some (.pointer (some ⟨s,0,none⟩))) (first | exact S2 | exact S1 | exact c5 | exact c6)
    (first
     | (refine step_app_own rfl _ _ 47 rfl w4.heap.size 3 i3 (.int .i64 0) 1 8 Tryz.underlying47 hin hz0 hz1 hz2 rfl (by decide) (.slice none 0 0) 0 [] (by simp [Act.eval]) HRN.out ⟨w4.heap.size,0,none⟩ 1 1 [.int .i64 r.2] (by simp [Act.eval]) rfl HLI.out HLO.out HQ1.out HSZ.out HQ2.out ?_;intro v7 w7 hown7 hgrow7;obtain ⟨hb7,S1,g7,c7,rfl,hi7⟩:=HX.out _ _ hown7 hgrow7)
     | (go_at_call 161;refine (HFR.out _ _ _ hb7 S1 hi7).mono ?_;rintro e w8 ⟨n8,rfl,O8,hS8,hM8,S2⟩))
   all_goals
    have HFIN:Hid (SpaceAt w0.heap.size w8 s b O8 vars room (clF (K.take (i + 1))).1/\Moves O O8 w2 w8):=⟨by rw [HST.out];exact hS8,(HM4.out.trans (Moves.of_below O4 hb7)).trans hM8⟩
    have HOV:Hid ((clF (K.take (i + 1))).2=r.2):=by show _=_;rw [HST.out]
    clear hS8 hM8 hb7 hi7 hown7 hgrow7 S1 S2 c5 c6 HX HFR HRN HLI HLO HQ1 HQ2 HSZ HM4 HST
    go_wp2
    go_roundw
   case rel=>exact ⟨i + 1,O8,hlt,by go_num,by rw [HOV.out],HFIN.out.1,HFIN.out.2⟩
   case measure=>simp [intOf];omega
  ·obtain rfl:i=K.length:=by omega
   rw [List.take_length] at hSi ⊢
   have HFIN:Hid (∃ O',SpaceAt w0.heap.size wr s b O' vars room (clF K).1/\Moves O O' w wr):=⟨Oi,hSi,(Moves.of_below O (HBA.out.trans (HB2.out.mono HBA.out.size))).trans hMi⟩
   clear hSi hMi hbr cR
   go_wp2
   go_ret2
   exact ⟨rfl,HFIN.out⟩
end
end Go.Proofs.YtiihalknffbjpaaGreatDoor.Bd
namespace Go.Proofs.YtiihalknffbjpaaGreatDoor
open Go.RowKit Go.Deep
def SatL (vals:Nat) (l:List (List Int)):Prop:=∀ c ∈ l,∃ x ∈ c,litH vals x=true
theorem satL_of {vals:Nat} {l:List (List Int)} (h:allK vals l=true):SatL vals l:=fun c hc=>by
 unfold allK at h
 rw [List.all_eq_true] at h
 have:=h c hc
 unfold holdK at this
 obtain ⟨x,hx,h2⟩:=List.any_eq_true.1 this
 unfold litK at h2
 rw [Bool.and_eq_true] at h2
 exact ⟨x,hx,h2.2⟩
end Go.Proofs.YtiihalknffbjpaaGreatDoor
namespace Go.Proofs.YtiihalknffbjpaaGreatDoor
open Go.RowKit Go.Deep Sv
noncomputable def satB (l:List (List Int)):Bool:=@decide (∃ vals,SatL vals l) (Classical.propDecidable _)
theorem satB_true {l:List (List Int)}:satB l=true ↔ ∃ vals,SatL vals l:=by unfold satB;exact @decide_eq_true_iff _ (Classical.propDecidable _)
end Go.Proofs.YtiihalknffbjpaaGreatDoor
namespace Go.Proofs.YtiihalknffbjpaaGreatDoor
open Go.RowKit Go.Deep Sv
theorem gathF_names:∀ (ls:List Ln) (i:Nat) (its out:List It),namesN its<=8->gathF ls i its=.ok out->namesN out<=8
 | [],i,its,out,h0,h=>by cases h;exact h0
 | x :: r,i,its,out,h0,h=>by
  rw [gathF] at h
  split at h
  ·cases h
  ·split at h
   ·split at h
    ·cases h
    ·split at h
     ·cases h
     ·rename_i hx
      exact gathF_names r (i + 1) _ out (by omega) h
   ·exact gathF_names r (i + 1) its out h0 h
theorem miss_mem:∀ (ls:List Ln) (i:Nat) (its:List It),missF ls i its=none->∀ x ∈ ls,x.pair->x.it ∈ its
 | [],_,_,_,x,hx,_=>by cases hx
 | y :: r,i,its,h,x,hx,hp=>by
  unfold missF at h
  split at h
  ·cases h
  ·rename_i hy
   rcases List.mem_cons.1 hx with rfl | hx
   ·exact Classical.byContradiction fun e=>hy ⟨hp,e⟩
   ·exact miss_mem r (i + 1) its h x hx hp
theorem new_more {ls:List Ln} {its:List It} (h:newF ls=.ok its):(∀ x ∈ ls,x.pair->x.it ∈ its)/\∃ g:List It,namesN g<=8/\its.Perm g:=by
 unfold newF at h
 split at h
 ·cases h
 ·split at h
  ·cases h
  ·rename_i g hg
   split at h
   ·cases h
   ·rename_i hm
    cases h
    exact ⟨miss_mem ls 0 _ hm,g,gathF_names ls 0 [] g (by decide) hg,sortF_perm g⟩
theorem numb_lt {its:List It} {x:It} (h:x ∈ its):0<=ctNumb its x/\ctNumb its x<its.length:=by
 unfold ctNumb
 cases hf:its.findIdx? (fun y=>decide (x=y)) with
 | none =>
  rw [List.findIdx?_eq_none_iff] at hf
  have:=hf x h
  simp at this
 | some i =>
  rw [List.findIdx?_eq_some_iff_getElem] at hf
  obtain ⟨hi,_⟩:=hf
  exact ⟨by simp,by simpa using hi⟩
theorem among_lits (its:List It) (nm:ByteArray) (rng:List Span):Lits its.length ((amongF its nm rng).map fun (k:Nat)=>((k:Int) + 1)):=fun x hx=>by
 obtain ⟨k,hk,rfl⟩:=List.mem_map.1 hx
 have:=amongF_lt its nm rng k hk
 rw [litB_iff]
 omega
theorem ofL_fine {ls:List Ln} {its:List It} (h:newF ls=.ok its):∀ x ∈ ofL its ls,Lits its.length x.2/\x.2.length<=48:=by
 intro x hx
 have hl:=(newF_ok h).1
 rcases List.mem_append.1 hx with hx | hx
 ·obtain ⟨k,hk,hx⟩:=List.mem_flatMap.1 hx
  obtain ⟨j,hj,hx⟩:=List.mem_flatMap.1 hx
  have hk':=List.mem_range.1 hk
  have hj':=List.mem_range.1 hj
  unfold pr0 at hx
  split at hx
  ·rw [List.mem_singleton] at hx
   subst hx
   refine ⟨fun y hy=>?_,by simp⟩
   simp only [List.mem_cons,List.not_mem_nil,or_false] at hy
   rw [litB_iff]
   unfold notF1 at hy
   rcases hy with rfl | rfl <;> omega
  ·cases hx
 ·obtain ⟨n,hn,hx⟩:=List.mem_flatMap.1 hx
  have hn':=List.mem_range.1 hn
  have hmem:ls.getD n default ∈ ls:=by rw [List.getD_eq_getElem?_getD,List.getElem?_eq_getElem hn'];exact List.getElem_mem hn'
  have hpair:=(new_more h).1 _ hmem
  generalize ls.getD n default=X at *
  have l1:=amongF_len its X.name X.rng
  have l2:=amongF_len its X.other X.rng
  unfold lineC at hx
  split at hx
  ·rw [List.mem_singleton] at hx
   subst hx
   exact ⟨among_lits _ _ _,by simp;omega⟩
  ·split at hx
   ·rename_i hk
    rw [List.mem_singleton] at hx
    subst hx
    have hnb:=numb_lt (hpair (Or.inl hk))
    refine ⟨fun y hy=>?_,by simp;omega⟩
    rcases List.mem_cons.1 hy with rfl | hy
    ·rw [litB_iff];unfold notF1;omega
    ·exact among_lits _ _ _ y hy
   ·split at hx
    ·rename_i hk
     obtain ⟨k,hk2,rfl⟩:=List.mem_map.1 hx
     have hnb:=numb_lt (hpair (Or.inr hk))
     have hka:=amongF_lt its X.other X.rng k hk2
     refine ⟨fun y hy=>?_,by simp⟩
     simp only [List.mem_cons,List.not_mem_nil,or_false] at hy
     rw [litB_iff]
     unfold notF1 at hy
     rcases hy with rfl | rfl <;> omega
    ·cases hx
end Go.Proofs.YtiihalknffbjpaaGreatDoor
namespace Go.Proofs.YtiihalknffbjpaaGreatDoor.Bd
open Go.RowKit Go.Deep Sv
structure SolAt (B:Nat) (w:World) (p s b:Nat) (O:Nat->Prop) (vars:Nat) (room:Int) (st:List Nd × Int):Prop where
 space:SpaceAt B w s b O vars room st.1
 blk:Blk w p 37 #[.pointer (some ⟨s,0,none⟩),.int .i64 st.2]
 out:¬ O p
theorem SpaceAt.base {B B' s b vars:Nat} {O:Nat->Prop} {room:Int} {ns:List Nd} {w:World} (h:SpaceAt B w s b O vars room ns) (hB:B'<=B):SpaceAt B' w s b O vars room ns:=by
 obtain ⟨bm,v,L,next,hA,h1,h2,h3⟩:=h.arena
 exact ⟨⟨bm,v,L,next,⟨hA.lt,hA.croom,hA.cnodes,hA.cmap,hA.cnext,hA.froz,Go.Proofs.YtiihalknffbjpaaGreatDoor.Bd.ownsRow_base hA.row hB,hA.hmap,hA.d1,hA.d2,hA.d3,Nat.le_trans hB hA.B1,Nat.le_trans hB hA.B2⟩,h1,h2,h3⟩,fun k hk=>⟨Nat.le_trans hB (h.own k hk).1,(h.own k hk).2⟩,h.sO,h.slt,h.c0,h.c1⟩
theorem SolAt.new {B p s b vars:Nat} {O:Nat->Prop} {room:Int} {st:List Nd × Int} {w w':World} (h:SolAt B w p s b O vars room st) (hb:Below w.heap.size w w'):SolAt B w' p s b O vars room st :=
 ⟨h.space.new hb,h.blk.below hb h.blk.lt,h.out⟩
theorem cls_of_rs {B:Nat} {W:World} {a:Option Addr} {c:Nat} {fv:Value} {P:List (Int × List Int)} (h:RS B W (.slice a P.length c) fv (P.map Prod.snd) (P.map Prod.fst)):ClsIn W a (P.map Prod.snd):=by
 obtain ⟨cs,h1,h2,_⟩:=h.crow
 exact ClsK.cls (B:=0) (cap:=c) h2 (by simpa using ownsRow_base h1 (Nat.zero_le _))
theorem of_fine (bk:Nat) (ls:List Ln) (its:List It) (w:World) (h:CatAt w bk ls its) (hN:newF ls=.ok its) (hl:its.length<=10) (hll:ls.length<=120) (hnm:∀ x ∈ ls,x.name.size<=100000/\x.other.size<=100000) (hP:(ofL its ls).length<=200) (room:Int) (hr0:0<=room) (hr4:room<=4000) (hrl:((2 * 2 ^ its.length + 25 * its.length:Nat):Int)<=room + 1) :
  Calls Tryz.prog 15 #[.pointer (some ⟨bk,0,none⟩),.int .i64 room] w fun e w'=>∃ p s b O,e=.returned (.tuple #[.pointer (some ⟨p,0,none⟩),.nilIface])/\SolAt w.heap.size w' p s b O its.length room (clF ((ofL its ls).map Prod.snd))/\Below w.heap.size w w':=by
 have HO:Hid (Calls Tryz.prog 73 #[.pointer (some ⟨bk,0,none⟩)] w fun e w'=>∃ a c fa fn fc,e=.returned (.tuple #[.agg #[.int .i64 (its.length:Int),.slice a (ofL its ls).length c,.slice fa fn fc],.nilIface])/\ClsIn w' a ((ofL its ls).map Prod.snd)/\Below w.heap.size w w'):=(of_c bk ls its w h (by omega) hll hnm).mono fun e w' hr=>by
  rcases hr with ⟨h1,-⟩ | ⟨-,cv,fv,h1,h2,h3⟩
  ·omega
  ·obtain ⟨cs,c1,-⟩:=h2.crow
   obtain ⟨a,c,rfl,-,-⟩:=Go.Proofs.YtiihalknffbjpaaGreatDoor.row_form c1
   obtain ⟨fa,fc,rfl,-,-⟩:=Go.Proofs.YtiihalknffbjpaaGreatDoor.row_form h2.frow
   rw [List.length_map] at h1 h2
   exact ⟨a,c,fa,_,fc,h1,cls_of_rs h2,h3⟩
 have hfine:=ofL_fine hN
 have hLL:LitsL its.length ((ofL its ls).map Prod.snd):=fun c hc=>by
  obtain ⟨x,hx,rfl⟩:=List.mem_map.1 hc
  exact (hfine x hx).1
 have hmc:∀ c ∈ (ofL its ls).map Prod.snd,c.length<=9223372036854775807:=fun c hc=>by
  obtain ⟨x,hx,rfl⟩:=List.mem_map.1 hc
  have:=(hfine x hx).2
  omega
 have hKl:((ofL its ls).map Prod.snd).length=(ofL its ls).length:=List.length_map _
 generalize (ofL its ls).map Prod.snd=K at *
 rw [<- hKl] at HO hP
 have HLL:=Lib.hid hLL
 have HMC:=Lib.hid hmc
 have HRL:=Lib.hid hrl
 clear h hnm hfine hLL hmc hN hKl hrl
 generalize its.length=vars at *
 go_enter Tryz.func15,Tryz.ntmps15
 go_wp2_with fail
 refine HO.out.mono ?_
 rintro e w1 ⟨a,c,fa,fn,fc,rfl,hI1,hb1⟩
 have kR:=Blk.new w1 65 #[.int .i64 (vars:Int),.slice a K.length c,.slice fa fn fc]
 have hbA:=Go.Proofs.YtiihalknffbjpaaGreatDoor.below_new w1 (.cells #[.int .i64 (vars:Int),.slice a K.length c,.slice fa fn fc] 65)
 have hIA:=hI1.below hbA
 have hb2:=hb1.trans (hbA.mono hb1.size)
 clear HO hI1
 go_upto_region 4 with fail
 generalize w1.alloc (.cells #[.int .i64 (vars:Int),.slice a K.length c,.slice fa fn fc] 65)=WA at *
 have HNW:=Lib.hid (bnew_any vars (by omega) room hr0 hr4 WA WA.heap.size (Nat.le_refl _))
 have HIA:=Lib.hid hIA
 have HB2:=Lib.hid hb2
 have kc0:=kR.cell 0
 have KR:=Lib.hid kR
 have hsz:=hb2.size
 have hw1:=hbA.size
 clear hIA hb2 kR hbA hb1
 go_wp2_with fail
 refine HNW.out.mono ?_
 rintro e w2 ⟨s,b,O,rfl,hS,hs,hO,hb3⟩
 have HCL:=Lib.hid (clauses_c (w0:=WA) hr4 HRL.out hb3 hS hl K HLL.out a c HIA.out (by omega) HMC.out)
 have kr2:w2.cell? ⟨w1.heap.size,1,none⟩=some (.slice a K.length c):=(KR.out.below hb3 KR.out.lt).cell 1
 have hs2:=hS.slt
 have HB3:=Lib.hid hb3
 have hso:=fun k h=>(hS.own k h).2
 clear hS hb3 HNW
 go_wp2_with fail
 refine HCL.out.mono ?_
 rintro e w3 ⟨rfl,O3,hS3,hM3⟩
 have hw3:=hM3.size
 have hw2:=HB3.out.size
 have hb4:Below WA.heap.size WA w3:=HB3.out.trans (hM3.below hw2 hO)
 have hb5:Below w3.heap.size w3 (w3.alloc (.cells #[.pointer (some ⟨s,0,none⟩),.int .i64 (clF K).2] 37)):=Go.Proofs.YtiihalknffbjpaaGreatDoor.below_new w3 _
 have HFIN:Hid (SolAt w.heap.size (w3.alloc (.cells #[.pointer (some ⟨s,0,none⟩),.int .i64 (clF K).2] 37)) w3.heap.size s b O3 vars room (clF K)):=⟨(hS3.new hb5).base hsz,Blk.new _ _ _,fun h=>by have:=(hS3.own _ h).2;omega⟩
 have HBF:Hid (Below w.heap.size w (w3.alloc (.cells #[.pointer (some ⟨s,0,none⟩),.int .i64 (clF K).2] 37))):=(HB2.out.trans (hb4.mono hsz)).trans (hb5.mono (by omega))
 clear hS3 hM3 hb4 hb5 HCL
 go_wp2
 go_ret2
 exact ⟨_,s,b,O3,rfl,HFIN.out,HBF.out⟩
end Go.Proofs.YtiihalknffbjpaaGreatDoor.Bd
namespace Go.Proofs.YtiihalknffbjpaaGreatDoor.Bd
open Go.RowKit Go.Maps Go.Deep
structure WyCx (W0:World) (B p s b:Nat) (O:Nat->Prop) (vars:Nat) (room:Int) (st:List Nd × Int) (F:FuncId) (cb:Array Value) (C:Cost) (dk:Nat):Prop where
 sol:SolAt B W0 p s b O vars room st
 good:Good vars st.1
 len:st.1.length<=90000
 v24:vars<=24
 ent:∀ args w,(callFunc F args).run Tryz.prog w=.ok (.enter F args) w
 cok:CostOk C
 cat:CostAt W0 F cb C vars
 dkl:W0.heap.size<=dk
def WyOut (C:Cost) (dk vars:Nat) (ns:List Nd) (r:Wy) (W:World) (e:Ending) (w':World):Prop:=e=.returned r.val/\∃ L',WayM C w' dk vars ns L'/\Kept (fun k=>k=dk) W w'
abbrev wkV (p:Nat) (F:FuncId) (cb:Array Value) (dk:Nat):Value:=.agg #[.pointer (some ⟨p,0,none⟩),.func (.func F) #[] cb,.map (some dk)]
section
variable {W0:World} {B p s b:Nat} {O:Nat->Prop} {vars:Nat} {room:Int} {st:List Nd × Int} {F:FuncId} {cb:Array Value} {C:Cost} {dk:Nat}
def BelowOkW (W0:World) (p vars:Nat) (ns:List Nd) (F:FuncId) (cb:Array Value) (C:Cost) (dk d:Nat):Prop :=
 ∀ (h:Int) (L:List (Int × Wy)) (W:World),Below W0.heap.size W0 W->WayM C W dk vars ns L->hasB ns h=true->24<=topOf ns h + d->Calls Tryz.prog 298 #[wkV p F cb dk,.int .i64 h] W (WyOut C dk vars ns (belowW C vars ns h) W)
def FromOkW (W0:World) (p vars:Nat) (ns:List Nd) (F:FuncId) (cb:Array Value) (C:Cost) (dk d:Nat):Prop :=
 ∀ (h:Int) (v:Nat) (L:List (Int × Wy)) (W:World),Below W0.heap.size W0 W->WayM C W dk vars ns L->hasB ns h=true->(v:Int)<=topOf ns h->v<=vars->24<=topOf ns h + d->Calls Tryz.prog 237 #[wkV p F cb dk,.int .i64 (v:Int),.int .i64 h] W (WyOut C dk vars ns (fromW C vars ns h v) W)
theorem _root_.Go.Proofs.YtiihalknffbjpaaGreatDoor.Blk.keptB {S:Nat->Prop} {w w':World} {q:Nat} {t:TypeId} {cs:Array Value} (h:Blk w q t cs) (hk:Kept S w w') (hn:¬ S q):Blk w' q t cs:=(hk.block q h.lt hn).trans h
structure FrS (C:Cost) (W0 W:World) (p dk vars:Nat) (ns:List Nd) (F:FuncId) (cb:Array Value) (q:Nat) (x:Wy) (X:World):Prop where
 w0:Blk X W.heap.size 357 #[.pointer (some ⟨p,0,none⟩),.func (.func F) #[] cb,.map (some dk)]
 w1:Blk X (W.heap.size + 1) 279 #[.int .u64 0,.int .i64 0,.bool false]
 w2:Blk X q 279 #[.int .u64 (x.items:Int),.int .i64 x.cost,.bool x.can]
 q1:W.heap.size + 1<q
 dq:dk ≠ q
 bel:Below W0.heap.size W0 X
 way:∃ L',WayM C X dk vars ns L'
 kep:Kept (fun k=>k=dk) W X
theorem FrS.below {W X X':World} {ns:List Nd} {q:Nat} {x:Wy} (h:FrS C W0 W p dk vars ns F cb q x X) (hb:Below X.heap.size X X'):FrS C W0 W p dk vars ns F cb q x X':=by
 obtain ⟨L',hL⟩:=h.way
 exact ⟨h.w0.below hb h.w0.lt,h.w1.below hb h.w1.lt,h.w2.below hb h.w2.lt,h.q1,h.dq,h.bel.trans (hb.mono h.bel.size),⟨L',hL.new hb⟩,h.kep.andThen (Kept.of_below hb (fun _=>False)) (fun _ h _=>h.elim)⟩
theorem FrS.put {W X:World} {ns:List Nd} {q:Nat} {x:Wy} (h:FrS C W0 W p dk vars ns F cb q x X) (hW:W0.heap.size<=W.heap.size) (y:Wy):FrS C W0 W p dk vars ns F cb q y (((X.setCell ⟨q,0,none⟩ (.int .u64 (y.items:Int))).setCell ⟨q,1,none⟩ (.int .i64 y.cost)).setCell ⟨q,2,none⟩ (.bool y.can)):=by
 obtain ⟨L',hL⟩:=h.way
 have h1:=h.q1
 have h2:=h.dq
 have hk:Kept (fun k=>k=q) X (((X.setCell ⟨q,0,none⟩ (.int .u64 (y.items:Int))).setCell ⟨q,1,none⟩ (.int .i64 y.cost)).setCell ⟨q,2,none⟩ (.bool y.can)) :=
  ((Kept.setCell (S:=fun k=>k=q) X ⟨q,0,none⟩ _ rfl).andThen (Kept.setCell (S:=fun k=>k=q) _ ⟨q,1,none⟩ _ rfl) (fun _ h _=>h)).andThen (Kept.setCell (S:=fun k=>k=q) _ ⟨q,2,none⟩ _ rfl) (fun _ h _=>h)
 exact ⟨((h.w0.other (by omega)).other (by omega)).other (by omega),((h.w1.other (by omega)).other (by omega)).other (by omega),set3 h.w2 _ _ _,h1,h2,
  ((h.bel.setCell (p:=⟨q,0,none⟩) (by show W0.heap.size<=q;omega) _).setCell (p:=⟨q,1,none⟩) (by show W0.heap.size<=q;omega) _).setCell (p:=⟨q,2,none⟩) (by show W0.heap.size<=q;omega) _,
  ⟨L',hL.kept hk h2⟩,h.kep.andThen hk (fun i e hi=>by omega)⟩
theorem from_step (cx:WyCx W0 B p s b O vars room st F cb C dk) {d:Nat} (ih:BelowOkW W0 p vars st.1 F cb C dk d):FromOkW W0 p vars st.1 F cb C dk d:=by
 intro h v L W hW hM hh hvt hvv hd
 have hi64:=has_i64 hh (by have:=cx.len;omega)
 have hr:=cx.good.ranked
 have h24:=topOf_le hr h
 have hv24:=cx.v24
 have hdkW:=hM.lt
 have hW0:=hW.size
 have k0:=(Blk.new W 357 #[.pointer (some ⟨p,0,none⟩),.func (.func F) #[] cb,.map (some dk)]).alloc (.cells #[.int .u64 0,.int .i64 0,.bool false] 279)
 have k1:=Blk.new (W.alloc (.cells #[.pointer (some ⟨p,0,none⟩),.func (.func F) #[] cb,.map (some dk)] 357)) 279 #[.int .u64 0,.int .i64 0,.bool false]
 simp only [World.size_alloc] at k1
 have hbA:Below W.heap.size W ((W.alloc (.cells #[.pointer (some ⟨p,0,none⟩),.func (.func F) #[] cb,.map (some dk)] 357)).alloc (.cells #[.int .u64 0,.int .i64 0,.bool false] 279)):=((Below.refl _ W).alloc (Nat.le_refl _) _).alloc (by simp only [World.size_alloc];omega) _
 have hszA:((W.alloc (.cells #[.pointer (some ⟨p,0,none⟩),.func (.func F) #[] cb,.map (some dk)] 357)).alloc (.cells #[.int .u64 0,.int .i64 0,.bool false] 279)).heap.size=W.heap.size + 1 + 1:=by simp only [World.size_alloc]
 have HCX:=Lib.hid cx
 have HTN:Hid ((topN vars st.1 h:Int)=min (topOf st.1 h) (vars:Int)):=by show _=_;unfold topN;omega
 have htn:v<=topN vars st.1 h:=by unfold topN;omega
 have htv:topN vars st.1 h<=vars:=by unfold topN;omega
 have HBL:Hid (belowW C vars st.1 h=fromW C vars st.1 h (topN vars st.1 h)):=rfl
 have HGAP:Hid (∀ k,k<topN vars st.1 h->fromW C vars st.1 h k=betF C k (fromW C vars st.1 h (k + 1)) (fromW C vars st.1 h (k + 1))):=fun k hk=>from_gap cx.good hk
 have HOK:Hid (∀ k,k<=vars->(0<=(fromW C vars st.1 h k).cost/\(fromW C vars st.1 h k).cost<=24000000)/\(fromW C vars st.1 h k).items<2 ^ 24):=fun k hk=>by
  have:=fromW_ok (ns:=st.1) cx.cok hv24 h k
  exact ⟨⟨this.1,this.2.1⟩,Nat.lt_of_lt_of_le (this.2.2 hk) (Nat.pow_le_pow_right (by omega) hv24)⟩
 have HCB:Hid (Calls Tryz.prog 298 #[wkV p F cb dk,.int .i64 h] ((W.alloc (.cells #[.pointer (some ⟨p,0,none⟩),.func (.func F) #[] cb,.map (some dk)] 357)).alloc (.cells #[.int .u64 0,.int .i64 0,.bool false] 279)) (WyOut C dk vars st.1 (belowW C vars st.1 h) ((W.alloc (.cells #[.pointer (some ⟨p,0,none⟩),.func (.func F) #[] cb,.map (some dk)] 357)).alloc (.cells #[.int .u64 0,.int .i64 0,.bool false] 279)))):=ih h L _ (hW.trans (hbA.mono hW0)) (hM.new hbA) hh hd
 rw [HBL.out] at HCB
 generalize htp:topN vars st.1 h=tp at *
 clear HBL htp
 have HWW:=Lib.hid hW
 unfold wkV
 unfold wkV at HCB
 go_enter Tryz.func237,Tryz.ntmps237
 go_upto_region 1 with fail
 generalize hWA:(W.alloc (.cells #[.pointer (some ⟨p,0,none⟩),.func (.func F) #[] cb,.map (some dk)] 357)).alloc (.cells #[.int .u64 0,.int .i64 0,.bool false] 279)=WA at *
 have c0:=k0.cell 0
 have c1:=k0.cell 1
 have c2:=k0.cell 2
 go_wp2_with fail
 refine HCB.out.mono ?_
 rintro e w1 ⟨rfl,L1,hM1,hk1⟩
 obtain ⟨X,hX⟩:∃ X,fromW C vars st.1 h tp=X:=⟨_,rfl⟩
 rw [hX]
 unfold Wy.val
 have hw1:=hk1.size
 have ndk:dk ≠ W.heap.size:=by omega
 have ndk1:dk ≠ W.heap.size + 1:=by omega
 have hbB:Below w1.heap.size w1 (w1.alloc (.cells #[.int .u64 (X.items:Int),.int .i64 X.cost,.bool X.can] 279)):=Go.Proofs.YtiihalknffbjpaaGreatDoor.below_new w1 _
 have kp1:∀ {q:Nat} {t:TypeId} {cs:Array Value},Blk WA q t cs->dk ≠ q->Blk w1 q t cs:=fun {q t cs} hB hne=>hB.keptB hk1 (fun e=>hne e.symm)
 have hFS:FrS C W0 W p dk vars st.1 F cb w1.heap.size X (w1.alloc (.cells #[.int .u64 (X.items:Int),.int .i64 X.cost,.bool X.can] 279)):=by
  have hA1:Below W0.heap.size W0 WA:=HWW.out.trans (hbA.mono hW0)
  have hd0:=HCX.out.dkl
  exact ⟨(kp1 k0 ndk).alloc _,(kp1 k1 ndk1).alloc _,Blk.new _ _ _,by omega,by omega,(hA1.trans (hk1.below (by omega) (fun i e=>by omega))).trans (hbB.mono (by omega)),⟨L1,hM1.new hbB⟩,((Kept.of_below hbA (fun k=>k=dk)).andThen hk1 (fun _ h _=>h)).andThen (Kept.of_below hbB (fun _=>False)) (fun _ h _=>h.elim)⟩
 have HFS0:=Lib.hid hFS
 have HX:=Lib.hid hX
 clear HCB hM1 hk1 kp1 k0 k1 hbA hbB c0 c1 c2 hFS hX hM hWA
 go_upto_region 2 with fail
 generalize hq:w1.heap.size=q at *
 generalize w1.alloc (.cells #[.int .u64 (X.items:Int),.int .i64 X.cost,.bool X.can] 279)=W2 at *
 have hsol2:=HCX.out.sol.new HFS0.out.bel
 have c0:W2.cell? ⟨W.heap.size,0,none⟩=some (.pointer (some ⟨p,0,none⟩)):=HFS0.out.w0.cell 0
 have c1:W2.cell? ⟨p,0,none⟩=some (.pointer (some ⟨s,0,none⟩)):=hsol2.blk.cell 0
 have c2:W2.cell? ⟨s,0,none⟩=some (.pointer (some ⟨b,0,none⟩)):=hsol2.space.c0
 have HTQ:Hid (∀ n,Calls Tryz.prog 164 #[.pointer (some ⟨b,0,none⟩),.int .i64 h] (W2.drewN n) fun e w'=>e=.returned (.int .i64 (topOf st.1 h))/\w'=W2.drewN n):=fun n=>(spTop (hsol2.space.new (below_drewN _ W2 n)) h hi64 (by have:=HCX.out.len;omega)).mono fun e w' ⟨h1,h2⟩=>⟨h1,h2.symm⟩
 have HVQ:Hid (∀ n,Calls Tryz.prog 16 #[.pointer (some ⟨s,0,none⟩)] (W2.drewN n) fun e w'=>e=.returned (.int .i64 (vars:Int))/\w'=W2.drewN n):=fun n=>(vars_any (hsol2.space.new (below_drewN _ W2 n))).mono fun e w' ⟨h1,h2⟩=>⟨h1,h2.symm⟩
 clear hsol2
 have hmin:min (topOf st.1 h) (vars:Int) - 1=(tp:Int) - 1:=by have:=HTN.out;omega
 go_quiet (first | (go_at_call 164;refine Calls.quiet_of_same (HTQ.out _)) | (go_at_call 16;refine Calls.quiet_of_same (HVQ.out _)))
 have HFS1:=Lib.hid (HFS0.out.below (below_drewN _ W2 nq))
 clear c0 c1 c2 HTQ HVQ HFS0
 generalize W2.drewN nq=W3 at *
 rw [<- HX.out] at HFS1
 clear HX
 go_wp2_with fail
 go_loopw [8] (fun i wr=>∃ k:Nat,i=.int .i64 ((k:Int) - 1)/\v<=k/\k<=tp/\FrS C W0 W p dk vars st.1 F cb q (fromW C vars st.1 h k) wr) (fun i _=>(intOf i + 1).toNat)
 case atStart=>exact ⟨tp,by first | rfl | go_num,htn,Nat.le_refl _,HFS1.out⟩
 case round =>
  clear HFS1
  obtain ⟨k,rfl,hvk,hkt,hfs⟩:=hrel
  have hokk:=HOK.out k (by omega)
  by_cases hke:k=v
  ·subst hke
   obtain ⟨X,hX⟩:∃ X,fromW C vars st.1 h k=X:=⟨_,rfl⟩
   rw [hX] at hfs
   have e0:=hfs.w2.cell 0
   have e1:=hfs.w2.cell 1
   have e2:=hfs.w2.cell 2
   have z0:=hfs.w1.cell 0
   have z1:=hfs.w1.cell 1
   have z2:=hfs.w1.cell 2
   have y0:=hfs.w1.frozen 0
   have y1:=hfs.w1.frozen 1
   have y2:=hfs.w1.frozen 2
   have hres:=set3 hfs.w1 (.int .u64 (X.items:Int)) (.int .i64 X.cost) (.bool X.can)
   have r0:=hres.cell 0
   have r1:=hres.cell 1
   have r2:=hres.cell 2
   have HFIN:Hid (∃ L',WayM C (((wr.setCell ⟨W.heap.size + 1,0,none⟩ (.int .u64 (X.items:Int))).setCell ⟨W.heap.size + 1,1,none⟩ (.int .i64 X.cost)).setCell ⟨W.heap.size + 1,2,none⟩ (.bool X.can)) dk vars st.1 L'/\Kept (fun k=>k=dk) W (((wr.setCell ⟨W.heap.size + 1,0,none⟩ (.int .u64 (X.items:Int))).setCell ⟨W.heap.size + 1,1,none⟩ (.int .i64 X.cost)).setCell ⟨W.heap.size + 1,2,none⟩ (.bool X.can))):=by
    obtain ⟨L',hL⟩:=hfs.way
    have hk:Kept (fun k=>k=W.heap.size + 1) wr (((wr.setCell ⟨W.heap.size + 1,0,none⟩ (.int .u64 (X.items:Int))).setCell ⟨W.heap.size + 1,1,none⟩ (.int .i64 X.cost)).setCell ⟨W.heap.size + 1,2,none⟩ (.bool X.can)) :=
     ((Kept.setCell (S:=fun k=>k=W.heap.size + 1) wr ⟨W.heap.size + 1,0,none⟩ _ rfl).andThen (Kept.setCell (S:=fun k=>k=W.heap.size + 1) _ ⟨W.heap.size + 1,1,none⟩ _ rfl) (fun _ h _=>h)).andThen (Kept.setCell (S:=fun k=>k=W.heap.size + 1) _ ⟨W.heap.size + 1,2,none⟩ _ rfl) (fun _ h _=>h)
    exact ⟨L',hL.kept hk ndk1,hfs.kep.andThen hk (fun i e hi=>by omega)⟩
   have HX:=Lib.hid hX
   clear hfs hres hX
   go_wp2
   refine bodyPost_ret (v:=.agg #[.int .u64 (X.items:Int),.int .i64 X.cost,.bool X.can]) (by simp [results,Tryz.f237,go_sem,r0,r1,r2]) rfl ?_
   exact ⟨by rw [HX.out];rfl,HFIN.out⟩
  ·obtain ⟨j,rfl⟩:∃ j,k=j + 1:=⟨k - 1,by omega⟩
   have hgap:=HGAP.out j (by omega)
   obtain ⟨X,hX⟩:∃ X,fromW C vars st.1 h (j + 1)=X:=⟨_,rfl⟩
   rw [hX] at hfs hgap hokk
   have HBT:Hid (Calls Tryz.prog 299 #[.agg #[.pointer (some ⟨p,0,none⟩),.func (.func F) #[] cb,.map (some dk)],.int .i64 (j:Int),.agg #[.int .u64 (X.items:Int),.int .i64 X.cost,.bool X.can],.agg #[.int .u64 (X.items:Int),.int .i64 X.cost,.bool X.can]] wr fun e w'=>e=.returned (betF C j X X).val/\Below wr.heap.size wr w'):=better_c F cb C vars hv24 HCX.out.ent HCX.out.cok HCX.out.cat hfs.bel p dk j (by omega) X X hokk.1 hokk.1 hokk.2
   obtain ⟨Y,hY⟩:∃ Y,betF C j X X=Y:=⟨_,rfl⟩
   rw [hY] at HBT hgap
   unfold Wy.val at HBT
   have e0:=hfs.w2.cell 0
   have e1:=hfs.w2.cell 1
   have e2:=hfs.w2.cell 2
   have a0:=hfs.w0.cell 0
   have a1:=hfs.w0.cell 1
   have a2:=hfs.w0.cell 2
   have hjw:((j + 1:Nat):Int) - 1=(j:Int):=by omega
   rw [hjw]
   have hj1:(v:Int)<=(j:Int):=by omega
   have hj0:(0:Int)<=(j:Int):=by omega
   have HFS:=Lib.hid hfs
   have HGP:=Lib.hid hgap
   clear hfs hgap hX hY hjw hokk
   go_wp2_with fail
   refine HBT.out.mono ?_
   rintro e w5 ⟨rfl,hb5⟩
   have hf5:=HFS.out.below hb5
   have f0:=hf5.w2.cell 0
   have f1:=hf5.w2.cell 1
   have f2:=hf5.w2.cell 2
   have g0:=hf5.w2.frozen 0
   have g1:=hf5.w2.frozen 1
   have g2:=hf5.w2.frozen 2
   have HFN:Hid (FrS C W0 W p dk vars st.1 F cb q (fromW C vars st.1 h j) (((w5.setCell ⟨q,0,none⟩ (.int .u64 (Y.items:Int))).setCell ⟨q,1,none⟩ (.int .i64 Y.cost)).setCell ⟨q,2,none⟩ (.bool Y.can))):=by
    show FrS _ _ _ _ _ _ _ _ _ _ _ _
    rw [HGP.out];exact hf5.put hW0 Y
   clear hf5 hb5 HBT HFS e0 e1 e2 a0 a1 a2
   go_wp2
   go_roundw
   case rel=>exact ⟨j,by go_num,by omega,by omega,HFN.out⟩
   case measure=>first | (simp [intOf];done) | (simp [intOf];omega)
end
end Go.Proofs.YtiihalknffbjpaaGreatDoor.Bd
