/- space: narrowed, Clauses. -/
import Derived.Test.YtlahnpmoeefapaaGreatDoorSpEither
import Derived.Deep.RegionLaw
import Derived.Deep.RegionHeldLaw
set_option maxHeartbeats 4000000
set_option maxRecDepth 100000
namespace Go.Proofs.YtlahnpmoeefapaaGreatDoor.Bd
open Go.RowKit Go.Maps Go.Deep
theorem step_app_own {P:Program} {ops:Array Oper} {o:Oper} {a:Act} {w:World} {K:Act->World->Prop} {Q:Exit->Act->World->Prop} {E:Prop}
  (hg:o.guard=none) (s x:Operand) (t:TypeId) (hop:o.op=Op.call { callee:=Callee.builtin Builtin.append,args:=#[s,x],argTypes:=#[t,t] })
  (B:Nat) (e:TypeId) (i:TypeInfo) (z:Value) (size bytes:Nat) (h1:P.underlying t=some (.slice e)) (h2:P.info? e=some i) (h3:i.zero=some z) (h4:i.size=size) (h5:i.bytes=bytes) (h6:z.cells.size=size) (h7:0<size)
  (v:Value) (n:Nat) (olds:List Value) (hs:a.eval s=v) (hrow:w.ownsRow B e size v n olds)
  (ad:Addr) (m c:Nat) (news:List Value) (hx:a.eval x=.slice (some ad) m c) (hn:news.length=m * size) (hc:∀ j u,news[j]?=some u->w.cell? (ad.add j)=some u) (h1c:∀ u ∈ news,u.oneCell'=true)
  (b1:n + m<=maxLen) (hB:B<=w.heap.size) (b2:(n + m) * bytes<=140737488355328)
  (hK:∀ v' w',w'.ownsRow B e size v' (n + m) (olds++news)->w.grownBy w' v.ownBlock->K (a.put o.dst v') w') :
  if Region.wanted o (yielded ops a.tmps)=true then Oper.wp P o a w K Q else E:=by
 have hw:Region.wanted o (yielded ops a.tmps)=true:=by simp [Region.wanted,hg]
 rw [if_pos hw]
 obtain ⟨v',w',hrun,r1,r2,-⟩:=run_append_own_at (P:=P) w B t o.type e i z size bytes h1 h2 h3 h4 h5 h6 h7 v n olds hrow ad m c news hn hc h1c b1 b2 hB
 unfold Oper.wp
 simp [execOp,hop,resolve,invoke,builtin,hs,hx,hrun,Result.andThen]
 exact hK v' w' r1 r2
theorem oneF_eq (st:List Nd × Int) (c:List Int):oneF st c=askF true (eithR st.1 c).1 ⟨st.2,(eithR st.1 c).2,0⟩:=by
 unfold oneF eithR
 split <;> rfl
section
variable {B s b:Nat} {O:Nat->Prop} {vars:Nat} {room:Int} {ns:List Nd} {w:World}
theorem eithR_ok (hA:EAsk B w vars room ns) {c:List Int} (hl:Lits vars c):Good vars (eithR ns c).1/\Ext ns (eithR ns c).1/\hasB (eithR ns c).1 (eithR ns c).2=true/\cnt (eithR ns c).1<=cnt ns + 25 * vars/\(eithR ns c).1.length<=max ns.length (cnt ns + 600):=by
 have hv:=hA.v
 have hp:=pow10 hA.v
 have hc:=hA.cnt
 have hn:=hA.len
 unfold eithR
 cases ha:alwaysF (sidesF c) with
 | true=>rw [if_pos rfl];exact ⟨hA.good,Ext.refl _,has_end1 _,by show cnt ns<=_;omega,Nat.le_max_left _ _⟩
 | false =>
  rw [if_neg (by simp)]
  have hl24:Lits 24 c:=fun x hx=>lit_24 (by omega) (hl x hx)
  have hcl:=clauseF_vars (show vars<=24 by omega) hl
  have:=eith_ok hA.good (by omega) (by omega) (by omega) (by omega) (clauseF (sidesF c)) (by omega) (fun x hx=>lit_var (hl x ((mem_form hl24 ha).1 hx)))
  exact ⟨this.good,this.ext,this.has,by have:=this.cnt;omega,by have:=this.tight;omega⟩
theorem narrowed_c (hS:SpaceAt B w s b O vars room ns) (hA:EAsk B w vars room ns) (x:Int) (hx:hasB ns x=true) (c:List Int) (hl:Lits vars c) (a:Option Addr) (cap:Nat) (hI:IntsIn w a c) (hm:c.length<=9223372036854775807) :
  Calls Tryz.prog 139 #[.pointer (some ⟨s,0,none⟩),.int .i64 x,.slice a c.length cap] w (OpOut B s b O vars room (oneF (ns,x) c) w):=by
 rw [oneF_eq]
 have hE:=Lib.hid (either_c hS hA c hl a cap hI hm)
 obtain ⟨h1,h2,h3,h4,h5⟩:=eithR_ok hA hl
 have hv:=hA.v
 have hp:=pow10 hA.v
 have hcn:=hA.cnt
 have hn:=hA.len
 have HAN:Hid (∀ O' W,SpaceAt B W s b O' vars room (eithR ns c).1->B<=W.heap.size->Calls Tryz.prog 201 #[.pointer (some ⟨s,0,none⟩),.int .i64 x,.int .i64 (eithR ns c).2] W (OpOut B s b O' vars room (askF true (eithR ns c).1 ⟨x,(eithR ns c).2,0⟩) W)):=fun O' W hW hB=>and_op hW h1 (room_of hA.r hA.l (by omega) (by omega) (by omega) hB) _ _ (h2.has _ hx) h3
 have hB:=hA.hB
 simp only at HAN ⊢
 generalize eithR ns c=r at *
 generalize askF true r.1 ⟨x,r.2,0⟩=q at *
 clear hS hA hl hI h1 h2 h3 h4 h5 hcn hn hp hx
 go_enter Tryz.func139,Tryz.ntmps139
 go_wp2_with fail
 refine hE.out.mono ?_
 rintro e w1 ⟨rfl,O1,hS1,hM1⟩
 have HA2:=Lib.hid (HAN.out O1 w1 hS1 (Nat.le_trans hB hM1.size))
 have HM1:=Lib.hid hM1
 clear hS1 hM1 hE HAN
 go_wp2_with fail
 refine HA2.out.mono ?_
 rintro e w2 ⟨rfl,O2,hS2,hM2⟩
 have HF:Hid (∃ O',SpaceAt B w2 s b O' vars room q.1/\Moves O O' w w2):=⟨O2,hS2,HM1.out.trans hM2⟩
 clear hS2 hM2 HA2
 go_wp2
 go_ret2
 exact ⟨rfl,HF.out⟩
theorem ints_one {w:World} {B:Nat} {v:Value} {x:Int} (h:w.ownsRow B 3 1 v 1 [.int .i64 x]) (hx:I64 x):∃ g c,v=.slice (some ⟨g,0,none⟩) 1 c/\IntsAt w g [x]:=by
 rcases h.2 with ⟨e,e0⟩ | ⟨g,cap,cur,rfl,hB,hg,h1,h2,h3,h4⟩
 ·cases e0
 ·refine ⟨g,cap,rfl,⟨(h.lt g rfl).2,fun i hi=>?_,fun y hy=>by rw [List.mem_singleton.1 hy];exact hx⟩⟩
  simp at hi
  subst hi
  exact h.cellAt 0 (by omega)
theorem clauses_c {w0:World} (hr4:room<=4000) (hrl:((2 * 2 ^ vars + 25 * vars:Nat):Int)<=room + 1) (hb0:Below w0.heap.size w0 w) (hS:SpaceAt w0.heap.size w s b O vars room []) (hv:vars<=10) (K:List (List Int)) (hl:LitsL vars K) (a:Option Addr) (cap:Nat) (hI:ClsIn w0 a K) (hm:K.length<=100000) (hmc:∀ c ∈ K,c.length<=9223372036854775807) :
  Calls Tryz.prog 65 #[.pointer (some ⟨s,0,none⟩),.slice a K.length cap] w (OpOut w0.heap.size s b O vars room (clF K) w):=by
 have k0:=Blk.new w 35 #[.pointer (some ⟨s,0,none⟩)]
 have hbA:=Go.Proofs.YtlahnpmoeefapaaGreatDoor.below_new w (.cells #[.pointer (some ⟨s,0,none⟩)] 35)
 have hso:=fun k h=>(hS.own k h).2
 have hsb:=fun k h=>(hS.own k h).1
 have hw0:=hb0.size
 obtain ⟨W1,hW1⟩:∃ W1,w.alloc (.cells #[.pointer (some ⟨s,0,none⟩)] 35)=W1:=⟨_,rfl⟩
 have hsz:W1.heap.size=w.heap.size + 1:=by rw [<- hW1];exact World.size_alloc _ _
 rw [hW1] at k0 hbA
 have hS1:=hS.new hbA
 have hb1:=hb0.trans (hbA.mono hb0.size)
 have HCF:Hid (Calls Tryz.prog 92 #[.slice a K.length cap,.func (.func 136) #[] #[.pointer (some ⟨w.heap.size,0,none⟩)]] W1 fun e w'=>e=.returned (.bool false)/\Below W1.heap.size W1 w'):=by
  have:=cf_cls 136 #[.pointer (some ⟨w.heap.size,0,none⟩)] (fun _=>false) K a cap W1 (by omega) ent_clauses1 (hI.below hb1) (fun W i a' cap' hW hi hc1 hc2 hi'=>clauses1_c (hS1.new hW) (by omega) (K.getD i []) (hl _ (getD_mem hi)) a' cap' hi' (hmc _ (getD_mem hi)) w.heap.size ((hW.cell (p:=⟨w.heap.size,0,none⟩) (by show w.heap.size<_;omega)).trans (k0.cell 0)))
  rw [show (K.any fun _=>false)=false by simp] at this
  exact this
 have HAB:=Lib.hid (absent_c hS1)
 have HLD:Hid (∀ W,Below W1.heap.size W1 W->Calls Tryz.prog 138 #[.pointer (some ⟨s,0,none⟩)] W fun e w'=>e=.returned (.slice none 0 0)/\W=w'):=fun W hW=>laid_c (hS1.new hW) rfl
 have HCL:=Lib.hid (clF_ok (show vars<=12 by omega) K hl)
 have HI:=Lib.hid hI
 have HL:=Lib.hid hl
 have HMC:=Lib.hid hmc
 have HB1:=Lib.hid hb1
 have HS1:=Lib.hid hS1
 have HBA:=Lib.hid hbA
 have K0:=Lib.hid k0
 have HP:=Lib.hid (pow10 hv)
 have HRL:=Lib.hid hrl
 have c0:=k0.cell 0
 have HW1:=Lib.hid hW1
 clear hI hl hmc hb1 hS1 hbA k0 hW1 hS hb0 hrl
 obtain ⟨i3,hin,hz0,hz1,hz2⟩:=info_parts infoInt
 go_enter Tryz.func65,Tryz.ntmps65
 go_upto_region 1 with fail
 rw [HW1.out]
 go_wp2_with fail
 refine HAB.out.mono ?_
 rintro e w1 ⟨rfl,rfl⟩
 clear HAB
 go_wp2_with fail
 refine HCF.out.mono ?_
 rintro e w2 ⟨rfl,hb2⟩
 have HLD2:=Lib.hid (HLD.out w2 hb2)
 have c2:w2.cell? ⟨w.heap.size,0,none⟩=some (.pointer (some ⟨s,0,none⟩)):=(hb2.cell (p:=⟨w.heap.size,0,none⟩) (by show w.heap.size<_;omega)).trans c0
 have HB2:=Lib.hid hb2
 clear hb2 HCF HLD c0
 go_wp2_with fail
 refine HLD2.out.mono ?_
 rintro e w3 ⟨rfl,rfl⟩
 clear HLD2
 go_wp2_with fail
 go_loopw [7,23] (fun o iV wr=>∃ (i:Nat) (Oi:Nat->Prop),i<=K.length/\iV=.int .i64 (i:Int)/\o=.int .i64 (clF (K.take i)).2/\SpaceAt w0.heap.size wr s b Oi vars room (clF (K.take i)).1/\Moves O Oi w2 wr) (fun _ iV _=>K.length - (intOf iV).toNat)
 case atStart=>exact ⟨0,O,Nat.zero_le _,rfl,rfl,HS1.out.new HB2.out,Moves.refl _ _⟩
 case round =>
  obtain ⟨i,Oi,hi,rfl,rfl,hSi,hMi⟩:=hrel
  have hw2:W1.heap.size<=w2.heap.size:=HB2.out.size
  have hwr:=hMi.size
  have hbr:Below w0.heap.size w0 wr:=(HB1.out.trans (HB2.out.mono HB1.out.size)).trans (hMi.below (by omega) hsb)
  have hnb:¬ O w.heap.size:=fun h=>by have:=hso _ h;omega
  have cR:wr.cell? ⟨w.heap.size,0,none⟩=some (.pointer (some ⟨s,0,none⟩)):=(hMi.cell (a:=⟨w.heap.size,0,none⟩) (by show w.heap.size<_;omega) hnb).trans c2
  have hnbi:¬ Oi w.heap.size:=hMi.beside (by omega) hnb
  by_cases hlt:i<K.length
  ·have hcr:=HCL.out i (by omega)
   have hp:=HP.out
   have hcn:=hcr.cnt
   have hln:=hcr.len
   obtain ⟨ad,a',cap',rfl,had,hcell,hc1,hc2,hii⟩:=(HI.out.below hbr) i hlt
   have hLc:Lits vars (K.getD i []):=HL.out _ (getD_mem hlt)
   have hst:clF (K.take (i + 1))=clStep (clF (K.take i)) (K.getD i []):=by
    rw [List.take_succ_eq_append_getElem hlt,clF_snoc]
    simp [List.getD_eq_getElem?_getD,List.getElem?_eq_getElem hlt]
   have hone:=one_ok hcr (show vars<=12 by omega) hLc
   have hA:EAsk w0.heap.size wr vars room (clF (K.take i)).1:=⟨hr4,HRL.out,hcr.good,hv,hcn,by omega,by omega⟩
   have HNR:Hid (Calls Tryz.prog 139 #[.pointer (some ⟨s,0,none⟩),.int .i64 (clF (K.take i)).2,.slice a' (K.getD i []).length cap'] wr (OpOut w0.heap.size s b Oi vars room (oneF (clF (K.take i)) (K.getD i [])) wr)):=narrowed_c hSi hA _ hcr.has (K.getD i []) hLc a' cap' hii (HMC.out _ (getD_mem hlt))
   have hfew:(oneF (clF (K.take i)) (K.getD i [])).1.length<=90000:=by
    have h1:=hone.tight
    have h2:=eithR_ok hA hLc
    unfold eithR at h2
    cases hq:alwaysF (sidesF (K.getD i [])) with
    | true=>rw [hq,if_pos rfl] at h1;omega
    | false=>rw [hq,if_neg (by simp)] at h1 h2;omega
   have HST:Hid (clF (K.take (i + 1))=(swept (oneF (clF (K.take i)) (K.getD i [])).1 (marksOf (oneF (clF (K.take i)) (K.getD i [])).1 [(oneF (clF (K.take i)) (K.getD i [])).2]),(oneF (clF (K.take i)) (K.getD i [])).2)):=hst
   have hgood:=hone.good
   have hi64:=has_i64 hone.has (by omega)
   generalize oneF (clF (K.take i)) (K.getD i [])=r at *
   generalize (clF (K.take i)).2=ov at *
   generalize K.getD i []=cc at *
   have HMi:=Lib.hid hMi
   have hi0:(0:Int)<=(i:Int):=by omega
   have hi1:(i:Int)<(K.length:Int):=by omega
   obtain ⟨ab,ao,asp⟩:=ad
   clear hcr hone hA hLc hst hSi hMi hbr hii hcn hln had
   go_wp2_with fail
   refine HNR.out.mono ?_
   rintro e w4 ⟨rfl,O4,hS4,hM4⟩
   have hw4:=hM4.size
   have c4:w4.cell? ⟨w.heap.size,0,none⟩=some (.pointer (some ⟨s,0,none⟩)):=(hM4.cell (a:=⟨w.heap.size,0,none⟩) (by show w.heap.size<_;omega) hnbi).trans cR
   have hbd:Below w4.heap.size w4 (w4.drew.alloc (.cells #[.int .i64 r.2] 3)):=((Below.refl _ w4).drew).alloc (Nat.le_refl _) _
   have c5:w4.drew.cell? ⟨w.heap.size,0,none⟩=some (.pointer (some ⟨s,0,none⟩)):=c4
   have c6:(w4.drew.alloc (.cells #[.int .i64 r.2] 3)).cell? ⟨w.heap.size,0,none⟩=some (.pointer (some ⟨s,0,none⟩)):=(hbd.cell (p:=⟨w.heap.size,0,none⟩) (by show w.heap.size<_;omega)).trans c4
   have hnb4:¬ O4 w.heap.size:=hM4.beside (by omega) hnbi
   have HFR:Hid (∀ W g c,Below w4.heap.size w4 W->W.cell? ⟨w.heap.size,0,none⟩=some (.pointer (some ⟨s,0,none⟩))->IntsAt W g [r.2]->Calls Tryz.prog 140 #[.pointer (some ⟨s,0,none⟩),.slice (some ⟨g,0,none⟩) 1 c] W fun e w'=>∃ n:Int,e=.returned (.int .i64 n)/\∃ O',SpaceAt w0.heap.size w' s b O' vars room (swept r.1 (marksOf r.1 [r.2]))/\Moves O4 O' W w'/\w'.cell? ⟨w.heap.size,0,none⟩=some (.pointer (some ⟨s,0,none⟩))):=fun W g c hW hcW hi=>(free_op (cp:=c) (hS4.new hW) hgood.ranked hfew (by have:=hW.size;omega) g [r.2] hi (by simp)).mono fun e w' ⟨n,he,O',h1,h2⟩=>⟨n,he,O',h1,h2,(h2.cell (a:=⟨w.heap.size,0,none⟩) (by have:=hW.size;show w.heap.size<_;omega) hnb4).trans hcW⟩
   have HRN:Hid ((w4.drew.alloc (.cells #[.int .i64 r.2] 3)).ownsRow w4.heap.size 3 1 (.slice none 0 0) 0 []):=World.ownsRow_nil _ _ _ _
   have HLI:Hid (∀ (j:Nat) (u:Value),[Value.int .i64 r.2][j]?=some u->(w4.drew.alloc (.cells #[.int .i64 r.2] 3)).cell? ((⟨w4.heap.size,0,none⟩:Addr).add j)=some u):=cell_lit w4.drew r.2 3
   have HLO:=Lib.hid (one_lit r.2)
   have HQ1:Hid (0 + 1<=maxLen):=by show 0 + 1<=maxLen;unfold maxLen;omega
   have HQ2:Hid ((0 + 1) * 8<=140737488355328):=by show (0 + 1) * 8<=140737488355328;omega
   have HSZ:Hid (w4.heap.size<=(w4.drew.alloc (.cells #[.int .i64 r.2] 3)).heap.size):=hbd.size
   have HX:Hid (∀ v7 w7,w7.ownsRow w4.heap.size 3 1 v7 (0 + 1) ([]++[.int .i64 r.2])->(w4.drew.alloc (.cells #[.int .i64 r.2] 3)).grownBy w7 (Value.ownBlock (.slice none 0 0))->Below w4.heap.size w4 w7/\w7.cell? ⟨w.heap.size,0,none⟩=some (.pointer (some ⟨s,0,none⟩))/\∃ g c,v7=.slice (some ⟨g,0,none⟩) 1 c/\IntsAt w7 g [r.2]):=fun v7 w7 h1 h2=>by
    have hb7:Below w4.heap.size w4 w7:=hbd.grown h2 hbd.size (fun k e=>by cases e)
    exact ⟨hb7,(hb7.cell (p:=⟨w.heap.size,0,none⟩) (by show w.heap.size<_;omega)).trans c4,ints_one h1 hi64⟩
   have HM4:=Lib.hid (HMi.out.trans hM4)
   clear hS4 hM4 HNR hbd c4 cR HMi hgood hfew hi64
   go_upto_region 14 with fail
   go_region_held_law (fun X=>X.cell? ⟨w.heap.size,0,none⟩=some (.pointer (some ⟨s,0,none⟩))) (first | exact S2 | exact S1 | exact c5 | exact c6)
    (first
     | (refine step_app_own rfl _ _ 47 rfl w4.heap.size 3 i3 (.int .i64 0) 1 8 Tryz.underlying47 hin hz0 hz1 hz2 rfl (by decide) (.slice none 0 0) 0 [] (by simp [Act.eval]) HRN.out ⟨w4.heap.size,0,none⟩ 1 1 [.int .i64 r.2] (by simp [Act.eval]) rfl HLI.out HLO.out HQ1.out HSZ.out HQ2.out ?_;intro v7 w7 hown7 hgrow7;obtain ⟨hb7,S1,g7,c7,rfl,hi7⟩:=HX.out _ _ hown7 hgrow7)
     | (go_at_call 140;refine (HFR.out _ _ _ hb7 S1 hi7).mono ?_;rintro e w8 ⟨n8,rfl,O8,hS8,hM8,S2⟩))
   all_goals
    have HFIN:Hid (SpaceAt w0.heap.size w8 s b O8 vars room (clF (K.take (i + 1))).1/\Moves O O8 w2 w8):=⟨by rw [HST.out];exact hS8,(HM4.out.trans (Moves.of_below O4 hb7)).trans hM8⟩
    have HOV:Hid ((clF (K.take (i + 1))).2=r.2):=by show _=_;rw [HST.out]
    clear hS8 hM8 hb7 hi7 hown7 hgrow7 S1 S2 c5 c6 HX HFR HRN HLI HLO HQ1 HQ2 HSZ HM4 HST
    go_wp2
    go_roundw
   case rel=>exact ⟨i + 1,O8,hlt,by go_num,by rw [HOV.out],HFIN.out.1,HFIN.out.2⟩
   case measure=>simp [intOf];omega
  ·obtain rfl:i=K.length:=by omega
   rw [List.take_length] at hSi ⊢
   have HFIN:Hid (∃ O',SpaceAt w0.heap.size wr s b O' vars room (clF K).1/\Moves O O' w wr):=⟨Oi,hSi,(Moves.of_below O (HBA.out.trans (HB2.out.mono HBA.out.size))).trans hMi⟩
   clear hSi hMi hbr cR
   go_wp2
   go_ret2
   exact ⟨rfl,HFIN.out⟩
end
end Go.Proofs.YtlahnpmoeefapaaGreatDoor.Bd
