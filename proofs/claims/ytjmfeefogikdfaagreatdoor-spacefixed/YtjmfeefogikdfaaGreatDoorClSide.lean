/- What is told, in memory: side, tell, only, next. -/
import Derived.Test.YtjmfeefogikdfaaGreatDoorSpEither
import Derived.Deep.RegionHeldLaw
namespace Go.Proofs.YtjmfeefogikdfaaGreatDoor
set_option maxHeartbeats 4000000
set_option maxRecDepth 100000
namespace Bd
open Go.RowKit Go.Maps Go.Deep
theorem ziH{P:Program}{ops:Array Oper}{o:Oper}{a:Act}{w:World}{K:Act->World->Prop}{Q:Exit->Act->World->Prop}{E:Prop}
  (hg:o.guard=none) (s x:Operand) (t:TypeId) (hop:o.op=Op.call { callee:=Callee.builtin Builtin.append,args:=#[s,x],argTypes:=#[t,t] })
  (B:Nat) (e:TypeId) (i:TypeInfo) (z:Value) (size bytes:Nat) (h1:P.underlying t=some (.slice e)) (h2:P.info? e=some i) (h3:i.zero=some z) (h4:i.size=size) (h5:i.bytes=bytes) (h6:z.cells.size=size) (h7:0<size)
  (v:Value) (n:Nat) (olds:List Value) (hs:a.eval s=v) (hrow:w.ownsRow B e size v n olds)
  (ad:Addr) (m c:Nat) (news:List Value) (hx:a.eval x=.slice (some ad) m c) (hn:news.length=m*size) (hc:∀j u,news[j]?=some u->w.cell? (ad.add j)=some u) (h1c:∀u∈news,u.oneCell'=true)
  (b1:n+m<=maxLen) (hB:B<=w.heap.size) (b2:(n+m)*bytes<=140737488355328)
  (hK:∀v' w',w'.ownsRow B e size v' (n+m) (olds++news)->w.grownBy w' v.ownBlock->K (a.put o.dst v') w') :
  if Region.wanted o (yielded ops a.tmps)=true then Oper.wp P o a w K Q else E:=by
 have hw:Region.wanted o (yielded ops a.tmps)=true:=by simp[Region.wanted,hg]
 rw[if_pos hw];obtain⟨v',w',hrun,r1,r2,-⟩:=run_append_own_at (P:=P) w B t o.type e i z size bytes h1 h2 h3 h4 h5 h6 h7 v n olds hrow ad m c news hn hc h1c b1 b2 hB;unfold Oper.wp;simp[execOp,hop,resolve,invoke,builtin,hs,hx,hrun,Result.andThen];exact hK v' w' r1 r2
theorem zjd(st:List Nd × Int)(c:List Int):yf st c=xg true (yV st.1 c).1 ⟨st.2,(yV st.1 c).2,0⟩:=by
 unfold yf yV;split<;>rfl
section
variable {B s b:Nat} {O:Nat->Prop} {vars:Nat} {room:Int} {ns:List Nd} {w:World}
theorem zct(hA:Xv B w vars room ns){c:List Int}(hl:zS vars c):zr vars (yV ns c).1/\Ext ns (yV ns c).1/\zg (yV ns c).1 (yV ns c).2=true/\cnt (yV ns c).1<=cnt ns+25*vars/\(yV ns c).1.length<=max ns.length (cnt ns+600):=by
 have hv:=hA.v;have hp:=YW hA.v;have hc:=hA.cnt;have hn:=hA.len;unfold yV;cases ha:qu (zk c) with
 |true=>rw[if_pos rfl];exact⟨hA.good,Ext.refl _,xE _,by show cnt ns<=_;omega,Nat.le_max_left _ _⟩
 |false =>rw[if_neg (by simp)];have hl24:zS 24 c:=fun x hx=>Zl (by omega) (hl x hx);have hcl:=zcP (show vars<=24 by omega) hl;have:=Xf hA.good (by omega) (by omega) (by omega) (by omega) (qi (zk c)) (by omega) (fun x hx=>Ye (hl x ((Qe hl24 ha).1 hx)));exact⟨this.good,this.ext,this.has,by have:=this.cnt;omega,by have:=this.tight;omega⟩
theorem zhs(hS:zm B w s b O vars room ns)(hA:Xv B w vars room ns)(x:Int)(hx:zg ns x=true)(c:List Int)(hl:zS vars c)(a:Option Addr)(cap:Nat)(hI:qJ w a c)(hm:c.length<=9223372036854775807) :
  zC 53 #[.pointer (some ⟨s,0,none⟩),.int .i64 x,.slice a c.length cap] w (ym B s b O vars room (yf (ns,x) c) w):=by
 rw[zjd];have hE:=zH (zkN hS hA c hl a cap hI hm);obtain⟨h1,h2,h3,h4,h5⟩:=zct hA hl;have hv:=hA.v;have hp:=YW hA.v;have hcn:=hA.cnt;have hn:=hA.len;have HAN:Hid (∀O' W,zm B W s b O' vars room (yV ns c).1->B<=W.heap.size->zC 90 #[.pointer (some ⟨s,0,none⟩),.int .i64 x,.int .i64 (yV ns c).2] W (ym B s b O' vars room (xg true (yV ns c).1 ⟨x,(yV ns c).2,0⟩) W)):=fun O' W hW hB=>zgG hW h1 (JS hA.r hA.l (by omega) (by omega) (by omega) hB) _ _ (h2.has _ hx) h3;have hB:=hA.hB;simp only at HAN ⊢;generalize yV ns c=r at *;generalize xg true r.1 ⟨x,r.2,0⟩=q at *;clear hS hA hl hI h1 h2 h3 h4 h5 hcn hn hp hx;go_enter Tryz.func53,Tryz.ntmps53;go_wp2_with fail;refine hE.out.mono ?_;rintro e w1 ⟨rfl,O1,hS1,hM1⟩;have HA2:=zH (HAN.out O1 w1 hS1 (Nat.le_trans hB hM1.size));have HM1:=zH hM1;clear hS1 hM1 hE HAN;go_wp2_with fail;refine HA2.out.mono ?_;rintro e w2 ⟨rfl,O2,hS2,hM2⟩;have HF:Hid (∃O',zm B w2 s b O' vars room q.1/\zI O O' w w2):=⟨O2,hS2,HM1.out.trans hM2⟩;clear hS2 hM2 HA2;go_wp2;go_ret2;exact⟨rfl,HF.out⟩
theorem zkq{w:World}{B:Nat}{v:Value}{x:Int}(h:w.ownsRow B 3 1 v 1 [.int .i64 x])(hx:I64 x):∃g c,v=.slice (some ⟨g,0,none⟩) 1 c/\xN w g [x]:=by
 rcases h.2 with ⟨e,e0⟩|⟨g,cap,cur,rfl,hB,hg,h1,h2,h3,h4⟩
 ·cases e0
 ·refine⟨g,cap,rfl,⟨(h.lt g rfl).2,fun i hi=>?_,fun y hy=>by rw[List.mem_singleton.1 hy];exact hx⟩⟩;simp at hi;subst hi;exact h.cellAt 0 (by omega)
theorem zgz{w0:World}(hr4:room<=4000)(hrl:((2*2^vars+25*vars:Nat):Int)<=room+1)(hb0:zB w0 w)(hS:zm w0.heap.size w s b O vars room [])(hv:vars<=10)(K:List (List Int))(hl:zU vars K)(a:Option Addr)(cap:Nat)(hI:qY w0 a K)(hm:K.length<=100000)(hmc:∀c∈K,c.length<=9223372036854775807) :
  zC 17 #[.pointer (some ⟨s,0,none⟩),.slice a K.length cap] w (ym w0.heap.size s b O vars room (clF K) w):=by
 have k0:=Blk.new w 46 #[.pointer (some ⟨s,0,none⟩)];have hbA:=Go.Proofs.YtjmfeefogikdfaaGreatDoor.below_new w (.cells #[.pointer (some ⟨s,0,none⟩)] 46);have hso:=fun k h=>(hS.own k h).2;have hsb:=fun k h=>(hS.own k h).1;have hw0:=hb0.size;obtain⟨W1,hW1⟩:∃W1,w.alloc (.cells #[.pointer (some ⟨s,0,none⟩)] 46)=W1:=⟨_,rfl⟩;have hsz:W1.heap.size=w.heap.size+1:=by rw[<-hW1];exact World.size_alloc _ _
 rw[hW1] at k0 hbA;have hS1:=hS.new hbA;have hb1:=zT hb0 hbA;have HCF:Hid (zR 48 #[.slice a K.length cap,.func (.func 49) #[] #[.pointer (some ⟨w.heap.size,0,none⟩)]] W1 (.bool false)):=by
  have:=ziY 49 #[.pointer (some ⟨w.heap.size,0,none⟩)] (fun _=>false) K a cap W1 (by omega) zjt (hI.below hb1) (fun W i a' cap' hW hi hc1 hc2 hi'=>zhq (hS1.new hW) (by omega) (K.getD i []) (hl _ (yR hi)) a' cap' hi' (hmc _ (yR hi)) w.heap.size ((hW.cell (p:=⟨w.heap.size,0,none⟩) (by show w.heap.size<_;omega)).trans (k0.cell 0)));rw[show (K.any fun _=>false)=false by simp] at this;exact this
 have HAB:=zH (zbg hS1);have HLD:Hid (∀W,zB W1 W->zC 52 #[.pointer (some ⟨s,0,none⟩)] W fun e w'=>e=.returned (.slice none 0 0)/\W=w'):=fun W hW=>znX (hS1.new hW) rfl;have HCL:=zH (zai (show vars<=12 by omega) K hl);have HI:=zH hI;have HL:=zH hl;have HMC:=zH hmc;have HB1:=zH hb1;have HS1:=zH hS1;have HBA:=zH hbA;have K0:=zH k0;have HP:=zH (YW hv);have HRL:=zH hrl;have c0:=k0.cell 0;have HW1:=zH hW1;clear hI hl hmc hb1 hS1 hbA k0 hW1 hS hb0 hrl;obtain⟨i3,hin,hz0,hz1,hz2⟩:=info_parts ZR;go_enter Tryz.func17,Tryz.ntmps17;go_upto_region 1 with fail;rw[HW1.out];go_wp2_with fail;refine HAB.out.mono ?_;rintro e w1 ⟨rfl,rfl⟩;clear HAB;go_wp2_with fail;refine HCF.out.mono ?_;rintro e w2 ⟨rfl,hb2⟩;have HLD2:=zH (HLD.out w2 hb2);have c2:w2.cell? ⟨w.heap.size,0,none⟩=some (.pointer (some ⟨s,0,none⟩)):=(hb2.cell (p:=⟨w.heap.size,0,none⟩) (by show w.heap.size<_;omega)).trans c0;have HB2:=zH hb2;clear hb2 HCF HLD c0;go_wp2_with fail;refine HLD2.out.mono ?_;rintro e w3 ⟨rfl,rfl⟩;clear HLD2;go_wp2_with fail;go_loopw [7,23] (fun o iV wr=>∃(i:Nat) (Oi:Nat->Prop),i<=K.length/\iV=.int .i64 i/\o=.int .i64 (clF (K.take i)).2/\zm w0.heap.size wr s b Oi vars room (clF (K.take i)).1/\zI O Oi w2 wr) (fun _ iV _=>K.length-(intOf iV).toNat)
 case atStart=>exact⟨0,O,Nat.zero_le _,rfl,rfl,HS1.out.new HB2.out,zI.refl _ _⟩
 case round =>
  obtain⟨i,Oi,hi,rfl,rfl,hSi,hMi⟩:=hrel;have hw2:W1.heap.size<=w2.heap.size:=HB2.out.size;have hwr:=hMi.size;have hbr:zB w0 wr:=(zT HB1.out HB2.out).trans (hMi.below (by omega) hsb);have hnb:¬O w.heap.size:=fun h=>by have:=hso _ h;omega
  have cR:wr.cell? ⟨w.heap.size,0,none⟩=some (.pointer (some ⟨s,0,none⟩)):=(hMi.cell (a:=⟨w.heap.size,0,none⟩) (by show w.heap.size<_;omega) hnb).trans c2;have hnbi:¬Oi w.heap.size:=hMi.beside (by omega) hnb
  by_cases hlt:i<K.length
  ·have hcr:=HCL.out i (by omega);have hp:=HP.out;have hcn:=hcr.cnt;have hln:=hcr.len;obtain⟨ad,a',cap',rfl,had,hcell,hc1,hc2,hii⟩:=(HI.out.below hbr) i hlt;have hLc:zS vars (K.getD i []):=HL.out _ (yR hlt);have hst:clF (K.take (i+1))=XO (clF (K.take i)) (K.getD i []):=by
    rw[List.take_succ_eq_append_getElem hlt,zdL];simp[List.getD_eq_getElem?_getD,List.getElem?_eq_getElem hlt]
   have hone:=zee hcr (show vars<=12 by omega) hLc;have hA:Xv w0.heap.size wr vars room (clF (K.take i)).1:=⟨hr4,HRL.out,hcr.good,hv,hcn,by omega,by omega⟩;have HNR:Hid (zC 53 #[.pointer (some ⟨s,0,none⟩),.int .i64 (clF (K.take i)).2,.slice a' (K.getD i []).length cap'] wr (ym w0.heap.size s b Oi vars room (yf (clF (K.take i)) (K.getD i [])) wr)):=zhs hSi hA _ hcr.has (K.getD i []) hLc a' cap' hii (HMC.out _ (yR hlt));have hfew:(yf (clF (K.take i)) (K.getD i [])).1.length<=90000:=by
    have h1:=hone.tight;have h2:=zct hA hLc;unfold yV at h2;cases hq:qu (zk (K.getD i [])) with
    |true=>rw[hq,if_pos rfl] at h1;omega
    |false=>rw[hq,if_neg (by simp)] at h1 h2;omega
   have HST:Hid (clF (K.take (i+1))=(qs (yf (clF (K.take i)) (K.getD i [])).1 (qq (yf (clF (K.take i)) (K.getD i [])).1 [(yf (clF (K.take i)) (K.getD i [])).2]),(yf (clF (K.take i)) (K.getD i [])).2)):=hst;have hgood:=hone.good;have hi64:=yo hone.has (by omega);generalize yf (clF (K.take i)) (K.getD i [])=r at *;generalize (clF (K.take i)).2=ov at *;generalize K.getD i []=cc at *;have HMi:=zH hMi;have hi0:(0:Int)<=(i:Int):=by omega
   have hi1:(i:Int)<(K.length:Int):=by omega
   obtain⟨ab,ao,asp⟩:=ad;clear hcr hone hA hLc hst hSi hMi hbr hii hcn hln had;go_wp2_with fail;refine HNR.out.mono ?_;rintro e w4 ⟨rfl,O4,hS4,hM4⟩;have hw4:=hM4.size;have c4:w4.cell? ⟨w.heap.size,0,none⟩=some (.pointer (some ⟨s,0,none⟩)):=(hM4.cell (a:=⟨w.heap.size,0,none⟩) (by show w.heap.size<_;omega) hnbi).trans cR;have hbd:zB w4 (w4.drew.alloc (.cells #[.int .i64 r.2] 3)):=((Below.refl _ w4).drew).alloc zN _;have c5:w4.drew.cell? ⟨w.heap.size,0,none⟩=some (.pointer (some ⟨s,0,none⟩)):=c4;have c6:(w4.drew.alloc (.cells #[.int .i64 r.2] 3)).cell? ⟨w.heap.size,0,none⟩=some (.pointer (some ⟨s,0,none⟩)):=(hbd.cell (p:=⟨w.heap.size,0,none⟩) (by show w.heap.size<_;omega)).trans c4;have hnb4:¬O4 w.heap.size:=hM4.beside (by omega) hnbi;have HFR:Hid (∀W g c,zB w4 W->W.cell? ⟨w.heap.size,0,none⟩=some (.pointer (some ⟨s,0,none⟩))->xN W g [r.2]->zC 54 #[.pointer (some ⟨s,0,none⟩),.slice (some ⟨g,0,none⟩) 1 c] W fun e w'=>∃n:Int,e=.returned (.int .i64 n)/\∃O',zm w0.heap.size w' s b O' vars room (qs r.1 (qq r.1 [r.2]))/\zI O4 O' W w'/\w'.cell? ⟨w.heap.size,0,none⟩=some (.pointer (some ⟨s,0,none⟩))):=fun W g c hW hcW hi=>(zkj (cp:=c) (hS4.new hW) hgood.ranked hfew (by have:=hW.size;omega) g [r.2] hi (by simp)).mono fun e w' ⟨n,he,O',h1,h2⟩=>⟨n,he,O',h1,h2,(h2.cell (a:=⟨w.heap.size,0,none⟩) (by have:=hW.size;show w.heap.size<_;omega) hnb4).trans hcW⟩;have HRN:Hid ((w4.drew.alloc (.cells #[.int .i64 r.2] 3)).ownsRow w4.heap.size 3 1 (.slice none 0 0) 0 []):=World.ownsRow_nil _ _ _ _;have HLI:Hid (∀(j:Nat) (u:Value),[Value.int .i64 r.2][j]?=some u->(w4.drew.alloc (.cells #[.int .i64 r.2] 3)).cell? ((⟨w4.heap.size,0,none⟩:Addr).add j)=some u):=Z0 w4.drew r.2 3;have HLO:=zH (Zy r.2);have HQ1:Hid (0+1<=maxLen):=by show 0+1<=maxLen;unfold maxLen;omega
   have HQ2:Hid ((0+1)*8<=140737488355328):=by show (0+1)*8<=140737488355328;omega
   have HSZ:Hid (w4.heap.size<=(w4.drew.alloc (.cells #[.int .i64 r.2] 3)).heap.size):=hbd.size;have HX:Hid (∀v7 w7,w7.ownsRow w4.heap.size 3 1 v7 (0+1) ([]++[.int .i64 r.2])->(w4.drew.alloc (.cells #[.int .i64 r.2] 3)).grownBy w7 (Value.ownBlock (.slice none 0 0))->zB w4 w7/\w7.cell? ⟨w.heap.size,0,none⟩=some (.pointer (some ⟨s,0,none⟩))/\∃g c,v7=.slice (some ⟨g,0,none⟩) 1 c/\xN w7 g [r.2]):=fun v7 w7 h1 h2=>by
    have hb7:zB w4 w7:=hbd.grown h2 hbd.size (fun k e=>by cases e);exact⟨hb7,(hb7.cell (p:=⟨w.heap.size,0,none⟩) (by show w.heap.size<_;omega)).trans c4,zkq h1 hi64⟩
   have HM4:=zH (HMi.out.trans hM4);clear hS4 hM4 HNR hbd c4 cR HMi hgood hfew hi64;go_upto_region 14 with fail;go_region_held_law (fun X=>X.cell? ⟨w.heap.size,0,none⟩=some (.pointer (some ⟨s,0,none⟩))) (first|exact S2|exact S1|exact c5|exact c6)
    (first
     |(refine ziH rfl _ _ 25 rfl w4.heap.size 3 i3 (.int .i64 0) 1 8 Tryz.underlying25 hin hz0 hz1 hz2 rfl (by decide) (.slice none 0 0) 0 [] (by simp[Act.eval]) HRN.out ⟨w4.heap.size,0,none⟩ 1 1 [.int .i64 r.2] (by simp[Act.eval]) rfl HLI.out HLO.out HQ1.out HSZ.out HQ2.out ?_;intro v7 w7 hown7 hgrow7;obtain⟨hb7,S1,g7,c7,rfl,hi7⟩:=HX.out _ _ hown7 hgrow7)
     | (go_at_call 54;refine (HFR.out _ _ _ hb7 S1 hi7).mono ?_;rintro e w8 ⟨n8,rfl,O8,hS8,hM8,S2⟩))
   all_goals
    have HFIN:Hid (zm w0.heap.size w8 s b O8 vars room (clF (K.take (i+1))).1/\zI O O8 w2 w8):=⟨by rw[HST.out];exact hS8,(HM4.out.trans (zI.of_below O4 hb7)).trans hM8⟩;have HOV:Hid ((clF (K.take (i+1))).2=r.2):=by show _=_;rw[HST.out]
    clear hS8 hM8 hb7 hi7 hown7 hgrow7 S1 S2 c5 c6 HX HFR HRN HLI HLO HQ1 HQ2 HSZ HM4 HST;go_wp2;go_roundw
   case rel=>exact⟨i+1,O8,hlt,by go_num,by rw[HOV.out],HFIN.out.1,HFIN.out.2⟩
   case measure=>simp[intOf];omega
  ·obtain rfl:i=K.length:=by omega
   rw[List.take_length] at hSi ⊢;have HFIN:Hid (∃O',zm w0.heap.size wr s b O' vars room (clF K).1/\zI O O' w wr):=⟨Oi,hSi,(zI.of_below O (zT HBA.out HB2.out)).trans hMi⟩;clear hSi hMi hbr cR;go_wp2;go_ret2;exact⟨rfl,HFIN.out⟩
end
end Bd
section
open Go.RowKit Go.Deep
structure St where
 told:List Int
 decs:List (Int × List Int)
 prf:List (List Int)
inductive Res where
 |sat (told:List Int)
 |unsat (prf:List (List Int))
 |limit
def zA(decs:List (Int × List Int)):List Int:=decs.map fun d=>-d.1
def yW(v:Nat)(told:List Int):Int:=yU (fun i=>tv told i==0) (List.range v)
def qL(v:Nat)(l:List (List Int))(s:St):St ⊕ Res :=
 if (zG s.told (l++s.prf)).2≠0 then .inl { s with told:=s.told++[(zG s.told (l++s.prf)).2] }
 else if 0<=(zG s.told (l++s.prf)).1 then
  match s.decs.getLast? with
  |none=>.inr (.unsat (s.prf++[zA s.decs]))
  |some d=>if s.prf.length+1=2000 then .inr .limit else .inl ⟨d.2,s.decs.dropLast,s.prf++[zA s.decs]⟩
 else if yW v s.told<0 then .inr (.sat s.told)
 else .inl ⟨s.told++[yW v s.told+1],s.decs++[(yW v s.told+1,s.told)],s.prf⟩
inductive Run (v:Nat) (l:List (List Int)):St->Res->Prop
 |done {s:St} {r:Res} (h:qL v l s=.inr r):Run v l s r
 |go {s s':St} {r:Res} (h:qL v l s=.inl s') (hr:Run v l s' r):Run v l s r
theorem Run.at_done{v:Nat}{l:List (List Int)}{s:St}{r r':Res}(h:Run v l s r)(hd:qL v l s=.inr r'):r=r':=by
 cases h with
 |done h=>rw[hd] at h;cases h;rfl
 |go h _=>rw[hd] at h;cases h
theorem Run.at_go{v:Nat}{l:List (List Int)}{s s':St}{r:Res}(h:Run v l s r)(hd:qL v l s=.inl s'):Run v l s' r:=by
 cases h with
 |done h=>rw[hd] at h;cases h
 |go h hr=>rw[hd] at h;cases h;exact hr
def zih(v:Nat)(k:Nat)(d:Int × List Int):Prop:=qV d.2/\zS v d.2/\k+free d.2<=24/\zJ v d.1=true
structure zr(v:Nat)(s:St):Prop where
 cons:qV s.told
 lits:zS v s.told
 few:s.decs.length+free s.told<=24
 pl:s.prf.length<2000
 litsP:zU v s.prf
 ds:∀k d,s.decs[k]?=some d->zih v k d
theorem zkC(told:List Int):free told<=24:=by
 unfold free;refine Nat.le_trans List.countP_le_length ?_;simp
theorem QB{v:Nat}{told:List Int}:(yW v told=-1/\∀i,i<v->tv told i≠0)\/∃k:Nat,yW v told=(k:Int)/\k<v/\tv told k=0/\∀i,i<k->tv told i≠0:=by
 unfold yW;rcases zay (fun i=>tv told i==0) (List.range v) 0 with ⟨h,h1⟩|⟨k,h,hk,h1,h2⟩
 ·exact Or.inl ⟨h,fun i hi=>by simpa using h1 i (List.mem_range.2 hi)⟩
 ·rw[List.length_range] at hk;have e:(List.range v).getD k 0=k:=by simp[List.getD_eq_getElem?_getD,hk]
  rw[e] at h1;refine Or.inr ⟨k,h,hk,by simpa using h1,fun i hi=>?_⟩;have:=h2 i (by rw[List.take_range,List.mem_range];omega);simpa using this
theorem YK{v:Int}{l m:List (List Int)}(h1:zU v l)(h2:zU v m):zU v (l++m):=fun c hc=>by
 rcases List.mem_append.1 hc with h|h
 ·exact h1 c h
 ·exact h2 c h
theorem zcY{v:Nat}{s:St}(h:zr v s):zS v (zA s.decs):=by
 intro x hx;unfold zA at hx;obtain⟨d,hd,rfl⟩:=List.mem_map.1 hx;obtain⟨k,hk⟩:=List.getElem?_of_mem hd;have:=(h.ds k d hk).2.2.2;rw[qx] at *;omega
def mu(s:St):Nat:=(2000-s.prf.length)*25+free s.told
theorem YM{v:Nat}{l:List (List Int)}(hv:v<=24)(hl:zU v l){s s':St}(h:zr v s)(e:qL v l s=.inl s'):zr v s'/\mu s'<mu s:=by
 unfold qL at e;have hlp:=YK hl h.litsP
 by_cases h1:(zG s.told (l++s.prf)).2≠0
 ·rw[if_pos h1] at e;injection e with e;subst e;obtain⟨q1,q2,q3,q4,q5⟩:=XR hlp h.cons h.lits (i:=(zG s.told (l++s.prf)).1) (x:=(zG s.told (l++s.prf)).2) rfl h1;have hf:=zbF (Zl (by omega) q1) q2 q3;have:=h.few;exact⟨⟨q4,q5,by show s.decs.length+free (s.told++_)<=24;omega,h.pl,h.litsP,h.ds⟩,by unfold mu;show (2000-s.prf.length)*25+free (s.told++_)<_;omega⟩
 ·rw[if_neg h1] at e
  by_cases h2:0<=(zG s.told (l++s.prf)).1
  ·rw[if_pos h2] at e;cases hd:s.decs.getLast? with
   |none=>rw[hd] at e;cases e
   |some d =>
    rw[hd] at e
    by_cases h3:s.prf.length+1=2000
    ·simp only[if_pos h3] at e;cases e
    ·simp only[if_neg h3] at e;injection e with e;subst e;have hne:s.decs≠[]:=fun e=>by rw[e] at hd;cases hd
     have hpos:=List.length_pos_iff.2 hne;have hlast:s.decs[s.decs.length-1]?=some d:=by rw[<-List.getLast?_eq_getElem?];exact hd
     obtain⟨g1,g2,g3,g4⟩:=h.ds _ _ hlast;have hpl:=h.pl;refine⟨⟨g1,g2,by show s.decs.dropLast.length+free d.2<=24;rw[List.length_dropLast];exact g3,by show (s.prf++[_]).length<2000;simp;omega,YK h.litsP (fun c hc=>by rw[List.mem_singleton] at hc;subst hc;exact zcY h),fun k d' hk=>?_⟩,?_⟩
     ·have hk':s.decs.dropLast[k]?=some d':=hk;rw[List.getElem?_dropLast] at hk';split at hk'
      ·exact h.ds k d' hk'
      ·cases hk'
     ·have:=zkC d.2;unfold mu;show (2000-(s.prf++[zA s.decs]).length)*25+free d.2<(2000-s.prf.length)*25+free s.told;simp only[List.length_append,List.length_singleton];have:2000-s.prf.length=(2000-(s.prf.length+1))+1:=by omega
      rw[this,Nat.add_mul];omega
  ·rw[if_neg h2] at e
   by_cases h3:yW v s.told<0
   ·rw[if_pos h3] at e;cases e
   ·rw[if_neg h3] at e;injection e with e;subst e;rcases QB (v:=v) (told:=s.told) with ⟨h4,_⟩|⟨k,h4,hk,h5,_⟩
    ·omega
    ·have hlt:zJ v ((k:Int)+1)=true:=by rw[qx];omega
     obtain⟨n1,n2⟩:=Qw.1 h5;have hf:=zbF (Zl (by omega) hlt) n1 n2;have:=h.few;rw[h4];refine⟨⟨zd9 h.cons (by omega) n2,zeK h.lits hlt,?_,h.pl,h.litsP,fun j d hj=>?_⟩,?_⟩
     ·show (s.decs++[_]).length+free (s.told++_)<=24;simp only[List.length_append,List.length_singleton];omega
     ·have hj':(s.decs++[((k:Int)+1,s.told)])[j]?=some d:=hj;rw[List.getElem?_append] at hj';split at hj'
      ·exact h.ds j d hj'
      ·rename_i hge;have hjl:j-s.decs.length=0:=by
        rcases Nat.eq_zero_or_pos (j-s.decs.length) with h|h
        ·exact h
        ·rw[List.getElem?_eq_none (by simp;omega)] at hj';cases hj'
       rw[hjl] at hj';simp at hj';subst hj';exact⟨h.cons,h.lits,by show j+free s.told<=24;omega,hlt⟩
     ·unfold mu;show (2000-s.prf.length)*25+free (s.told++_)<_;omega
theorem zlH{v:Nat}{l:List (List Int)}(hv:v<=24)(hl:zU v l):∀(n:Nat) (s:St),mu s<=n->zr v s->∃r,Run v l s r:=by
 intro n
 induction n with
 |zero =>
  intro s hm hg;cases e:qL v l s with
  |inr r=>exact⟨r,.done e⟩
  |inl s'=>have:=(YM hv hl hg e).2;omega
 |succ n ih =>
  intro s hm hg;cases e:qL v l s with
  |inr r=>exact⟨r,.done e⟩
  |inl s' =>obtain⟨g,hlt⟩:=YM hv hl hg e;obtain⟨r,hr⟩:=ih s' (by omega) g;exact⟨r,.go e hr⟩
def st0:St:=⟨[],[],[]⟩
theorem KM(v:Nat):zr v st0:=⟨zhu,zgx v,by decide,by decide,(fun c hc=>by cases hc),(fun k d h=>by simp[st0] at h)⟩
end
section
open Go.RowKit Go.Deep
theorem zaH{vals:Nat}{x:Int}(hx:x≠0):xu vals (-x)=!xu vals x:=by
 unfold xu
 by_cases hp:0<x
 ·rw[if_neg (by omega),if_pos hp,Int.neg_neg]
 ·rw[if_pos (by omega),if_neg hp,Bool.not_not]
def Sat(vals:Nat)(xs:List Int):Prop:=∀x∈xs,xu vals x=true
def xe(vals:Nat)(l:List (List Int)):Prop:=∀c∈l,∃x∈c,xu vals x=true
theorem zmG{vals:Nat}{l:List (List Int)}(h:xY vals l=true):xe vals l:=fun c hc=>by
 unfold xY at h;rw[List.all_eq_true] at h;have:=h c hc;unfold YL at this;obtain⟨x,hx,h2⟩:=List.any_eq_true.1 this;unfold Y9 at h2;rw[Bool.and_eq_true] at h2;exact⟨x,hx,h2.2⟩
theorem Jz{v:Int}{l:List (List Int)}(hl:zU v l){told:List Int}(hc:qV told){vals:Nat}(hs:xe vals l)(ht:Sat vals told):(0<=(zG told l).1->(zG told l).2≠0)/\((zG told l).2≠0->xu vals (zG told l).2=true):=by
 have hn:=Xt (l:=l) hc;generalize zG told l=r at hn;cases hn with
 |none=>exact⟨fun h=>by simp at h,fun h=>absurd rfl h⟩
 |bad hk h =>exfalso;obtain⟨x,hx,hh⟩:=hs _ (yR hk);have h0:=(qx.1 (hl _ (yR hk) x hx)).1;have:=ht _ (h x hx).2;rw[zaH h0,hh] at this;cases this
 |one hk hx h0 h1 h =>
  rename_i k x;refine⟨fun _=>(qx.1 (hl _ (yR hk) _ hx)).1,fun _=>?_⟩;obtain⟨y,hy,hh⟩:=hs _ (yR hk)
  by_cases e:y=x
  ·rw[<-e];exact hh
  ·exfalso;have hy0:=(qx.1 (hl _ (yR hk) y hy)).1;have:=ht _ (h y hy e).2;rw[zaH hy0,hh] at this;cases this
theorem zcM{vals:Nat}{told:List Int}{x:Int}(h:Sat vals told)(hx:xu vals x=true):Sat vals (told++[x]):=fun y hy=>by
 simp only[List.mem_append,List.mem_singleton] at hy;rcases hy with hy|hy
 ·exact h y hy
 ·rw[hy];exact hx
end
section
open Go.RowKit Go.Deep
structure xo(w:World)(p:Addr)(told:List Int):Prop where
 lt:p.block<w.heap.size
 cell:∀i,i<24->w.cell? (p.add i)=some (.int .i8 (tv told i))
 fz:∀i,i<24->w.frozen? (p.add i)=false
theorem xo.below{w w':World}{p:Addr}{told:List Int}(h:xo w p told)(hb:zB w w'):xo w' p told :=
 ⟨Nat.lt_of_lt_of_le h.lt hb.size,fun i hi=>(hb.cell (by rw[xP];exact h.lt)).trans (h.cell i hi),fun i hi=>(hb.frozen (by rw[xP];exact h.lt)).trans (h.fz i hi)⟩
theorem zgU{p:Addr}{i j:Nat}(h:p.add i=p.add j):i=j:=by
 unfold Addr.add at h
 by_cases hi:i=0<;>by_cases hj:j=0
 ·omega
 ·subst hi;rw[if_pos rfl,if_neg hj] at h;have:=congrArg Addr.off h;simp at this;omega
 ·subst hj;rw[if_pos rfl,if_neg hi] at h;have:=congrArg Addr.off h;simp at this;omega
 ·rw[if_neg hi,if_neg hj] at h;have:=congrArg Addr.off h;simp at this;omega
def qZ(x:Int):Nat:=(if 0<x then x else -x).toNat-1
def xp(x:Int):Int:=if 0<x then 1 else -1
theorem xo.tell{w:World}{p:Addr}{told:List Int}(h:xo w p told){x:Int}(hx:zJ 24 x=true)(hn:-x∉told):xo (w.setCell (p.add (qZ x)) (.int .i8 (xp x))) p (told++[x]):=by
 rw[qx] at hx;have ht:qZ x<24:=by unfold qZ;split<;>omega
 refine⟨by simpa[World.setCell] using h.lt,fun i hi=>?_,fun i hi=>by rw[World.frozen?_setCell];exact h.fz i hi⟩;rw[JY hn]
 by_cases e:i=qZ x
 ·rw[e,World.cell?_setCell_same' _ _ _ (by rw[h.cell _ ht];rfl)];unfold qZ xp
  by_cases hp:0<x
  ·rw[if_pos hp,if_pos hp,if_pos (by omega)]
  ·rw[if_neg hp,if_neg hp,if_neg (by omega),if_pos (by omega)]
 ·rw[World.cell?_setCell_other _ _ _ _ (fun h=>e (zgU h).symm),h.cell i hi];unfold qZ at e
  by_cases hp:0<x
  ·rw[if_pos hp] at e;rw[if_neg (by omega),if_neg (by omega)]
  ·rw[if_neg hp] at e;rw[if_neg (by omega),if_neg (by omega)]
theorem zcc(p:Addr)(told:List Int)(hc:qV told)(x:Int)(hx:zJ 24 x=true)(w:World)(hv:xo w p told) :
  zC 95 #[.pointer (some p),.int .i64 x] w fun e w'=>e=.returned (.int .i8 (qE told x))/\w=w':=by
 rw[qx] at hx
 by_cases hp:0<x
 ·obtain⟨t,rfl⟩:∃t:Nat,x=(t:Int)+1:=⟨x.toNat-1,by omega⟩;have ht:t<24:=by omega
  have hc:=hv.cell t ht;rw[zhw];clear hx hv;generalize tv told t=s at *;go_enter Tryz.func95,Tryz.ntmps95;go_wp2;go_ret;exact⟨rfl,rfl⟩
 ·obtain⟨t,rfl⟩:∃t:Nat,x=-((t:Int)+1):=⟨(-x).toNat-1,by omega⟩;have ht:t<24:=by omega
  have hcl:=hv.cell t ht;have hb:=znC told t;rw[zgQ hc];clear hx hv hc;generalize tv told t=s at *;have hw:IntKind.i8.wrap (-s)=-s:=by
   have:s=-1\/s=0\/s=1:=by omega
   rcases this with rfl|rfl|rfl<;>decide
  go_enter Tryz.func95,Tryz.ntmps95;go_wp2;go_ret;exact⟨by first|rfl|simp[hw],rfl⟩
theorem zad(p:Addr)(told:List Int)(x:Int)(hx:zJ 24 x=true)(w:World)(hv:xo w p told) :
  zC 22 #[.pointer (some p),.int .i64 x] w fun e w'=>e=.returned (.tuple #[])/\w'=w.setCell (p.add (qZ x)) (.int .i8 (xp x)):=by
 rw[qx] at hx
 by_cases hp:0<x
 ·obtain⟨t,rfl⟩:∃t:Nat,x=(t:Int)+1:=⟨x.toNat-1,by omega⟩;have ht:t<24:=by omega
  have hc:=hv.cell t ht;have hf:=hv.fz t ht;have e1:qZ ((t:Int)+1)=t:=by unfold qZ;rw[if_pos hp];omega
  have e2:xp ((t:Int)+1)=1:=by unfold xp;rw[if_pos hp]
  rw[e1,e2];clear hx hv e1 e2;go_enter Tryz.func22,Tryz.ntmps22;go_wp2;refine bodyPost_end (v:=.tuple #[]) (by simp[results,Tryz.results22,go_sem]) rfl ?_;exact⟨rfl,rfl⟩
 ·obtain⟨t,rfl⟩:∃t:Nat,x=-((t:Int)+1):=⟨(-x).toNat-1,by omega⟩;have ht:t<24:=by omega
  have hc:=hv.cell t ht;have hf:=hv.fz t ht;have e1:qZ (-((t:Int)+1))=t:=by unfold qZ;rw[if_neg hp];omega
  have e2:xp (-((t:Int)+1))=-1:=by unfold xp;rw[if_neg hp]
  rw[e1,e2];clear hx hv e1 e2;go_enter Tryz.func22,Tryz.ntmps22;go_wp2;refine bodyPost_end (v:=.tuple #[]) (by simp[results,Tryz.results22,go_sem]) rfl ?_;exact⟨rfl,rfl⟩
theorem zjZ(p:Addr)(told:List Int)(hc:qV told)(x:Int)(hx:zJ 24 x=true)(b:Nat)(w:World)(hv:xo w p told)(hb:w.cell? ⟨b,0,none⟩=some (.pointer (some p))) :
  zC 94 #[.int .i64 x,.pointer (some ⟨b,0,none⟩)] w fun e w'=>e=.returned (.bool (decide (0<=qE told x)))/\w=w':=by
 have HS:=zH (zcc p told hc x hx w hv);clear hv hx hc;generalize qE told x=s at *;go_enter Tryz.func94,Tryz.ntmps94;go_wp2_with fail;refine HS.out.mono ?_;rintro e w1 ⟨rfl,rfl⟩;go_wp2;go_ret;exact⟨by first|rfl|simp,rfl⟩
theorem zlK(p:Addr)(told:List Int)(hc:qV told)(x one:Int)(hx:zJ 24 x=true)(b b2:Nat)(w:World)(hv:xo w p told)(hb:w.cell? ⟨b,0,none⟩=some (.pointer (some p)))(hb2:w.cell? ⟨b2,0,none⟩=some (.int .i64 one)) :
  zC 96 #[.int .i64 x,.pointer (some ⟨b,0,none⟩),.pointer (some ⟨b2,0,none⟩)] w fun e w'=>e=.returned (.bool (Zi told one x))/\w=w':=by
 have HS:=zH (zcc p told hc x hx w hv);have hsb:=zkc told x;unfold Zi;clear hv hx hc;generalize qE told x=s at *;rcases hsb with rfl|rfl|rfl
 ·go_enter Tryz.func96,Tryz.ntmps96;go_wp2_with (go_at_call 95;refine HS.out.mono ?_;rintro e w1 ⟨rfl,rfl⟩);go_ret;exact⟨by first|rfl|simp,rfl⟩
 ·go_enter Tryz.func96,Tryz.ntmps96;go_wp2_with (go_at_call 95;refine HS.out.mono ?_;rintro e w1 ⟨rfl,rfl⟩);go_ret;exact⟨by first|rfl|simp,rfl⟩
 ·go_enter Tryz.func96,Tryz.ntmps96;go_wp2_with (go_at_call 95;refine HS.out.mono ?_;rintro e w1 ⟨rfl,rfl⟩);go_ret;exact⟨by first|rfl|simp,rfl⟩
theorem qJ.drop{w:World}{ad:Addr}{xs:List Int}(h:qJ w (some ad) xs)(k:Nat):qJ w (some (ad.add k)) (xs.drop k):=by
 intro i hi;rw[List.length_drop] at hi;obtain⟨ad',e,hl,hc⟩:=h (k+i) (by omega);obtain rfl:=Option.some.inj e;refine⟨_,rfl,by rw[xP];exact hl,?_⟩;rw[add_add,hc];simp[List.getD_eq_getElem?_getD]
theorem zkg:∀args w,(callFunc 94 args).run Tryz.prog w=.ok (.enter 94 args) w:=by intro args w;kernel_rfl
theorem zhI:∀args w,(callFunc 96 args).run Tryz.prog w=.ok (.enter 96 args) w:=by intro args w;kernel_rfl
theorem zm4(p:Addr)(told:List Int)(hc:qV told)(c:List Int)(hx:zS 24 c)(a:Option Addr)(cap:Nat)(w:World)(hv:xo w p told)(hI:qJ w a c)(hm:cap<=9223372036854775807)(hm2:c.length<=cap) :
  zR 62 #[.pointer (some p),.slice a c.length cap] w (.tuple #[.int .i64 (qP told c).1,.bool (qP told c).2]):=by
 have hb0:=below_new w (.cells #[.pointer (some p)] 143);have hc0:∀W,Below (w.heap.size+1) (w.alloc (.cells #[.pointer (some p)] 143)) W->W.cell? ⟨w.heap.size,0,none⟩=some (.pointer (some p)):=fun W hW=>(hW.cell (p:=⟨w.heap.size,0,none⟩) (by simp)).trans (by simp);have HIX:=zH (zcS 94 #[.pointer (some ⟨w.heap.size,0,none⟩)] (fun x=>decide (0<=qE told x)) c a cap (w.alloc (.cells #[.pointer (some p)] 143)) (by omega) zkg (hI.below hb0) (fun W i hW hi=>(zjZ p told hc (c.getD i 0) (hx _ (yR hi)) w.heap.size W ((hv.below hb0).below hW) (hc0 W (hW.mono (by simp)))).mono fun e w' ⟨he,hw⟩=>⟨he,hw▸Below.refl _ _⟩));have HB0:=zH hb0;have HC0:=zH hc0;have HV:=zH hv;have HI:=zH hI;have HX:=zH hx;have HCO:=zH hc;clear hb0 hc0 hv hI hx hc;rcases zay (fun x=>decide (0<=qE told x)) c 0 with ⟨hi,-⟩|⟨k,hi,hk,-,-⟩
 ·have hres:qP told c=(0,true):=by unfold qP;rw[hi,if_pos (by omega)]
  rw[hres];rw[hi] at HIX;clear hi hres;go_enter Tryz.func62,Tryz.ntmps62;go_wp2_with fail;refine HIX.out.mono ?_;rintro e w1 ⟨rfl,hb1⟩;have HB1:Hid (zB w w1):=HB0.out.trans (hb1.mono (by simp));clear hb1 HIX;go_wp2;go_ret2;exact⟨rfl,HB1.out⟩
 ·have hres:qP told c=if (c.drop k).any (Zi told (c.getD k 0)) then (0,false) else (c.getD k 0,true):=by
   unfold qP;rw[hi,if_neg (by omega),Int.toNat_natCast]
  rw[hi] at HIX;have HRES:=zH hres;clear hi hres;obtain⟨ad,rfl,-,-⟩:=HI.out k hk;go_enter Tryz.func62,Tryz.ntmps62;go_wp2_with fail;refine HIX.out.mono ?_;rintro e w1 ⟨rfl,hb1⟩;replace hb1:=Below.mono (B':=w.heap.size+1) hb1 (by simp);have hb1':zB w w1:=HB0.out.trans (hb1.mono (by omega));have hI1:=HI.out.below hb1';have hv1:=HV.out.below hb1';obtain⟨ad',ea,hl,hcell⟩:=hI1 k hk;obtain rfl:=Option.some.inj ea;clear ea;generalize hone:c.getD k 0=one at *;have hb2:zB w1 (w1.alloc (.cells #[.int .i64 one] 3)):=below_new w1 _;have hlen:(c.drop k).length=c.length-k:=by simp
  have HCF:=J0 96 #[.pointer (some ⟨w.heap.size,0,none⟩),.pointer (some ⟨w1.heap.size,0,none⟩)] (Zi told one) (c.drop k) (some (ad.add k)) (cap-k) (w1.alloc (.cells #[.int .i64 one] 3)) (by rw[hlen];omega) zhI ((hI1.below hb2).drop k) (fun W i hW hi=>(zlK p told HCO.out ((c.drop k).getD i 0) one (HX.out _ (List.mem_of_mem_drop (yR hi))) w.heap.size w1.heap.size W ((hv1.below hb2).below hW) (HC0.out W (hb1.trans ((hb2.trans (hW.mono (by simp))).mono (by have:=hb1.size;rw[World.size_alloc] at this;exact this)))) ((hW.cell (p:=⟨w1.heap.size,0,none⟩) (by simp)).trans (by simp))).mono fun e w' ⟨he,hw⟩=>⟨he,hw▸Below.refl _ _⟩);rw[hlen] at HCF;have HCFF:=zH HCF;have HBX:Hid (∀W,Below (w1.alloc (.cells #[.int .i64 one] 3)).heap.size (w1.alloc (.cells #[.int .i64 one] 3)) W->zB w W/\W.cell? ⟨w1.heap.size,0,none⟩=some (.int .i64 one)):=fun W hW=>⟨hb1'.trans ((hb2.trans (hW.mono (by simp))).mono hb1'.size),(hW.cell (p:=⟨w1.heap.size,0,none⟩) (by simp)).trans (by simp)⟩;clear HCF hlen hb1 hb1' hI1 hv1 HIX hb2 hone;generalize hmore:(c.drop k).any (Zi told one)=more at *;clear hmore;cases more with
  |true =>have HR2:Hid (qP told c=(0,false)):=HRES.out;clear HRES;go_wp2_with fail;refine HCFF.out.mono ?_;rintro e w2 ⟨rfl,hb2⟩;have HB2:=zH (HBX.out _ hb2);clear hb2 HCFF HBX;go_wp2;go_ret2;exact⟨by rw[HR2.out];rfl,HB2.out.1⟩
  |false =>have HR2:Hid (qP told c=(one,true)):=HRES.out;clear HRES;go_wp2_with fail;refine HCFF.out.mono ?_;rintro e w2 ⟨rfl,hb2⟩;have HB2:=zH (HBX.out _ hb2);have hone:=HB2.out.2;clear hb2 HCFF HBX;go_wp2;go_ret2;exact⟨by rw[HR2.out];rfl,HB2.out.1⟩
theorem zgm(p:Addr)(told:List Int)(hc:qV told)(l:List (List Int))(hx:zU 24 l)(a:Option Addr)(cap:Nat)(w:World)(hv:xo w p told)(hI:qY w a l)(hm:l.length<=9223372036854775807) :
  zR 21 #[.pointer (some p),.slice a l.length cap] w (.tuple #[.int .i64 (zG told l).1,.int .i64 (zG told l).2]):=by
 have HV:=zH hv;have HI:=zH hI;have HX:=zH hx;have HCO:=zH hc;clear hv hI hx hc;go_enter Tryz.func21,Tryz.ntmps21;go_wp2_with fail;go_loopw [12] (fun kV wr=>∃k:Nat,k<=l.length/\kV=.int .i64 k/\(∀j,j<k->(qP told (l.getD j [])).2=false)/\zB w wr) (fun kV _=>l.length-(intOf kV).toNat)
 case atStart=>exact⟨0,Nat.zero_le _,rfl,fun j h=>by omega,Below.refl _ _⟩
 case round =>
  obtain⟨k,hk,rfl,h1,hbr⟩:=hrel;have H1:=zH h1;have HBR:=zH hbr;clear h1 hbr
  by_cases hlt:k<l.length
  ·obtain⟨ad,a',cap',rfl,hl',hcl,g1,g2,g3⟩:=HI.out.below HBR.out k hlt;have HON:=zH (zm4 p told HCO.out (l.getD k []) (HX.out _ (yR hlt)) a' cap' wr (HV.out.below HBR.out) g3 g2 g1);have HN:Hid ((qP told (l.getD k [])).2=true->zG told l=((k:Int),(qP told (l.getD k [])).1)):=fun h=>zfr H1.out hlt h;generalize hcc:l.getD k []=c at *;have HCC:=zH hcc;clear hcc;generalize hr:qP told c=r at *;have HRR:=zH hr;obtain⟨x,ok⟩:=r;simp only at HON HN;clear g3 hr;cases ok with
   |true =>have HR:Hid (zG told l=((k:Int),x)):=HN.out rfl;clear HN;go_wp2_with fail;refine HON.out.mono ?_;rintro e w1 ⟨rfl,hb1⟩;have HB1:Hid (zB w w1):=zT HBR.out hb1;clear hb1 HON;go_wp2;go_ret2;exact⟨by rw[HR.out];rfl,HB1.out⟩
   |false =>
    clear HN;go_wp2_with fail;refine HON.out.mono ?_;rintro e w1 ⟨rfl,hb1⟩;have HB1:Hid (zB w w1):=zT HBR.out hb1;clear hb1 HON;go_wp2;go_roundw
    case rel=>exact ⟨k + 1,hlt,by go_num,fun j hj=>(by
     rcases Nat.lt_succ_iff_lt_or_eq.1 hj with e|e
     ·exact H1.out j e
     ·rw [e,HCC.out,HRR.out]),HB1.out⟩
    case measure=>simp[intOf];omega
  ·obtain rfl:k=l.length:=by omega
   have HR:Hid (zG told l=(-1,0)):=zng H1.out;go_wp2;go_ret2;exact⟨by rw[HR.out];rfl,HBR.out⟩
end
end Go.Proofs.YtjmfeefogikdfaaGreatDoor
