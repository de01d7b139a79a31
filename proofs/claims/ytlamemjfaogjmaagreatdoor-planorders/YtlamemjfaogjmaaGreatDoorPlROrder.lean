/- plan: the reference's Order: the walk. -/
import Derived.Test.YtlamemjfaogjmaaGreatDoorPlROrdP
set_option maxHeartbeats 4000000
set_option maxRecDepth 100000
namespace Go.Proofs.YtlamemjfaogjmaaGreatDoor
section
open Go.RowKit Go.Deep Sv
theorem zbA(F:Nat)(cb:Array Value)(p:Int->Bool)(xs:List Int)(a:Option Addr)(cap:Nat)(w:World)(hm:xs.length<=9223372036854775807)
  (hent:∀args w,(callFunc F args).run Tryz.prog w=.ok (.enter F args) w) (hI:zW w a xs)
  (hf:∀W i,zB w W->i<xs.length->zR F (#[.int .i64 (xs.getD i 0)]++cb) W (.bool (p (xs.getD i 0)))) :
  zR 24 #[.slice a xs.length cap,.func (.func F) #[] cb] w (.int .i64 (yR p xs)):=by
 have HF:=zH hf;have HI:=zH hI;clear hf hI;go_enter Tryz.func24,Tryz.ntmps24;go_wp2_with fail;go_loopw [8] (fun kV wr=>∃k:Nat,k<=xs.length/\kV=.int .i64 k/\(∀j,j<k->p (xs.getD j 0)=false)/\zB w wr) (fun kV _=>xs.length-(intOf kV).toNat)
 case atStart=>exact⟨0,Nat.zero_le _,rfl,fun j h=>by omega,Below.refl _ _⟩
 case round =>
  obtain⟨k,hk,rfl,h1,hbr⟩:=hrel;have H1:=zH h1;have HBR:=zH hbr;clear h1 hbr
  by_cases hlt:k<xs.length
  ·obtain⟨ad,rfl,hl,hc⟩:=HI.out.below HBR.out k hlt;have HC:=zH (HF.out wr k HBR.out hlt);cases hp:p (xs.getD k 0) with
   |true =>rw[hp] at HC;have HP:=zH hp;clear hp;generalize hx:xs.getD k 0=x at *;have HX:=zH hx;clear hx;go_wp2_with fail;refine HC.out.mono ?_;rintro e w1 ⟨rfl,hb1⟩;have HB1:Hid (zB w w1):=zT HBR.out hb1;clear hb1 HC;go_wp2;go_ret;exact⟨by rw[zgW H1.out hlt (by rw[HX.out];exact HP.out)];rfl,HB1.out⟩
   |false =>
    rw[hp] at HC;have HP:=zH hp;clear hp;generalize hx:xs.getD k 0=x at *;have HX:=zH hx;clear hx;go_wp2_with fail;refine HC.out.mono ?_;rintro e w1 ⟨rfl,hb1⟩;have HB1:Hid (zB w w1):=zT HBR.out hb1;clear hb1 HC;go_wp2;go_roundw
    case rel=>exact ⟨k + 1,hlt,by go_num,fun j hj=>(by
     rcases Nat.lt_succ_iff_lt_or_eq.1 hj with e|e
     ·exact H1.out j e
     ·rw [e,HX.out];exact HP.out),HB1.out⟩
    case measure=>simp[intOf];omega
  ·obtain rfl:k=xs.length:=by omega
   go_wp2;go_ret;exact⟨by rw[zce H1.out];rfl,HBR.out⟩
theorem zdP:∀args w,(callFunc 23 args).run Tryz.prog w=.ok (.enter 23 args) w:=by intro args w;kernel_rfl
theorem zeD(nd:List Nat)(n:Nat)(hn:nd.length=n)(g b8 b10 left k:Nat)(hl:left<18446744073709551616)(hk:k<n)(hnd:nd.getD k 0<16777216)(w:World)(h8:w.cell? ⟨b8,0,none⟩=some (.slice (some ⟨g,0,none⟩) n n))(h10:w.cell? ⟨b10,0,none⟩=some (.int .u64 left))(h:NdB w g nd) :
  zR 23 #[.int .i64 k,.pointer (some ⟨b8,0,none⟩),.pointer (some ⟨b10,0,none⟩)] w (.bool (decide (nd.getD k 0&&&left=0))):=by
 have c:=h.cell (n:=k) (by omega);have hk0:(0:Int)<=(k:Int):=by omega
 have hk1:(k:Int)<(n:Int):=by omega
 have hand:=yl (nd.getD k 0) left (by omega) hl;have HQ:Hid ((((nd.getD k 0&&&left:Nat):Int)==0)=decide (nd.getD k 0&&&left=0)):=by
  show _=_
  by_cases hq:nd.getD k 0&&&left=0
  ·rw[decide_eq_true hq,hq];rfl
  ·rw[decide_eq_false hq];simpa using hq
 clear h hnd hn;generalize nd.getD k 0=N0 at *;generalize N0&&&left=Q at *;generalize decide (Q=0)=D at *;have HQ2:=HQ.out;go_enter Tryz.func23,Tryz.ntmps23;go_upto_region 1 with fail;go_quiet (fail);go_wp2;go_ret;exact⟨by first|rfl|(rw[HQ.out];rfl)|simp[HQ.out],xd zF _⟩
theorem zeS(bk:Nat)(ls:List Ln)(its:List It)(hN:zk ls=.ok its)(set:Nat)(w:World)(h:zV w bk ls its)(hs:set<18446744073709551616)(hf:(zm its ls set).1=false) :
  zC 6 #[.pointer (some ⟨bk,0,none⟩),.int .u64 set] w (Yv w (zl its ls set)):=by
 have HFI0:=Jg bk ls its hN set w h hs;rw[hf] at HFI0;have HFI:=zH HFI0;have HR:zl its ls set=.error 13:=by unfold zl;rw[if_pos hf]
 rw[HR];show Calls _ _ _ _ fun e w'=>e=.returned (.tuple #[.slice none 0 0,.iface 28 (.int .i64 13)])/\zB w w';clear HFI0 hf h hN HR;generalize (zm its ls set).2=f2 at *;go_enter Tryz.func6,Tryz.ntmps6;go_wp2_with fail;refine HFI.out.mono ?_;rintro e w1 ⟨rfl,hb1⟩;have HB1:=zH hb1;clear hb1 HFI;go_wp2;go_ret2;exact⟨rfl,HB1.out⟩
theorem zch(bk:Nat)(ls:List Ln)(its:List It)(hN:zk ls=.ok its)(set:Nat)(w:World)(h:zV w bk ls its)(hs:set<2^its.length)(hf:(zm its ls set).1=true) :
  zC 6 #[.pointer (some ⟨bk,0,none⟩),.int .u64 set] w (Yv w (zl its ls set)):=by
 obtain⟨i0,hin,hz0,hz1,hz2⟩:=info_parts xM;have hl:=(ya hN).1;have hs24:set<16777216:=Nat.lt_of_lt_of_le hs (Nat.pow_le_pow_right (n:=2) (by decide) hl);have HFI0:=Jg bk ls its hN set w h (by omega);rw[hf] at HFI0;have HFI:=zH HFI0;have HR:Hid (zl its ls set=Ym (qH (q7 its ls) (zx set 24).length (zx set 24) set [])):=by show _=_;unfold zl Zc;rw[if_neg (by rw[hf];decide)]
 have HNE:Hid (∀W,zB w W->zC 21 #[.pointer (some ⟨bk,0,none⟩)] W fun e w'=>∃g,e=.returned (.slice (some ⟨g,0,none⟩) its.length its.length)/\W.heap.size<=g/\NdB w' g (q7 its ls)/\zB W w'):=fun W hb=>zbV bk ls its hN W (h.below hb zN);have HIT:Hid (∀W,zC 22 #[.int .u64 set] W fun e w'=>∃v,e=.returned v/\w'.ownsRow W.heap.size 3 1 v (zx set 24).length (zn (zq (zx set 24)))/\zB W w'):=fun W=>zgi set hs24 W;have HWL:Hid (∀x∈zx set 24,x<its.length):=fun x hx=>by
  unfold zx at hx;have hb:=(List.mem_filter.1 hx).2;apply Classical.byContradiction;intro hc;rw[xw hs (by omega)] at hb;cases hb
 have HNDL:Hid ((q7 its ls).length=its.length):=Z8 its ls ls.length;have HNDB:Hid (∀k,(q7 its ls).getD k 0<16777216):=fun k=>Xy its ls hl ls.length k;have HIL:=Q8 set 24;clear HFI0 hf h hN hs;generalize (zm its ls set).2=f2 at *;generalize q7 its ls=ND at *;generalize zx set 24=IT at *;go_enter Tryz.func6,Tryz.ntmps6;go_wp2_with fail;refine HFI.out.mono ?_;rintro e w1 ⟨rfl,hb1⟩;have HN1:=zH (HNE.out w1 hb1);have HB1:=zH hb1;clear hb1 HFI HNE;go_wp2_with fail;refine HN1.out.mono ?_;rintro e w2 ⟨g,rfl,hg1,hnb,hb2⟩;have HNB:=zH hnb;have HB2:Hid (zB w w2):=zT HB1.out hb2;have hg0:w.heap.size<=g:=Nat.le_trans HB1.out.size hg1;have hgl:=hnb.lt;clear hnb hb2 HN1 HB1;go_wp2_with fail;refine(HIT.out w2).mono ?_;rintro e w3 ⟨wv,rfl,hwr,hb3⟩;have hw3:=hb3.size;obtain⟨wa,wc,rfl,-⟩:=qm hwr;have hsd:yn w ((w3.alloc (.cells #[.slice (some ⟨g,0,none⟩) its.length its.length] 67)).alloc (.cells #[.int .u64 set] 22)) g w2.heap.size w3.heap.size (w3.heap.size+1) its.length ND IT [] set (.slice wa IT.length wc) (.slice none 0 0):=by
  have hba:=qE w3 (.cells #[.slice (some ⟨g,0,none⟩) its.length its.length] 67);have hbb:=qE (w3.alloc (.cells #[.slice (some ⟨g,0,none⟩) its.length its.length] 67)) (.cells #[.int .u64 set] 22);have hbc:=zT hba hbb;have k1:=Blk.new w3 67 #[.slice (some ⟨g,0,none⟩) its.length its.length];have k2:=Blk.new (w3.alloc (.cells #[.slice (some ⟨g,0,none⟩) its.length its.length] 67)) 22 #[.int .u64 set];rw[World.size_alloc] at k2;exact⟨k1.below hbb k1.lt,k2,(HNB.out.below hb3).below hbc,qK hwr hbc,fun k hk=>(hwr.lt k hk).2,World.ownsRow_nil _ _ _ _,HB2.out.trans ((zT hb3 hbc).mono HB2.out.size),hg0,hgl,hw3,Nat.lt_succ_self _⟩
 have HSD:=zH hsd;clear hsd hwr hb3 HIT HNB;go_upto_region 6 with fail;generalize (w3.alloc (.cells #[.slice (some ⟨g,0,none⟩) its.length its.length] 67)).alloc (.cells #[.int .u64 set] 22)=W5 at *;generalize w3.heap.size=b8 at *;generalize w2.heap.size=Bw at *;go_wp2_with fail;go_loopw [9,12] (fun wV oV wr=>∃(wait out:List Nat) (left:Nat),yn w wr g Bw b8 (b8+1) its.length ND wait out left wV oV/\qH ND wait.length wait left out=qH ND IT.length IT set []/\(∀x∈wait,x<its.length)/\left<16777216/\wait.length+out.length<=24) (fun wV _ _=>match wV with|.slice _ n _=>n|_=>0)
 case atStart=>exact⟨IT,[],set,HSD.out,rfl,HWL.out,hs24,by simpa using HIL⟩
 case round =>
  clear HSD;obtain⟨wait,out,left,hst,hgo,hwl,hl24,h24⟩:=hrel;have HST:=zH hst;have HGO:=zH hgo;have HWT:=zH hwl;obtain⟨wa2,wc2,rfl,-⟩:=qm hst.wait;obtain⟨oa2,oc2,rfl,-⟩:=qm hst.out;clear hst hgo hwl
  by_cases hwe:wait=[]
  ·subst hwe;have HRR:Hid (zl its ls set=.ok out):=by show _=_;rw[HR.out,<-HGO.out,J6];rfl
   go_wp2;go_ret2;rw[HRR.out];exact⟨_,rfl,ZV HST.out.out (by have:=HST.out.h3;have:=HST.out.h2;omega),HST.out.B⟩
  ·have hwp:(0:Int)<(wait.length:Int):=by
    have:wait.length≠0:=fun e=>hwe (List.length_eq_zero_iff.1 e);omega
   have HWE:=zH hwe;have h8:_=some (Value.slice (some ⟨g,0,none⟩) its.length its.length):=HST.out.p8.cell 0;have HIX0:=zbA 23 #[.pointer (some ⟨b8,0,none⟩),.pointer (some ⟨b8 + 1,0,none⟩)] (fun x:Int=>decide (ND.getD x.toNat 0 &&& left=0)) (zq wait) wa2 wc2 wr (by rw [zz];omega) zdP (yd (B:=Bw) (c:=wc2) (by rw [zz];exact HST.out.wait)) (fun W i hW hi=>by
    rw[zz] at hi;rw[yS wait i hi,Int.toNat_natCast];exact zeD ND its.length HNDL.out g b8 (b8 + 1) left (wait.getD i 0) (by omega) (HWT.out _ (yw wait i hi)) (HNDB.out _) W ((HST.out.new hW).p8.cell 0) ((HST.out.new hW).p10.cell 0) (HST.out.new hW).nd)
   rw[zz,zgv (fun i=>decide (ND.getD i 0&&&left=0))] at HIX0;have HIX:=zH HIX0;clear HIX0 hwe;go_wp2_with fail;refine HIX.out.mono ?_;rintro e w6 ⟨rfl,hb6⟩;have HS6:=zH (HST.out.new hb6);clear HIX HST hb6 h8;cases hfi:wait.findIdx? (fun i=>decide (ND.getD i 0&&&left=0)) with
   |none =>
    have HRR:Hid (zl its ls set=.error 11):=by show _=_;rw[HR.out,<-HGO.out,KJ HWE.out hfi];rfl
    have hix:yR (fun i=>decide (ND.getD i 0&&&left=0)) wait=-1:=by unfold yR;rw[hfi]
    rw[hix];clear hfi hix;go_wp2;go_ret2;rw[HRR.out];exact⟨rfl,HS6.out.B⟩
   |some j =>
    have hj:=(List.findIdx?_eq_some_iff_findIdx_eq.1 hfi).1;have HG2:Hid (qH ND (wait.eraseIdx j).length (wait.eraseIdx j) (left&&&(18446744073709551615-2^wait.getD j 0)) (out++[wait.getD j 0])=qH ND IT.length IT set []):=by show _=_;rw[<-HGO.out,zaG hfi]
    have hix:yR (fun i=>decide (ND.getD i 0&&&left=0)) wait=(j:Int):=by unfold yR;rw[hfi]
    rw[hix];clear hfi hix HGO;obtain⟨ad,had,-,c1⟩:=(yd (B:=Bw) (c:=wc2) (by rw[zz];exact HS6.out.wait):zW w6 wa2 (zq wait)) j (by rw[zz];exact hj);rw[yS wait j hj] at c1;have hxw:=HWT.out _ (yw wait j hj);have HW2:Hid (∀x∈wait.eraseIdx j,x<its.length):=fun x hx=>HWT.out x (List.mem_of_mem_eraseIdx hx);have hel:(wait.eraseIdx j).length=wait.length-1:=List.length_eraseIdx_of_lt hj;have HEL:=zH hel;obtain⟨gw,cap',hgw⟩:∃gw cap',Value.slice wa2 wait.length wc2=.slice (some ⟨gw,0,none⟩) wait.length cap':=by
     rcases HS6.out.wait.2 with ⟨e,e0⟩|⟨gw,cap',cur,e,_⟩
     ·omega
     ·exact⟨gw,cap',e⟩
    cases hgw;cases had;rw[Zn,Nat.zero_add] at c1;obtain⟨x,hx⟩:∃x,wait.getD j 0=x:=⟨_,rfl⟩;rw[hx] at c1 hxw HG2;have hj0:(0:Int)<=(j:Int):=by omega
    have hj1:(j:Int)<(wait.length:Int):=by omega
    have HX:=zH hx;clear hx hel HWT;have HOUT:Hid (w6.ownsRow (b8+1+1) 3 1 (.slice oa2 out.length oc2) out.length (zn (zq out))):=HS6.out.out;have hbs:=HS6.out.p10.lt;have hjn:¬(j:Int)<0:=by omega
    go_wp2_with (at_builtin;refine wpList_append_own_at _ rfl _ _ 27 rfl (b8+1+1) 3 i0 (.int .i64 0) 1 8 Tryz.underlying27 hin hz0 hz1 hz2 rfl (by decide) _ _ _ rfl (HOUT.out.alloc _) ⟨w6.heap.size,0,none⟩ 1 1 [.int .i64 x] rfl rfl ?c1 ?c2 ?c3 ?c4 ?c5 ?_)
    case c1=>exact xK _ _ _
    case c2=>exact xx _
    case c3=>unfold maxLen;omega
    case c4=>omega
    case c5=>simp;omega
    intro v7 w7 hown7 hgrow7 _ hloc7;have HS7:=zH (HS6.out.app hown7 hgrow7);clear hown7 hgrow7 hloc7 HS6 HOUT c1 hbs;obtain⟨va7,vc7,rfl,-⟩:=qm HS7.out.out;rw[show (out++[x]).length=out.length+1 by simp];have hS8:=HS7.out.new (W':=w7.drew) (zF.drew);obtain⟨L2,hL2⟩:∃L2,left&&&(18446744073709551615-2^x)=L2:=⟨_,rfl⟩;have hL24:L2<16777216:=by rw[<-hL2];exact Nat.lt_of_le_of_lt Nat.and_le_left hl24
    have hand:=u64_andNot_nat left (2^x) (by omega) (xu x (by omega));rw[hL2] at hand HG2;have HJ:Hid (∀W,zC 25 #[.int .i64 x] W fun e w'=>e=.returned (.int .u64 ((2^x:Nat):Int))/\w'=W):=fun W=>x8 x (by omega) W;have c2:w7.drew.cell? ⟨gw,j,none⟩=some (.int .i64 x):=by
     obtain⟨ad,e,-,c⟩:=(yd (B:=Bw) (c:=wc2) (by rw[zz];exact hS8.wait):zW w7.drew (some ⟨gw,0,none⟩) (zq wait)) j (by rw[zz];exact hj);cases e;rw[Zn,Nat.zero_add,yS wait j hj,HX.out] at c;exact c
    have c10:_=some (Value.int .u64 left):=hS8.p10.cell 0;have fz:=hS8.p10.frozen 0;have hS9:=hS8.store L2;have HSE:Hid ((w7.drew.setCell ⟨b8+1,0,none⟩ (.int .u64 L2)).cell? ⟨gw,j,none⟩=some (.int .i64 x)):=(cell_set_other (by have:=hS8.wlt gw rfl;omega)).trans c2;have HDEL:Hid (zC 26 #[.slice (some ⟨gw,0,none⟩) wait.length wc2,.int .i64 j,.int .i64 ((j+1:Nat):Int)] (w7.drew.setCell ⟨b8+1,0,none⟩ (.int .u64 L2)) fun e w'=>e=.returned (.slice (some ⟨gw,0,none⟩) (wait.eraseIdx j).length wc2)/\yn w w' g Bw b8 (b8+1) its.length ND (wait.eraseIdx j) (out++[x]) L2 (.slice (some ⟨gw,0,none⟩) (wait.eraseIdx j).length wc2) (.slice va7 (out++[x]).length vc7)):=by
     have hd:=zbH (zq wait) j gw wc2 Bw _ (by rw[zz];exact hS9.wait) (by rw[zz];exact hj);rw[zz,<-zfy,zz] at hd;exact hd.mono fun e w' ⟨he,h1,h2⟩=>⟨he,hS9.del h1 h2⟩
    have HS0:=zH c2;rw[show (out++[x]).length=out.length+1 by simp] at HDEL;clear hS8 hS9 HS7 hL2 HX;generalize (2^x:Nat)=P2 at *;have hjw:IntKind.i64.wrap ((j:Int)+1)=((j+1:Nat):Int):=by rw[IntKind.wrap_i64];omega
    go_wp2_with fail;refine wp_region_noPanic ?_;refine wp_region_held_drew (S:=(fun W=>W.cell? ⟨gw,j,none⟩=some (.int .i64 x))) (by kernel_rfl) HS0.out (fun hHeld=>?_);refine wpAnyH_take (i:=1) (oi:=⟨_,_,_,_,_,_⟩) (v:=?_) rfl (by as_aux_lemma=>kernel_rfl) (by as_aux_lemma=>kernel_rfl) (by as_aux_lemma=>kernel_rfl) (fun _ _ _ h=>h) (Or.inl ⟨by rfl,?_⟩) (by assumption) ?_;rotate_left
    ·(intro w hSw;(try dsimp only at hSw);first|(go_simp;done)|(go_simp;with_reducible rfl))
    try simp only[Act.put,List.setIfInBounds_toArray,List.set_cons_zero,List.set_cons_succ]
    refine wpAnyH_take (i:=2) (oi:=⟨_,_,_,_,_,_⟩) (v:=?_) rfl (by as_aux_lemma=>kernel_rfl) (by as_aux_lemma=>kernel_rfl) (by as_aux_lemma=>kernel_rfl) (fun _ _ _ h=>h) (Or.inl ⟨by rfl,?_⟩) (by assumption) ?_;rotate_left
    ·(intro w hSw;(try dsimp only at hSw);first|(go_simp;done)|(go_simp;with_reducible rfl))
    try simp only[Act.put,List.setIfInBounds_toArray,List.set_cons_zero,List.set_cons_succ]
    refine wpAnyH_take (i:=3) (oi:=⟨_,_,_,_,_,_⟩) (v:=?_) rfl (by as_aux_lemma=>kernel_rfl) (by as_aux_lemma=>kernel_rfl) (by as_aux_lemma=>kernel_rfl) (fun _ _ _ h=>h) (Or.inl ⟨by rfl,?_⟩) (by assumption) ?_;rotate_left
    ·(intro w hSw;(try dsimp only at hSw);first|(go_simp;done)|(go_simp;with_reducible rfl))
    try simp only[Act.put,List.setIfInBounds_toArray,List.set_cons_zero,List.set_cons_succ]
    refine wpAnyH_take (i:=4) (oi:=⟨_,_,_,_,_,_⟩) (v:=?_) rfl (by as_aux_lemma=>kernel_rfl) (by as_aux_lemma=>kernel_rfl) (by as_aux_lemma=>kernel_rfl) (fun _ _ _ h=>h) (Or.inl ⟨by rfl,?_⟩) (by assumption) ?_;rotate_left
    ·(intro w hSw;(try dsimp only at hSw);first|(go_simp;done)|(go_simp;with_reducible rfl))
    try simp only[Act.put,List.setIfInBounds_toArray,List.set_cons_zero,List.set_cons_succ]
    refine wpAnyH_ready (rs:=[0,5]) (by as_aux_lemma=>kernel_rfl) (by simp) ?_;refine AllReadyH.cons (o:=⟨_,_,_,_,_,_⟩) rfl (fun K hK=>?_) (AllReadyH.cons (o:=⟨_,_,_,_,_,_⟩) rfl (fun K hK=>?_) AllReadyH.nil)
    ·go_simp;refine hK.out _ _ ?_ (fun hNew=>?_)
     ·exact hHeld
     clear hK K;replace hHeld:=hNew;clear hNew
     try simp only[Act.put,List.setIfInBounds_toArray,List.set_cons_zero,List.set_cons_succ]
     refine wpAnyH_ready (rs:=[5]) (by as_aux_lemma=>kernel_rfl) (by simp) ?_;refine AllReadyH.cons (o:=⟨_,_,_,_,_,_⟩) rfl (fun K hK=>?_) AllReadyH.nil;go_simp;refine(HJ.out _).mono ?_;rintro e y ⟨rfl,hy⟩;rw[hy];clear hy
     try simp only
     refine hK.out _ _ ?_ (fun hNew=>?_)
     ·exact hHeld
     clear hK K;replace hHeld:=hNew;clear hNew
     try simp only[Act.put,List.setIfInBounds_toArray,List.set_cons_zero,List.set_cons_succ]
     refine wpAnyH_take (i:=6) (oi:=⟨_,_,_,_,_,_⟩) (v:=?_) rfl (by as_aux_lemma=>kernel_rfl) (by as_aux_lemma=>kernel_rfl) (by as_aux_lemma=>kernel_rfl) (fun _ _ _ h=>h) (Or.inl ⟨by rfl,?_⟩) (by assumption) ?_;rotate_left
     ·(intro w hSw;(try dsimp only at hSw);first|(go_simp;done)|(go_simp;with_reducible rfl))
     try simp only[Act.put,List.setIfInBounds_toArray,List.set_cons_zero,List.set_cons_succ]
     refine wpAnyH_ready (rs:=[7]) (by as_aux_lemma=>kernel_rfl) (by simp) ?_;refine AllReadyH.cons (o:=⟨_,_,_,_,_,_⟩) rfl (fun K hK=>?_) AllReadyH.nil;go_simp;refine hK.out _ _ ?_ (fun hNew=>?_)
     ·exact HSE.out
     clear hK K;replace hHeld:=hNew;clear hNew
     try simp only[Act.put,List.setIfInBounds_toArray,List.set_cons_zero,List.set_cons_succ]
     refine wpAnyH_done (by kernel_rfl) (NoPanic.normal ?_) _;have HDD:=zH (HDEL.out);clear hHeld HDEL;go_wp2_with fail;refine HDD.out.mono ?_;rintro e w9 ⟨rfl,hs9⟩;have HS9:=zH hs9;clear hs9 HDD c2 c10 fz;go_wp2;go_roundw
     case rel=>exact⟨wait.eraseIdx j,out++[x],L2,HS9.out,HG2.out,HW2.out,hL24,by rw[HEL.out,List.length_append,List.length_singleton];omega⟩
     case measure =>have:=HEL.out;simp only[HEL.out];omega
    ·go_simp;refine(HJ.out _).mono ?_;rintro e y ⟨rfl,hy⟩;rw[hy];clear hy
     try simp only
     refine hK.out _ _ ?_ (fun hNew=>?_)
     ·exact hHeld
     clear hK K;replace hHeld:=hNew;clear hNew
     try simp only[Act.put,List.setIfInBounds_toArray,List.set_cons_zero,List.set_cons_succ]
     refine wpAnyH_ready (rs:=[0]) (by as_aux_lemma=>kernel_rfl) (by simp) ?_;refine AllReadyH.cons (o:=⟨_,_,_,_,_,_⟩) rfl (fun K hK=>?_) AllReadyH.nil;go_simp;refine hK.out _ _ ?_ (fun hNew=>?_)
     ·exact hHeld
     clear hK K;replace hHeld:=hNew;clear hNew
     try simp only[Act.put,List.setIfInBounds_toArray,List.set_cons_zero,List.set_cons_succ]
     refine wpAnyH_take (i:=6) (oi:=⟨_,_,_,_,_,_⟩) (v:=?_) rfl (by as_aux_lemma=>kernel_rfl) (by as_aux_lemma=>kernel_rfl) (by as_aux_lemma=>kernel_rfl) (fun _ _ _ h=>h) (Or.inl ⟨by rfl,?_⟩) (by assumption) ?_;rotate_left
     ·(intro w hSw;(try dsimp only at hSw);first|(go_simp;done)|(go_simp;with_reducible rfl))
     try simp only[Act.put,List.setIfInBounds_toArray,List.set_cons_zero,List.set_cons_succ]
     refine wpAnyH_ready (rs:=[7]) (by as_aux_lemma=>kernel_rfl) (by simp) ?_;refine AllReadyH.cons (o:=⟨_,_,_,_,_,_⟩) rfl (fun K hK=>?_) AllReadyH.nil;go_simp;refine hK.out _ _ ?_ (fun hNew=>?_)
     ·exact HSE.out
     clear hK K;replace hHeld:=hNew;clear hNew
     try simp only[Act.put,List.setIfInBounds_toArray,List.set_cons_zero,List.set_cons_succ]
     refine wpAnyH_done (by kernel_rfl) (NoPanic.normal ?_) _;have HDD:=zH (HDEL.out);clear hHeld HDEL;go_wp2_with fail;refine HDD.out.mono ?_;rintro e w9 ⟨rfl,hs9⟩;have HS9:=zH hs9;clear hs9 HDD c2 c10 fz;go_wp2;go_roundw
     case rel=>exact⟨wait.eraseIdx j,out++[x],L2,HS9.out,HG2.out,HW2.out,hL24,by rw[HEL.out,List.length_append,List.length_singleton];omega⟩
     case measure =>have:=HEL.out;simp only[HEL.out];omega
theorem Zt(bk:Nat)(ls:List Ln)(its:List It)(hN:zk ls=.ok its)(set:Nat)(w:World)(h:zV w bk ls its)(hs:set<18446744073709551616) :
  zC 6 #[.pointer (some ⟨bk,0,none⟩),.int .u64 set] w (Yv w (zl its ls set)):=by
 cases hf:(zm its ls set).1 with
 |false=>exact zeS bk ls its hN set w h hs hf
 |true =>
  refine zch bk ls its hN set w h ?_ hf;cases hsb:qh its set with
  |false=>rw[show zm its ls set=(false,-2) by unfold zm;rw[if_pos hsb]] at hf;cases hf
  |true =>unfold qh at hsb;exact of_decide_eq_true (Bool.and_eq_true_iff.1 hsb).1
end
section
open Go.RowKit Go.Deep Sv
theorem zhW(set:Nat)(hs:set<18446744073709551616)(b k:Nat)(hk:k<24)(w:World)(hc:w.cell? ⟨b,0,none⟩=some (.int .u64 set)) :
  zC 15 #[.int .i64 k,.pointer (some ⟨b,0,none⟩)] w fun e w'=>e=.returned (.bool (set.testBit k))/\w'=w:=by
 have h1:=Kr set k hs;go_enter Tryz.func15,Tryz.ntmps15;go_wp2;go_ret;exact⟨by first|rfl|simp,rfl⟩
def Xr(w:World)(r:Except Int (List Nat))(e:Ending)(w':World):Prop :=
 match r with
 |.error k=>e=.returned (.tuple #[.slice none 0 0,.int .i64 k])/\zB w w'
 |.ok l=>∃v,e=.returned (.tuple #[v,.int .i64 0])/\w'.ownsRow w.heap.size 3 1 v l.length (zn (zq l))/\zB w w'
theorem zcu(A B:List Nat)(x:Nat)(hn:(A++x :: B).Nodup):(A++x :: B).filter (fun i=>!decide (i=x))=A++B:=by
 rw[List.nodup_append] at hn;obtain⟨-,hb,hc⟩:=hn;obtain⟨hd,-⟩:=List.nodup_cons.1 hb;have hf:∀(l:List Nat),x∉l->l.filter (fun i=>!decide (i=x))=l:=fun l hl=>by
  rw[List.filter_eq_self];intro a ha;have:a≠x:=fun h=>hl (h▸ha);simp[this]
 rw[List.filter_append,List.filter_cons,hf A (fun hm=>hc x hm x List.mem_cons_self rfl),hf B hd];simp
theorem zcY{L:List Nat}(hn:L.Nodup){j:Nat}(hj:j<L.length):L.filter (fun i=>!decide (i=L.getD j 0))=L.eraseIdx j:=by
 have e:L.getD j 0=L[j]:=by rw[List.getD_eq_getElem?_getD,List.getElem?_eq_getElem hj];rfl
 have h1:L=L.take j++L.getD j 0 :: L.drop (j+1):=by rw[e,<-List.drop_eq_getElem_cons hj,List.take_append_drop]
 rw[List.eraseIdx_eq_take_drop_succ];have:=zcu (L.take j) (L.drop (j+1)) (L.getD j 0) (by rw[<-h1];exact hn);rw[<-h1] at this;exact this
theorem YO(set:Nat)(out:List Nat):(zj set out).Nodup:=by
 unfold zj;exact List.Nodup.sublist List.filter_sublist (YR set)
theorem Xw(set:Nat)(out:List Nat){j:Nat}(hj:j<(zj set out).length):zj set (out++[(zj set out).getD j 0])=(zj set out).eraseIdx j:=by
 rw[<-zcY (YO set out) hj];unfold zj;rw[List.filter_filter];congr 1;funext i;simp[Bool.and_comm]
theorem zhU{set:Nat}{out:List Nat}{left:Nat}(h24:∀i∈zj set out,i<64)(hl:∀i,left.testBit i=decide (i∈zj set out)){j:Nat}(hj:j<(zj set out).length)(i:Nat):(left&&&(18446744073709551615-2^(zj set out).getD j 0)).testBit i=decide (i∈(zj set out).eraseIdx j):=by
 rw[Nat.testBit_and,hl]
 by_cases hi:i∈zj set out
 ·rw[QO _ _ (h24 _ (yw _ j hj)) (h24 i hi),decide_eq_true hi,Bool.true_and];congr 1;exact propext ⟨fun h=>(Qb (YO set out) hj i).2 ⟨hi,h⟩,fun h=>((Qb (YO set out) hj i).1 h).2⟩
 ·rw[decide_eq_false hi,Bool.false_and,decide_eq_false (fun h=>hi (List.mem_of_mem_eraseIdx h))]
theorem zdg(ls:List Ln)(its:List It)(hN:zk ls=.ok its)(set:Nat)(v:Value)(w:World)(h:RLs w v ls)(hf:(zm its ls set).1=false) :
  zC 5 #[v,.int .u64 set] w (Xr w (zl its ls set)):=by
 obtain⟨va,vc,rfl⟩:∃a c,v=.slice a ls.length c:=by obtain⟨vs',_,h2⟩:=h;obtain⟨a,c,e,_⟩:=h2.form;exact⟨a,c,e⟩
 have hba:=qE w (.cells #[.slice va ls.length vc] 24);have hbb:=qE (w.alloc (.cells #[.slice va ls.length vc] 24)) (.cells #[.int .u64 set] 22);have hbc:=zT hba hbb;have k1:=(Blk.new w 24 #[.slice va ls.length vc]).alloc (.cells #[.int .u64 set] 22);have k2:=Blk.new (w.alloc (.cells #[.slice va ls.length vc] 24)) 22 #[.int .u64 set];rw[World.size_alloc] at k2;have HF0:=zak ls its hN set (.slice va ls.length vc) _ (h.below hbc zN);rw[hf] at HF0;have HF:=zH HF0;have HBC:=zH hbc;rw[show zl its ls set=.error 13 by unfold zl;rw[if_pos hf]];show Calls _ _ _ _ fun e w'=>e=.returned (.tuple #[.slice none 0 0,.int .i64 13])/\zB w w';clear HF0 h hN hf hba hbb hbc;generalize (zm its ls set).2=f2 at *;go_enter Tryz.func5,Tryz.ntmps5;go_upto_region 1 with fail;generalize (w.alloc (.cells #[.slice va ls.length vc] 24)).alloc (.cells #[.int .u64 set] 22)=W0 at *;have c1:_=some (Value.slice va ls.length vc):=k1.cell 0;have c2:_=some (Value.int .u64 set):=k2.cell 0;go_wp2_with fail;refine HF.out.mono ?_;rintro e w1 ⟨rfl,hb1⟩;have HB1:Hid (zB w w1):=zT HBC.out hb1;clear hb1 HF k1 k2 c1 c2;go_wp2;go_ret2;exact⟨rfl,HB1.out⟩
end
end Go.Proofs.YtlamemjfaogjmaaGreatDoor
