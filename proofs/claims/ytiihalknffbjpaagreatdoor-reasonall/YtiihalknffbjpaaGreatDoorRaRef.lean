/- The reference: says, can. -/
import Derived.Test.YtiihalknffbjpaaGreatDoorClRApp
import Derived.Test.YtiihalknffbjpaaGreatDoorRlRules
set_option maxHeartbeats 4000000
set_option maxRecDepth 100000
namespace Go.Proofs.YtiihalknffbjpaaGreatDoor
section
open Go.RowKit Go.Deep
theorem zmR(o k:Nat)(ho:o<16777216)(hk:k<24):bits BinOp.or IntKind.u64 (o:Int) ((2:Int)^k)=((o|||2^k:Nat):Int):=by
 have h24:2^k<=2^24:=Nat.pow_le_pow_right (by omega) (by omega);have h63:(2:Nat)^24<18446744073709551616:=by decide
 have e:((2:Int)^k)=((2^k:Nat):Int):=by simp
 rw[e,bits_or_u64_nat o (2^k) (by omega) (by omega)]
theorem znE:(Tryz.prog.info? 47).map (fun i=>(i.zero,i.size,i.bytes))=some (some (.slice none 0 0),1,24):=by kernel_rfl
theorem ziD{H c:Nat}{w:World}{a:Option Addr}{l:List Int}{S:List (Option Nat)}(h:w.ownsRow H 3 1 (.slice a l.length c) l.length (zaf l))(hS:∀k,some k∈S->k<H):zbZ S w a l:=fun i hi=>by
 obtain⟨ad,e,h1,h2⟩:=zcA h i hi;refine⟨ad,e,h1,fun hm=>?_,h2⟩;have:=hS _ hm;rcases h.2 with ⟨e',e0⟩|⟨g,cap,cur,e',hB,_⟩
 ·omega
 ·subst e;injection e' with e1 e2;injection e1 with e1;subst e1;simp at this;omega
theorem zjh(n:Nat)(hn24:n<=24)(l:List (List Int))(hls:zbT n l)(h48:∀c∈l,c.length<=48)(hl200:l.length<=200)(a:Option Addr)(cap:Nat)(hnil:a=none->cap=0)(w:World)(hI:zbu w a l)(r:Res)(hrun:Run n l st0 r) :
  zC 184 #[.int .i64 n,.slice a l.length cap] w fun e w'=>zmk r e w'/\zB w w':=by
 have HAPP:=zH (fun ty=>zqT (w:=w) ty hI hnil hl200);have HLS:=zH hls;have H48:=zH h48;have HRUN:=zH hrun;clear hI hls h48 hrun hnil;go_enter Tryz.func184,Tryz.ntmps184;go_wp2_with (at_builtin;refine zle rfl _ _ 26 rfl _ _ rfl rfl (HAPP.out _) ?_);intro aV w1 hat hbw;have HS0:Hid (zrW w w1 n l st0 r aV (.slice none 0 0) (.slice none 0 0) (.slice none 0 0) none 0):=⟨by simpa[st0] using hat,fun i hi=>by simp[st0] at hi,fun _=>rfl,zjT n,⟨by have:=zkN st0.told;simpa[st0] using this,fun d hd=>by simp[st0] at hd,fun c hc=>by simp[st0] at hc⟩,HRUN.out,hbw⟩;clear hat hbw HAPP;go_wp2_with fail;go_loopg [8,9,10,11,12] (mu st0) (fun k aV tV dV mV pV wr=>∃(s:St) (ta:Option Addr) (tc:Nat),tV=.slice ta s.told.length tc/\zrW w wr n l s r aV dV mV pV ta tc/\mu s<=k)
 case atStart=>exact⟨st0,none,0,rfl,HS0.out,Nat.le_refl _⟩
 case round =>
  obtain⟨s,ta,tc,rfl,hss,hmu⟩:=hrel;clear HS0;obtain⟨cs,hcs,hck⟩:=hss.at'.arow;obtain⟨aa,ac,rfl,-,-⟩:=zaj hcs;have hlp:zbT n (l++s.prf):=zbr HLS.out hss.good.litsP;have hpl:=hss.good.pl;have hll:(l++s.prf).length<=2200:=by rw[List.length_append];omega
  have hp48:∀c∈l++s.prf,c.length<=48:=fun c hc=>by
   rcases List.mem_append.1 hc with h|h
   ·exact H48.out c h
   ·have:=hss.tl.p c h;omega
  obtain⟨t,b,hsp⟩:=zl9 (l:=l++s.prf) (v:=(n:Int)) (by omega) hlp (zdW s.told) s.told zN hss.good.cons hss.good.lits;have HSPR0:=zjt n hn24 (l++s.prf) hlp hp48 aa ac s.told ta tc wr (hck.cls hcs) (by omega) hss.told.ints hss.nil hss.good.cons hss.good.lits hss.tl.t t b hsp;obtain⟨hrun2,hnx⟩:=zjJ hsp hss.run;obtain⟨hgood2,hmu2⟩:=zig hn24 HLS.out hsp hss.good;have hfew2:=zjy (v:=(n:Int)) (by omega) hlp hsp hss.good.cons hss.good.lits hss.tl.t;have htlen:t.length<=24:=by omega
  have HSS:=zH hss;have HRUN2:=zH hrun2;have HNX:=zH hnx;have HGOOD2:=zH hgood2;have hmu3:=Nat.le_trans hmu2 hmu;have hsg:Hid (∀s',zbG n l ⟨t,s.decs,s.prf⟩=.inl s'->zg9 n s'/\mu s'<mu ⟨t,s.decs,s.prf⟩):=fun s' h=>zb6 (by omega) HLS.out hgood2 h;have hdl:s.decs.length<=24:=by have:=hss.good.few;omega
  obtain⟨ps,hps,-⟩:=hss.at'.prow;obtain⟨pa,pc,rfl,-,-⟩:=zaj hps;obtain⟨dcs,hds,-⟩:=hss.at'.drow;obtain⟨da,dc,hdv,-,-⟩:=zaj hds;rw[List.length_map] at hdv;subst hdv;obtain⟨ma,mc,hmv,-,-⟩:=zaj hss.at'.mrow;rw[List.length_map] at hmv;subst hmv;clear hcs hck hlp hp48 hsp hrun2 hnx hgood2 hss hps hds hmu2 hmu;generalize hL0:(l++s.prf).length=L0 at *;have HL0:=zH hL0;have HSPR:=zH HSPR0;clear hL0 HSPR0
  by_cases hb:0<=b
  ·-- a clause can't hold
   go_wp2_with fail;refine HSPR.out.mono ?_;rintro e w2 ⟨⟨ta2,tc2,rfl,-,-,-⟩,hb2⟩;have HA2:=zH (HSS.out.at'.new hb2);have HBW2:Hid (zB w w2):=zT HSS.out.below hb2;clear hb2 HSPR;go_wp2_with fail;go_loopw [15,35] (fun cV kV wr3=>∃k:Nat,k<=s.decs.length/\kV=.int .i64 k/\wr3.ownsRow w2.heap.size 3 1 cV ((zbf s.decs).take k).length (zaf ((zbf s.decs).take k))/\zB w2 wr3) (fun _ kV _=>s.decs.length-(intOf kV).toNat)
   case atStart=>exact⟨0,Nat.zero_le _,rfl,World.ownsRow_nil _ _ _ _,Below.refl _ _⟩
   case round =>
    obtain⟨w3,rfl⟩:∃w3,w3=wr:=⟨_,rfl⟩;obtain⟨k,hk,rfl,hrow,hb3⟩:=hrel;have hHA3:=HA2.out.new hb3;have HROW:=zH hrow;have HB3:=zH hb3;have hs3:=hb3.size;clear hrow hb3
    by_cases hlt:k<s.decs.length
    ·have hI3:zaN w3 ma (s.decs.map Prod.fst):=zcA (c:=mc) (by have:=hHA3.mrow;rw[List.length_map] at this ⊢;exact this);obtain⟨ad,rfl,hl',hc⟩:=hI3 k (by simpa using hlt);obtain⟨d,hd⟩:∃d,s.decs[k]?=some d:=⟨_,List.getElem?_eq_getElem hlt⟩;have hx:(s.decs.map Prod.fst).getD k 0=d.1:=by simp[List.getD_eq_getElem?_getD,hd]
     have hxl:=zaq.1 (HSS.out.good.ds k d hd).2.2.2;have HTK:Hid ((zbf s.decs).take (k+1)=(zbf s.decs).take k++[-d.1]):=by
      have hk2:k<(zbf s.decs).length:=by rw[zaJ];exact hlt
      show _=_;rw[zdY hk2];simp[zbf,List.getD_eq_getElem?_getD,hd]
     have htl:((zbf s.decs).take k).length=k:=by rw[List.length_take,zaJ];omega
     rw[hx] at hc;generalize d.1=x at *;obtain⟨hx1,hx2,hx3⟩:=hxl;have hx4:x<=24:=by omega
     have hx5:-24<=x:=by omega
     rw[htl] at HROW;clear hI3 hd hx hHA3;obtain⟨i0,hin,hz0,hz1,hz2⟩:=info_parts zbe;go_wp2_with (first|(at_builtin;refine wpList_append_own_at _ rfl _ _ 81 rfl w2.heap.size 3 i0 (.int .i64 0) 1 8 Tryz.underlying81 hin hz0 hz1 hz2 rfl (by decide) _ _ _ rfl (HROW.out.alloc _) ⟨w3.heap.size,0,none⟩ 1 1 [.int .i64 (-x)] rfl rfl ?c1 ?c2 ?c3 ?c4 ?c5 ?_))
     case c1=>exact zaQ _ _ _
     case c2=>exact za0 _
     case c3=>unfold maxLen;omega
     case c4=>omega
     case c5=>simp;omega
     intro v7 w7 hown7 hgrow7 _ _;have HO7:Hid (w7.ownsRow w2.heap.size 3 1 v7 ((zbf s.decs).take (k+1)).length (zaf ((zbf s.decs).take (k+1)))):=by
      show World.ownsRow _ _ _ _ _ _ _;rw[HTK.out,zao,List.length_append,htl];simpa using hown7
     have HB7:Hid (zB w2 w7):=(HB3.out.alloc hs3 _).grown hgrow7 (by simp;omega) (fun k hk=>(HROW.out.lt k hk).1);clear hown7 hgrow7;go_wp2;go_roundw
     case rel=>exact⟨k+1,hlt,by go_num,HO7.out,HB7.out⟩
     case measure=>simp[intOf];omega
    ·obtain rfl:k=s.decs.length:=by omega
     have hrow2:=HROW.out;rw[show (zbf s.decs).take s.decs.length=zbf s.decs by rw[<-zaJ s.decs,List.take_length],zaJ] at hrow2;obtain⟨ca,cc,rfl,hcc1,hcc2⟩:=zaj hrow2;have HIK:=zH (ziD (l:=zbf s.decs) (by rw[zaJ];exact hrow2) (fun k hk=>(HA2.out.lt k hk).2));obtain⟨ic,hic,hc0,hc1,hc2⟩:=info_parts zdq;obtain⟨cs,hcs,hck⟩:=hHA3.arow;rw[HL0.out] at hcs;have HCS:=zH hcs;have HCK:=zH hck;have HA3:=zH hHA3;have hsw:=HBW2.out.size;clear hcs hck hHA3 hrow2 HROW;go_wp2_with (first|(at_builtin;refine wpList_append_own_at _ rfl _ _ 26 rfl w.heap.size 81 ic (.slice none 0 0) 1 24 Tryz.underlying26 hic hc0 hc1 hc2 rfl (by decide) _ _ _ rfl (HCS.out.alloc _) ⟨w3.heap.size,0,none⟩ 1 1 [.slice ca s.decs.length cc] rfl rfl ?c1 ?c2 ?c3 ?c4 ?c5 ?_))
     case c1=>exact World.news_of_block (heap_alloc_new w3 _)
     case c2=>intro u hu;rw[List.mem_singleton] at hu;subst hu;rfl
     case c3=>unfold maxLen;omega
     case c4=>omega
     case c5=>rw[World.size_alloc];omega
     intro aV' w7 hown7 hgrow7 _ hloc7;have hbn:=zac w3 (.cells #[.slice ca s.decs.length cc] 81);rw[<-World.size_alloc w3 (.cells #[.slice ca s.decs.length cc] 81)] at hloc7;have ha7:=(HA3.out.new hbn).grow_a (c:=zbf s.decs) (a:=ca) (cap:=cc) (cs:=cs) (HCK.out.new hbn) (by rw[HL0.out,zaJ];exact hown7) hgrow7 hloc7 ⟨by rw[zaJ];exact hcc1,hcc2⟩ (HIK.out.new hbn);have hi7:=(HIK.out.new hbn).grown hgrow7 (by simp[zbQ]) (zsz hloc7);have hb7:zB w w7:=((HBW2.out.trans (HB3.out.mono hsw)).trans (hbn.mono (by omega))).grown hgrow7 (by rw[World.size_alloc];omega) (fun k hk=>(HCS.out.lt k hk).1);obtain⟨aa',ac',rfl,-,-⟩:=zaj hown7;obtain⟨ps,hps,hpk⟩:=ha7.prow;have HPS:=zH hps;have HPK:=zH hpk;have HA7:=zH ha7;have HI7:=zH hi7;have HB7:=zH hb7;have hs7:=hb7.size;clear hown7 hgrow7 hloc7 hbn ha7 hi7 hb7 hps hpk HCS HCK HA3 HIK HA2 HB3;go_wp2_with (first|(at_builtin;refine wpList_append_own_at _ rfl _ _ 26 rfl w.heap.size 81 ic (.slice none 0 0) 1 24 Tryz.underlying26 hic hc0 hc1 hc2 rfl (by decide) _ _ _ rfl (HPS.out.alloc _) ⟨w7.heap.size,0,none⟩ 1 1 [.slice ca s.decs.length cc] rfl rfl ?c1 ?c2 ?c3 ?c4 ?c5 ?_))
     case c1=>exact World.news_of_block (heap_alloc_new w7 _)
     case c2=>intro u hu;rw[List.mem_singleton] at hu;subst hu;rfl
     case c3=>unfold maxLen;omega
     case c4=>omega
     case c5=>rw[World.size_alloc];omega
     intro pV' w9 hown9 hgrow9 _ hloc9;have hbn:=zac w7 (.cells #[.slice ca s.decs.length cc] 81);rw[<-World.size_alloc w7 (.cells #[.slice ca s.decs.length cc] 81)] at hloc9;have ha9:=(HA7.out.new hbn).grow_p (c:=zbf s.decs) (a:=ca) (cap:=cc) (cs:=ps) (HPK.out.new hbn) (by rw[zaJ];exact hown9) hgrow9 hloc9 ⟨by rw[zaJ];exact hcc1,hcc2⟩ (HI7.out.new hbn);have hb9:zB w w9:=(HB7.out.trans (hbn.mono hs7)).grown hgrow9 (by rw[World.size_alloc];omega) (fun k hk=>(HPS.out.lt k hk).1);obtain⟨pa',pc',rfl,-,-⟩:=zaj hown9;rw[List.append_assoc] at ha9;have HA9:=zH ha9;have HB9:=zH hb9;clear hown9 hgrow9 hloc9 hbn ha9 hb9 HPS HPK HA7 HI7 HB7
     by_cases hd0:s.decs=[]
     ·have HRES:=zH (HRUN2.out.at_done (zfv (s:=⟨t,s.decs,s.prf⟩) HNX.out hb hd0));have hdz:s.decs.length=0:=by rw[hd0];rfl
      obtain⟨qs,hqs,hqk⟩:=HA9.out.prow;have HPC:=zH (hqk.cls (a:=pa') (cap:=pc') (by have:=hqs;rw[List.length_append,List.length_singleton] at this ⊢;exact this));clear hqs hqk;rw[hdz] at *;go_wp2;refine bodyPost_ret (v:=.tuple #[.bool false,.int .u64 0,.slice pa' (s.prf.length+1) pc',.bool true]) (by simp[results,Tryz.results184,go_sem]) rfl ?_;exact⟨Or.inr (Or.inl ⟨_,pa',pc',HRES.out,by rw[List.length_append];rfl,HPC.out,by rw[List.length_append,List.length_singleton];omega⟩),HB9.out⟩
     ·obtain⟨ds,⟨y,t1⟩,hds⟩:∃ds d,s.decs=ds++[d]:=⟨_,_,(List.dropLast_concat_getLast hd0).symm⟩;have hdlen:s.decs.length=ds.length+1:=by rw[hds];simp
      by_cases hlim:s.prf.length+1=2000
      ·have HRES:=zH (HRUN2.out.at_done (zfu (s:=⟨t,s.decs,s.prf⟩) HNX.out hb hds hlim));have hdn:((s.decs.length:Int)==0)=false:=by simp;omega
       clear hds hd0;generalize s.decs.length=D at *;go_wp2;refine bodyPost_ret (v:=.tuple #[.bool false,.int .u64 0,.slice none 0 0,.bool false]) (by simp[results,Tryz.results184,go_sem]) rfl ?_;exact⟨Or.inr (Or.inr ⟨HRES.out,rfl⟩),HB9.out⟩
      ·have hst:=zhj (v:=n) (s:=⟨t,s.decs,s.prf⟩) HNX.out hb hds hlim;have HGO:=zH (HRUN2.out.at_go hst);have HGD:=zH (hsg.out _ hst).1;have hmu4:=(hsg.out _ hst).2;have hA:RAt w.heap.size w9 (l++(s.prf++[zbf s.decs])) (s.prf++[zbf s.decs]) (ds.map Prod.fst++[y]) (ds.map Prod.snd++[t1]) (.slice aa' (L0+1) ac') (.slice pa' (s.prf.length+1) pc') (.slice da ((ds.map Prod.snd).length+1) dc) (.slice ma ((ds.map Prod.fst).length+1) mc):=by
        have:=HA9.out;rw[show s.decs.map Prod.fst=ds.map Prod.fst++[y] by rw[hds];simp,show s.decs.map Prod.snd=ds.map Prod.snd++[t1] by rw[hds];simp,hdlen] at this;rw[List.length_map,List.length_map];exact this
       obtain⟨g,gm,ta3,tc3,rfl,rfl,hgl,hgml,hdc,hmc,hcell,htc,hti3,hpop⟩:=hA.pop;rw[List.length_map] at hdc hmc hcell hti3 hpop;rw[List.length_map] at hti3 hpop;have hlt2:s.prf.length+1<2000:=by omega
       have HS5:Hid (∀q,zrW w (w9.drewN q) n l ⟨t1,ds,s.prf++[zbf s.decs]⟩ r (.slice aa' (L0+1) ac') (.slice (some ⟨g,0,none⟩) ds.length dc) (.slice (some ⟨gm,0,none⟩) ds.length mc) (.slice pa' (s.prf.length+1) pc') ta3 tc3):=fun q=>by
        have hbq:zB w9 (w9.drewN q):=⟨rfl,rfl,rfl,Nat.le_refl _,fun _ _=>rfl⟩;exact ⟨hpop.new hbq,hti3.new hbq,htc,HGD.out,⟨HSS.out.tl.d (y,t1) (by rw [hds];simp),fun d hd=>HSS.out.tl.d d (by rw [hds];simp [hd]),fun c hc=>(by
         rcases List.mem_append.1 hc with h|h
         ·exact HSS.out.tl.p c h
         ·rw [List.mem_singleton] at h;rw [h,zaJ];exact hdl)⟩,HGO.out,zT HB9.out hbq⟩
       clear hA hst hti3 hpop htc hds hd0;have hdn:(((ds.length+1:Nat):Int)==0)=false:=by simp;omega
       have hsub:((ds.length+1:Nat):Int)-1=(ds.length:Int):=by omega
       generalize hS2:s.decs.length=D at *;subst hdlen;clear hS2;go_wp2_with fail;go_quiet (fail);go_wp2;go_roundg (mu ⟨t1,ds,s.prf++[zbf s.decs]⟩)
       case rel=>exact⟨⟨t1,ds,s.prf++[zbf s.decs]⟩,ta3,tc3,rfl,HS5.out _,Nat.le_refl _⟩
       case measure=>exact Nat.lt_of_lt_of_le hmu4 hmu3
  ·go_wp2_with fail;refine HSPR.out.mono ?_;rintro e w2 ⟨⟨ta2,tc2,rfl,hti,hnil2,hloc⟩,hb2⟩;have HA2:=zH (HSS.out.at'.new hb2);have HBW2:Hid (zB w w2):=zT HSS.out.below hb2;have HT2:=zH (HSS.out.told.loc hti hloc (fun k hk=>(HSS.out.at'.lt k hk).2));have HHAS:Hid (∀x,zC 246 #[.slice ta2 t.length tc2,.int .i64 x] w2 fun e w'=>e=.returned (.bool (decide (x∈t)))/\w2=w'):=fun x=>zer t x ta2 tc2 w2 hti (by omega);have HNIL:=zH hnil2;clear hb2 HSPR hti hnil2 hloc;go_wp2_with fail;go_loop [18] (fun kV=>∃k:Nat,k<=n/\kV=.int .i64 ((k:Int)+1)/\∀j,j<k->tv t j≠0) (fun kV=>n+1-(intOf kV).toNat)
   case atStart=>exact⟨0,Nat.zero_le _,rfl,fun j h=>by omega⟩
   case round =>
    obtain⟨k,hk,rfl,h1⟩:=hrel;have H1:=zH h1;clear h1
    by_cases hlt:k<n
    ·have HH1:=HHAS.out ((k:Int)+1);have HH2:=HHAS.out (-((k:Int)+1));have hle:decide ((k:Int)+1<=(n:Int))=true:=by simp;omega
     by_cases q1:((k:Int)+1)∈t
     ·rw[decide_eq_true q1] at HH1;have HA:=zH HH1;have HTV:Hid (tv t k≠0):=by show tv t k≠0;unfold tv;rw[if_pos q1];omega
      clear HH1 HH2 q1;go_wp2_with fail;refine HA.out.mono ?_;rintro e w3 ⟨rfl,rfl⟩;go_wp2;go_round
      case rel=>exact ⟨k + 1,hlt,by go_num,fun j hj=>(by
       rcases Nat.lt_succ_iff_lt_or_eq.1 hj with e|e
       ·exact H1.out j e
       ·rw [e];exact HTV.out)⟩
      case measure=>simp[intOf];omega
     ·rw[decide_eq_false q1] at HH1;have HA:=zH HH1
      by_cases q2:(-((k:Int)+1))∈t
      ·rw[decide_eq_true q2] at HH2;have HA2':=zH HH2;have HTV:Hid (tv t k≠0):=by show tv t k≠0;unfold tv;rw[if_neg q1,if_pos (by simpa using q2)];omega
       clear HH1 HH2 q1 q2;go_wp2_with fail;refine HA.out.mono ?_;rintro e w3 ⟨rfl,rfl⟩;go_wp2_with fail;refine HA2'.out.mono ?_;rintro e w3 ⟨rfl,rfl⟩;go_wp2;go_round
       case rel=>exact ⟨k + 1,hlt,by go_num,fun j hj=>(by
        rcases Nat.lt_succ_iff_lt_or_eq.1 hj with e|e
        ·exact H1.out j e
        ·rw [e];exact HTV.out)⟩
       case measure=>simp[intOf];omega
      ·rw[decide_eq_false q2] at HH2;have HA2':=zH HH2;have HTV:Hid (tv t k=0):=by show tv t k=0;unfold tv;rw[if_neg q1,if_neg (by simpa using q2)]
       clear HH1 HH2;have hst:=ziL (v:=n) (s:=⟨t,s.decs,s.prf⟩) HNX.out (by omega) (by rw[zgI H1.out hlt HTV.out];omega);rw[zgI H1.out hlt HTV.out] at hst;have HGO:=zH (HRUN2.out.at_go hst);have HGD:=zH (hsg.out _ hst).1;have hmu4:=(hsg.out _ hst).2;have hft:zdW (t++[(k:Int)+1])<zdW t:=zb8 (zaq.2 ⟨by omega,by omega,by omega⟩) q1 q2;have HTL:Hid (TL ⟨t++[(k:Int) + 1],s.decs++[((k:Int) + 1,t)],s.prf⟩):=⟨by simp;omega,fun d hd=>(by
        rcases List.mem_append.1 hd with h|h
        ·exact HSS.out.tl.d d h
        ·rw [List.mem_singleton] at h;rw [h];exact hfew2),HSS.out.tl.p⟩
       obtain⟨i0,hin,hz0,hz1,hz2⟩:=info_parts zbe;obtain⟨ii,hii,hy0,hy1,hy2⟩:=info_parts znE;obtain⟨dcs,hds,hdk⟩:=HA2.out.drow;rw[List.length_map] at hds;have HDS:=zH hds;have HDK:=zH hdk;have hsw:=HBW2.out.size;clear hst q1 q2 hft hds hdk H1 HTV;go_wp2_with fail;refine HA.out.mono ?_;rintro e w3 ⟨rfl,rfl⟩;go_wp2_with fail;refine HA2'.out.mono ?_;rintro e w3 ⟨rfl,rfl⟩;go_wp2_with (first|(at_builtin;refine wpList_append_own_at _ rfl _ _ 373 rfl w.heap.size 47 ii (.slice none 0 0) 1 24 Tryz.underlying373 hii hy0 hy1 hy2 rfl (by decide) _ _ _ rfl (HDS.out.alloc _) ⟨w2.heap.size,0,none⟩ 1 1 [.slice ta2 t.length tc2] rfl rfl ?c1 ?c2 ?c3 ?c4 ?c5 ?_))
       case c1=>exact World.news_of_block (heap_alloc_new w2 _)
       case c2=>intro u hu;rw[List.mem_singleton] at hu;subst hu;rfl
       case c3=>unfold maxLen;omega
       case c4=>omega
       case c5=>rw[World.size_alloc];omega
       intro dV' w5 hown5 hgrow5 _ hloc5;have hbn:=zac w2 (.cells #[.slice ta2 t.length tc2] 47);rw[<-World.size_alloc w2 (.cells #[.slice ta2 t.length tc2] 47)] at hloc5;have ha5:=(HA2.out.new hbn).grow_d (c:=t) (a:=ta2) (cap:=tc2) (cs:=dcs) (HDK.out.new hbn) (by rw[List.length_map];exact hown5) hgrow5 hloc5 HNIL.out (HT2.out.new hbn);have ht5:=(HT2.out.new hbn).grown hgrow5 (by simp[zbQ]) (zsp hloc5);have hb5:zB w w5:=(HBW2.out.trans (hbn.mono hsw)).grown hgrow5 (by rw[World.size_alloc];omega) (fun k hk=>(HDS.out.lt k hk).1);obtain⟨da',dc',rfl,-,-⟩:=zaj hown5;have hm5:=ha5.mrow;rw[List.length_map] at hm5;have HM5:=zH hm5;have HA5:=zH ha5;have HT5:=zH ht5;have HB5:=zH hb5;have hs5:=hb5.size;clear hown5 hgrow5 hloc5 hbn ha5 ht5 hb5 hm5 HDS HDK HA2 HT2 HHAS HA HA2';go_wp2_with (first|(at_builtin;refine wpList_append_own_at _ rfl _ _ 47 rfl w.heap.size 3 i0 (.int .i64 0) 1 8 Tryz.underlying47 hin hz0 hz1 hz2 rfl (by decide) _ _ _ rfl (HM5.out.alloc _) ⟨w5.heap.size,0,none⟩ 1 1 [.int .i64 ((k:Int)+1)] rfl rfl ?c1 ?c2 ?c3 ?c4 ?c5 ?_))
       case c1=>exact zaQ _ _ _
       case c2=>exact za0 _
       case c3=>unfold maxLen;omega
       case c4=>omega
       case c5=>rw[World.size_alloc];omega
       intro mV' w6 hown6 hgrow6 _ hloc6;have hbn:=zac w5 (.cells #[.int .i64 ((k:Int)+1)] 3);rw[<-World.size_alloc w5 (.cells #[.int .i64 ((k:Int)+1)] 3)] at hloc6;have ha6:=(HA5.out.new hbn).grow_m (x:=(k:Int)+1) (by rw[zao,List.length_append,List.length_map];exact hown6) hgrow6 hloc6;have ht6:=(HT5.out.new hbn).grown hgrow6 (by simp[zbQ]) (zss hloc6);have hb6:zB w w6:=(HB5.out.trans (hbn.mono hs5)).grown hgrow6 (by rw[World.size_alloc];omega) (fun k hk=>(HM5.out.lt k hk).1);obtain⟨ma',mc',rfl,-,-⟩:=zaj hown6;have eA:=World.ownsRow_lit (base:=w6.heap.size) (e:=3) (size:=1) w6 #[] 0 zN (by decide) rfl;have bA:=zac w6 (.cells #[] 3);have HAT:=zH (fun ty=>zex (H:=w6.heap.size) (k:=w6.heap.size) (told:=t) (ta:=ta2) (tc:=tc2) ty eA (ht6.ints.below bA) HNIL.out htlen bA.size);have HA6:=zH ha6;have HB6:=zH hb6;have HBA:=zH bA;have hs6:=hb6.size;clear hown6 hgrow6 hloc6 hbn ha6 ht6 hb6 eA bA HM5 HA5 HT5 HB5;go_wp2_with (first|(at_builtin;refine zle rfl _ _ 47 rfl _ _ rfl rfl (HAT.out _) ?_));intro v8 w8 hr8 hg8;have hb8:zB w6 w8:=HBA.out.grown hg8 HBA.out.size (fun k hk=>by simp at hk;omega);obtain⟨ra,rc,rfl,-,-⟩:=zaj hr8;have HR8:=zH hr8;have HB8:=zH hb8;have hs8:=hb8.size;clear hr8 hg8 hb8 HAT HBA;go_wp2_with (first|(at_builtin;refine wpList_append_own_at _ rfl _ _ 47 rfl w6.heap.size 3 i0 (.int .i64 0) 1 8 Tryz.underlying47 hin hz0 hz1 hz2 rfl (by decide) _ _ _ rfl (HR8.out.alloc _) ⟨w8.heap.size,0,none⟩ 1 1 [.int .i64 ((k:Int)+1)] rfl rfl ?c1 ?c2 ?c3 ?c4 ?c5 ?_))
       case c1=>exact zaQ _ _ _
       case c2=>exact za0 _
       case c3=>unfold maxLen;omega
       case c4=>omega
       case c5=>rw[World.size_alloc];omega
       intro v9 w9 hown9 hgrow9 _ _;have hr9:w9.ownsRow w6.heap.size 3 1 v9 (t++[(k:Int)+1]).length (zaf (t++[(k:Int)+1])):=by rw[zao];simpa using hown9
       have hb9:zB w6 w9:=(HB8.out.alloc hs8 _).grown hgrow9 (by rw[World.size_alloc];omega) (fun k hk=>(HR8.out.lt k hk).1);obtain⟨ta9,tc9,rfl,-,-⟩:=zaj hr9;have HS9:Hid (zrW w w9 n l ⟨t++[(k:Int)+1],s.decs++[((k:Int)+1,t)],s.prf⟩ r _ _ _ _ ta9 tc9):=⟨by have:=HA6.out.new hb9;simpa using this,ziD hr9 (fun k hk=>(HA6.out.lt k hk).2),zpv hr9,HGD.out,HTL.out,HGO.out,HB6.out.trans (hb9.mono hs6)⟩;clear hown9 hgrow9 hr9 hb9 HR8 HB8 HA6 HB6;go_wp2;go_roundg (mu ⟨t++[(k:Int)+1],s.decs++[((k:Int)+1,t)],s.prf⟩)
       case rel=>exact⟨⟨t++[(k:Int)+1],s.decs++[((k:Int)+1,t)],s.prf⟩,ta9,tc9,rfl,HS9.out,Nat.le_refl _⟩
       case measure=>exact Nat.lt_of_lt_of_le hmu4 hmu3
    ·obtain rfl:k=n:=by omega
     have HRES:=zH (HRUN2.out.at_done (zin (s:=⟨t,s.decs,s.prf⟩) HNX.out (by omega) (by rw[zi2 H1.out];omega)));have HTI:=zH HT2.out.ints;have HLT:=zH HGOOD2.out.lits;clear H1 HHAS;go_wp2_with fail;go_loop [19,98] (fun vV jV=>∃j:Nat,j<=t.length/\jV=.int .i64 j/\vV=.int .u64 ((orF (t.take j):Nat):Int)) (fun _ jV=>t.length-(intOf jV).toNat)
     case atStart=>exact⟨0,Nat.zero_le _,rfl,rfl⟩
     case round =>
      obtain⟨j,hj,rfl,rfl⟩:=hrel
      by_cases hjl:j<t.length
      ·obtain⟨ad,rfl,hl',hc⟩:=HTI.out j hjl;have hlx:=zaq.1 (HLT.out _ (zaM (d:=0) hjl));have HSN:Hid (orF (t.take (j+1))=orS (orF (t.take j)) (t.getD j 0)):=by show _=_;rw[zdY hjl,ziM]
       have hN:orF (t.take j)<16777216:=zq6 hn24 (fun x hx=>HLT.out x (List.mem_of_mem_take hx));generalize t.getD j 0=x at *;generalize orF (t.take j)=o at *;obtain⟨hx1,hx2,hx3⟩:=hlx
       by_cases hp:0<x
       ·obtain⟨m,hm⟩:∃m:Nat,x=(m:Int)+1:=⟨x.toNat-1,by omega⟩;subst hm;have hm24:m<24:=by omega
        have hi0:(0:Int)<=(m:Int):=by omega
        have hi1:(m:Int)<24:=by omega
        have hor:=zmR o m hN hm24;have hsh:=zlM hm24;have hw2:IntKind.u64.wrap ((2:Int)^m)=(2:Int)^m:=by rw[show min m 64=m by omega] at hsh;exact hsh
        have HOR:=zH hor;have HSH:=zH hsh;have HW2:=zH hw2;have HN2:Hid (orF (t.take (j+1))=o|||2^m):=by
         show _=_;rw[HSN.out];unfold orS;rw[if_pos hp];congr 2
        clear hor hsh hw2;go_wp2;go_round
        case rel=>exact⟨j+1,hjl,by go_num,congrArg (Value.int .u64) (by rw[HN2.out];first|exact HOR.out|(rw[HW2.out];exact HOR.out)|(rw[HSH.out];exact HOR.out))⟩
        case measure=>simp[intOf];omega
       ·have HN2:Hid (orF (t.take (j+1))=o):=by show _=_;rw[HSN.out];unfold orS;rw[if_neg hp]
        go_wp2;go_round
        case rel=>exact⟨j+1,hjl,by go_num,by rw[HN2.out]⟩
        case measure=>simp[intOf];omega
      ·obtain rfl:j=t.length:=by omega
       rw[List.take_length,zli hn24 HLT.out];go_wp2;refine bodyPost_ret (v:=.tuple #[.bool true,.int .u64 ((zfd t 24:Nat):Int),.slice none 0 0,.bool true]) (by simp[results,Tryz.results184,go_sem]) rfl ?_;exact⟨Or.inl ⟨t,HRES.out,rfl⟩,HBW2.out⟩
end
section
open Go.RowKit Go.Deep Sv
theorem zmy(ls:List Ln)(v:Value)(w:World)(h:RLs w v ls)(hl:ls.length<=100) :
  zC 106 #[v] w fun e w'=>∃v',e=.returned v'/\w'.ownsRow w.heap.size 3 1 v' (zbE (zbF ls)).length (zaf (zbE (zbF ls)))/\zB w w':=by
 obtain⟨va,vc,rfl⟩:∃va vc,v=.slice va ls.length vc:=by obtain⟨vs,_,h2⟩:=h;obtain⟨a,c,e,_⟩:=h2.form;exact⟨a,c,e⟩
 obtain⟨i0,hin,hz0,hz1,hz2⟩:=info_parts zbe;have HI:=zH h;clear h;go_enter Tryz.func106,Tryz.ntmps106;go_wp2_with fail;go_loopw [3,8] (fun oV kV wr=>∃(k:Nat),k<=ls.length/\kV=.int .i64 k/\wr.ownsRow w.heap.size 3 1 oV (zbE (zaR ls k)).length (zaf (zbE (zaR ls k)))/\zB w wr) (fun _ kV _=>ls.length-(intOf kV).toNat)
 case atStart=>exact⟨0,Nat.zero_le _,rfl,World.ownsRow_nil _ _ _ _,Below.refl _ _⟩
 case round =>
  obtain⟨k,hk,rfl,hrow,hbw⟩:=hrel;obtain⟨oa,oc,rfl,-⟩:=zaj hrow;have hsl:=zeE ls k
  by_cases hlt:k<ls.length
  ·obtain⟨g,cap',ra,rc,e1,hg,hns,hrg,c0,c1,c2,c3,c4,c5,c6⟩:=(HI.out.below hbw zN).at k hlt;simp at e1;obtain⟨rfl,rfl⟩:=e1;have hii0:(0:Int)<=(k:Int):=by omega
   have hii1:(k:Int)<(ls.length:Int):=by omega
   have HST:=zH (zd0 ls k);generalize ls.getD k default=X at *;have hA:zB wr (wr.alloc (.cells #[.int .i64 X.kind,.string X.name,.int .i64 X.a,.int .i64 X.b,.int .i64 X.c,.string X.other,.slice ra (tp X.rng).length rc] 101)):=zF.alloc zN _;have HKN:=zH (Blk.new wr 101 #[.int .i64 X.kind,.string X.name,.int .i64 X.a,.int .i64 X.b,.int .i64 X.c,.string X.other,.slice ra (tp X.rng).length rc]);have HR3:=zH (zad hrow hA);have HB3:Hid (zB w (wr.alloc (.cells #[.int .i64 X.kind,.string X.name,.int .i64 X.a,.int .i64 X.b,.int .i64 X.c,.string X.other,.slice ra (tp X.rng).length rc] 101))):=zT hbw hA;clear hrow hbw hA hns hrg HI;generalize (tp X.rng).length=TL at *;generalize hL:(zbE (zaR ls k)).length=n8 at *;have hn8:n8<=100:=by rw[<-hL];simp[zbE];omega
   have HL8:=zH hL;clear hL;go_upto_region 5 with fail;generalize hW3:wr.alloc (.cells #[.int .i64 X.kind,.string X.name,.int .i64 X.a,.int .i64 X.b,.int .i64 X.c,.string X.other,.slice ra TL rc] 101)=W3 at *;clear hW3 c0 c1 c2 c3 c4 c5 c6;have c0:_=some (Value.int .i64 X.kind):=HKN.out.cell 0;have hsz3:=HB3.out.size
   by_cases hk1:X.kind=1
   ·have hne:(X.kind != 1)=false:=by rw[hk1];rfl
    rw[hne] at HST;simp only[Bool.false_eq_true,if_false,List.append_nil] at HST;have HR8:Hid (W3.ownsRow w.heap.size 3 1 (.slice oa n8 oc) (zbE (zaR ls (k+1))).length (zaf (zbE (zaR ls (k+1))))):=by
     show World.ownsRow _ _ _ _ _ _ _;rw[HST.out,HL8.out];exact HR3.out
    rw[hk1] at c0;clear HST hne;go_wp2;go_roundw
    case rel=>exact⟨k+1,hlt,by go_num,HR8.out,HB3.out⟩
    case measure=>simp[intOf];omega
   ·have hne:(X.kind != 1)=true:=by simpa using hk1
    rw[hne] at HST;simp only[if_true] at HST;go_upto_region 6 with fail;go_wp2_with (at_builtin;refine wpList_append_own_at _ rfl _ _ 47 rfl w.heap.size 3 i0 (.int .i64 0) 1 8 Tryz.underlying47 hin hz0 hz1 hz2 rfl (by decide) _ _ _ rfl (HR3.out.alloc _) ⟨W3.heap.size,0,none⟩ 1 1 [.int .i64 k] rfl rfl ?e1 ?e2 ?e3 ?e4 ?e5 ?_)
    try(case e1=>exact zaQ _ _ _)
    case e2=>first|exact za0 _|rfl
    case e3=>unfold maxLen;omega
    case e4=>omega
    case e5=>first|omega|(simp;omega)
    intro v8 w8 hown8 hgrow8 _ hloc8;have HR8:Hid (w8.ownsRow w.heap.size 3 1 v8 (zbE (zaR ls (k+1))).length (zaf (zbE (zaR ls (k+1))))):=by
     show World.ownsRow _ _ _ _ _ _ _;have e:zbE (zaR ls k++[k])=zbE (zaR ls k)++[(k:Int)]:=by simp[zbE]
     rw[HST.out,e,zao,List.length_append,HL8.out];exact hown8
    have HB8:Hid (zB w w8):=(HB3.out.alloc hsz3 _).grown hgrow8 (by simp;omega) (fun k hk=>(HR3.out.lt k hk).1);obtain⟨v8a,v8c,rfl,-⟩:=zaj hown8;clear hown8 hgrow8 hloc8 HR3 HST;go_wp2;go_roundw
    case rel=>exact⟨k+1,hlt,by go_num,HR8.out,HB8.out⟩
    case measure=>simp[intOf];omega
  ·obtain rfl:k=ls.length:=by omega
   have HF:Hid (_/\_):=And.intro hrow hbw;clear hrow hbw HI;go_wp2;go_ret;exact⟨_,rfl,HF.out.1,HF.out.2⟩
theorem zd4.set{W:World}{g:Nat}{bs:List Bool}(h:zd4 W g bs){n:Nat}(hn:n<bs.length)(b:Bool):zd4 (W.setCell ⟨g,n,none⟩ (.bool b)) g (bs.set n b):=by
 obtain⟨cur,h1,h2,h3⟩:=h;refine⟨_,h1.set,by rw[Array.size_setIfInBounds,List.length_set,h2],fun j hj=>?_⟩;rw[List.length_set] at hj;rw[Array.getElem?_setIfInBounds]
 by_cases e:n=j
 ·subst e;rw[if_pos rfl,if_pos (by omega)];simp[List.getD_eq_getElem?_getD,hj]
 ·rw[if_neg e,h3 j hj];simp[List.getD_eq_getElem?_getD,e]
theorem zpe{m:Nat}{pk:List Nat}{bs:List Bool}(hl:bs.length=m)(h:∀j,j<m->bs.getD j false=decide (j∈pk)):bs=inF m pk:=by
 apply List.ext_getElem
 ·rw[hl,zci]
 ·intro i h1 h2;have:=h i (by omega);rw[List.getD_eq_getElem?_getD,List.getElem?_eq_getElem h1] at this;simp[inF] at this ⊢;exact this
theorem zjS(n:Nat)(hn:n<=24)(l:List (List Int))(hls:zbT n l)(h48:∀c∈l,c.length<=48)(hl200:l.length<=200)(hlim:∀r,Run n l st0 r->r≠.limit)(a:Option Addr)(cap:Nat)(hnil:a=none->cap=0)(w:World)(hI:zbu w a l) :
  zC 184 #[.int .i64 n,.slice a l.length cap] w fun e w'=>∃x y z,e=.returned (.tuple #[.bool (zmM l),x,y,z])/\zB w w':=by
 obtain⟨r,hr⟩:=zoT (v:=n) hn hls (mu st0) st0 zN (zjT n);refine(zjh n hn l hls h48 hl200 a cap hnil w hI r hr).mono fun e w' ⟨h,hb⟩=>?_;have hc:∀b,((∃t,r=.sat t/\b=true)\/(∃p,r=.unsat p/\b=false))->b=zmM l:=fun b hh=>by
  have:zqr n l b .nilIface:=⟨r,hr,by
   rcases hh with ⟨t,h1,h2⟩|⟨p,h1,h2⟩
   ·exact Or.inl ⟨t,h1,h2,rfl⟩
   ·exact Or.inr (Or.inl ⟨p,h1,h2,rfl⟩)⟩
  exact(zij hn hls hlim this).1
 rcases h with ⟨t,h1,rfl⟩|⟨p,pa,pc,h1,rfl,-⟩|⟨h1,-⟩
 ·exact⟨_,_,_,by rw[<-hc true (Or.inl ⟨t,h1,rfl⟩)],hb⟩
 ·exact⟨_,_,_,by rw[<-hc false (Or.inr ⟨p,h1,rfl⟩)],hb⟩
 ·exact absurd h1 (hlim r hr)
theorem zn2(ls:List Ln)(its:List It)(v:Value)(w:World)(h:RLs w v ls)(hN:zcr ls=.ok its)(hv:its.length<=12)(hP:(ofL its ls).length<=200)(pk:List Nat)(bm:Nat)(L:List (Int × Bool))(hm:IBm w bm L)(hL:∀i:Nat,i<ls.length->((i:Int),decide (i∈pk))∈L\/((i:Int)∉L.map Prod.fst/\i∉pk)) :
  zR 107 #[v,.map (some bm)] w (.bool (zmM (zaC (ofL its ls) (inF ls.length pk)))):=by
 obtain⟨va,vc,rfl⟩:∃va vc,v=.slice va ls.length vc:=by obtain⟨vs,_,h2⟩:=h;obtain⟨a,c,e,_⟩:=h2.form;exact⟨a,c,e⟩
 obtain⟨hi24,hl100,hck⟩:=zdc hN;obtain⟨hasc,hri⟩:=zhQ hN;obtain⟨i0,hin,hz0,hz1,hz2⟩:=info_parts zeY;have HRU:=zH (zfB ls its _ w h hl100 hi24 hri hasc);have HIT:Hid (∀W,zB w W->zC 46 #[.slice va ls.length vc] W fun e w'=>∃a c,e=.returned (.slice a its.length c)/\zB W w'):=fun W hW=>(zd9 ls _ W (h.below hW zN) (by omega)).mono fun e w' ⟨v',h1,h2,h3⟩=>by
  rw[hri] at h2;obtain⟨a,c,e1,-⟩:=(zaa h2).form;exact⟨a,c,by rw[h1,e1],h3⟩
 have hfine:=zez hN;have hol:(zaC (ofL its ls) (inF ls.length pk)).length<=200:=Nat.le_trans (zgF _ _) hP;have HSV:Hid (∀W a c,(a=none->c=0)->zbu W a (zaC (ofL its ls) (inF ls.length pk))->zC 184 #[.int .i64 its.length,.slice a (zaC (ofL its ls) (inF ls.length pk)).length c] W fun e w'=>∃x y z,e=.returned (.tuple #[.bool (zmM (zaC (ofL its ls) (inF ls.length pk))),x,y,z])/\zB W w'):=fun W a c h0 hc=>zjS its.length (by omega) _ (zdt hN _) (fun c hc=>by obtain⟨x,hx,e⟩:=zgj hc;rw[<-e];exact(hfine x hx).2) hol (fun r hr=>zcD (zcK its) hv (zdt hN _) (zlq hN) (zfl its ls _) hr) a c h0 W hc;have HML:Hid (∀W,zB w W->∀i:Nat,i<ls.length->(Instr.lookup 198 (.map (some bm)) (.int .i64 i) false).run Tryz.prog W=.ok (.bool (decide (i∈pk))) W):=fun W hW i hi=>by
  rcases hL i hi with h1|⟨h1,h2⟩
  ·exact(hm.below hW).look h1
  ·rw[decide_eq_false h2];exact(hm.below hW).none (by unfold I64;omega) h1
 have hlen:=hl100;clear h hN hck hasc hri hfine hm hL hl100;generalize hPP:ofL its ls=P at *;clear hPP;go_enter Tryz.func107,Tryz.ntmps107;go_wp2_with fail;refine HRU.out.mono ?_;rintro e w1 ⟨cv,fv,rfl,hrs,hb1⟩;have HRS:=zH hrs;have HB1:=zH hb1;have hmi:(0:Int)<=(ls.length:Int):=by omega
 clear hrs hb1 HRU;go_wp2_with (at_make;refine wpList_make_full _ rfl _ _ 219 rfl w1.heap.size 4 i0 (.bool false) 1 Tryz.underlying219 hin hz0 hz1 .i64 .i64 _ _ ls.length rfl rfl ?c1 ?c2 ?c3 ?c4 ?c5 ?_)
 case c1=>rfl
 case c2=>rfl
 case c3=>rw[hz2];omega
 case c4=>unfold maxLen;omega
 case c5=>omega
 intro w5 hown hgrow;have hb5:zB w1 w5:=zF.grown hgrow zN (fun k hk=>by cases hk);have hbo:zd4 w5 w1.heap.size (inF ls.length []):=by
  rcases hown.2 with ⟨e,_⟩|⟨g,cap,cur,e,_,hg,_,_,hsz,htk⟩
  ·cases e
  ·cases e;exact zfm hg (by omega) (by simpa using htk)
 have HBO:=zH hbo;have HB5:=zH hb5;clear hown hgrow hbo hb5;generalize hg4:w1.heap.size=g at *;go_wp2_with fail;go_loopw [25] (fun iV wr=>∃(i:Nat),i<=ls.length/\iV=.int .i64 i/\(∃bs,zd4 wr g bs/\bs.length=ls.length/\∀j,j<i->bs.getD j false=decide (j∈pk))/\Below g w1 wr) (fun iV _=>ls.length-(intOf iV).toNat)
 case atStart=>exact⟨0,Nat.zero_le _,rfl,⟨_,HBO.out,zci _ _,fun j h=>by omega⟩,HB5.out⟩
 case round =>
  obtain⟨i,hi,rfl,⟨bs,hbo,hbl,hall⟩,hbw⟩:=hrel;have hbw1:zB w1 wr:=hg4▸hbw;have hbw0:=zT HB1.out hbw1
  by_cases hlt:i<ls.length
  ·have hii0:(0:Int)<=(i:Int):=by omega
   have hii1:(i:Int)<(ls.length:Int):=by omega
   have hlk:=HML.out wr hbw0 i hlt;have HBN:=zH (hbo.set (n:=i) (by omega) (decide (i∈pk)));have HAL:Hid (∀j,j<i+1->(bs.set i (decide (i∈pk))).getD j false=decide (j∈pk)):=fun j hj=>by
    by_cases e:j=i
    ·subst e;simp[List.getD_eq_getElem?_getD,hbl,hlt]
    ·have:=hall j (by omega);rw[<-this];simp[List.getD_eq_getElem?_getD,show i≠j from fun h=>e h.symm]
   have HLN:Hid ((bs.set i (decide (i∈pk))).length=ls.length):=(show _=_ by rw[List.length_set];exact hbl);obtain⟨cur,g1,g2,g3⟩:=hbo;have c0:=(g1.cell i).trans (g3 i (by omega));have f0:=g1.frozen i;have HBW:Hid (Below g w1 (wr.setCell ⟨g,i,none⟩ (.bool (decide (i∈pk))))):=hbw.setCell (p:=⟨g,i,none⟩) zN _;generalize bs.set i (decide (i∈pk))=bs' at *;generalize bs.getD i false=bb at *;generalize decide (i∈pk)=db at *;clear g1 g2 g3 hbw hbw1 hbw0 hall;go_wp2;go_roundw
   case rel=>exact⟨i+1,hlt,by go_num,⟨bs',HBN.out,HLN.out,HAL.out⟩,HBW.out⟩
   case measure=>simp[intOf];omega
  ·obtain rfl:i=ls.length:=by omega
   have hbs:=zpe hbl hall;subst hbs;have HBA:=zH hbo.bools;have HR2:=zH (HRS.out.new hbw1);have HI2:=zH (HIT.out wr hbw0);have HB2:=zH hbw0;clear hbo hbw hbw1 hbw0 hall hbl HML HBO HB5 HRS HIT HB1;go_wp2_with fail;refine HI2.out.mono ?_;rintro e w6 ⟨ia,ic,rfl,hb6⟩;have HO:Hid (zC 185 #[cv,fv,.slice (some ⟨g,0,none⟩) ls.length ls.length] w6 fun e w'=>∃a2 c2,e=.returned (.slice a2 (zaC P (inF ls.length pk)).length c2)/\(a2=none->c2=0)/\zbu w' a2 (zaC P (inF ls.length pk))/\zB w6 w'):=by
    have h:=zlQ _ P cv fv (inF ls.length pk) (some ⟨g,0,none⟩) ls.length w6 (HR2.out.new hb6) (HBA.out.below hb6 zN) (by omega);rw[zci] at h;refine h.mono fun e w' ⟨v',h1,h2,h3⟩=>?_;obtain⟨cs,g1,g2⟩:=h2;obtain⟨a1,c1,e1,hn1,-⟩:=(zaa g1).form;subst e1;exact⟨a1,c1,h1,hn1,zca.cls (B:=0) (cap:=c1) g2 (zal g1 (Nat.zero_le _)),h3⟩
   have HB6:=zH (zT HB2.out hb6);clear hb6 HI2 HR2 HBA HB2;generalize hKK:zaC P (inF ls.length pk)=KK at *;have HKK:=zH hKK;clear hKK;go_wp2_with fail;refine HO.out.mono ?_;rintro e w7 ⟨a2,c2,rfl,hn2,hcl,hb7⟩;have HS7:=zH (HSV.out w7 a2 c2 hn2 hcl);have HB7:=zH (zT HB6.out hb7);clear hn2 hcl hb7 HO HSV HB6;go_wp2_with fail;refine HS7.out.mono ?_;rintro e w8 ⟨x,y,z,rfl,hb8⟩;have HF:=zH (zT HB7.out hb8);clear hb8 HS7;go_wp2;go_ret;exact⟨by rw[HKK.out];rfl,HF.out⟩
end
end Go.Proofs.YtiihalknffbjpaaGreatDoor
