/- The reference: CatalogCheck. -/
import Derived.Test.YtiihalknffbjpaaGreatDoorRaTab
set_option maxHeartbeats 4000000
set_option maxRecDepth 100000
namespace Go.Proofs.YtiihalknffbjpaaGreatDoor
section
open Go.RowKit Go.Deep Sv
theorem zo6:∀args w,(callFunc 125 args).run Tryz.prog w=.ok (.enter 125 args) w:=by intro args w;kernel_rfl
theorem zph:∀args w,(callFunc 126 args).run Tryz.prog w=.ok (.enter 126 args) w:=by intro args w;kernel_rfl
theorem zny{n x:Nat}(hn:n<=12)(hx:x<2^n):(2^n-1)&&&(18446744073709551615-x)=2^n-1-x:=by
 have h12:(2:Nat)^n<=4096:=Nat.pow_le_pow_right (n:=2) (j:=12) (by omega) hn;apply Nat.eq_of_testBit_eq;intro i;have e1:18446744073709551615-x=2^64-(x+1):=by omega
 have e2:2^n-1-x=2^n-(x+1):=by omega
 rw[Nat.testBit_and,e1,e2,Nat.testBit_two_pow_sub_succ (show x<2^64 by omega),Nat.testBit_two_pow_sub_succ hx,Nat.testBit_two_pow_sub_one]
 by_cases hi:i<n
 ·rw[decide_eq_true hi,decide_eq_true (show i<64 by omega)];simp
 ·rw[decide_eq_false hi];simp
theorem zkC(so:Nat->Bool){N x:Nat}(hx:x<N):(zhA so N).getD x false=so x:=by
 unfold zhA;simp[List.getD_eq_getElem?_getD,hx]
section
variable (so:Nat->Bool) (N:Nat) (bt:Nat) (ta:Option Addr) (tc:Nat)
theorem zsj(x:Nat)(hx:x<N)(w:World)(kt:w.cell? ⟨bt,0,none⟩=some (.slice ta N tc))(hB:zbM w ta (zhA so N)) :
  zR 125 #[.int .u64 x,.pointer (some ⟨bt,0,none⟩)] w (.bool (!so x)):=by
 obtain⟨ad,rfl,had,cA⟩:=hB x (by rw[zdB];exact hx);rw[zkC so hx] at cA;have h0:(0:Int)<=(x:Int):=by omega
 have h1:(x:Int)<(N:Int):=by omega
 generalize so x=sx at *;obtain⟨ab,ao,asp⟩:=ad;clear hB had;go_enter Tryz.func125,Tryz.ntmps125;go_wp2;go_ret;exact⟨rfl,Below.refl _ _⟩
theorem zr0(n:Nat)(hn:n<=12)(hN:N=2^n)(ba:Nat)(x:Nat)(hx:x<N)(w:World)(kt:w.cell? ⟨bt,0,none⟩=some (.slice ta N tc))(ka:w.cell? ⟨ba,0,none⟩=some (.int .u64 ((N-1:Nat):Int)))(hB:zbM w ta (zhA so N)) :
  zR 126 #[.int .u64 x,.pointer (some ⟨bt,0,none⟩),.pointer (some ⟨ba,0,none⟩)] w (.bool (so (N-1-x))):=by
 have h12:(2:Nat)^n<=4096:=Nat.pow_le_pow_right (n:=2) (j:=12) (by omega) hn;have hno:=u64_andNot_nat (N-1) x (by omega) (by omega);rw[hN,zny hn (by omega),<-hN] at hno;obtain⟨ad,rfl,had,cA⟩:=hB (N-1-x) (by rw[zdB];omega);rw[zkC so (by omega)] at cA;have hy:N-1-x<N:=by omega
 generalize N-1-x=y at *;generalize N-1=al at *;have h0:(0:Int)<=(y:Int):=by omega
 have h1:(y:Int)<(N:Int):=by omega
 generalize so y=sx at *;obtain⟨ab,ao,asp⟩:=ad;clear hB had hN;go_enter Tryz.func126,Tryz.ntmps126;go_wp2;go_ret;exact⟨rfl,Below.refl _ _⟩
end
def zgy(w:World)(a:Option Addr)(l:List Nat):Prop:=∀i,i<l.length->∃ad:Addr,a=some ad/\ad.block<w.heap.size/\w.cell? (ad.add i)=some (.int .u64 (l.getD i 0:Nat))
theorem zgy.below{w w':World}{a:Option Addr}{l:List Nat}(h:zgy w a l)(hb:zB w w'):zgy w' a l:=fun i hi=>by
 obtain⟨ad,h1,h2,h3⟩:=h i hi;exact⟨ad,h1,Nat.lt_of_lt_of_le h2 hb.size,(hb.cell (p:=ad.add i) (by rw[zat];exact h2)).trans h3⟩
theorem zew{B:Nat}{w:World}{a:Option Addr}{c:Nat}{l:List Nat}(h:w.ownsRow B 48 1 (.slice a l.length c) l.length (zby l)):zgy w a l:=by
 intro i hi;rcases h.2 with ⟨e,e0⟩|⟨g,cap,cur,e,-,hg,-⟩
 ·omega
 ·injection e with e1 e2 e3;subst e1;have:=h.cellAt i (by omega);refine⟨_,rfl,(Array.getElem?_eq_some_iff.1 hg).1,?_⟩;rw[zau,Nat.zero_add];subst e3;rw[this];simp[zby,List.getD_eq_getElem?_getD,hi]
noncomputable def soC(its:List It)(ls:List Ln)(set:Nat):Bool:=zmM (zaC (ofL its ls) (inF ls.length (zb1 (zbF ls) set)))
theorem zjZ(bk:Nat)(ls:List Ln)(its:List It)(w:World)(h:zdv w bk ls its)(hN:zcr ls=.ok its)(hv:its.length<=12)(hP:(ofL its ls).length<=200)(hS:10<(zbF ls).length) :
  zR 50 #[.pointer (some ⟨bk,0,none⟩)] w (.tuple #[.slice none 0 0,.slice none 0 0,.iface 57 (.int .i64 4)]):=by
 have hnk:=zdc hN;have HSA:=zH (zoZ bk ls its w h (by omega) (by omega) (fun x hx=>zfb (hnk.2.2 x hx)) hP);have hs10:(10:Int)<((zbF ls).length:Int):=by omega
 clear h hN hnk;generalize ofL its ls=P at *;go_enter Tryz.func50,Tryz.ntmps50;go_wp2_with fail;refine HSA.out.mono ?_;rintro e w1 ⟨cv,fv,lv,rfl,hrs,hrow,hb1⟩;obtain⟨ca,cc,rfl,-⟩:∃a c,cv=.slice a P.length c/\True:=by obtain⟨cs,h1,_⟩:=hrs.crow;obtain⟨a,c,e,_⟩:=(zaa h1).form;exact⟨a,c,by simpa using e,trivial⟩
 obtain⟨fa,fc,rfl,-⟩:∃a c,fv=.slice a P.length c/\True:=by obtain⟨a,c,e,_⟩:=(zaa hrs.frow).form;exact⟨a,c,by simpa using e,trivial⟩
 obtain⟨sa,sc,hv2,-⟩:=zcl hrow;rw[zce] at hv2;subst hv2;have HF:Hid (zB w (w1.alloc (.cells #[.int .i64 its.length,.slice ca P.length cc,.slice fa P.length fc,.slice sa (zbF ls).length sc,.int .i64 ls.length] 202))):=zL hb1;clear hrs hrow hb1 HSA;go_wp2;refine bodyPost_ret (v:=.tuple #[.slice none 0 0,.slice none 0 0,.iface 57 (.int .i64 4)]) (by simp[results,Tryz.results50,go_sem]) rfl ?_;exact⟨rfl,HF.out⟩
theorem zkn(bk:Nat)(ls:List Ln)(its:List It)(w:World)(h:zdv w bk ls its)(hN:zcr ls=.ok its)(hv:its.length<=12)(hP:(ofL its ls).length<=200)(hS:(zbF ls).length<=10)(n:Nat)(hn:n=(zbF ls).length) :
  zC 50 #[.pointer (some ⟨bk,0,none⟩)] w fun e w'=>∃a1 c1 a2 c2,e=.returned (.tuple #[.slice a1 (zaw n (fun s=>!soC its ls s) (2^n)).length c1,.slice a2 (zaw n (fun s=>soC its ls (2^n-1-s)) (2^n)).length c2,.nilIface])/\zgy w' a1 (zaw n (fun s=>!soC its ls s) (2^n))/\zgy w' a2 (zaw n (fun s=>soC its ls (2^n-1-s)) (2^n))/\zB w w':=by
 have hnk:=zdc hN;have HSA:=zH (zoZ bk ls its w h (by omega) (by omega) (fun x hx=>zfb (hnk.2.2 x hx)) hP);have hfine:=zez hN;have HTB:Hid (∀W cv fv la lc,RS w.heap.size W cv fv ((ofL its ls).map Prod.snd) ((ofL its ls).map Prod.fst)->zaN W la (zbE (zbF ls))->zC 123 #[.agg #[.int .i64 its.length,cv,fv,.slice la (zbF ls).length lc,.int .i64 ls.length]] W fun e w'=>∃a c,e=.returned (.tuple #[.slice a (2^n) c,.nilIface])/\zbM w' a (zhA (soC its ls) (2^n))/\zB W w'):=fun W cv fv la lc h1 h2=>by
  subst hn;exact zpF w.heap.size its.length (ofL its ls) cv fv ls.length (zbF ls) la lc W h1 h2 (ziO ls ls.length) (by omega) hS (by omega) (fun x hx=>Nat.le_trans (hfine x hx).2 (by omega)) (fun set=>zi9 hN hP _) (soC its ls) (fun set b er hc=>zji hN hv _ hc)
 have hs10:¬(10:Int)<((zbF ls).length:Int):=by omega
 have h12:(2:Nat)^n<=1024:=Nat.pow_le_pow_right (n:=2) (j:=10) (by omega) (by omega);have hp0:=Nat.two_pow_pos n;have hsh:IntKind.u64.wrap (2^n)=((2^n:Nat):Int):=by
  rw[IntKind.wrap_u64,show ((2:Int)^n)=((2^n:Nat):Int) by simp];exact Int.emod_eq_of_lt (Int.natCast_nonneg _) (by omega)
 have hsb:IntKind.u64.wrap (((2^n:Nat):Int)-1)=((2^n-1:Nat):Int):=by rw[IntKind.wrap_u64];omega
 have hn12:n<=12:=by omega
 rw[<-hn] at HTB hs10;have HNS:=zH hn;clear h hN hnk hfine;generalize hP2:ofL its ls=P at *;clear hP2;generalize hso:soC its ls=so at *;clear hso;go_enter Tryz.func50,Tryz.ntmps50;go_wp2_with fail;refine HSA.out.mono ?_;rintro e w1 ⟨cv,fv,lv,rfl,hrs,hrow,hb1⟩;obtain⟨ca,cc,rfl,-⟩:∃a c,cv=.slice a P.length c/\True:=by obtain⟨cs,h1,_⟩:=hrs.crow;obtain⟨a,c,e,_⟩:=(zaa h1).form;exact⟨a,c,by simpa using e,trivial⟩
 obtain⟨fa,fc,rfl,-⟩:∃a c,fv=.slice a P.length c/\True:=by obtain⟨a,c,e,_⟩:=(zaa hrs.frow).form;exact⟨a,c,by simpa using e,trivial⟩
 obtain⟨sa,sc,hv2,hq1,hq2,hq3,hq4⟩:=zcl hrow;rw[zce,<-HNS.out] at hv2;subst hv2;have hbn:=zac w1 (.cells #[.int .i64 its.length,.slice ca P.length cc,.slice fa P.length fc,.slice sa n sc,.int .i64 ls.length] 202);have kr:=Blk.new w1 202 #[.int .i64 its.length,.slice ca P.length cc,.slice fa P.length fc,.slice sa n sc,.int .i64 ls.length];have HT1:=zH (HTB.out _ (.slice ca P.length cc) (.slice fa P.length fc) sa sc (hrs.new hbn) (hq3.ints.below hbn));have HB1:=zH (zT hb1 hbn);clear hrs hrow hb1 hbn hq1 hq2 hq3 hq4 HSA HTB hn HNS;go_upto_region 4 with fail;generalize w1.alloc (.cells #[.int .i64 its.length,.slice ca P.length cc,.slice fa P.length fc,.slice sa n sc,.int .i64 ls.length] 202)=W2 at *;generalize w1.heap.size=b4 at *;have y0:_=some (Value.int .i64 its.length):=kr.cell 0;have y1:_=some (Value.slice ca P.length cc):=kr.cell 1;have y2:_=some (Value.slice fa P.length fc):=kr.cell 2;have y3:_=some (Value.slice sa n sc):=kr.cell 3;have y4:_=some (Value.int .i64 ls.length):=kr.cell 4;go_wp2_with fail;refine HT1.out.mono ?_;rintro e w3 ⟨ta,tc,rfl,hbo,hb3⟩;clear y0 y1 y2 y3 y4 HT1;generalize hNN:(2^n:Nat)=N at *;have hba:=zac w3 (.cells #[.slice ta N tc] 219);have kt:=Blk.new w3 219 #[.slice ta N tc];have hb34:=zT hb3 hba;have kr4:=kr.below hb34 kr.lt;have HBO:=zH (hbo.below hba zN);have HB4:=zH (zT HB1.out hb34);clear hbo hb3 hba hb34 kr HB1;go_upto_region 7 with fail;generalize w3.alloc (.cells #[.slice ta N tc] 219)=W4 at *;generalize w3.heap.size=bt at *;have y3:_=some (Value.slice sa n sc):=kr4.cell 3;have hb5:=zac W4 (.cells #[.int .u64 ((N-1:Nat):Int)] 48);have ka:=Blk.new W4 48 #[.int .u64 ((N-1:Nat):Int)];have kr5:=kr4.below hb5 kr4.lt;have kt5:=kt.below hb5 kt.lt;have HBO5:=zH (HBO.out.below hb5 zN);have HB5:=zH (zT HB4.out hb5);clear hb5 HBO HB4 kr4 kt;go_upto_region 10 with fail;clear y3;generalize W4.alloc (.cells #[.int .u64 ((N-1:Nat):Int)] 48)=W5 at *;generalize W4.heap.size=ba at *;have HL1:Hid (∀W,zB W5 W->zC 124 #[.int .i64 n,.func (.func 125) #[] #[.pointer (some ⟨bt,0,none⟩)]] W fun e w'=>∃a c,e=.returned (.slice a (zaw n (fun s=>!so s) N).length c)/\zgy w' a (zaw n (fun s=>!so s) N)/\zB W w'):=fun W hW=>by
  refine(ziR n hn12 125 #[.pointer (some ⟨bt,0,none⟩)] zo6 (fun s=>!so s) W (fun W' x hW' hx=>zsj so N bt ta tc x (hNN▸hx) W' ((kt5.below (zT hW hW') kt5.lt).cell 0) (HBO5.out.below (zT hW hW') zN))).mono fun e w' ⟨v',h1,h2,h3⟩=>?_;rw[hNN] at h2;obtain⟨a,c,rfl,-⟩:=zaj h2;exact⟨a,c,h1,zew h2,h3⟩
 have HL2:Hid (∀W,zB W5 W->zC 124 #[.int .i64 n,.func (.func 126) #[] #[.pointer (some ⟨bt,0,none⟩),.pointer (some ⟨ba,0,none⟩)]] W fun e w'=>∃a c,e=.returned (.slice a (zaw n (fun s=>so (N-1-s)) N).length c)/\zgy w' a (zaw n (fun s=>so (N-1-s)) N)/\zB W w'):=fun W hW=>by
  refine(ziR n hn12 126 #[.pointer (some ⟨bt,0,none⟩),.pointer (some ⟨ba,0,none⟩)] zph (fun s=>so (N-1-s)) W (fun W' x hW' hx=>zr0 so N bt ta tc n hn12 hNN.symm ba x (hNN▸hx) W' ((kt5.below (zT hW hW') kt5.lt).cell 0) ((ka.below (zT hW hW') ka.lt).cell 0) (HBO5.out.below (zT hW hW') zN))).mono fun e w' ⟨v',h1,h2,h3⟩=>?_;rw[hNN] at h2;obtain⟨a,c,rfl,-⟩:=zaj h2;exact⟨a,c,h1,zew h2,h3⟩
 have KR5:=zH kr5;have z3:_=some (Value.slice sa n sc):=kr5.cell 3;have HE1:Hid (zaw n (fun s=>!so s) (2^n)=zaw n (fun s=>!so s) N):=(show _=_ by rw[hNN]);have HE2:Hid (zaw n (fun s=>so (2^n-1-s)) (2^n)=zaw n (fun s=>so (N-1-s)) N):=(show _=_ by rw[hNN]);clear HBO5 kt5 ka kr5 hNN hsb hsh;generalize zaw n (fun s=>!so s) N=L1 at *;generalize zaw n (fun s=>so (N-1-s)) N=L2 at *;go_wp2_with fail;refine(HL1.out W5 zF).mono ?_;rintro e w6 ⟨a1,c1,rfl,hu1,hb6⟩;have z6:w6.cell? ⟨b4,3,none⟩=some (.slice sa n sc):=(KR5.out.below hb6 KR5.out.lt).cell 3;have HU1:=zH hu1;have HB6:=zH hb6;clear hu1 hb6 HL1 z3;go_wp2_with fail;refine(HL2.out w6 HB6.out).mono ?_;rintro e w7 ⟨a2,c2,rfl,hu2,hb7⟩;have HF:Hid (zgy w7 a1 L1/\zgy w7 a2 L2/\zB w w7):=⟨HU1.out.below hb7,hu2,HB5.out.trans ((zT HB6.out hb7).mono HB5.out.size)⟩;clear hu2 hb7 HL2 z6;go_wp2;refine bodyPost_ret (v:=.tuple #[.slice a1 L1.length c1,.slice a2 L2.length c2,.nilIface]) (by simp[results,Tryz.results50,go_sem]) rfl ?_;exact⟨a1,c1,a2,c2,by rw[HE1.out,HE2.out],by rw[HE1.out];exact HF.out.1,by rw[HE2.out];exact HF.out.2.1,HF.out.2.2⟩
end
section
open Go.RowKit Go.Deep Go.Maps Sv
def RLs(w:World)(v:Value)(ls:List Ln):Prop:=∃vs,(vs.length=ls.length/\∀i,i<ls.length->NsAt w (vs.getD i undef) (tp (ls.getD i default).rng)/\Rg (ls.getD i default).rng)/\zb3 w v ls.length (zav ls vs)
theorem RLs.below{B:Nat}{w w':World}{v:Value}{l:List Ln}(h:RLs w v l)(hb:Below B w w')(hB:w.heap.size<=B):RLs w' v l:=by
 obtain⟨vs,⟨h1,h2⟩,h3⟩:=h;exact⟨vs,⟨h1,fun i hi=>⟨(h2 i hi).1.below hb hB,(h2 i hi).2⟩⟩,h3.below hb hB⟩
theorem RLs.at{w:World}{v:Value}{l:List Ln}(h:RLs w v l)(i:Nat)(hi:i<l.length):∃g cap ra rc,v=.slice (some ⟨g,0,none⟩) l.length cap/\g<w.heap.size/\NsAt w (.slice ra (tp (l.getD i default).rng).length rc) (tp (l.getD i default).rng)/\Rg (l.getD i default).rng/\w.cell? ⟨g,i*7,none⟩=some (.int .i64 (l.getD i default).kind)/\w.cell? ⟨g,i*7+1,none⟩=some (.string (l.getD i default).name)/\w.cell? ⟨g,i*7+2,none⟩=some (.int .i64 (l.getD i default).a)/\w.cell? ⟨g,i*7+3,none⟩=some (.int .i64 (l.getD i default).b)/\w.cell? ⟨g,i*7+4,none⟩=some (.int .i64 (l.getD i default).c)/\w.cell? ⟨g,i*7+5,none⟩=some (.string (l.getD i default).other)/\w.cell? ⟨g,i*7+6,none⟩=some (.slice ra (tp (l.getD i default).rng).length rc):=by
 obtain⟨vs,⟨h1,h1'⟩,h2⟩:=h;obtain⟨g,cap,e,hg,hc⟩:=h2.cells (by omega);have H:=fun j u hu=>hc _ _ (zea l vs h1 i hi j u hu);have hN:=(h1' i hi).1;obtain⟨ra,rc,hf⟩:=hN.form;have h6:w.cell? ⟨g,i*7+6,none⟩=some (vs.getD i undef):=H 6 _ rfl;rw[hf] at hN h6;exact⟨g,cap,ra,rc,e,hg,hN,(h1' i hi).2,H 0 _ rfl,H 1 _ rfl,H 2 _ rfl,H 3 _ rfl,H 4 _ rfl,H 5 _ rfl,h6⟩
def zoG:Except (Int × Option Nat) (List It)->Int × Int
 |.ok _=>(0,-1)
 |.error (q,o)=>(q,zfn o)
theorem zha(its its':List It)(h:∀x,x∈its↔x∈its'):∀(ls:List Ln) (i:Nat),zbi ls i its=zbi ls i its':=by
 intro ls
 induction ls with
 |nil=>intro i;rfl
 |cons x r ih =>
  intro i;unfold zbi;rw[ih (i+1)]
  by_cases hp:x.pair/\x.it∉its
  ·rw[if_pos hp,if_pos ⟨hp.1,fun e=>hp.2 ((h _).2 e)⟩]
  ·rw[if_neg hp,if_neg (fun e=>hp ⟨e.1,fun e'=>e.2 ((h _).1 e')⟩)]
theorem zk0{ls:List Ln}(h:100<ls.length):zoG (zcr ls)=(4,-1):=by unfold zcr;rw[if_pos h];rfl
theorem zet{ls:List Ln}(h:¬100<ls.length){k:Int}{i:Nat}(hg:za2 ls 0 []=.error (k,i)):zoG (zcr ls)=(k,(i:Int)):=by unfold zcr;rw[if_neg h,hg];rfl
theorem zkU{ls:List Ln}(h:¬100<ls.length){its:List It}(hg:za2 ls 0 []=.ok its){i:Nat}(hm:zbi ls 0 its=some i):zoG (zcr ls)=(7,(i:Int)):=by
 unfold zcr;rw[if_neg h,hg];simp only;rw[zha (zbX its) its (fun x=>(zbK its).mem_iff),hm];rfl
theorem zpz{ls:List Ln}(h:¬100<ls.length){its:List It}(hg:za2 ls 0 []=.ok its)(hm:zbi ls 0 its=none):zoG (zcr ls)=(0,-1):=by
 unfold zcr;rw[if_neg h,hg];simp only;rw[zha (zbX its) its (fun x=>(zbK its).mem_iff),hm];rfl
theorem zm0:∀(ls:List Ln) (i:Nat) (its out:List It),za2 ls i its=.ok out->∀x∈ls,zay x=0:=by
 intro ls
 induction ls with
 |nil=>intro i its out _ x hx;cases hx
 |cons y r ih =>
  intro i its out h x hx;unfold za2 at h;split at h
  ·cases h
  ·rename_i hz;rcases List.mem_cons.1 hx with rfl|hx
   ·exact Classical.byContradiction fun h=>hz h
   ·split at h
    ·split at h
     ·cases h
     ·split at h
      ·cases h
      ·exact ih _ _ _ h x hx
    ·exact ih _ _ _ h x hx
theorem zlF{x:Ln}(h:zay x=0):zoC x.it:=by
 have hn:=zdP h;unfold zay at h;split at h
 ·cases h
 ·split at h
  ·cases h
  ·split at h
   ·cases h
   ·split at h
    ·cases h
    ·split at h
     ·cases h
     ·split at h
      ·cases h
      ·rename_i hi;have hi:InV x.a x.b x.c:=Classical.byContradiction fun e=>hi e;exact⟨show x.name.size<=100000 by omega,hi⟩
theorem zjG{w W:World}{b:Nat}(h:Blk W b 96 #[.int .i64 0,.int .i64 0])(hB:zB w W)(hb:w.heap.size<=b)(m pl:Int) :
  ((W.setCell ⟨b,0,none⟩ (.int .i64 m)).cell? ⟨b,1,none⟩=some (.int .i64 0)/\(W.setCell ⟨b,0,none⟩ (.int .i64 m)).frozen? ⟨b,1,none⟩=false) /\
  ((W.setCell ⟨b,0,none⟩ (.int .i64 m)).setCell ⟨b,1,none⟩ (.int .i64 pl)).cell? ⟨b,0,none⟩=some (.int .i64 m) /\
  ((W.setCell ⟨b,0,none⟩ (.int .i64 m)).setCell ⟨b,1,none⟩ (.int .i64 pl)).cell? ⟨b,1,none⟩=some (.int .i64 pl) /\
  zB w ((W.setCell ⟨b,0,none⟩ (.int .i64 m)).setCell ⟨b,1,none⟩ (.int .i64 pl)):=by
 have h1:=h.set (i:=0) (v:=.int .i64 m);have h2:=h1.set (i:=1) (v:=.int .i64 pl);exact⟨⟨h1.cell 1,h1.frozen 1⟩,h2.cell 0,h2.cell 1,(hB.setCell hb _).setCell hb _⟩
structure CS(w W:World)(its:List It):Prop where
 nm:zbA W (w.heap.size+1) its
 al:zbh W (w.heap.size+2) its
 f:Blk W w.heap.size 96 #[.int .i64 0,.int .i64 0]
 B:zB w W
theorem CS.step{w W W':World}{its:List It}(h:CS w W its)(hb:zB W W'):CS w W' its :=
 ⟨h.nm.below hb zN,h.al.below hb zN,h.f.below hb h.f.lt,zT h.B hb⟩
theorem CS.made(w:World):CS w (((w.alloc (.cells #[.int .i64 0,.int .i64 0] 96)).alloc (.map #[] 0)).alloc (.map #[] 0)) []:=by
 have h1:=zbA.made (w.alloc (.cells #[.int .i64 0,.int .i64 0] 96));have h2:=zbh.made ((w.alloc (.cells #[.int .i64 0,.int .i64 0] 96)).alloc (.map #[] 0));have h3:Below ((w.alloc (.cells #[.int .i64 0,.int .i64 0] 96)).alloc (.map #[] 0)).heap.size ((w.alloc (.cells #[.int .i64 0,.int .i64 0] 96)).alloc (.map #[] 0)) (((w.alloc (.cells #[.int .i64 0,.int .i64 0] 96)).alloc (.map #[] 0)).alloc (.map #[] 0)):=zF.alloc zN _;have h4:=h1.below h3 zN;simp only[World.size_alloc] at h2 h4;have h5:zB w (w.alloc (.cells #[.int .i64 0,.int .i64 0] 96)):=(Below.refl _ w).alloc zN _;exact⟨h4,h2,((Blk.new w _ _).alloc _).alloc _,((zL h5).alloc (by simp;omega) _)⟩
theorem CS.put{w W:World}{its:List It}(h:CS w W its)(hl:its.length<1000000){x:It}(hx:zoC x)(hn:x∉its) :
  ∃W1 W2,(Instr.mapUpdate 239 (.map (some (w.heap.size+1))) (.string x.name) (.bool true)).run Tryz.prog W=.ok () W1/\(Instr.mapUpdate 240 (.map (some (w.heap.size+2))) (.agg #[.string x.name,.int .i64 x.a,.int .i64 x.b,.int .i64 x.c]) (.bool true)).run Tryz.prog W1=.ok () W2/\CS w W2 (its++[x])/\(∀k t cs,Blk W k t cs->Blk W1 k t cs/\Blk W2 k t cs):=by
 obtain⟨W1,r1,n1,g1⟩:=h.nm.put hl hx.1;have a1:zbh W1 (w.heap.size+2) its:=h.al.block (g1.block _ h.al.lt (by simp));obtain⟨W2,r2,n2,g2⟩:=a1.put hl hx hn;have k1:∀k t cs,Blk W k t cs->Blk W1 k t cs:=fun k t cs hk=>hk.kept g1 (fun e=>h.nm.ne hk (Option.some.inj e).symm);have k2:∀k t cs,Blk W1 k t cs->Blk W2 k t cs:=fun k t cs hk=>hk.kept g2 (fun e=>a1.ne hk (Option.some.inj e).symm);refine⟨W1,W2,r1,r2,⟨n1.block (g2.block _ n1.lt (by simp)),n2,k2 _ _ _ (k1 _ _ _ h.f),?_⟩,fun k t cs hk=>⟨k1 k t cs hk,k2 k t cs (k1 k t cs hk)⟩⟩;have hB1:=h.B.grown g1 h.B.size (fun k hk=>by cases hk;omega);exact hB1.grown g2 hB1.size (fun k hk=>by cases hk;omega)
theorem zlG(ls:List Ln)(v:Value)(w:World)(h:RLs w v ls)(hl:ls.length<=100000)(hF:FineR w) :
  zR 58 #[v] w (.agg #[.int .i64 (zoG (zcr ls)).1,.int .i64 (zoG (zcr ls)).2]):=by
 obtain⟨la,lc,rfl⟩:∃la lc,v=.slice la ls.length lc:=by obtain⟨vs,_,h2⟩:=h;obtain⟨a,c,e,_⟩:=h2.form;exact⟨a,c,e⟩
 have HL:=zH h;have HFN:=zH hF;clear h hF;obtain⟨N,hN⟩:∃N,zoG (zcr ls)=N:=⟨_,rfl⟩;rw[hN];have HN:=zH hN;clear hN
 by_cases h100:100<ls.length
 ·have HNL:Hid (N=(4,-1)):=by show _=_;rw[<-HN.out];exact zk0 h100
  have h100':(100:Int)<(ls.length:Int):=by omega
  have HBR:=zH (zdN 4 (w.alloc (.cells #[.int .i64 0,.int .i64 0] 96)));have kf:=Blk.new w 96 #[.int .i64 0,.int .i64 0];have hbf:zB w (w.alloc (.cells #[.int .i64 0,.int .i64 0] 96)):=(Below.refl _ w).alloc zN _;clear HN h100;go_enter Tryz.func58,Tryz.ntmps58;go_wp2_with fail;refine HBR.out.mono ?_;rintro e w1 ⟨rfl,hb1⟩;have kf1:=kf.below hb1 kf.lt;have q0:_=some (Value.int .i64 0):=kf1.cell 0;have q1:_=some (Value.int .i64 0):=kf1.cell 1;have q2:=kf1.frozen 0;have q3:=kf1.frozen 1;obtain⟨⟨p0,p1⟩,p2,p3,p4⟩:=zjG kf1 (zT hbf hb1) zN 4 (-1);have P2:=zH p2;have P3:=zH p3;have P4:=zH p4;clear p2 p3 p4 kf kf1 hbf hb1 HBR;go_wp2;exact bodyPost_ret (v:=.agg #[.int .i64 4,.int .i64 (-1)]) (by simp[results,Tryz.results58,go_sem,P2.out,P3.out]) rfl ⟨by rw[HNL.out],P4.out⟩
 have h100':¬(100:Int)<(ls.length:Int):=by omega
 obtain⟨R,hR⟩:∃R,za2 ls 0 []=R:=⟨_,rfl⟩;have HR:=zH hR;have HC0:=zH (CS.made w);clear hR;have hmm:=@run_makeMap Tryz.prog;go_enter Tryz.func58,Tryz.ntmps58;go_wp2_with fail;clear hmm;generalize ((w.alloc (.cells #[.int .i64 0,.int .i64 0] 96)).alloc (.map #[] 0)).alloc (.map #[] 0)=W0 at *;simp only[Nat.add_assoc] at *;go_loopw [19] (fun iV wr=>∃(i:Nat) (its:List It),i<=ls.length/\iV=.int .i64 i/\its.length<=24/\za2 (ls.drop i) i its=R/\CS w wr its) (fun iV _=>ls.length-(intOf iV).toNat)
 case atStart=>exact⟨0,[],Nat.zero_le _,rfl,Nat.zero_le _,by rw[List.drop_zero];exact HR.out,HC0.out⟩
 case round =>
  obtain⟨i,its,hi,rfl,hil,hga,hcs⟩:=hrel;clear HC0
  by_cases hlt:i<ls.length
  ·obtain⟨g,cap',ra,rc,e,hg,hsp,hrg,c0,c1,c2,c3,c4,c5,c6⟩:=(HL.out.below hcs.B zN).at i hlt;simp at e;obtain⟨rfl,rfl⟩:=e;rw[zil hlt] at hga;have HGA:=zH hga;clear hga hrg hsp;generalize ls.getD i default=x at *;have kx:=Blk.new wr 101 #[.int .i64 x.kind,.string x.name,.int .i64 x.a,.int .i64 x.b,.int .i64 x.c,.string x.other,.slice ra (tp x.rng).length rc];have hbx:zB wr (wr.alloc (.cells #[.int .i64 x.kind,.string x.name,.int .i64 x.a,.int .i64 x.b,.int .i64 x.c,.string x.other,.slice ra (tp x.rng).length rc] 101)):=zF.alloc zN _;have HC1:Hid (CS w (wr.alloc (.cells #[.int .i64 x.kind,.string x.name,.int .i64 x.a,.int .i64 x.b,.int .i64 x.c,.string x.other,.slice ra (tp x.rng).length rc] 101)) its):=hcs.step hbx;have HCHK:=zH (zqB x ra rc (wr.alloc (.cells #[.int .i64 x.kind,.string x.name,.int .i64 x.a,.int .i64 x.b,.int .i64 x.c,.string x.other,.slice ra (tp x.rng).length rc] 101)));have HNM:Hid (zay x=0->zoC x.it):=zlF;clear hcs hbx;go_upto_region 7 with fail;clear c0 c1 c2 c3 c4 c5 c6;generalize wr.alloc (.cells #[.int .i64 x.kind,.string x.name,.int .i64 x.a,.int .i64 x.b,.int .i64 x.c,.string x.other,.slice ra (tp x.rng).length rc] 101)=W1 at *;generalize wr.heap.size=bx at *;have d0:_=some (Value.int .i64 x.kind):=kx.cell 0;have d1:_=some (Value.string x.name):=kx.cell 1;have d2:_=some (Value.int .i64 x.a):=kx.cell 2;have d3:_=some (Value.int .i64 x.b):=kx.cell 3;have d4:_=some (Value.int .i64 x.c):=kx.cell 4;have d5:_=some (Value.string x.other):=kx.cell 5;have d6:_=some (Value.slice ra (tp x.rng).length rc):=kx.cell 6;go_wp2_with fail;clear d0 d1 d2 d3 d4 d5 d6;refine HCHK.out.mono ?_;rintro e w2 ⟨rfl,hb2⟩;have kx2:=kx.below hb2 kx.lt;have HC2:=zH (HC1.out.step hb2);clear HCHK hb2 kx HC1
   by_cases hz:zay x=0
   ·have HOK:=zH (HNM.out hz);rw[hz] at HGA ⊢;rw[if_neg (by simp)] at HGA;clear hz HNM
    by_cases hk:x.kind=1
    ·rw[if_pos hk] at HGA;have d0:_=some (Value.int .i64 x.kind):=kx2.cell 0;have d1:_=some (Value.string x.name):=kx2.cell 1;have d2:_=some (Value.int .i64 x.a):=kx2.cell 2;have d3:_=some (Value.int .i64 x.b):=kx2.cell 3;have d4:_=some (Value.int .i64 x.c):=kx2.cell 4;have d5:_=some (Value.string x.other):=kx2.cell 5;have d6:_=some (Value.slice ra (tp x.rng).length rc):=kx2.cell 6;rw[hk] at d0;have ki:=Blk.new w2 93 #[.string x.name,.int .i64 x.a,.int .i64 x.b,.int .i64 x.c];have hbi:zB w2 (w2.alloc (.cells #[.string x.name,.int .i64 x.a,.int .i64 x.b,.int .i64 x.c] 93)):=zF.alloc zN _;have HC3:=zH (HC2.out.step hbi);have kx3:=kx2.below hbi kx2.lt;clear hbi HC2 kx2;go_upto_region 12 with fail;clear d0 d1 d2 d3 d4 d5 d6;generalize w2.alloc (.cells #[.string x.name,.int .i64 x.a,.int .i64 x.b,.int .i64 x.c] 93)=W3 at *;generalize w2.heap.size=bi at *;have hlook:(Instr.lookup 240 (.map (some (w.heap.size+2))) (.agg #[.string x.name,.int .i64 x.a,.int .i64 x.b,.int .i64 x.c]) false).run Tryz.prog W3=.ok (.bool (decide (x.it∈its))) W3:=HC3.out.al.look (x:=x.it) HOK.out;have e0:_=some (Value.string x.name):=ki.cell 0;have e1:_=some (Value.int .i64 x.a):=ki.cell 1;have e2:_=some (Value.int .i64 x.b):=ki.cell 2;have e3:_=some (Value.int .i64 x.c):=ki.cell 3
     by_cases hm:x.it∈its
     ·rw[if_pos hm] at HGA;rw[decide_eq_true hm] at hlook;have HNE:Hid (N=(9,(i:Int))):=by show _=_;rw[<-HN.out];exact zet h100 (HR.out.trans HGA.out.symm)
      clear hm HN HR HGA ki kx3;have q0:_=some (Value.int .i64 0):=HC3.out.f.cell 0;have q1:_=some (Value.int .i64 0):=HC3.out.f.cell 1;have q2:=HC3.out.f.frozen 0;have q3:=HC3.out.f.frozen 1;obtain⟨⟨p0,p1⟩,p2,p3,p4⟩:=zjG HC3.out.f HC3.out.B zN 9 (i:Int);have P2:=zH p2;have P3:=zH p3;have P4:=zH p4;clear p2 p3 p4 HC3;go_wp2;exact bodyPost_ret (v:=.agg #[.int .i64 9,.int .i64 i]) (by simp[results,Tryz.results58,go_sem,P2.out,P3.out]) rfl ⟨by rw[HNE.out],P4.out⟩
     ·rw[if_neg hm] at HGA;rw[decide_eq_false hm] at hlook;have hd:=HC3.out.step ((Below.refl _ W3).drew);obtain⟨V1,V2,r1,r2,hcs4,hkeep⟩:=hd.put (by omega) (x:=x.it) HOK.out hm;have r1':(Instr.mapUpdate 239 (.map (some (w.heap.size+1))) (.string x.name) (.bool true)).run Tryz.prog W3.drew=.ok () V1:=r1;have r2':(Instr.mapUpdate 240 (.map (some (w.heap.size+2))) (.agg #[.string x.name,.int .i64 x.a,.int .i64 x.b,.int .i64 x.c]) (.bool true)).run Tryz.prog V1=.ok () V2:=r2;have HC4:=zH hcs4;clear r1 r2 hcs4 hd hm;have d1:_=some (Value.string x.name):=kx3.cell 1;go_upto_region 14 with fail;have kiv:=(hkeep _ _ _ (show Blk W3.drew bi 93 #[.string x.name,.int .i64 x.a,.int .i64 x.b,.int .i64 x.c] from ki)).1;have f0:_=some (Value.string x.name):=kiv.cell 0;have f1:_=some (Value.int .i64 x.a):=kiv.cell 1;have f2:_=some (Value.int .i64 x.b):=kiv.cell 2;have f3:_=some (Value.int .i64 x.c):=kiv.cell 3;clear hkeep;go_region;clear d1 e0 e1 e2 e3 f0 f1 f2 f3 r1' r2' hlook kiv ki kx3 HC3 HOK;have hn1:=fun ty=>HC4.out.nm.len ty;have hn2:=fun ty=>HC4.out.al.len ty;obtain⟨LL,hLL⟩:∃LL,(its++[x.it]).length=LL:=⟨_,rfl⟩;have hLL':LL=its.length+1:=by rw[<-hLL];simp
      rw[hLL] at hn2;generalize hNN:zaY (its++[x.it])=NN at *;clear hNN hLL
      by_cases h8:8<NN
      ·rw[if_pos (Or.inl h8)] at HGA;have h8':(8:Int)<(NN:Int):=by omega
       have HNE:Hid (N=(4,(i:Int))):=by show _=_;rw[<-HN.out];exact zet h100 (HR.out.trans HGA.out.symm)
       clear HN HR HGA h8;have q0:_=some (Value.int .i64 0):=HC4.out.f.cell 0;have q1:_=some (Value.int .i64 0):=HC4.out.f.cell 1;have q2:=HC4.out.f.frozen 0;have q3:=HC4.out.f.frozen 1;obtain⟨⟨p0,p1⟩,p2,p3,p4⟩:=zjG HC4.out.f HC4.out.B zN 4 (i:Int);have P2:=zH p2;have P3:=zH p3;have P4:=zH p4;clear p2 p3 p4 HC4;go_wp2;exact bodyPost_ret (v:=.agg #[.int .i64 4,.int .i64 i]) (by simp[results,Tryz.results58,go_sem,P2.out,P3.out]) rfl ⟨by rw[HNE.out],P4.out⟩
      ·have h8':¬(8:Int)<(NN:Int):=by omega
       by_cases h24:its.length=24
       ·rw[if_pos (Or.inr h24)] at HGA;have h24':(24:Int)<(LL:Int):=by omega
        have HNE:Hid (N=(4,(i:Int))):=by show _=_;rw[<-HN.out];exact zet h100 (HR.out.trans HGA.out.symm)
        clear HN HR HGA h8 h24;have q0:_=some (Value.int .i64 0):=HC4.out.f.cell 0;have q1:_=some (Value.int .i64 0):=HC4.out.f.cell 1;have q2:=HC4.out.f.frozen 0;have q3:=HC4.out.f.frozen 1;obtain⟨⟨p0,p1⟩,p2,p3,p4⟩:=zjG HC4.out.f HC4.out.B zN 4 (i:Int);have P2:=zH p2;have P3:=zH p3;have P4:=zH p4;clear p2 p3 p4 HC4;go_wp2;exact bodyPost_ret (v:=.agg #[.int .i64 4,.int .i64 i]) (by simp[results,Tryz.results58,go_sem,P2.out,P3.out]) rfl ⟨by rw[HNE.out],P4.out⟩
       ·rw[if_neg (fun h=>h.elim h8 h24)] at HGA;have h24':¬(24:Int)<(LL:Int):=by omega
        go_wp2;go_roundw
        case rel=>exact⟨_,_,_,_,.int .i64 ((i+1:Nat):Int),⟨i+1,by omega,rfl,its++[x.it],by simp;omega,HGA.out,HC4.out⟩,rfl,rfl,rfl,rfl,by go_num⟩
        case measure=>simp[intOf];omega
    ·rw[if_neg hk] at HGA;have d0:_=some (Value.int .i64 x.kind):=kx2.cell 0;have d1:_=some (Value.string x.name):=kx2.cell 1;have d2:_=some (Value.int .i64 x.a):=kx2.cell 2;have d3:_=some (Value.int .i64 x.b):=kx2.cell 3;have d4:_=some (Value.int .i64 x.c):=kx2.cell 4;have d5:_=some (Value.string x.other):=kx2.cell 5;have d6:_=some (Value.slice ra (tp x.rng).length rc):=kx2.cell 6;clear kx2 HOK;go_wp2;go_roundw
     case rel=>exact⟨_,_,_,_,.int .i64 ((i+1:Nat):Int),_,_,_,_,_,_,_,_,_,_,_,_,_,_,_,_,_,_,_,_,_,_,_,_,_,_,_,_,_,_,_,_,_,_,_,_,_,_,_,_,⟨i+1,its,by omega,rfl,hil,HGA.out,HC2.out⟩,by repeat' (first|rfl|go_num|constructor)⟩
     case measure=>simp[intOf];omega
   ·rw[if_pos hz] at HGA;have HNE:Hid (N=(zay x,(i:Int))):=by show _=_;rw[<-HN.out];exact zet h100 (HR.out.trans HGA.out.symm)
    clear HN HR HGA HNM kx2;generalize zay x=Q at *;have q0:_=some (Value.int .i64 0):=HC2.out.f.cell 0;have q1:_=some (Value.int .i64 0):=HC2.out.f.cell 1;have q2:=HC2.out.f.frozen 0;have q3:=HC2.out.f.frozen 1;obtain⟨⟨p0,p1⟩,p2,p3,p4⟩:=zjG HC2.out.f HC2.out.B zN Q (i:Int);have P2:=zH p2;have P3:=zH p3;have P4:=zH p4;clear p2 p3 p4 HC2;go_wp2;exact bodyPost_ret (v:=.agg #[.int .i64 Q,.int .i64 i]) (by simp[results,Tryz.results58,go_sem,P2.out,P3.out]) rfl ⟨by rw[HNE.out],P4.out⟩
  ·obtain rfl:i=ls.length:=by omega
   have HOKG:Hid (za2 ls 0 []=.ok its):=by show _=_;rw[HR.out,<-hga,List.drop_length,za2]
   have HCK:=zH (zm0 ls 0 [] its HOKG.out);have HCS:=zH hcs;clear hga hcs HR hlt hi hil;go_wp2_with fail;go_loopw [62] (fun iV wz=>∃i:Nat,i<=ls.length/\iV=.int .i64 i/\zbi (ls.drop i) i its=zbi ls 0 its/\CS w wz its) (fun iV _=>ls.length-(intOf iV).toNat)
   case atStart=>exact⟨0,Nat.zero_le _,rfl,by rw[List.drop_zero],HCS.out⟩
   case round =>
    obtain⟨i,hi,rfl,hms,hcs⟩:=hrel;clear HCS
    by_cases hlt:i<ls.length
    ·obtain⟨g,cap',ra,rc,e,hg,hsp,hrg,c0,c1,c2,c3,c4,c5,c6⟩:=(HL.out.below hcs.B zN).at i hlt;simp at e;obtain⟨rfl,rfl⟩:=e;rw[ziv hlt] at hms;have HMS:=zH hms;have HCX:Hid (zay (ls.getD i default)=0):=HCK.out _ (by rw[List.getD_eq_getElem?_getD,List.getElem?_eq_getElem hlt];exact List.getElem_mem hlt);clear hms hrg hsp;generalize ls.getD i default=x at *;have HOK:=zH (zlF HCX.out);have kx:=Blk.new wr 101 #[.int .i64 x.kind,.string x.name,.int .i64 x.a,.int .i64 x.b,.int .i64 x.c,.string x.other,.slice ra (tp x.rng).length rc];have hbx:zB wr (wr.alloc (.cells #[.int .i64 x.kind,.string x.name,.int .i64 x.a,.int .i64 x.b,.int .i64 x.c,.string x.other,.slice ra (tp x.rng).length rc] 101)):=zF.alloc zN _;have HC1:Hid (CS w (wr.alloc (.cells #[.int .i64 x.kind,.string x.name,.int .i64 x.a,.int .i64 x.b,.int .i64 x.c,.string x.other,.slice ra (tp x.rng).length rc] 101)) its):=hcs.step hbx;clear hcs hbx HCX;go_upto_region 21 with fail;clear c0 c1 c2 c3 c4 c5 c6;generalize wr.alloc (.cells #[.int .i64 x.kind,.string x.name,.int .i64 x.a,.int .i64 x.b,.int .i64 x.c,.string x.other,.slice ra (tp x.rng).length rc] 101)=W1 at *;generalize wr.heap.size=bx at *;have hlook:(Instr.lookup 240 (.map (some (w.heap.size+2))) (.agg #[.string x.name,.int .i64 x.a,.int .i64 x.b,.int .i64 x.c]) false).run Tryz.prog W1=.ok (.bool (decide (x.it∈its))) W1:=HC1.out.al.look (x:=x.it) HOK.out;have d0:_=some (Value.int .i64 x.kind):=kx.cell 0;have d1:_=some (Value.string x.name):=kx.cell 1;have d2:_=some (Value.int .i64 x.a):=kx.cell 2;have d3:_=some (Value.int .i64 x.b):=kx.cell 3;have d4:_=some (Value.int .i64 x.c):=kx.cell 4;have d5:_=some (Value.string x.other):=kx.cell 5;have d6:_=some (Value.slice ra (tp x.rng).length rc):=kx.cell 6;clear kx HOK
     by_cases hpr:x.pair
     ·have hk23:x.kind=2\/x.kind=3:=hpr
      by_cases hm:x.it∈its
      ·rw[decide_eq_true hm] at hlook;have HM:Hid (zbi (ls.drop (i+1)) (i+1) its=zbi ls 0 its):=by show _=_;rw[<-HMS.out,if_neg (fun h=>h.2 hm)]
       clear HMS hm hpr;rcases hk23 with hk|hk
       ·rw[hk] at d0;go_wp2;go_roundw
        case rel=>exact⟨i+1,by omega,by go_num,HM.out,HC1.out⟩
        case measure=>simp[intOf];omega
       ·rw[hk] at d0;go_wp2;go_roundw
        case rel=>exact⟨i+1,by omega,by go_num,HM.out,HC1.out⟩
        case measure=>simp[intOf];omega
      ·rw[decide_eq_false hm] at hlook;have HM:Hid (zbi ls 0 its=some i):=by show _=_;rw[<-HMS.out,if_pos ⟨hpr,hm⟩]
       have HNE:Hid (N=(7,(i:Int))):=by show _=_;rw[<-HN.out];exact zkU h100 HOKG.out HM.out
       clear HMS hm hpr HM HN HOKG HCK;rcases hk23 with hk|hk
       ·rw[hk] at d0;have q0:_=some (Value.int .i64 0):=HC1.out.f.cell 0;have q1:_=some (Value.int .i64 0):=HC1.out.f.cell 1;have q2:=HC1.out.f.frozen 0;have q3:=HC1.out.f.frozen 1;obtain⟨⟨p0,p1⟩,p2,p3,p4⟩:=zjG HC1.out.f HC1.out.B zN 7 (i:Int);have P2:=zH p2;have P3:=zH p3;have P4:=zH p4;clear p2 p3 p4 HC1;go_wp2;exact bodyPost_ret (v:=.agg #[.int .i64 7,.int .i64 i]) (by simp[results,Tryz.results58,go_sem,P2.out,P3.out]) rfl ⟨by rw[HNE.out],P4.out⟩
       ·rw[hk] at d0;have q0:_=some (Value.int .i64 0):=HC1.out.f.cell 0;have q1:_=some (Value.int .i64 0):=HC1.out.f.cell 1;have q2:=HC1.out.f.frozen 0;have q3:=HC1.out.f.frozen 1;obtain⟨⟨p0,p1⟩,p2,p3,p4⟩:=zjG HC1.out.f HC1.out.B zN 7 (i:Int);have P2:=zH p2;have P3:=zH p3;have P4:=zH p4;clear p2 p3 p4 HC1;go_wp2;exact bodyPost_ret (v:=.agg #[.int .i64 7,.int .i64 i]) (by simp[results,Tryz.results58,go_sem,P2.out,P3.out]) rfl ⟨by rw[HNE.out],P4.out⟩
     ·have HM:Hid (zbi (ls.drop (i+1)) (i+1) its=zbi ls 0 its):=by show _=_;rw[<-HMS.out,if_neg (fun h=>hpr h.1)]
      have hk2:¬x.kind=2:=fun h=>hpr (Or.inl h);have hk3:¬x.kind=3:=fun h=>hpr (Or.inr h);have hk2':(x.kind==2)=false:=by rw[beq_eq_false_iff_ne];exact hk2
      have hk3':(x.kind==3)=false:=by rw[beq_eq_false_iff_ne];exact hk3
      clear HMS hpr hk2 hk3 hlook;go_wp2;go_roundw
      case rel=>exact⟨i+1,by omega,by go_num,HM.out,HC1.out⟩
      case measure=>simp[intOf];omega
    ·obtain rfl:i=ls.length:=by omega
     have HM:Hid (zbi ls 0 its=none):=by show _=_;rw[<-hms,List.drop_length,zbi]
     have HNE:Hid (N=(0,-1)):=by show _=_;rw[<-HN.out];exact zpz h100 HOKG.out HM.out
     have HC1:=zH hcs;have hf1:=HFN.out.below hcs.B;have g0:=hf1.c0;have g1:=hf1.c1;clear hms hcs HM HN HOKG HCK hf1 hlt hi;have q0:_=some (Value.int .i64 0):=HC1.out.f.cell 0;have q1:_=some (Value.int .i64 0):=HC1.out.f.cell 1;have q2:=HC1.out.f.frozen 0;have q3:=HC1.out.f.frozen 1;obtain⟨⟨p0,p1⟩,p2,p3,p4⟩:=zjG HC1.out.f HC1.out.B zN 0 (-1);have P2:=zH p2;have P3:=zH p3;have P4:=zH p4;clear p2 p3 p4 HC1;go_wp2;exact bodyPost_ret (v:=.agg #[.int .i64 0,.int .i64 (-1)]) (by simp[results,Tryz.results58,go_sem,P2.out,P3.out]) rfl ⟨by rw[HNE.out],P4.out⟩
end
end Go.Proofs.YtiihalknffbjpaaGreatDoor
