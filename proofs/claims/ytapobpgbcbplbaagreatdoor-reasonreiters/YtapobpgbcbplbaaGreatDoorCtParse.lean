/- Parse. -/
import Derived.Test.YtapobpgbcbplbaaGreatDoorCtGet
set_option maxHeartbeats 4000000
set_option maxRecDepth 100000
namespace Go.Proofs.YtapobpgbcbplbaaGreatDoor
open Go.RowKit Go.Deep Go.Shelf Sv
attribute [local go_sem] Oper.semAt_some
def zai(w:World)(r:Except (Int × Option Nat) (List Ln × List It))(e:Ending)(w':World):Prop :=
 match r with
 |.ok (ls,its)=>∃bc vs,e=.returned (.tuple #[.pointer (some ⟨bc,0,none⟩),.nilIface])/\yg w' bc ls vs its w.heap.size/\(∀k,k<w.heap.size->RgN ls vs (some k))/\zB w w'
 |.error (k,p)=>∃er,e=.returned (.tuple #[.pointer none,er])/\qF w' er k p/\zB w w'
theorem yg.base{w:World}{b:Nat}{ls:List Ln}{vs:List Value}{its:List It}{B B':Nat}(h:yg w b ls vs its B)(hB:B'<=B):yg w b ls vs its B':=by
 obtain⟨lv,iv,bm,h1,h2,h3,h4,h5,h6,h7,h8,h9⟩:=h;exact⟨lv,iv,bm,h1,h2,h3,h4,h5,Nat.le_trans hB h6,Nat.le_trans hB h7,fun g hg=>Nat.le_trans hB (h8 g hg),fun g hg=>Nat.le_trans hB (h9 g hg)⟩
theorem zmW(er:Value)(k:Int)(p:Option Nat)(w:World)(hg:xP w)(h:qF w er k p):zR 26 #[er] w (.int .i64 k):=by
 cases p with
 |none=>obtain rfl:er=_:=h;exact(ze4 k w hg)
 |some q =>obtain⟨N,rfl,hN⟩:=h;exact zkg k N w hg (hN.cell 0)
theorem zmP(s:ByteArray)(w:World)(hs:20000<s.size):zC 10 #[.string s] w (zai w (.error (4,none))):=by
 have hl:(20000:Int)<(s.size:Int):=by omega
 generalize hn:(s.size:Int)=n at *;clear hs;go_enter Tryz.func10,Tryz.ntmps10;go_wp2;have k0:=(Blk.new w 22 #[.pointer none]).alloc (.cells #[.iface 64 (.int .i64 4)] 41);have k1:=Blk.new (w.alloc (.cells #[.pointer none] 22)) 41 #[.iface 64 (.int .i64 4)];rw[World.size_alloc] at k1;have hB:zB w ((w.alloc (.cells #[.pointer none] 22)).alloc (.cells #[.iface 64 (.int .i64 4)] 41)):=((Below.refl _ w).alloc zN _).alloc (by simp only[World.size_alloc];omega) _;generalize (w.alloc (.cells #[.pointer none] 22)).alloc (.cells #[.iface 64 (.int .i64 4)] 41)=WF at *;have r0:=k0.cell 0;have r3:=k1.cell 0;refine bodyPost_ret (v:=.tuple #[.pointer none,.iface 64 (.int .i64 4)]) (by simp[results,Tryz.f10,go_sem,r0,r3]) rfl ?_;exact⟨_,rfl,rfl,hB⟩
theorem Jl:∀(ls:List Ln) (i:Nat) (its:List It) (k:Int) (j:Nat),ql ls i its=.error (k,j)->i<=j/\j<i+ls.length
 |[],i,its,k,j,h=>by cases h
 |x :: r,i,its,k,j,h=>by
  rw[ql] at h;split at h
  ·cases h;exact⟨Nat.le_refl _,by simp⟩
  ·split at h
   ·split at h
    ·cases h;exact⟨Nat.le_refl _,by simp⟩
    ·split at h
     ·cases h;exact⟨Nat.le_refl _,by simp⟩
     ·have:=Jl r (i+1) _ k j h;simp;omega
   ·have:=Jl r (i+1) _ k j h;simp;omega
theorem zdw:∀(ls:List Ln) (i:Nat) (its:List It) (j:Nat),yn ls i its=some j->j<i+ls.length
 |[],i,its,j,h=>by cases h
 |x :: r,i,its,j,h=>by
  rw[yn] at h;split at h
  ·cases h;simp
  ·have:=zdw r (i+1) its j h;simp;omega
theorem zim{ls:List Ln}{k:Int}{i:Nat}(h:qU ls=.error (k,some i)):i<ls.length:=by
 unfold qU at h;split at h
 ·cases h
 ·split at h
  ·rename_i e he;cases h;have:=Jl ls 0 [] e.1 e.2 he;omega
  ·split at h
   ·rename_i j hj;cases h;have:=zdw ls 0 _ i hj;omega
   ·cases h
theorem KE{W:World}{b i:Nat}{v:Value}{t:TypeId}{cs:Array Value}(h:Blk W b t cs)(hv:cs[i]?=some v):W.setCell ⟨b,i,none⟩ v=W:=by
 have e:(W.setCell ⟨b,i,none⟩ v).heap=W.heap:=by
  apply Array.ext_getElem?;intro k
  by_cases hk:k=b
  ·subst hk;have h1:(W.setCell ⟨k,i,none⟩ v).heap[k]?=_:=h.set (i:=i) (v:=v);rw[h1,show W.heap[k]?=_ from h];congr 2;apply Array.ext_getElem?;intro j;rw[Array.getElem?_setIfInBounds]
   by_cases hj:i=j
   ·subst hj;obtain⟨hlt,-⟩:=Array.getElem?_eq_some_iff.1 hv;rw[if_pos rfl,if_pos hlt,hv]
   ·rw[if_neg hj]
  ·exact Below.heap_setCell _ _ _ k hk
 have e2:W.setCell ⟨b,i,none⟩ v={ W with heap:=(W.setCell ⟨b,i,none⟩ v).heap }:=rfl;rw[e2,e]
theorem zio(w:World):(Instr.typeAssert .nilIface 41 83 true).run Tryz.prog w=.ok (.tuple #[.pointer none,.bool false]) w:=by kernel_rfl
def PaI(w:World)(pre:List Pc)(W:World):Prop:=∃lv sv ls vs ss,(∃ps,plF (zW pre) []=.ok ps/\ls=ps.map Prod.snd/\ss=ps.map Prod.fst)/\PS w W lv sv ls vs ss
def PaX(w:World)(c:Code)(pre:List Pc)(W:World):Prop :=
 (c=.ret/\∃k i N,plF (zW pre) []=.error (k,i)/\Blk W w.heap.size 22 #[.pointer none]/\Blk W (w.heap.size+1) 41 #[.iface 83 (.pointer (some ⟨N,0,none⟩))]/\Blk W N 86 #[.int .i64 k,.int .i64 i])/\zB w W
theorem zlW(w:World)(B:Nat)(hB:w.heap.size<=B):∀c,OwnFrom B (PaX w c):=by
 intro c pre W W' row ⟨⟨hc,k,i,N,h1,h2,h3,h4⟩,h6⟩ hg hr;have hr':∀r,row=some r->∃o:Obj,W.heap[r]?=some o/\o.isCells=false:=fun r e=>(hr r e).2;exact⟨⟨hc,k,i,N,h1,qZ h2 hg hr',qZ h3 hg hr',qZ h4 hg hr'⟩,ownFrom_below (β:=Unit) zN hB () W W' row h6 hg hr⟩
theorem zkU(s:ByteArray)(w:World)(hs:s.size<=20000)(hw:Lw w) :
  CallsIn Fence.wide 4 Tryz.prog 10 #[.string s] w (zai w (xz s)):=by
 have HP:Hid (∀W,CallsIn Fence.wide 3 Tryz.prog 24 #[.string s] W fun e w'=>e=.returned (.func (.func 49) #[] #[.pointer (some ⟨W.heap.size,0,none⟩)])/\w'=W.alloc (.cells #[.string s] 9)):=fun W=>zoT s W;have HL:=zH hw;have hbig:=hw.lb.big;obtain⟨R,hR⟩:∃R,xz s=R:=⟨_,rfl⟩;rw[hR];have HR:=zH hR;clear hw hR;have hns:¬(20000:Int)<(s.size:Int):=by omega
 refine callsIn_of_wp_marks Tryz.func10 rfl trivial ?_ rfl;simp only[Tryz.ntmps10,List.size_toArray,List.length_cons,List.length_nil,Nat.reduceAdd,Nat.reduceSub,Array.replicate_succ,Array.replicate_zero,List.push_toArray,List.append_toArray,List.nil_append,List.cons_append]
 gi_wp2_with (refine⟨trivial,?_⟩;gi_at_call 24;refine(HP.out _).mono ?_;rintro e w' ⟨rfl,rfl⟩)
 clear HP;have k0:=((((Blk.new w 22 #[.pointer none]).alloc (.cells #[.nilIface] 41)).alloc (.cells #[.slice none 0 0] 30)).alloc (.cells #[.slice none 0 0] 24)).alloc (.cells #[.string s] 9);have k1:=(((Blk.new (w.alloc (.cells #[.pointer none] 22)) 41 #[.nilIface]).alloc (.cells #[.slice none 0 0] 30)).alloc (.cells #[.slice none 0 0] 24)).alloc (.cells #[.string s] 9);have k2:=((Blk.new ((w.alloc (.cells #[.pointer none] 22)).alloc (.cells #[.nilIface] 41)) 30 #[.slice none 0 0]).alloc (.cells #[.slice none 0 0] 24)).alloc (.cells #[.string s] 9);have k3:=(Blk.new (((w.alloc (.cells #[.pointer none] 22)).alloc (.cells #[.nilIface] 41)).alloc (.cells #[.slice none 0 0] 30)) 24 #[.slice none 0 0]).alloc (.cells #[.string s] 9);have k4:=Blk.new ((((w.alloc (.cells #[.pointer none] 22)).alloc (.cells #[.nilIface] 41)).alloc (.cells #[.slice none 0 0] 30)).alloc (.cells #[.slice none 0 0] 24)) 9 #[.string s];simp only[World.size_alloc] at k1 k2 k3 k4;have hB0:zB w (((((w.alloc (.cells #[.pointer none] 22)).alloc (.cells #[.nilIface] 41)).alloc (.cells #[.slice none 0 0] 30)).alloc (.cells #[.slice none 0 0] 24)).alloc (.cells #[.string s] 9)):=(((((Below.refl _ w).alloc zN _).alloc (by simp only[World.size_alloc];omega) _).alloc (by simp only[World.size_alloc];omega) _).alloc (by simp only[World.size_alloc];omega) _).alloc (by simp only[World.size_alloc];omega) _;have hsz:(((((w.alloc (.cells #[.pointer none] 22)).alloc (.cells #[.nilIface] 41)).alloc (.cells #[.slice none 0 0] 30)).alloc (.cells #[.slice none 0 0] 24)).alloc (.cells #[.string s] 9)).heap.size=w.heap.size+1+1+1+1+1:=by simp only[World.size_alloc]
 obtain⟨W0,hW0⟩:∃W0,((((w.alloc (.cells #[.pointer none] 22)).alloc (.cells #[.nilIface] 41)).alloc (.cells #[.slice none 0 0] 30)).alloc (.cells #[.slice none 0 0] 24)).alloc (.cells #[.string s] 9)=W0:=⟨_,rfl⟩;rw[hW0] at k0 k1 k2 k3 k4 hB0 hsz ⊢;clear hW0;have hps0:PS w W0 (.slice none 0 0) (.slice none 0 0) [] [] []:=⟨k0,k1,k2,k3,World.ownsRow_nil _ _ _ _,World.ownsRow_nil _ _ _ _,zm8 _,RgN.nil _,RgN.nil _,fun _ _=>RgN.nil _,hB0,by omega⟩;obtain⟨n,hn⟩:=(HL.out.lb.below hB0).ml;have c4:_=some (Value.string s):=k4.cell 0;clear k0 k1 k2 k3 k4;obtain⟨i0,hin,hz0,hz1,hz2⟩:=info_parts zfh;obtain⟨i1,hin1,hy0,hy1,hy2⟩:=info_parts Zm;refine wpIn_rangeFunc_ownF rfl (by omega) (gf:=49) (lb:=#[.pointer (some ⟨w.heap.size+1+1+1+1,0,none⟩)]) rfl trivial (enters_of Tryz.func49 (by kernel_rfl) rfl)
  (zmz (w.heap.size+1+1+1+1) s hs W0 (by omega) (by omega) c4 n hn) zaf (znj (by omega) (by omega)) zF (fun _=>rfl)
  (fun pre W=>PaI w pre W)
  (fun c pre W=>PaX w c pre W)
  (PS.own W0.heap.size (by omega) _) (zlW w W0.heap.size (by omega))
  ⟨_,_,[],[],[],⟨[],rfl,rfl,rfl⟩,hps0⟩
  (fun x=>{ tmps:=#[.string s,undef,.pointer (some ⟨w.heap.size,0,none⟩),.pointer (some ⟨w.heap.size+1,0,none⟩),.pointer (some ⟨w.heap.size+1+1,0,none⟩),.pointer (some ⟨w.heap.size+1+1+1,0,none⟩),.int .i64 x.1.1,.string x.1.2,undef,undef,undef,undef,undef,undef,.string s,.int .i64 s.size,.bool false,undef,.string s,.func (.func 49) #[] #[.pointer (some ⟨w.heap.size+1+1+1+1,0,none⟩)],.int .i64 x.1.1,.string x.1.2,undef,undef,undef,undef,undef,undef,undef,undef,undef,undef,undef,undef,undef,undef,undef,undef,undef,undef,undef,undef,undef,undef,undef,undef,undef,undef,undef,undef,undef,undef,undef,undef,undef,undef,undef,undef,undef,undef,undef,undef,undef,undef,undef,undef,undef,undef,undef,undef],defers:=[] }) ?assign ?body ?done ?stop
 case assign =>
  intro l x W K hK
  gi_wp2
  exact hK
 case body =>
  rintro l pre x W ⟨lv,sv,ls,vs,ss,⟨ps,hpl,hls,hss⟩,hps⟩ hlen;clear hps0 hB0 c4 hn;have hln:=zdy s s.size 0;have hpn:=zoo _ _ _ hpl;rw[List.length_map,List.length_nil] at hpn;have hll:ls.length<=100000:=by rw[hls,List.length_map];omega
  have hssl:ss.length<=100000:=by rw[hss,List.length_map];omega
  have hsn:=zdb (zW pre) [x.1] [];rw[hpl] at hsn;have HSN:Hid (plF (zW (pre++[x])) []=plF [x.1] ps):=by show _=_;rw[zW,List.map_append];exact hsn
  have HLS:=zH hls;have HSS:=zH hss;have HCALL:=zH (zgm x.1.2 W x.2.2 (HL.out.below hps.B));have HPS:=zH hps;clear hsn hpl hls hss hlen hln hpn hps;cases hwd:Qp x.1.2 with
  |error e2 =>
   obtain⟨k,q⟩:=e2;rw[hwd] at HCALL;have hone:plF [x.1] ps=.error (k,x.1.1):=by rw[plF,hwd]
   rw[hone] at HSN;have HC2:Hid (zC 25 #[.string x.1.2] W fun e w'=>∃er,e=.returned (.tuple #[.agg z7,er])/\qF w' er k q/\zB W w'):=HCALL.out;clear hwd hone HCALL
   gi_wp2_with fail
   refine⟨trivial,?_⟩;refine(CallsIn.inRound l (callsIn_wide.2 HC2.out)).mono ?_;rintro e wL ⟨er,rfl,herr,hb⟩;obtain⟨et,ev,rfl⟩:=herr.form;have hbx:zB wL (wL.alloc (.cells z7 38)):=zF.alloc zN _;have hb1:zB W (wL.alloc (.cells z7 38)):=zT hb hbx;have HPS1:=zH (HPS.out.step hb1);have HB1:=zH hb1;have HT:=zH (zmW (.iface et ev) k q (wL.alloc (.cells z7 38)) ((HL.out.below HPS1.out.B).lb.glob) (herr.below hbx));clear HC2 herr hb hbx hb1
   gi_wp2_with fail
   generalize wL.alloc (.cells z7 38)=W1 at *;refine⟨trivial,?_⟩;refine(CallsIn.inRound l (callsIn_wide.2 HT.out)).mono ?_;rintro e wT ⟨rfl,hbT⟩;have HPS2:=zH (HPS1.out.step hbT);have hb2:zB W wT:=zT HB1.out hbT;have m0:=HPS2.out.r0.alloc (.cells #[.int .i64 k,.int .i64 x.1.1] 86);have m1:=HPS2.out.r1.alloc (.cells #[.int .i64 k,.int .i64 x.1.1] 86);have mN:=Blk.new wT 86 #[.int .i64 k,.int .i64 x.1.1];have hwT:=HPS2.out.sz;have d0:(wT.alloc (.cells #[.int .i64 k,.int .i64 x.1.1] 86)).cell? ⟨w.heap.size,0,none⟩=some (.pointer none):=m0.cell 0;have f0:=m0.frozen 0;have n1:=m1.other (b':=w.heap.size) (i:=0) (v:=.pointer none) (by omega);have d1:((wT.alloc (.cells #[.int .i64 k,.int .i64 x.1.1] 86)).setCell ⟨w.heap.size,0,none⟩ (.pointer none)).cell? ⟨w.heap.size+1,0,none⟩=some .nilIface:=n1.cell 0;have f1:=n1.frozen 0;have HKO:Hid (KeepsOthers W (((wT.alloc (.cells #[.int .i64 k,.int .i64 x.1.1] 86)).setCell ⟨w.heap.size,0,none⟩ (.pointer none)).setCell ⟨w.heap.size+1,0,none⟩ (.iface 83 (.pointer (some ⟨wT.heap.size,0,none⟩))))):=(((xt hb2).trans (KeepsOthers.alloc _ _)).trans (KeepsOthers.setCell _ _ _)).trans (KeepsOthers.setCell _ _ _);have HX:Hid (PaX w .ret (pre++[x]) (((wT.alloc (.cells #[.int .i64 k,.int .i64 x.1.1] 86)).setCell ⟨w.heap.size,0,none⟩ (.pointer none)).setCell ⟨w.heap.size+1,0,none⟩ (.iface 83 (.pointer (some ⟨wT.heap.size,0,none⟩))))) :=
    ⟨⟨rfl,k,x.1.1,wT.heap.size,HSN.out,(m0.set (i:=0)).other (by omega),n1.set (i:=0),(mN.other (by omega)).other (by omega)⟩,((zL HPS2.out.B).setCell (p:=⟨w.heap.size,0,none⟩) zN _).setCell (p:=⟨w.heap.size+1,0,none⟩) (Nat.le_succ _) _⟩
   clear HT hbT HPS1 HB1 HPS2 hb2 m0 m1 mN n1
   gi_wp2
   exact⟨HKO.out,HX.out⟩
  |ok xl =>
   rw[hwd] at HCALL;have hone:plF [x.1] ps=.ok (ps++[(x.1.1,xl)]):=by rw[plF,hwd];rfl
   rw[hone] at HSN;have HC2:Hid (zC 25 #[.string x.1.2] W fun e w'=>∃v,e=.returned (.tuple #[.agg #[.int .i64 xl.kind,.string xl.name,.int .i64 xl.a,.int .i64 xl.b,.int .i64 xl.c,.string xl.other,v],.nilIface])/\zi w' v xl.rng/\Rg xl.rng/\(∀g,v.ownBlock=some g->W.heap.size<=g)/\zB W w'):=HCALL.out;clear hwd hone HCALL
   gi_wp2_with fail
   refine⟨trivial,?_⟩;refine(CallsIn.inRound l (callsIn_wide.2 HC2.out)).mono ?_;rintro e wL ⟨v,rfl,hsp,hrg,hown,hb⟩;have hbx:zB wL (wL.alloc (.cells #[.int .i64 xl.kind,.string xl.name,.int .i64 xl.a,.int .i64 xl.b,.int .i64 xl.c,.string xl.other,v] 38)):=zF.alloc zN _;have hb1:zB W (wL.alloc (.cells #[.int .i64 xl.kind,.string xl.name,.int .i64 xl.a,.int .i64 xl.b,.int .i64 xl.c,.string xl.other,v] 38)):=zT hb hbx;have HPS1:=zH (HPS.out.step hb1);have HSP1:=zH (hsp.below hbx zN);have HRG:=zH hrg;have hWs:=HPS.out.sz;have HOWN:Hid (0<xl.rng.length->∀g,v.ownBlock=some g->w.heap.size+1+1+1+1+1<=g/\some g≠lv.ownBlock/\some g≠sv.ownBlock):=fun _ g hg=>by
    have h1:=hown g hg;refine⟨by omega,fun e=>?_,fun e=>?_⟩
    ·have:=(HPS.out.lrow.lt g e.symm).2;omega
    ·have:=(HPS.out.srow.lt g e.symm).2;omega
   have HKO1:Hid (KeepsOthers W (wL.alloc (.cells #[.int .i64 xl.kind,.string xl.name,.int .i64 xl.a,.int .i64 xl.b,.int .i64 xl.c,.string xl.other,v] 38))):=(xt hb).trans (KeepsOthers.alloc _ _);have HKP1:Hid (Kp1 (w.heap.size+1+1+1+1) W (wL.alloc (.cells #[.int .i64 xl.kind,.string xl.name,.int .i64 xl.a,.int .i64 xl.b,.int .i64 xl.c,.string xl.other,v] 38))):=JF hb1 (by omega) (by omega);have kx:=Blk.new wL 38 #[.int .i64 xl.kind,.string xl.name,.int .i64 xl.a,.int .i64 xl.b,.int .i64 xl.c,.string xl.other,v];obtain⟨ra,rc,rfl⟩:=hsp.form;clear HC2 hsp hrg hown hb hbx hb1 HPS
   gi_upto_region 11 with fail
   generalize wL.alloc (.cells #[.int .i64 xl.kind,.string xl.name,.int .i64 xl.a,.int .i64 xl.b,.int .i64 xl.c,.string xl.other,.slice ra xl.rng.length rc] 38)=W1 at *;generalize wL.heap.size=bx at *;have d0:_=some (Value.int .i64 xl.kind):=kx.cell 0;have d1:_=some (Value.string xl.name):=kx.cell 1;have d2:_=some (Value.int .i64 xl.a):=kx.cell 2;have d3:_=some (Value.int .i64 xl.b):=kx.cell 3;have d4:_=some (Value.int .i64 xl.c):=kx.cell 4;have d5:_=some (Value.string xl.other):=kx.cell 5;have d6:_=some (Value.slice ra xl.rng.length rc):=kx.cell 6;have dl:_=some lv:=HPS1.out.r2.cell 0;obtain⟨la,lc,rfl,-⟩:=(zD HPS1.out.lrow).form;have hb2:zB W1 (W1.alloc (.cells #[.int .i64 xl.kind,.string xl.name,.int .i64 xl.a,.int .i64 xl.b,.int .i64 xl.c,.string xl.other,.slice ra xl.rng.length rc] 38)):=zF.alloc zN _;have HPS2:=zH (HPS1.out.step hb2);have HSP2:=zH (HSP1.out.below hb2 zN);have HROW:=zH HPS1.out.lrow;have hW1:=HPS1.out.sz;clear hb2 kx
   gi_wp2_with (gi_at_builtin;refine wpListIn_append_own_at _ rfl _ _ 30 rfl (w.heap.size+1+1+1+1+1) 38 i0 (.agg z7) 7 88 Tryz.underlying30 hin hz0 hz1 hz2 rfl (by decide) _ _ _ rfl (HROW.out.alloc _) ⟨W1.heap.size,0,none⟩ 1 1 [.int .i64 xl.kind,.string xl.name,.int .i64 xl.a,.int .i64 xl.b,.int .i64 xl.c,.string xl.other,.slice ra xl.rng.length rc] rfl rfl ?c1 ?c2 ?c3 ?c4 ?c5 ?_)
   case c1=>exact zlQ _ _ _ _ _ _ _ _ _
   case c2=>intro u hu;simp at hu;rcases hu with rfl|rfl|rfl|rfl|rfl|rfl|rfl<;>rfl
   case c3=>unfold maxLen;omega
   case c4=>omega
   case c5=>simp;omega
   intro lv' w2 hown2 hgrow2 _ hloc2;obtain⟨g2,cap2,rfl⟩:=ownsRow_succ hown2;obtain⟨hps3,q2,q3⟩:=HPS2.out.appL HSP2.out HRG.out HOWN.out hown2 hgrow2 (by rw[World.size_alloc];exact hloc2);have e2:_=some (Value.slice la ls.length lc):=q2.cell 0;have f2:=q2.frozen 0;have HKO2:Hid (KeepsOthers W (w2.setCell ⟨w.heap.size+1+1,0,none⟩ (.slice (some ⟨g2,0,none⟩) (ls.length+1) cap2))):=((HKO1.out.trans (KeepsOthers.alloc _ _)).trans (KeepsOthers.of_grownBy hgrow2 (zdk HPS2.out.lrow))).trans (KeepsOthers.setCell _ _ _);have HKP2:Hid (Kp1 (w.heap.size+1+1+1+1) W (w2.setCell ⟨w.heap.size+1+1,0,none⟩ (.slice (some ⟨g2,0,none⟩) (ls.length+1) cap2))):=zeo (zdD (zaf HKP1.out (JF ((Below.refl W1.heap.size _).alloc zN _) (by omega) (by omega))) HPS2.out.lrow hgrow2 (by omega) (by omega) (by have:=HPS2.out.sz;omega) (by have:=HPS2.out.sz;omega)) (by omega) (by omega);have HPS3:=zH hps3;clear hown2 hgrow2 hloc2 hps3 q2 q3 HPS2 HSP2 HROW HKO1 HKP1 HPS1 HSP1 HRG HOWN d0 d1 d2 d3 d4 d5 d6 dl
   gi_upto_region 12 with fail
   clear e2 f2;generalize w2.setCell ⟨w.heap.size+1+1,0,none⟩ (.slice (some ⟨g2,0,none⟩) (ls.length+1) cap2)=W3 at *;have ds:_=some sv:=HPS3.out.r3.cell 0;obtain⟨sa,sc,rfl,-⟩:=(zD HPS3.out.srow).form;have hb4:zB W3 (W3.alloc (.cells #[.int .i64 x.1.1] 3)):=zF.alloc zN _;have HPS4:=zH (HPS3.out.step hb4);have HROW:=zH HPS3.out.srow;have hW3:=HPS3.out.sz;clear hb4
   gi_wp2_with (gi_at_builtin;refine wpListIn_append_own_at _ rfl _ _ 24 rfl (w.heap.size+1+1+1+1+1) 3 i1 (.int .i64 0) 1 8 Tryz.underlying24 hin1 hy0 hy1 hy2 rfl (by decide) _ _ _ rfl (HROW.out.alloc _) ⟨W3.heap.size,0,none⟩ 1 1 [.int .i64 x.1.1] rfl rfl ?a1 ?a2 ?a3 ?a4 ?a5 ?_)
   case a1=>exact Yg _ _ _
   case a2=>exact QU _
   case a3=>unfold maxLen;omega
   case a4=>omega
   case a5=>simp;omega
   intro sv' w4 hown4 hgrow4 _ hloc4;obtain⟨g4,cap4,rfl⟩:=ownsRow_succ hown4;obtain⟨hps5,q3⟩:=HPS4.out.appS hown4 hgrow4 (by rw[World.size_alloc];exact hloc4);have e3:_=some (Value.slice sa ss.length sc):=q3.cell 0;have f3:=q3.frozen 0;have HKO4:Hid (KeepsOthers W (w4.setCell ⟨w.heap.size+1+1+1,0,none⟩ (.slice (some ⟨g4,0,none⟩) (ss.length+1) cap4))):=((HKO2.out.trans (KeepsOthers.alloc _ _)).trans (KeepsOthers.of_grownBy hgrow4 (zdk HPS4.out.srow))).trans (KeepsOthers.setCell _ _ _);have HKP4:Hid (Kp1 (w.heap.size+1+1+1+1) W (w4.setCell ⟨w.heap.size+1+1+1,0,none⟩ (.slice (some ⟨g4,0,none⟩) (ss.length+1) cap4))):=zeo (zdD (zaf HKP2.out (JF ((Below.refl W3.heap.size _).alloc zN _) (by omega) (by omega))) HPS4.out.srow hgrow4 (by omega) (by omega) (by have:=HPS4.out.sz;omega) (by have:=HPS4.out.sz;omega)) (by omega) (by omega);have HI:Hid (PaI w (pre++[x]) (w4.setCell ⟨w.heap.size+1+1+1,0,none⟩ (.slice (some ⟨g4,0,none⟩) (ss.length+1) cap4))):=⟨_,_,_,_,_,⟨_,HSN.out,by rw[HLS.out];simp,by rw[HSS.out];simp⟩,hps5⟩;clear hown4 hgrow4 hloc4 hps5 q3 HPS4 HROW HKO2 HKP2 HPS3 ds
   gi_wp2
   exact⟨HKO4.out,HKP4.out,HI.out⟩
 case done =>
  rintro D ys WF hD hys ⟨lv,sv,ls,vs,ss,⟨ps,hpl,hls,hss⟩,hps⟩ hK;have HPN:Hid (R=match qU ls with
   |.error (e,none)=>.error (e,none)
   |.error (e,some i)=>.error (e,some (ss.getD i 0))
   | .ok its=>.ok (ls,its)):=by
   show _=_;rw[<-HR.out,xz,if_neg (by omega),<-hys,hpl,hls,hss];rfl
  have HLEN:Hid (ss.length=ls.length):=by show _=_;rw[hls,hss];simp
  have HNEW:=zH (KL ls vs lv WF hps.rg (zD hps.lrow));have HPS:=zH hps;have dl:_=some lv:=hps.r2.cell 0;obtain⟨la,lc,rfl,-⟩:=(zD hps.lrow).form;have HKK:=zH hK;have hDl:=(Array.getElem?_eq_some_iff.1 hK).1;clear hps hpl hls hss hys hps0 hB0 c4 hn hK;cases hnw:qU ls with
  |ok its =>
   rw[hnw] at HNEW HPN;have HN2:Hid (zC 27 #[.slice la ls.length lc] WF fun e w'=>∃bc,e=.returned (.tuple #[.pointer (some ⟨bc,0,none⟩),.nilIface])/\yg w' bc ls vs its WF.heap.size/\zB WF w'):=HNEW.out;clear HNEW hnw
   gi_wp2_with fail
   refine⟨trivial,?_⟩;refine(callsIn_wide.2 HN2.out).mono ?_;rintro e w1 ⟨bc,rfl,hcat,hb1⟩;have hps1:=HPS.out.step hb1;have hK1:w1.heap[D]?=some (.deferred (some [])):=(hb1.block D hDl).trans HKK.out;have hsz1:=HPS.out.sz;have hta:=zio w1;have m0:=hps1.r0;have m1:=hps1.r1;have d0:_=some (Value.pointer none):=m0.cell 0;have f0:=m0.frozen 0;have n1:=m1.other (b':=w.heap.size) (i:=0) (v:=.pointer (some ⟨bc,0,none⟩)) (by omega);have d1:(w1.setCell ⟨w.heap.size,0,none⟩ (.pointer (some ⟨bc,0,none⟩))).cell? ⟨w.heap.size+1,0,none⟩=some .nilIface:=n1.cell 0;have f1:=n1.frozen 0;have hk2:((w1.setCell ⟨w.heap.size,0,none⟩ (.pointer (some ⟨bc,0,none⟩))).setCell ⟨w.heap.size+1,0,none⟩ .nilIface).heap[D]?=some (.deferred (some [])):=((KeepsOthers.setCell _ _ _).trans (KeepsOthers.setCell _ _ _)).same D _ hK1 rfl;have hcat2:yg ((w1.setCell ⟨w.heap.size,0,none⟩ (.pointer (some ⟨bc,0,none⟩))).setCell ⟨w.heap.size+1,0,none⟩ .nilIface) bc ls vs its WF.heap.size:=(hcat.set (by omega) (HPS.out.lo _ (by omega))).set (by omega) (HPS.out.lo _ (by omega));have hB2:zB w ((w1.setCell ⟨w.heap.size,0,none⟩ (.pointer (some ⟨bc,0,none⟩))).setCell ⟨w.heap.size+1,0,none⟩ .nilIface):=(hps1.B.setCell (p:=⟨w.heap.size,0,none⟩) zN _).setCell (p:=⟨w.heap.size+1,0,none⟩) (Nat.le_succ _) _;have q0:Blk ((w1.setCell ⟨w.heap.size,0,none⟩ (.pointer (some ⟨bc,0,none⟩))).setCell ⟨w.heap.size+1,0,none⟩ .nilIface) w.heap.size 22 #[.pointer (some ⟨bc,0,none⟩)]:=(m0.set (i:=0)).other (by omega);have q1:Blk ((w1.setCell ⟨w.heap.size,0,none⟩ (.pointer (some ⟨bc,0,none⟩))).setCell ⟨w.heap.size+1,0,none⟩ .nilIface) (w.heap.size+1) 41 #[.nilIface]:=n1.set (i:=0);have HLOW:Hid (∀k,k<w.heap.size->RgN ls vs (some k)):=fun k hk=>HPS.out.lo k (by omega);have HK2:=zH hk2;have HCAT2:=zH hcat2;have HB2:=zH hB2;have Q0:=zH q0;have Q1:=zH q1;clear HN2 hcat hb1 hps1 hK1 m0 m1 n1 hk2 hcat2 hB2 q0 q1 dl HKK HPS
   gi_wp2
   generalize (w1.setCell ⟨w.heap.size,0,none⟩ (.pointer (some ⟨bc,0,none⟩))).setCell ⟨w.heap.size+1,0,none⟩ .nilIface=WG at *;refine⟨by simp,.inl ⟨_,_,rfl,run_takeDeferred HK2.out,?_⟩⟩;have r1:=(Q0.out.put (l:=D) (o':=.deferred none) (by omega)).cell 0;have r2:=(Q1.out.put (l:=D) (o':=.deferred none) (by omega)).cell 0;refine⟨.tuple #[.pointer (some ⟨bc,0,none⟩),.nilIface],?_,?_⟩
   ·simp[results,Tryz.f10,go_sem,r1,r2]
   ·rw[HPN.out];exact⟨bc,vs,rfl,(HCAT2.out.putD ⟨_,HK2.out,rfl,fun _ _ h=>by cases h⟩).base (by omega),HLOW.out,HB2.out.trans (belowK_b (w:=w) zN WG D _ _ (by omega) HK2.out rfl rfl)⟩
  |error e2 =>
   obtain⟨k,q⟩:=e2;have hnw2:=zH hnw;rw[hnw] at HNEW HPN;have HN2:Hid (zC 27 #[.slice la ls.length lc] WF fun e w'=>∃er,e=.returned (.tuple #[.pointer none,er])/\qF w' er k q/\zB WF w'):=HNEW.out;clear HNEW hnw
   gi_wp2_with fail
   refine⟨trivial,?_⟩;refine(callsIn_wide.2 HN2.out).mono ?_;rintro e w1 ⟨er,rfl,herr,hb1⟩;have hps1:=HPS.out.step hb1;have hK1:w1.heap[D]?=some (.deferred (some [])):=(hb1.block D hDl).trans HKK.out;have hsz1:=HPS.out.sz;cases q with
   |none =>
    obtain rfl:er=_:=herr;have hta:=zjz k w1;have m0:=hps1.r0;have m1:=hps1.r1;have d0:_=some (Value.pointer none):=m0.cell 0;have f0:=m0.frozen 0;have n1:=m1.other (b':=w.heap.size) (i:=0) (v:=.pointer none) (by omega);have d1:(w1.setCell ⟨w.heap.size,0,none⟩ (.pointer none)).cell? ⟨w.heap.size+1,0,none⟩=some .nilIface:=n1.cell 0;have f1:=n1.frozen 0;have hk2:((w1.setCell ⟨w.heap.size,0,none⟩ (.pointer none)).setCell ⟨w.heap.size+1,0,none⟩ (.iface 64 (.int .i64 k))).heap[D]?=some (.deferred (some [])):=((KeepsOthers.setCell _ _ _).trans (KeepsOthers.setCell _ _ _)).same D _ hK1 rfl;have hB2:zB w ((w1.setCell ⟨w.heap.size,0,none⟩ (.pointer none)).setCell ⟨w.heap.size+1,0,none⟩ (.iface 64 (.int .i64 k))):=(hps1.B.setCell (p:=⟨w.heap.size,0,none⟩) zN _).setCell (p:=⟨w.heap.size+1,0,none⟩) (Nat.le_succ _) _;have q0:Blk ((w1.setCell ⟨w.heap.size,0,none⟩ (.pointer none)).setCell ⟨w.heap.size+1,0,none⟩ (.iface 64 (.int .i64 k))) w.heap.size 22 #[.pointer none]:=(m0.set (i:=0)).other (by omega);have q1:Blk ((w1.setCell ⟨w.heap.size,0,none⟩ (.pointer none)).setCell ⟨w.heap.size+1,0,none⟩ (.iface 64 (.int .i64 k))) (w.heap.size+1) 41 #[.iface 64 (.int .i64 k)]:=n1.set (i:=0);have HK2:=zH hk2;have HB2:=zH hB2;have Q0:=zH q0;have Q1:=zH q1;clear HN2 hb1 hps1 hK1 m0 m1 n1 hk2 hB2 q0 q1 dl HKK HPS
    gi_wp2
    generalize (w1.setCell ⟨w.heap.size,0,none⟩ (.pointer none)).setCell ⟨w.heap.size+1,0,none⟩ (.iface 64 (.int .i64 k))=WG at *;refine⟨by simp,.inl ⟨_,_,rfl,run_takeDeferred HK2.out,?_⟩⟩;have r1:=(Q0.out.put (l:=D) (o':=.deferred none) (by omega)).cell 0;have r2:=(Q1.out.put (l:=D) (o':=.deferred none) (by omega)).cell 0;refine⟨.tuple #[.pointer none,.iface 64 (.int .i64 k)],?_,?_⟩
    ·simp[results,Tryz.f10,go_sem,r1,r2]
    ·rw[HPN.out];exact⟨_,rfl,rfl,HB2.out.trans (belowK_b (w:=w) zN WG D _ _ (by omega) HK2.out rfl rfl)⟩
   |some i =>
    obtain⟨N,rfl,hN⟩:=herr;have hta:=zib N w1;have hil:i<ss.length:=by have:=zim hnw2.out;have:=HLEN.out;omega
    obtain⟨gs,sc,e,hgs,hgc⟩:=(zD hps1.srow).cells (by omega);subst e;have hsc:w1.cell? ⟨gs,i,none⟩=some (.int .i64 ((ss.getD i 0:Nat):Int)):=hgc i _ (by rw[xU _ _ (by simpa using hil)];simp[List.getD_eq_getElem?_getD,hil]);obtain⟨P,hP⟩:∃P:Nat,ss.getD i 0=P:=⟨_,rfl⟩;rw[hP] at hsc;have HP2:Hid (R=.error (k,some P)):=by rw[<-hP];exact HPN.out
    have m0:=hps1.r0.alloc (.cells #[.int .i64 k,.int .i64 P] 86);have m1:=hps1.r1.alloc (.cells #[.int .i64 k,.int .i64 P] 86);have m3:=hps1.r3;have mN:=Blk.new w1 86 #[.int .i64 k,.int .i64 P];have hgsB:w.heap.size+1+1+1+1+1<=gs:=(hps1.srow.lt gs rfl).1;have hNl:=hN.lt;have hN0:N≠w.heap.size:=hN.ne_type hps1.r0 (by decide);have hN1:N≠w.heap.size+1:=hN.ne_type hps1.r1 (by decide);have n1:=m1.other (b':=w.heap.size) (i:=0) (v:=.pointer none) (by omega);have hw1s:=hps1.sz;have hii0:(0:Int)<=(i:Int):=by omega
    have hii1:(i:Int)<(ss.length:Int):=by omega
    have S0:Hid (w1.cell? ⟨N,0,none⟩=some (.int .i64 k)/\w1.cell? ⟨N,1,none⟩=some (.int .i64 i)/\w1.cell? ⟨w.heap.size+1+1+1,0,none⟩=some (.slice (some ⟨gs,0,none⟩) ss.length sc)/\w1.cell? ⟨gs,i,none⟩=some (.int .i64 P)):=⟨hN.cell 0,hN.cell 1,m3.cell 0,hsc⟩;have S1:Hid ((w1.alloc (.cells #[.int .i64 k,.int .i64 P] 86)).cell? ⟨N,0,none⟩=some (.int .i64 k)/\(w1.alloc (.cells #[.int .i64 k,.int .i64 P] 86)).cell? ⟨N,1,none⟩=some (.int .i64 i)/\(w1.alloc (.cells #[.int .i64 k,.int .i64 P] 86)).cell? ⟨w.heap.size+1+1+1,0,none⟩=some (.slice (some ⟨gs,0,none⟩) ss.length sc)/\(w1.alloc (.cells #[.int .i64 k,.int .i64 P] 86)).cell? ⟨gs,i,none⟩=some (.int .i64 P)):=by
     have hb:zB w1 (w1.alloc (.cells #[.int .i64 k,.int .i64 P] 86)):=zF.alloc zN _;exact⟨(hN.below hb hN.lt).cell 0,(hN.below hb hN.lt).cell 1,(m3.below hb m3.lt).cell 0,(hb.cell (p:=⟨gs,i,none⟩) hgs).trans hsc⟩
    have S2:Hid (((w1.alloc (.cells #[.int .i64 k,.int .i64 P] 86)).setCell ⟨w.heap.size,0,none⟩ (.pointer none)).cell? ⟨N,0,none⟩=some (.int .i64 k)/\((w1.alloc (.cells #[.int .i64 k,.int .i64 P] 86)).setCell ⟨w.heap.size,0,none⟩ (.pointer none)).cell? ⟨N,1,none⟩=some (.int .i64 i)/\((w1.alloc (.cells #[.int .i64 k,.int .i64 P] 86)).setCell ⟨w.heap.size,0,none⟩ (.pointer none)).cell? ⟨w.heap.size+1+1+1,0,none⟩=some (.slice (some ⟨gs,0,none⟩) ss.length sc)/\((w1.alloc (.cells #[.int .i64 k,.int .i64 P] 86)).setCell ⟨w.heap.size,0,none⟩ (.pointer none)).cell? ⟨gs,i,none⟩=some (.int .i64 P)):=⟨(yj hN0).trans S1.out.1,(yj hN0).trans S1.out.2.1,(yj (by omega)).trans S1.out.2.2.1,(yj (by omega)).trans S1.out.2.2.2⟩;have S3:Hid ((((w1.alloc (.cells #[.int .i64 k,.int .i64 P] 86)).setCell ⟨w.heap.size,0,none⟩ (.pointer none)).setCell ⟨w.heap.size+1,0,none⟩ (.iface 83 (.pointer (some ⟨w1.heap.size,0,none⟩)))).cell? ⟨N,0,none⟩=some (.int .i64 k)/\(((w1.alloc (.cells #[.int .i64 k,.int .i64 P] 86)).setCell ⟨w.heap.size,0,none⟩ (.pointer none)).setCell ⟨w.heap.size+1,0,none⟩ (.iface 83 (.pointer (some ⟨w1.heap.size,0,none⟩)))).cell? ⟨N,1,none⟩=some (.int .i64 i)/\(((w1.alloc (.cells #[.int .i64 k,.int .i64 P] 86)).setCell ⟨w.heap.size,0,none⟩ (.pointer none)).setCell ⟨w.heap.size+1,0,none⟩ (.iface 83 (.pointer (some ⟨w1.heap.size,0,none⟩)))).cell? ⟨w.heap.size+1+1+1,0,none⟩=some (.slice (some ⟨gs,0,none⟩) ss.length sc)/\(((w1.alloc (.cells #[.int .i64 k,.int .i64 P] 86)).setCell ⟨w.heap.size,0,none⟩ (.pointer none)).setCell ⟨w.heap.size+1,0,none⟩ (.iface 83 (.pointer (some ⟨w1.heap.size,0,none⟩)))).cell? ⟨gs,i,none⟩=some (.int .i64 P)):=⟨(yj hN1).trans S2.out.1,(yj hN1).trans S2.out.2.1,(yj (by omega)).trans S2.out.2.2.1,(yj (by omega)).trans S2.out.2.2.2⟩;have d0:(w1.alloc (.cells #[.int .i64 k,.int .i64 P] 86)).cell? ⟨w.heap.size,0,none⟩=some (.pointer none):=m0.cell 0;have f0:(w1.alloc (.cells #[.int .i64 k,.int .i64 P] 86)).frozen? ⟨w.heap.size,0,none⟩=false:=m0.frozen 0;have d1:((w1.alloc (.cells #[.int .i64 k,.int .i64 P] 86)).setCell ⟨w.heap.size,0,none⟩ (.pointer none)).cell? ⟨w.heap.size+1,0,none⟩=some .nilIface:=n1.cell 0;have f1:((w1.alloc (.cells #[.int .i64 k,.int .i64 P] 86)).setCell ⟨w.heap.size,0,none⟩ (.pointer none)).frozen? ⟨w.heap.size+1,0,none⟩=false:=n1.frozen 0;have hk2:(((w1.alloc (.cells #[.int .i64 k,.int .i64 P] 86)).setCell ⟨w.heap.size+1,0,none⟩ (.iface 83 (.pointer (some ⟨w1.heap.size,0,none⟩)))).drew).heap[D]?=some (.deferred (some [])):=(((KeepsOthers.alloc w1 _).trans (KeepsOthers.setCell _ _ _)).trans (KeepsOthers.drew _)).same D _ hK1 rfl;have hB2:zB w (((w1.alloc (.cells #[.int .i64 k,.int .i64 P] 86)).setCell ⟨w.heap.size+1,0,none⟩ (.iface 83 (.pointer (some ⟨w1.heap.size,0,none⟩)))).drew):=((zL hps1.B).setCell (p:=⟨w.heap.size+1,0,none⟩) (Nat.le_succ _) _).drew;have q0:Blk (((w1.alloc (.cells #[.int .i64 k,.int .i64 P] 86)).setCell ⟨w.heap.size+1,0,none⟩ (.iface 83 (.pointer (some ⟨w1.heap.size,0,none⟩)))).drew) w.heap.size 22 #[.pointer none]:=m0.other (b':=w.heap.size+1) (by omega);have q1:Blk (((w1.alloc (.cells #[.int .i64 k,.int .i64 P] 86)).setCell ⟨w.heap.size+1,0,none⟩ (.iface 83 (.pointer (some ⟨w1.heap.size,0,none⟩)))).drew) (w.heap.size+1) 41 #[.iface 83 (.pointer (some ⟨w1.heap.size,0,none⟩))]:=m1.set (i:=0);have q2:Blk (((w1.alloc (.cells #[.int .i64 k,.int .i64 P] 86)).setCell ⟨w.heap.size+1,0,none⟩ (.iface 83 (.pointer (some ⟨w1.heap.size,0,none⟩)))).drew) w1.heap.size 86 #[.int .i64 k,.int .i64 P]:=mN.other (b':=w.heap.size+1) (by omega);have HK2:=zH hk2;have HB2:=zH hB2;have Q0:=zH q0;have Q1:=zH q1;have Q2:=zH q2;have hDn:D≠w1.heap.size:=by have:=(Array.getElem?_eq_some_iff.1 hK1).1;omega
    have z0:_=some (Value.pointer none):=hps1.r0.cell 0;have zf0:=hps1.r0.frozen 0;have y0:((w1.alloc (.cells #[.int .i64 k,.int .i64 P] 86)).drew).cell? ⟨w.heap.size,0,none⟩=some (.pointer none):=m0.cell 0;have yf0:((w1.alloc (.cells #[.int .i64 k,.int .i64 P] 86)).drew).frozen? ⟨w.heap.size,0,none⟩=false:=m0.frozen 0;have y1:((w1.alloc (.cells #[.int .i64 k,.int .i64 P] 86)).drew).cell? ⟨w.heap.size+1,0,none⟩=some .nilIface:=m1.cell 0;have yf1:((w1.alloc (.cells #[.int .i64 k,.int .i64 P] 86)).drew).frozen? ⟨w.heap.size+1,0,none⟩=false:=m1.frozen 0;have x0:(((w1.alloc (.cells #[.int .i64 k,.int .i64 P] 86)).setCell ⟨w.heap.size+1,0,none⟩ (.iface 83 (.pointer (some ⟨w1.heap.size,0,none⟩)))).drew).cell? ⟨w.heap.size,0,none⟩=some (.pointer none):=(m0.other (by omega)).cell 0;have xf0:(((w1.alloc (.cells #[.int .i64 k,.int .i64 P] 86)).setCell ⟨w.heap.size+1,0,none⟩ (.iface 83 (.pointer (some ⟨w1.heap.size,0,none⟩)))).drew).frozen? ⟨w.heap.size,0,none⟩=false:=(m0.other (by omega)).frozen 0;have v0:(((w1.alloc (.cells #[.int .i64 k,.int .i64 P] 86)).drew.setCell ⟨w.heap.size+1,0,none⟩ (.iface 83 (.pointer (some ⟨w1.heap.size,0,none⟩))))).cell? ⟨w.heap.size,0,none⟩=some (.pointer none):=(m0.other (by omega)).cell 0;have vf0:(((w1.alloc (.cells #[.int .i64 k,.int .i64 P] 86)).drew.setCell ⟨w.heap.size+1,0,none⟩ (.iface 83 (.pointer (some ⟨w1.heap.size,0,none⟩))))).frozen? ⟨w.heap.size,0,none⟩=false:=(m0.other (by omega)).frozen 0;have hs0:w1.drew.setCell ⟨w.heap.size,0,none⟩ (.pointer none)=w1.drew:=KE (show Blk w1.drew _ _ _ from hps1.r0) rfl;have hs1:((w1.alloc (.cells #[.int .i64 k,.int .i64 P] 86)).drew).setCell ⟨w.heap.size,0,none⟩ (.pointer none)=(w1.alloc (.cells #[.int .i64 k,.int .i64 P] 86)).drew:=KE (show Blk ((w1.alloc (.cells #[.int .i64 k,.int .i64 P] 86)).drew) _ _ _ from m0) rfl;have hs2:(((w1.alloc (.cells #[.int .i64 k,.int .i64 P] 86)).setCell ⟨w.heap.size+1,0,none⟩ (.iface 83 (.pointer (some ⟨w1.heap.size,0,none⟩)))).drew).setCell ⟨w.heap.size,0,none⟩ (.pointer none)=((w1.alloc (.cells #[.int .i64 k,.int .i64 P] 86)).setCell ⟨w.heap.size+1,0,none⟩ (.iface 83 (.pointer (some ⟨w1.heap.size,0,none⟩)))).drew:=KE (show Blk (((w1.alloc (.cells #[.int .i64 k,.int .i64 P] 86)).setCell ⟨w.heap.size+1,0,none⟩ (.iface 83 (.pointer (some ⟨w1.heap.size,0,none⟩)))).drew) _ _ _ from m0.other (by omega)) rfl;have hs3:(((w1.alloc (.cells #[.int .i64 k,.int .i64 P] 86)).drew.setCell ⟨w.heap.size+1,0,none⟩ (.iface 83 (.pointer (some ⟨w1.heap.size,0,none⟩))))).setCell ⟨w.heap.size,0,none⟩ (.pointer none)=((w1.alloc (.cells #[.int .i64 k,.int .i64 P] 86)).drew.setCell ⟨w.heap.size+1,0,none⟩ (.iface 83 (.pointer (some ⟨w1.heap.size,0,none⟩)))):=KE (show Blk (((w1.alloc (.cells #[.int .i64 k,.int .i64 P] 86)).drew.setCell ⟨w.heap.size+1,0,none⟩ (.iface 83 (.pointer (some ⟨w1.heap.size,0,none⟩))))) _ _ _ from m0.other (by omega)) rfl;clear HN2 hb1 hps1 hK1 m0 m1 m3 mN n1 hk2 hB2 q0 q1 q2 dl HKK HPS hsc hN hN0 hN1 hgsB hgs hgc hnw2 HLEN HPN hP
    gi_upto_region 16 with fail
    refine wpIn_wide.2 ?_
    as_aux_lemma =>
     clear S1 S2 S3 d0 f0 d1 f1;obtain⟨s0,s1,s2,s3⟩:=S0.out;clear S0;go_big_region
     all_goals
      clear s0 s1 s2 s3 z0 zf0 y0 yf0 y1 yf1 x0 xf0 v0 vf0 hs0 hs1 hs2 hs3
      gi_wp2
      generalize ((w1.alloc (.cells #[.int .i64 k,.int .i64 P] 86)).setCell ⟨w.heap.size+1,0,none⟩ (.iface 83 (.pointer (some ⟨w1.heap.size,0,none⟩)))).drew=WG at *;refine⟨by simp,.inl ⟨_,_,rfl,run_takeDeferred HK2.out,?_⟩⟩;have r1:=(Q0.out.put (l:=D) (o':=.deferred none) (by omega)).cell 0;have r2:=(Q1.out.put (l:=D) (o':=.deferred none) (by omega)).cell 0;refine⟨.tuple #[.pointer none,.iface 83 (.pointer (some ⟨w1.heap.size,0,none⟩))],?_,?_⟩
      ·simp[results,Tryz.f10,go_sem,r1,r2]
      ·rw[HP2.out];exact⟨_,rfl,⟨_,rfl,Q2.out.put (fun e=>hDn e.symm)⟩,HB2.out.trans (belowK_b (w:=w) zN WG D _ _ (by omega) HK2.out rfl rfl)⟩
 case stop =>
  rintro D c pre W hD hpre ⟨⟨rfl,k,i,N,hwf,x1,x2,x3⟩,xB⟩ hK;obtain⟨rest,hrest⟩:=hpre;have hwf2:=zdb (zW pre) rest [];rw[hwf,hrest] at hwf2;have HPF:Hid (R=.error (k,some i)):=by
   show _=_;rw[<-HR.out,xz,if_neg (by omega),hwf2]
  have hND:N≠D:=fun e=>by
   subst e;have:=(show W.heap[N]?=_ from x3).symm.trans hK;simp at this
  have q1:=x1.put (l:=D) (o':=.deferred none) (by omega);have q2:=x2.put (l:=D) (o':=.deferred none) (by omega);have q3:=x3.put (l:=D) (o':=.deferred none) hND;have r1:=q1.cell 0;have r2:=q2.cell 0;have HQ3:=zH q3;have HB:=zH xB;clear hwf hwf2 hrest x1 x2 x3 q1 q2 q3 xB hND hps0 hB0 c4 hn
  gi_wp2
  refine⟨by simp,.inl ⟨_,_,rfl,run_takeDeferred hK,?_⟩⟩;refine⟨.tuple #[.pointer none,.iface 83 (.pointer (some ⟨N,0,none⟩))],?_,?_⟩
  ·simp[results,Tryz.f10,go_sem,r1,r2]
  ·rw[HPF.out];exact⟨_,rfl,⟨N,rfl,HQ3.out⟩,HB.out.trans (belowK_b (w:=w) zN W D _ _ (by omega) hK rfl rfl)⟩
theorem zeD(s:ByteArray)(w:World)(hw:Lw w):zC 10 #[.string s] w (zai w (xz s)):=by
 by_cases h:20000<s.size
 ·have e:xz s=.error (4,none):=by unfold xz;rw[if_pos h]
  rw[e];exact zmP s w h
 ·exact(callsIn_wide (n:=4)).1 (zkU s w (by omega) hw)
end Go.Proofs.YtapobpgbcbplbaaGreatDoor
