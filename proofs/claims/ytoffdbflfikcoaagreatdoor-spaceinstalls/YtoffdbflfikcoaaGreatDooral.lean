import Derived.Test.YtoffdbflfikcoaaGreatDoorak
open Go.Proofs.Tryz
set_option maxHeartbeats 4000000
set_option maxRecDepth 100000
namespace Go.Proofs.YtoffdbflfikcoaaGreatDoor
section
open Go.RowKit Go.Deep Sv
theorem zeA:∀(ls:List Ln) (i:Nat) (its out:List It),its.length<=24->qh ls i its=.ok out->out.length<=24/\∀x∈ls,qQ x=0
 |[],i,its,out,h0,h=>by cases h;exact⟨h0,fun x hx=>by cases hx⟩
 |x :: r,i,its,out,h0,h=>by
  rw[qh] at h;split at h
  ·cases h
  ·rename_i hc;have hc':qQ x=0:=Decidable.not_not.1 hc;have o:∀j,j.length<=24->qh r (i+1) j=.ok out->out.length<=24/\∀y∈x :: r,qQ y=0:=fun j h1 h2=>by
    obtain⟨g1,g2⟩:=zeA r (i+1) j out h1 h2;exact⟨g1,fun y hy=>by rcases zrw.1 hy with rfl|hy;exact hc';exact g2 y hy⟩
   split at h
   ·split at h
    ·cases h
    ·split at h
     ·cases h
     ·rename_i h8;exact o _ (by simp;omega) h
   ·exact o _ h0 h
theorem J9{ls:List Ln}{its:List It}(h:qA ls=.ok its):its.length<=24/\ls.length<=100/\∀x∈ls,qQ x=0:=by
 unfold qA at h;split at h
 ·cases h
 ·split at h
  ·cases h
  ·rename_i its' hg;split at h
   ·cases h
   ·cases h;obtain⟨h1,h2⟩:=zeA ls 0 [] its' (by simp) hg;refine⟨?_,by omega,h2⟩;unfold ya;rw[List.length_mergeSort];exact h1
theorem zoX{s:ByteArray}{ls:List Ln}{its:List It}(h:yR s=.ok (ls,its)):qA ls=.ok its:=by
 unfold yR at h;split at h
 ·cases h
 ·split at h
  ·cases h
  ·split at h
   ·cases h
   ·cases h
   ·rename_i hn;cases h;exact hn
theorem zqf{x:Ln}(h:qQ x=0):x.name.size<=100000/\x.other.size<=100000:=by
 unfold qQ at h;split at h
 ·cases h
 ·split at h
  ·cases h
  ·rename_i h5;split at h
   ·cases h
   ·rename_i h6;have hn:zr x.name:=by
     apply zss;intro hc;exact h5 (Or.inl hc)
    refine⟨by have:=hn.len;omega,?_⟩
    by_cases hp:x.pair
    ·have ho:zr x.other:=by
      apply zss;intro hc;exact h5 (Or.inr ⟨hp,hc⟩)
     have:=ho.len;omega
    ·have:x.other.size=0:=by
      apply zss;intro hc;exact h6 ⟨hp,hc⟩
     omega
end
section
open Go.RowKit Go.Deep Go.Shelf Sv
attribute [local go_sem] Oper.semAt_some
def JW(w:World)(r:Except (Int × Option Nat) (List Ln × List It))(e:Ending)(w':World):Prop :=
 match r with
 |.ok (ls,its)=>∃bc vs,e=.returned (.tuple #[.pointer (some ⟨bc,0,none⟩),.nilIface])/\yS w' bc ls vs its w.heap.size/\(∀k,k<w.heap.size->RgN ls vs (some k))/\zB w w'
 |.error (k,p)=>∃er,e=.returned (.tuple #[.pointer none,er])/\ye w' er k p/\zB w w'
theorem yS.base{w:World}{b:Nat}{ls:List Ln}{vs:List Value}{its:List It}{B B':Nat}(h:yS w b ls vs its B)(hB:B'<=B):yS w b ls vs its B':=by
 obtain⟨lv,iv,bm,h1,h2,h3,h4,h5,h6,h7,h8,h9⟩:=h;exact⟨lv,iv,bm,h1,h2,h3,h4,h5,zf1 hB h6,zf1 hB h7,fun g hg=>zf1 hB (h8 g hg),fun g hg=>zf1 hB (h9 g hg)⟩
theorem zk0(er:Value)(k:Int)(p:Option Nat)(w:World)(hg:ZK w)(h:ye w er k p):zR 37 #[er] w (.int .i64 k):=by
 cases p with
 |none=>obtain rfl:er=_:=h;exact(zcU k w hg)
 |some q =>obtain⟨N,rfl,hN⟩:=h;exact ziY k N w hg (hN.cell 0)
theorem zmQ(s:ByteArray)(w:World)(hs:20000<s.size):zC 16 #[s] w (JW w (.error (4,none))):=by
 have hl:(20000:Int)<(s.size:Int):=by omega
 generalize hn:(s.size:Int)=n at *;clear hs;go_enter func16,ntmps16;go_wp2;have k0:=(Blk.new w 22 #[.pointer none]).alloc (.cells #[.iface 53 (.int .i64 4)] 31);have k1:=Blk.new (w.alloc (.cells #[.pointer none] 22)) 31 #[.iface 53 (.int .i64 4)];rw[zc1] at k1;have hB:zB w ((w.alloc (.cells #[.pointer none] 22)).alloc (.cells #[.iface 53 (.int .i64 4)] 31)):=((zf0 _ w).alloc zN _).alloc (by simp only[zc1];omega) _;generalize (w.alloc (.cells #[.pointer none] 22)).alloc (.cells #[.iface 53 (.int .i64 4)] 31)=WF at *;have r0:=k0.cell 0;have r3:=k1.cell 0;refine zc4 (v:=.tuple #[.pointer none,.iface 53 (.int .i64 4)]) (by simp[results,Tryz.f16,go_sem,r0,r3]) rfl ?_;exact⟨_,rfl,rfl,hB⟩
theorem zaj:∀(ls:List Ln) (i:Nat) (its:List It) (k:Int) (j:Nat),qh ls i its=.error (k,j)->i<=j/\j<i+ls.length
 |[],i,its,k,j,h=>by cases h
 |x :: r,i,its,k,j,h=>by
  rw[qh] at h;split at h
  ·cases h;exact⟨zri _,by simp⟩
  ·split at h
   ·split at h
    ·cases h;exact⟨zri _,by simp⟩
    ·split at h
     ·cases h;exact⟨zri _,by simp⟩
     ·have:=zaj r (i+1) _ k j h;simp;omega
   ·have:=zaj r (i+1) _ k j h;simp;omega
theorem zfR:∀(ls:List Ln) (i:Nat) (its:List It) (j:Nat),qD ls i its=some j->j<i+ls.length
 |[],i,its,j,h=>by cases h
 |x :: r,i,its,j,h=>by
  rw[qD] at h;split at h
  ·cases h;simp
  ·have:=zfR r (i+1) its j h;simp;omega
theorem zdy{ls:List Ln}{k:Int}{i:Nat}(h:qA ls=.error (k,some i)):i<ls.length:=by
 unfold qA at h;split at h
 ·cases h
 ·split at h
  ·rename_i e he;cases h;have:=zaj ls 0 [] e.1 e.2 he;omega
  ·split at h
   ·rename_i j hj;cases h;have:=zfR ls 0 _ i hj;omega
   ·cases h
theorem Ky{W:World}{b i:Nat}{v:Value}{t:TypeId}{cs:Array Value}(h:Blk W b t cs)(hv:cs[i]?=some v):W.setCell ⟨b,i,none⟩ v=W:=by
 have e:(W.setCell ⟨b,i,none⟩ v).heap=W.heap:=by
  apply Array.ext_getElem?;intro k
  by_cases hk:k=b
  ·subst hk;have h1:(W.setCell ⟨k,i,none⟩ v).heap[k]?=_:=h.set (i:=i) (v:=v);rw[h1,show W.heap[k]?=_ from h];congr 2;apply Array.ext_getElem?;intro j;rw[Array.getElem?_setIfInBounds]
   by_cases hj:i=j
   ·subst hj;obtain⟨o,-⟩:=zrg.1 hv;rw[zc3 rfl,zc3 o,hv]
   ·rw[zc2 hj]
  ·exact zrF _ _ _ k hk
 have e2:W.setCell ⟨b,i,none⟩ v={ W with heap:=(W.setCell ⟨b,i,none⟩ v).heap }:=rfl;rw[e2,e]
theorem zoy(w:World):(Instr.typeAssert .nilIface 31 110 true).run prog w=.ok (.tuple #[.pointer none,false]) w:=by kernel_rfl
def PaI(w:World)(pre:List Pc)(W:World):Prop:=∃lv sv ls vs ss,(∃ps,plF (zW pre) []=.ok ps/\ls=ps.map Prod.snd/\ss=ps.map Prod.fst)/\PS w W lv sv ls vs ss
def PaX(w:World)(c:Code)(pre:List Pc)(W:World):Prop :=
 (c=.ret/\∃k i N,plF (zW pre) []=.error (k,i)/\Blk W w.heap.size 22 #[.pointer none]/\Blk W (w.heap.size+1) 31 #[.iface 110 (.pointer (some ⟨N,0,none⟩))]/\Blk W N 112 #[.int .i64 k,.int .i64 i])/\zB w W
theorem zhz(w:World)(B:Nat)(hB:w.heap.size<=B):∀c,OwnFrom B (PaX w c):=by
 intro c j W W' row ⟨⟨hc,k,i,N,h1,h2,h3,h4⟩,h6⟩ hg hr;have hr':∀r,row=some r->∃o:Obj,W.heap[r]?=some o/\o.isCells=false:=fun r e=>(hr r e).2;exact⟨⟨hc,k,i,N,h1,yB h2 hg hr',yB h3 hg hr',yB h4 hg hr'⟩,ownFrom_below (β:=Unit) zN hB () W W' row h6 hg hr⟩
theorem zn9(s:ByteArray)(w:World)(hs:s.size<=20000)(hw:Lw w) :
  CallsIn Fence.wide 4 prog 16 #[s] w (JW w (yR s)):=by
 have HP:Hid (∀W,CallsIn Fence.wide 3 prog 35 #[s] W fun e w'=>e=.returned (.func (.func 78) #[] #[.pointer (some W)])/\w'=W.alloc (.cells #[s] 9)):=fun W=>zoN s W;have HL:=zH hw;have bs:=hw.lb.big;obtain⟨R,hR⟩:∃R,yR s=R:=⟨_,rfl⟩;rw[hR];have HR:=zH hR;clear hw hR;have bW:¬(20000:Int)<(s.size:Int):=by omega
 refine callsIn_of_wp_marks func16 rfl trivial ?_ rfl;simp only[ntmps16,zrT,zrb,zrY,Nat.reduceAdd,Nat.reduceSub,zr6,zr5,zsq,zsb,zrX,zrL]
 gi_wp2_with (refine⟨trivial,?_⟩;gi_at_call 35;refine(HP.out _).mono ?_;rintro e w' ⟨rfl,rfl⟩)
 clear HP;have k0:=((((Blk.new w 22 #[.pointer none]).alloc (.cells #[.nilIface] 31)).alloc (.cells #[.slice none 0 0] 98)).alloc (.cells #[.slice none 0 0] 47)).alloc (.cells #[s] 9);have k1:=(((Blk.new (w.alloc (.cells #[.pointer none] 22)) 31 #[.nilIface]).alloc (.cells #[.slice none 0 0] 98)).alloc (.cells #[.slice none 0 0] 47)).alloc (.cells #[s] 9);have k2:=((Blk.new ((w.alloc (.cells #[.pointer none] 22)).alloc (.cells #[.nilIface] 31)) 98 #[.slice none 0 0]).alloc (.cells #[.slice none 0 0] 47)).alloc (.cells #[s] 9);have k3:=(Blk.new (((w.alloc (.cells #[.pointer none] 22)).alloc (.cells #[.nilIface] 31)).alloc (.cells #[.slice none 0 0] 98)) 47 #[.slice none 0 0]).alloc (.cells #[s] 9);have k4:=Blk.new ((((w.alloc (.cells #[.pointer none] 22)).alloc (.cells #[.nilIface] 31)).alloc (.cells #[.slice none 0 0] 98)).alloc (.cells #[.slice none 0 0] 47)) 9 #[s];simp only[zc1] at k1 k2 k3 k4;have ax:zB w (((((w.alloc (.cells #[.pointer none] 22)).alloc (.cells #[.nilIface] 31)).alloc (.cells #[.slice none 0 0] 98)).alloc (.cells #[.slice none 0 0] 47)).alloc (.cells #[s] 9)):=(((((zf0 _ w).alloc zN _).alloc (by simp only[zc1];omega) _).alloc (by simp only[zc1];omega) _).alloc (by simp only[zc1];omega) _).alloc (by simp only[zc1];omega) _;have bE:(((((w.alloc (.cells #[.pointer none] 22)).alloc (.cells #[.nilIface] 31)).alloc (.cells #[.slice none 0 0] 98)).alloc (.cells #[.slice none 0 0] 47)).alloc (.cells #[s] 9)).heap.size=w.heap.size+1+1+1+1+1:=by simp only[zc1]
 obtain⟨W0,ba⟩:∃W0,((((w.alloc (.cells #[.pointer none] 22)).alloc (.cells #[.nilIface] 31)).alloc (.cells #[.slice none 0 0] 98)).alloc (.cells #[.slice none 0 0] 47)).alloc (.cells #[s] 9)=W0:=⟨_,rfl⟩;rw[ba] at k0 k1 k2 k3 k4 ax bE ⊢;clear ba;have ad:PS w W0 (.slice none 0 0) (.slice none 0 0) [] [] []:=⟨k0,k1,k2,k3,zrp _ _ _ _,zrp _ _ _ _,zhV _,RgN.nil _,RgN.nil _,fun _ _=>RgN.nil _,ax,by omega⟩;obtain⟨n,hn⟩:=(HL.out.lb.below ax).ml;have c4:_=some (Value.string s):=k4.cell 0;clear k0 k1 k2 k3 k4;obtain⟨i0,bv,bJ,bK,bL⟩:=info_parts zc7;obtain⟨i1,b0,bG,bH,bI⟩:=info_parts ZO;refine wpIn_rangeFunc_ownF rfl (by omega) (gf:=78) (lb:=#[.pointer (some ⟨w.heap.size+1+1+1+1,0,none⟩)]) rfl trivial (enters_of func78 (by kernel_rfl) rfl)
  (zhn (w.heap.size+1+1+1+1) s hs W0 (by omega) (by omega) c4 n hn) zcj (ziZ (by omega) (by omega)) zF (fun _=>rfl)
  (fun ab W=>PaI w ab W)
  (fun c ab W=>PaX w c ab W)
  (PS.own W0.heap.size (by omega) _) (zhz w W0.heap.size (by omega))
  ⟨_,_,[],[],[],⟨[],rfl,rfl,rfl⟩,ad⟩
  (fun x=>{ tmps:=#[.string s,undef,.pointer (some w),.pointer (some ⟨w.heap.size+1,0,none⟩),.pointer (some ⟨w.heap.size+1+1,0,none⟩),.pointer (some ⟨w.heap.size+1+1+1,0,none⟩),.int .i64 x.1.1,.string x.1.2,undef,undef,undef,undef,undef,undef,.string s,.int .i64 s.size,.bool false,undef,.string s,.func (.func 78) #[] #[.pointer (some ⟨w.heap.size+1+1+1+1,0,none⟩)],.int .i64 x.1.1,.string x.1.2,undef,undef,undef,undef,undef,undef,undef,undef,undef,undef,undef,undef,undef,undef,undef,undef,undef,undef,undef,undef,undef,undef,undef,undef,undef,undef,undef,undef,undef,undef,undef,undef,undef,undef,undef,undef,undef,undef,undef,undef,undef,undef,undef,undef,undef,undef,undef,undef],defers:=[] }) ?assign ?body ?done ?stop
 case assign =>
  intro l x W K hK
  gi_wp2
  exact hK
 case body =>
  rintro l ab x W ⟨lv,sv,ls,vs,ss,⟨ps,az,aq,ar⟩,aa⟩ hlen;clear ad ax c4 hn;have bw:=zfL s s.size 0;have bg:=zp4 _ _ _ az;rw[zrs,zrY] at bg;have bV:ls.length<=100000:=by rw[aq,zrs];omega
  have bD:ss.length<=100000:=by rw[ar,zrs];omega
  have b2:=KI (zW ab) [x.1] [];rw[az] at b2;have aR:Hid (plF (zW (ab++[x])) []=plF [x.1] ps):=by show _=_;rw[zW,zrv];exact b2
  have bm:=zH aq;have bq:=zH ar;have C:=zH (zit x.1.2 W x.2.2 (HL.out.below aa.B));have U:=zH aa;clear b2 az aq ar hlen bw bg aa;cases hwd:Z5 x.1.2 with
  |error e2 =>
   obtain⟨k,q⟩:=e2;rw[hwd] at C;have a7:plF [x.1] ps=.error (k,x.1.1):=by rw[plF,hwd]
   rw[a7] at aR;have aB:Hid (zC 36 #[x.1.2] W fun e w'=>∃er,e=.returned (.tuple #[.agg z7,er])/\ye w' er k q/\zB W w'):=C.out;clear hwd a7 C
   gi_wp2_with fail
   refine⟨trivial,?_⟩;refine(CallsIn.inRound l (callsIn_wide.2 aB.out)).mono ?_;rintro e wL ⟨er,rfl,a0,hb⟩;obtain⟨et,ev,rfl⟩:=a0.form;have ao:zB wL (wL.alloc (.cells z7 107)):=zF.alloc zN _;have V:zB W (wL.alloc (.cells z7 107)):=zT hb ao;have y:=zH (U.out.step V);have b6:=zH V;have HT:=zH (zk0 (.iface et ev) k q (wL.alloc (.cells z7 107)) ((HL.out.below y.out.B).lb.glob) (a0.below ao));clear aB a0 hb ao V
   gi_wp2_with fail
   generalize wL.alloc (.cells z7 107)=W1 at *;refine⟨trivial,?_⟩;refine(CallsIn.inRound l (callsIn_wide.2 HT.out)).mono ?_;rintro e wT ⟨rfl,aY⟩;have o:=zH (y.out.step aY);have ay:zB W wT:=zT b6.out aY;have m0:=o.out.r0.alloc (.cells #[.int .i64 k,x.1.1] 112);have m1:=o.out.r1.alloc (.cells #[.int .i64 k,x.1.1] 112);have mN:=Blk.new wT 112 #[.int .i64 k,x.1.1];have bX:=o.out.sz;have d0:(wT.alloc (.cells #[.int .i64 k,x.1.1] 112)).cell? w.heap.size=some (.pointer none):=m0.cell 0;have f0:=m0.frozen 0;have n1:=m1.other (b':=w.heap.size) (i:=0) (v:=.pointer none) (by omega);have d1:((wT.alloc (.cells #[.int .i64 k,x.1.1] 112)).setCell w (.pointer none)).cell? ⟨w.heap.size+1,0,none⟩=some .nilIface:=n1.cell 0;have f1:=n1.frozen 0;have bl:Hid (KeepsOthers W (((wT.alloc (.cells #[.int .i64 k,x.1.1] 112)).setCell w (.pointer none)).setCell ⟨w.heap.size+1,0,none⟩ (.iface 110 (.pointer (some wT))))):=(((Zi ay).trans (KeepsOthers.alloc _ _)).trans (KeepsOthers.setCell _ _ _)).trans (KeepsOthers.setCell _ _ _);have HX:Hid (PaX w .ret (ab++[x]) (((wT.alloc (.cells #[.int .i64 k,x.1.1] 112)).setCell w (.pointer none)).setCell ⟨w.heap.size+1,0,none⟩ (.iface 110 (.pointer (some wT))))) :=
    ⟨⟨rfl,k,x.1.1,wT.heap.size,aR.out,(m0.set (i:=0)).other (by omega),n1.set (i:=0),(mN.other (by omega)).other (by omega)⟩,((zL o.out.B).setCell (p:=w) zN _).setCell (p:=⟨w.heap.size+1,0,none⟩) (zrr _) _⟩
   clear HT aY y b6 o ay m0 m1 mN n1
   gi_wp2
   exact⟨bl.out,HX.out⟩
  |ok xl =>
   rw[hwd] at C;have a7:plF [x.1] ps=.ok (ps++[(x.1.1,xl)]):=by rw[plF,hwd];rfl
   rw[a7] at aR;have aB:Hid (zC 36 #[x.1.2] W fun e w'=>∃v,e=.returned (.tuple #[.agg #[xl.kind,xl.name,xl.a,xl.b,xl.c,xl.other,v],.nilIface])/\zk w' v xl.rng/\Rg xl.rng/\(∀g,v.ownBlock=some g->W.heap.size<=g)/\zB W w'):=C.out;clear hwd a7 C
   gi_wp2_with fail
   refine⟨trivial,?_⟩;refine(CallsIn.inRound l (callsIn_wide.2 aB.out)).mono ?_;rintro e wL ⟨v,rfl,b3,bh,aO,hb⟩;have ao:zB wL (wL.alloc (.cells #[xl.kind,xl.name,xl.a,xl.b,xl.c,xl.other,v] 107)):=zF.alloc zN _;have V:zB W (wL.alloc (.cells #[xl.kind,xl.name,xl.a,xl.b,xl.c,xl.other,v] 107)):=zT hb ao;have y:=zH (U.out.step V);have aK:=zH (b3.below ao zN);have b7:=zH bh;have bU:=U.out.sz;have aJ:Hid (0<xl.rng.length->∀g,v.ownBlock=some g->w.heap.size+1+1+1+1+1<=g/\some g≠lv.ownBlock/\some g≠sv.ownBlock):=fun _ g hg=>by
    have h1:=aO g hg;refine⟨by omega,fun e=>?_,fun e=>?_⟩
    ·have:=(U.out.lrow.lt g e.symm).2;omega
    ·have:=(U.out.srow.lt g e.symm).2;omega
   have aE:Hid (KeepsOthers W (wL.alloc (.cells #[xl.kind,xl.name,xl.a,xl.b,xl.c,xl.other,v] 107))):=(Zi hb).trans (KeepsOthers.alloc _ _);have aG:Hid (Kp1 (w.heap.size+1+1+1+1) W (wL.alloc (.cells #[xl.kind,xl.name,xl.a,xl.b,xl.c,xl.other,v] 107))):=zaC V (by omega) (by omega);have kx:=Blk.new wL 107 #[xl.kind,xl.name,xl.a,xl.b,xl.c,xl.other,v];obtain⟨ra,rc,rfl⟩:=b3.form;clear aB b3 bh aO hb ao V U
   gi_upto_region 11 with fail
   generalize wL.alloc (.cells #[xl.kind,xl.name,xl.a,xl.b,xl.c,xl.other,.slice ra xl.rng.length rc] 107)=W1 at *;generalize wL.heap.size=bx at *;have d0:_=some (Value.int .i64 xl.kind):=kx.cell 0;have d1:_=some (Value.string xl.name):=kx.cell 1;have d2:_=some (Value.int .i64 xl.a):=kx.cell 2;have d3:_=some (Value.int .i64 xl.b):=kx.cell 3;have d4:_=some (Value.int .i64 xl.c):=kx.cell 4;have d5:_=some (Value.string xl.other):=kx.cell 5;have d6:_=some (Value.slice ra xl.rng.length rc):=kx.cell 6;have dl:_=some lv:=y.out.r2.cell 0;obtain⟨la,lc,rfl,-⟩:=(zx y.out.lrow).form;have ay:zB W1 (W1.alloc (.cells #[xl.kind,xl.name,xl.a,xl.b,xl.c,xl.other,.slice ra xl.rng.length rc] 107)):=zF.alloc zN _;have o:=zH (y.out.step ay);have aL:=zH (aK.out.below ay zN);have a6:=zH y.out.lrow;have bS:=y.out.sz;clear ay kx
   gi_wp2_with (gi_at_builtin;refine wpListIn_append_own_at _ rfl _ _ 98 rfl (w.heap.size+1+1+1+1+1) 107 i0 (.agg z7) 7 88 underlying98 bv bJ bK bL rfl (by decide) _ _ _ rfl (a6.out.alloc _) W1.heap.size 1 1 [.int .i64 xl.kind,.string xl.name,.int .i64 xl.a,.int .i64 xl.b,.int .i64 xl.c,.string xl.other,.slice ra xl.rng.length rc] rfl rfl ?c1 ?c2 ?c3 ?c4 ?c5 ?_)
   case c1=>exact zdl _ _ _ _ _ _ _ _ _
   case c2=>intro u hu;simp at hu;rcases hu with rfl|rfl|rfl|rfl|rfl|rfl|rfl<;>rfl
   case c3=>unfold maxLen;omega
   case c4=>omega
   case c5=>simp;omega
   intro bY w2 a8 J _ ai;obtain⟨g2,am,rfl⟩:=ownsRow_succ a8;obtain⟨aP,q2,q3⟩:=o.out.appL aL.out b7.out aJ.out a8 J (by rw[zc1];exact ai);have e2:_=some (Value.slice la ls.length lc):=q2.cell 0;have f2:=q2.frozen 0;have aF:Hid (KeepsOthers W (w2.setCell ⟨w.heap.size+1+1,0,none⟩ (.slice (some g2) (ls.length+1) am))):=((aE.out.trans (KeepsOthers.alloc _ _)).trans (KeepsOthers.of_grownBy J (zer o.out.lrow))).trans (KeepsOthers.setCell _ _ _);have aH:Hid (Kp1 (w.heap.size+1+1+1+1) W (w2.setCell ⟨w.heap.size+1+1,0,none⟩ (.slice (some g2) (ls.length+1) am))):=zfv (zdb (zcj aG.out (zaC ((zf0 W1.heap.size _).alloc zN _) (by omega) (by omega))) o.out.lrow J (by omega) (by omega) (by have:=o.out.sz;omega) (by have:=o.out.sz;omega)) (by omega) (by omega);have Y:=zH aP;clear a8 J ai aP q2 q3 o aL a6 aE aG y aK b7 aJ d0 d1 d2 d3 d4 d5 d6 dl
   gi_upto_region 12 with fail
   clear e2 f2;generalize w2.setCell ⟨w.heap.size+1+1,0,none⟩ (.slice (some g2) (ls.length+1) am)=W3 at *;have ds:_=some sv:=Y.out.r3.cell 0;obtain⟨sa,sc,rfl,-⟩:=(zx Y.out.srow).form;have bb:zB W3 (W3.alloc (.cells #[x.1.1] 3)):=zF.alloc zN _;have Z:=zH (Y.out.step bb);have a6:=zH Y.out.srow;have bT:=Y.out.sz;clear bb
   gi_wp2_with (gi_at_builtin;refine wpListIn_append_own_at _ rfl _ _ 47 rfl (w.heap.size+1+1+1+1+1) 3 i1 (.int .i64 0) 1 8 zrq b0 bG bH bI rfl (by decide) _ _ _ rfl (a6.out.alloc _) W3.heap.size 1 1 [.int .i64 x.1.1] rfl rfl ?a1 ?a2 ?a3 ?a4 ?a5 ?_)
   case a1=>exact yI _ _ _
   case a2=>exact yq _
   case a3=>unfold maxLen;omega
   case a4=>omega
   case a5=>simp;omega
   intro bZ w4 a9 M _ aj;obtain⟨g4,an,rfl⟩:=ownsRow_succ a9;obtain⟨aQ,q3⟩:=Z.out.appS a9 M (by rw[zc1];exact aj);have e3:_=some (Value.slice sa ss.length sc):=q3.cell 0;have f3:=q3.frozen 0;have aT:Hid (KeepsOthers W (w4.setCell ⟨w.heap.size+1+1+1,0,none⟩ (.slice (some g4) (ss.length+1) an))):=((aF.out.trans (KeepsOthers.alloc _ _)).trans (KeepsOthers.of_grownBy M (zer Z.out.srow))).trans (KeepsOthers.setCell _ _ _);have aU:Hid (Kp1 (w.heap.size+1+1+1+1) W (w4.setCell ⟨w.heap.size+1+1+1,0,none⟩ (.slice (some g4) (ss.length+1) an))):=zfv (zdb (zcj aH.out (zaC ((zf0 W3.heap.size _).alloc zN _) (by omega) (by omega))) Z.out.srow M (by omega) (by omega) (by have:=Z.out.sz;omega) (by have:=Z.out.sz;omega)) (by omega) (by omega);have HI:Hid (PaI w (ab++[x]) (w4.setCell ⟨w.heap.size+1+1+1,0,none⟩ (.slice (some g4) (ss.length+1) an))):=⟨_,_,_,_,_,⟨_,aR.out,by rw[bm.out];simp,by rw[bq.out];simp⟩,aQ⟩;clear a9 M aj aQ q3 Z a6 aF aH Y ds
   gi_wp2
   exact⟨aT.out,aU.out,HI.out⟩
 case done =>
  rintro D ys WF hD bk ⟨lv,sv,ls,vs,ss,⟨ps,az,aq,ar⟩,aa⟩ hK;have aw:Hid (R=match qA ls with
   |.error (e,none)=>.error (e,none)
   |.error (e,some i)=>.error (e,some (ss.getD i 0))
   | .ok its=>.ok (ls,its)):=by
   show _=_;rw[<-HR.out,yR,zc2 (by omega),<-bk,az,aq,ar];rfl
  have aI:Hid (ss.length=ls.length):=by show _=_;rw[aq,ar];simp
  have X:=zH (zar ls vs lv WF aa.rg (zx aa.lrow));have U:=zH aa;have dl:_=some lv:=aa.r2.cell 0;obtain⟨la,lc,rfl,-⟩:=(zx aa.lrow).form;have aD:=zH hK;have b8:=(zrg.1 hK).1;clear aa az aq ar bk ad ax c4 hn hK;cases hnw:qA ls with
  |ok its =>
   rw[hnw] at X aw;have av:Hid (zC 38 #[.slice la ls.length lc] WF fun e w'=>∃bc,e=.returned (.tuple #[.pointer (some ⟨bc,0,none⟩),.nilIface])/\yS w' bc ls vs its WF.heap.size/\zB WF w'):=X.out;clear X hnw
   gi_wp2_with fail
   refine⟨trivial,?_⟩;refine(callsIn_wide.2 av.out).mono ?_;rintro e w1 ⟨bc,rfl,aM,V⟩;have j:=U.out.step V;have af:w1.heap[D]?=some (.deferred (some [])):=(V.block D b8).trans aD.out;have b4:=U.out.sz;have bi:=zoy w1;have m0:=j.r0;have m1:=j.r1;have d0:_=some (Value.pointer none):=m0.cell 0;have f0:=m0.frozen 0;have n1:=m1.other (b':=w.heap.size) (i:=0) (v:=.pointer (some ⟨bc,0,none⟩)) (by omega);have d1:(w1.setCell w (.pointer (some ⟨bc,0,none⟩))).cell? ⟨w.heap.size+1,0,none⟩=some .nilIface:=n1.cell 0;have f1:=n1.frozen 0;have ah:((w1.setCell w (.pointer (some ⟨bc,0,none⟩))).setCell ⟨w.heap.size+1,0,none⟩ .nilIface).heap[D]?=some (.deferred (some [])):=((KeepsOthers.setCell _ _ _).trans (KeepsOthers.setCell _ _ _)).same D _ af rfl;have ag:yS ((w1.setCell w (.pointer (some ⟨bc,0,none⟩))).setCell ⟨w.heap.size+1,0,none⟩ .nilIface) bc ls vs its WF.heap.size:=(aM.set (by omega) (U.out.lo _ (by omega))).set (by omega) (U.out.lo _ (by omega));have ae:zB w ((w1.setCell w (.pointer (some ⟨bc,0,none⟩))).setCell ⟨w.heap.size+1,0,none⟩ .nilIface):=(j.B.setCell (p:=w) zN _).setCell (p:=⟨w.heap.size+1,0,none⟩) (zrr _) _;have q0:Blk ((w1.setCell w (.pointer (some ⟨bc,0,none⟩))).setCell ⟨w.heap.size+1,0,none⟩ .nilIface) w.heap.size 22 #[.pointer (some ⟨bc,0,none⟩)]:=(m0.set (i:=0)).other (by omega);have q1:Blk ((w1.setCell w (.pointer (some ⟨bc,0,none⟩))).setCell ⟨w.heap.size+1,0,none⟩ .nilIface) (w.heap.size+1) 31 #[.nilIface]:=n1.set (i:=0);have aV:Hid (∀k,k<w.heap.size->RgN ls vs (some k)):=fun k hk=>U.out.lo k (by omega);have ac:=zH ah;have aC:=zH ag;have aA:=zH ae;have Q0:=zH q0;have Q1:=zH q1;clear av aM V j af m0 m1 n1 ah ag ae q0 q1 dl aD U
   gi_wp2
   generalize (w1.setCell w (.pointer (some ⟨bc,0,none⟩))).setCell ⟨w.heap.size+1,0,none⟩ .nilIface=WG at *;refine⟨by simp,.inl ⟨_,_,rfl,run_takeDeferred ac.out,?_⟩⟩;have r1:=(Q0.out.put (l:=D) (o':=.deferred none) (by omega)).cell 0;have r2:=(Q1.out.put (l:=D) (o':=.deferred none) (by omega)).cell 0;refine⟨.tuple #[.pointer (some ⟨bc,0,none⟩),.nilIface],?_,?_⟩
   ·simp[results,Tryz.f16,go_sem,r1,r2]
   ·rw[aw.out];exact⟨bc,vs,rfl,(aC.out.putD ⟨_,ac.out,rfl,fun _ _ h=>by cases h⟩).base (by omega),aV.out,aA.out.trans (belowK_b (w:=w) zN WG D _ _ (by omega) ac.out rfl rfl)⟩
  |error e2 =>
   obtain⟨k,q⟩:=e2;have aN:=zH hnw;rw[hnw] at X aw;have av:Hid (zC 38 #[.slice la ls.length lc] WF fun e w'=>∃er,e=.returned (.tuple #[.pointer none,er])/\ye w' er k q/\zB WF w'):=X.out;clear X hnw
   gi_wp2_with fail
   refine⟨trivial,?_⟩;refine(callsIn_wide.2 av.out).mono ?_;rintro e w1 ⟨er,rfl,a0,V⟩;have j:=U.out.step V;have af:w1.heap[D]?=some (.deferred (some [])):=(V.block D b8).trans aD.out;have b4:=U.out.sz;cases q with
   |none =>
    obtain rfl:er=_:=a0;have bi:=zqC k w1;have m0:=j.r0;have m1:=j.r1;have d0:_=some (Value.pointer none):=m0.cell 0;have f0:=m0.frozen 0;have n1:=m1.other (b':=w.heap.size) (i:=0) (v:=.pointer none) (by omega);have d1:(w1.setCell w (.pointer none)).cell? ⟨w.heap.size+1,0,none⟩=some .nilIface:=n1.cell 0;have f1:=n1.frozen 0;have ah:((w1.setCell w (.pointer none)).setCell ⟨w.heap.size+1,0,none⟩ (.iface 53 (.int .i64 k))).heap[D]?=some (.deferred (some [])):=((KeepsOthers.setCell _ _ _).trans (KeepsOthers.setCell _ _ _)).same D _ af rfl;have ae:zB w ((w1.setCell w (.pointer none)).setCell ⟨w.heap.size+1,0,none⟩ (.iface 53 (.int .i64 k))):=(j.B.setCell (p:=w) zN _).setCell (p:=⟨w.heap.size+1,0,none⟩) (zrr _) _;have q0:Blk ((w1.setCell w (.pointer none)).setCell ⟨w.heap.size+1,0,none⟩ (.iface 53 (.int .i64 k))) w.heap.size 22 #[.pointer none]:=(m0.set (i:=0)).other (by omega);have q1:Blk ((w1.setCell w (.pointer none)).setCell ⟨w.heap.size+1,0,none⟩ (.iface 53 (.int .i64 k))) (w.heap.size+1) 31 #[.iface 53 (.int .i64 k)]:=n1.set (i:=0);have ac:=zH ah;have aA:=zH ae;have Q0:=zH q0;have Q1:=zH q1;clear av V j af m0 m1 n1 ah ae q0 q1 dl aD U
    gi_wp2
    generalize (w1.setCell w (.pointer none)).setCell ⟨w.heap.size+1,0,none⟩ (.iface 53 (.int .i64 k))=WG at *;refine⟨by simp,.inl ⟨_,_,rfl,run_takeDeferred ac.out,?_⟩⟩;have r1:=(Q0.out.put (l:=D) (o':=.deferred none) (by omega)).cell 0;have r2:=(Q1.out.put (l:=D) (o':=.deferred none) (by omega)).cell 0;refine⟨.tuple #[.pointer none,.iface 53 (.int .i64 k)],?_,?_⟩
    ·simp[results,Tryz.f16,go_sem,r1,r2]
    ·rw[aw.out];exact⟨_,rfl,rfl,aA.out.trans (belowK_b (w:=w) zN WG D _ _ (by omega) ac.out rfl rfl)⟩
   |some i =>
    obtain⟨N,rfl,hN⟩:=a0;have bi:=zpW N w1;have bf:i<ss.length:=by have:=zdy aN.out;have:=aI.out;omega
    obtain⟨gs,sc,e,be,bd⟩:=(zx j.srow).cells (by omega);subst e;have aS:w1.cell? ⟨gs,i,none⟩=some (.int .i64 ((ss.getD i 0:Nat):Int)):=bd i _ (by rw[QQ _ _ (by simpa using bf)];simp[List.getD_eq_getElem?_getD,bf]);obtain⟨P,hP⟩:∃P:Nat,ss.getD i 0=P:=⟨_,rfl⟩;rw[hP] at aS;have bn:Hid (R=.error (k,some P)):=by rw[<-hP];exact aw.out
    have m0:=j.r0.alloc (.cells #[.int .i64 k,P] 112);have m1:=j.r1.alloc (.cells #[.int .i64 k,P] 112);have m3:=j.r3;have mN:=Blk.new w1 112 #[.int .i64 k,P];have aZ:w.heap.size+1+1+1+1+1<=gs:=(j.srow.lt gs rfl).1;have bR:=hN.lt;have aW:N≠w.heap.size:=hN.ne_type j.r0 (by decide);have aX:N≠w.heap.size+1:=hN.ne_type j.r1 (by decide);have n1:=m1.other (b':=w.heap.size) (i:=0) (v:=.pointer none) (by omega);have bF:=j.sz;have bt:(0:Int)<=(i:Int):=by omega
    have bu:(i:Int)<(ss.length:Int):=by omega
    have S0:Hid (w1.cell? N=some (.int .i64 k)/\w1.cell? ⟨N,1,none⟩=some (.int .i64 i)/\w1.cell? ⟨w.heap.size+1+1+1,0,none⟩=some (.slice (some gs) ss.length sc)/\w1.cell? ⟨gs,i,none⟩=some (.int .i64 P)):=⟨hN.cell 0,hN.cell 1,m3.cell 0,aS⟩;have S1:Hid ((w1.alloc (.cells #[.int .i64 k,P] 112)).cell? N=some (.int .i64 k)/\(w1.alloc (.cells #[.int .i64 k,P] 112)).cell? ⟨N,1,none⟩=some (.int .i64 i)/\(w1.alloc (.cells #[.int .i64 k,P] 112)).cell? ⟨w.heap.size+1+1+1,0,none⟩=some (.slice (some gs) ss.length sc)/\(w1.alloc (.cells #[.int .i64 k,P] 112)).cell? ⟨gs,i,none⟩=some (.int .i64 P)):=by
     have hb:zB w1 (w1.alloc (.cells #[.int .i64 k,P] 112)):=zF.alloc zN _;exact⟨(hN.below hb hN.lt).cell 0,(hN.below hb hN.lt).cell 1,(m3.below hb m3.lt).cell 0,(hb.cell (p:=⟨gs,i,none⟩) be).trans aS⟩
    have S2:Hid (((w1.alloc (.cells #[.int .i64 k,P] 112)).setCell w (.pointer none)).cell? N=some (.int .i64 k)/\((w1.alloc (.cells #[.int .i64 k,P] 112)).setCell w (.pointer none)).cell? ⟨N,1,none⟩=some (.int .i64 i)/\((w1.alloc (.cells #[.int .i64 k,P] 112)).setCell w (.pointer none)).cell? ⟨w.heap.size+1+1+1,0,none⟩=some (.slice (some gs) ss.length sc)/\((w1.alloc (.cells #[.int .i64 k,P] 112)).setCell w (.pointer none)).cell? ⟨gs,i,none⟩=some (.int .i64 P)):=⟨(qq aW).trans S1.out.1,(qq aW).trans S1.out.2.1,(qq (by omega)).trans S1.out.2.2.1,(qq (by omega)).trans S1.out.2.2.2⟩;have S3:Hid ((((w1.alloc (.cells #[.int .i64 k,P] 112)).setCell w (.pointer none)).setCell ⟨w.heap.size+1,0,none⟩ (.iface 110 (.pointer (some w1)))).cell? N=some (.int .i64 k)/\(((w1.alloc (.cells #[.int .i64 k,P] 112)).setCell w (.pointer none)).setCell ⟨w.heap.size+1,0,none⟩ (.iface 110 (.pointer (some w1)))).cell? ⟨N,1,none⟩=some (.int .i64 i)/\(((w1.alloc (.cells #[.int .i64 k,P] 112)).setCell w (.pointer none)).setCell ⟨w.heap.size+1,0,none⟩ (.iface 110 (.pointer (some w1)))).cell? ⟨w.heap.size+1+1+1,0,none⟩=some (.slice (some gs) ss.length sc)/\(((w1.alloc (.cells #[.int .i64 k,P] 112)).setCell w (.pointer none)).setCell ⟨w.heap.size+1,0,none⟩ (.iface 110 (.pointer (some w1)))).cell? ⟨gs,i,none⟩=some (.int .i64 P)):=⟨(qq aX).trans S2.out.1,(qq aX).trans S2.out.2.1,(qq (by omega)).trans S2.out.2.2.1,(qq (by omega)).trans S2.out.2.2.2⟩;have d0:(w1.alloc (.cells #[.int .i64 k,P] 112)).cell? w.heap.size=some (.pointer none):=m0.cell 0;have f0:(w1.alloc (.cells #[.int .i64 k,P] 112)).frozen? w.heap.size=false:=m0.frozen 0;have d1:((w1.alloc (.cells #[.int .i64 k,P] 112)).setCell w (.pointer none)).cell? ⟨w.heap.size+1,0,none⟩=some .nilIface:=n1.cell 0;have f1:((w1.alloc (.cells #[.int .i64 k,P] 112)).setCell w (.pointer none)).frozen? ⟨w.heap.size+1,0,none⟩=false:=n1.frozen 0;have ah:(((w1.alloc (.cells #[.int .i64 k,P] 112)).setCell ⟨w.heap.size+1,0,none⟩ (.iface 110 (.pointer (some w1)))).drew).heap[D]?=some (.deferred (some [])):=(((KeepsOthers.alloc w1 _).trans (KeepsOthers.setCell _ _ _)).trans (KeepsOthers.drew _)).same D _ af rfl;have ae:zB w (((w1.alloc (.cells #[.int .i64 k,P] 112)).setCell ⟨w.heap.size+1,0,none⟩ (.iface 110 (.pointer (some w1)))).drew):=((zL j.B).setCell (p:=⟨w.heap.size+1,0,none⟩) (zrr _) _).drew;have q0:Blk (((w1.alloc (.cells #[.int .i64 k,P] 112)).setCell ⟨w.heap.size+1,0,none⟩ (.iface 110 (.pointer (some w1)))).drew) w.heap.size 22 #[.pointer none]:=m0.other (b':=w.heap.size+1) (by omega);have q1:Blk (((w1.alloc (.cells #[.int .i64 k,P] 112)).setCell ⟨w.heap.size+1,0,none⟩ (.iface 110 (.pointer (some w1)))).drew) (w.heap.size+1) 31 #[.iface 110 (.pointer (some w1))]:=m1.set (i:=0);have q2:Blk (((w1.alloc (.cells #[.int .i64 k,P] 112)).setCell ⟨w.heap.size+1,0,none⟩ (.iface 110 (.pointer (some w1)))).drew) w1.heap.size 112 #[.int .i64 k,P]:=mN.other (b':=w.heap.size+1) (by omega);have ac:=zH ah;have aA:=zH ae;have Q0:=zH q0;have Q1:=zH q1;have Q2:=zH q2;have br:D≠w1.heap.size:=by have:=(zrg.1 af).1;omega
    have z0:_=some (Value.pointer none):=j.r0.cell 0;have bQ:=j.r0.frozen 0;have y0:((w1.alloc (.cells #[.int .i64 k,P] 112)).drew).cell? w.heap.size=some (.pointer none):=m0.cell 0;have bO:((w1.alloc (.cells #[.int .i64 k,P] 112)).drew).frozen? w.heap.size=false:=m0.frozen 0;have y1:((w1.alloc (.cells #[.int .i64 k,P] 112)).drew).cell? ⟨w.heap.size+1,0,none⟩=some .nilIface:=m1.cell 0;have bP:((w1.alloc (.cells #[.int .i64 k,P] 112)).drew).frozen? ⟨w.heap.size+1,0,none⟩=false:=m1.frozen 0;have x0:(((w1.alloc (.cells #[.int .i64 k,P] 112)).setCell ⟨w.heap.size+1,0,none⟩ (.iface 110 (.pointer (some w1)))).drew).cell? w.heap.size=some (.pointer none):=(m0.other (by omega)).cell 0;have bN:(((w1.alloc (.cells #[.int .i64 k,P] 112)).setCell ⟨w.heap.size+1,0,none⟩ (.iface 110 (.pointer (some w1)))).drew).frozen? w.heap.size=false:=(m0.other (by omega)).frozen 0;have v0:(((w1.alloc (.cells #[.int .i64 k,P] 112)).drew.setCell ⟨w.heap.size+1,0,none⟩ (.iface 110 (.pointer (some w1))))).cell? w.heap.size=some (.pointer none):=(m0.other (by omega)).cell 0;have bM:(((w1.alloc (.cells #[.int .i64 k,P] 112)).drew.setCell ⟨w.heap.size+1,0,none⟩ (.iface 110 (.pointer (some w1))))).frozen? w.heap.size=false:=(m0.other (by omega)).frozen 0;have bz:w1.drew.setCell w (.pointer none)=w1.drew:=Ky (show Blk w1.drew _ _ _ from j.r0) rfl;have bA:((w1.alloc (.cells #[.int .i64 k,P] 112)).drew).setCell w (.pointer none)=(w1.alloc (.cells #[.int .i64 k,P] 112)).drew:=Ky (show Blk ((w1.alloc (.cells #[.int .i64 k,P] 112)).drew) _ _ _ from m0) rfl;have bB:(((w1.alloc (.cells #[.int .i64 k,P] 112)).setCell ⟨w.heap.size+1,0,none⟩ (.iface 110 (.pointer (some w1)))).drew).setCell w (.pointer none)=((w1.alloc (.cells #[.int .i64 k,P] 112)).setCell ⟨w.heap.size+1,0,none⟩ (.iface 110 (.pointer (some w1)))).drew:=Ky (show Blk (((w1.alloc (.cells #[.int .i64 k,P] 112)).setCell ⟨w.heap.size+1,0,none⟩ (.iface 110 (.pointer (some w1)))).drew) _ _ _ from m0.other (by omega)) rfl;have bC:(((w1.alloc (.cells #[.int .i64 k,P] 112)).drew.setCell ⟨w.heap.size+1,0,none⟩ (.iface 110 (.pointer (some w1))))).setCell w (.pointer none)=((w1.alloc (.cells #[.int .i64 k,P] 112)).drew.setCell ⟨w.heap.size+1,0,none⟩ (.iface 110 (.pointer (some w1)))):=Ky (show Blk (((w1.alloc (.cells #[.int .i64 k,P] 112)).drew.setCell ⟨w.heap.size+1,0,none⟩ (.iface 110 (.pointer (some w1))))) _ _ _ from m0.other (by omega)) rfl;clear av V j af m0 m1 m3 mN n1 ah ae q0 q1 q2 dl aD U aS hN aW aX aZ be bd aN aI aw hP
    gi_upto_region 16 with fail
    refine wpIn_wide.2 ?_
    as_aux_lemma =>
     clear S1 S2 S3 d0 f0 d1 f1;obtain⟨s0,s1,s2,s3⟩:=S0.out;clear S0;go_big_region
     all_goals
      clear s0 s1 s2 s3 z0 bQ y0 bO y1 bP x0 bN v0 bM bz bA bB bC
      gi_wp2
      generalize ((w1.alloc (.cells #[.int .i64 k,P] 112)).setCell ⟨w.heap.size+1,0,none⟩ (.iface 110 (.pointer (some w1)))).drew=WG at *;refine⟨by simp,.inl ⟨_,_,rfl,run_takeDeferred ac.out,?_⟩⟩;have r1:=(Q0.out.put (l:=D) (o':=.deferred none) (by omega)).cell 0;have r2:=(Q1.out.put (l:=D) (o':=.deferred none) (by omega)).cell 0;refine⟨.tuple #[.pointer none,.iface 110 (.pointer (some w1))],?_,?_⟩
      ·simp[results,Tryz.f16,go_sem,r1,r2]
      ·rw[bn.out];exact⟨_,rfl,⟨_,rfl,Q2.out.put (fun e=>br e.symm)⟩,aA.out.trans (belowK_b (w:=w) zN WG D _ _ (by omega) ac.out rfl rfl)⟩
 case stop =>
  rintro D c ab W hD b1 ⟨⟨rfl,k,i,N,bj,x1,x2,x3⟩,xB⟩ hK;obtain⟨b5,ak⟩:=b1;have au:=KI (zW ab) b5 [];rw[bj,ak] at au;have bo:Hid (R=.error (k,some i)):=by
   show _=_;rw[<-HR.out,yR,zc2 (by omega),au]
  have b9:N≠D:=fun e=>by
   subst e;have:=(show W.heap[N]?=_ from x3).symm.trans hK;simp at this
  have q1:=x1.put (l:=D) (o':=.deferred none) (by omega);have q2:=x2.put (l:=D) (o':=.deferred none) (by omega);have q3:=x3.put (l:=D) (o':=.deferred none) b9;have r1:=q1.cell 0;have r2:=q2.cell 0;have bp:=zH q3;have HB:=zH xB;clear bj au ak x1 x2 x3 q1 q2 q3 xB b9 ad ax c4 hn
  gi_wp2
  refine⟨by simp,.inl ⟨_,_,rfl,run_takeDeferred hK,?_⟩⟩;refine⟨.tuple #[.pointer none,.iface 110 (.pointer (some N))],?_,?_⟩
  ·simp[results,Tryz.f16,go_sem,r1,r2]
  ·rw[bo.out];exact⟨_,rfl,⟨N,rfl,bp.out⟩,HB.out.trans (belowK_b (w:=w) zN W D _ _ (by omega) hK rfl rfl)⟩
theorem zkO(s:ByteArray)(w:World)(hw:Lw w):zC 16 #[s] w (JW w (yR s)):=by
 by_cases h:20000<s.size
 ·have e:yR s=.error (4,none):=by unfold yR;rw[zc3 h]
  rw[e];exact zmQ s w h
 ·exact(callsIn_wide (n:=4)).1 (zn9 s w (by omega) hw)
end
section
open Go.RowKit Go.Deep Sv
theorem set3{W:World}{b:Nat}{t:TypeId}{x y z:Value}(h:Blk W b t #[x,y,z])(p q r:Value):Blk (((W.setCell b p).setCell ⟨b,1,none⟩ q).setCell ⟨b,2,none⟩ r) b t #[p,q,r]:=((h.set (i:=0)).set (i:=1)).set (i:=2)
end
