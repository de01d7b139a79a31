import Derived.Test.YthifnefkdjkicaaGreatDoorCtOf
set_option maxHeartbeats 4000000
set_option maxRecDepth 100000
namespace Go.Proofs.YthifnefkdjkicaaGreatDoor
section
open Go.RowKit Go.Deep Sv
theorem zdw:∀(ls:List Ln) (i:Nat) (its out:List It),its.length<=24->qg ls i its=.ok out->out.length<=24/\∀x∈ls,qJ x=0
 |[],i,its,out,h0,h=>by cases h;exact⟨h0,fun x hx=>by cases hx⟩
 |x :: r,i,its,out,h0,h=>by
  rw[qg] at h;split at h
  ·cases h
  ·rename_i hc;have hc':qJ x=0:=Decidable.not_not.1 hc;have o:∀j,j.length<=24->qg r (i+1) j=.ok out->out.length<=24/\∀y∈x :: r,qJ y=0:=fun j h1 h2=>by
    obtain⟨g1,g2⟩:=zdw r (i+1) j out h1 h2;exact⟨g1,fun y hy=>by rcases List.mem_cons.1 hy with rfl|hy;exact hc';exact g2 y hy⟩
   split at h
   ·split at h
    ·cases h
    ·split at h
     ·cases h
     ·rename_i h8;exact o _ (by simp;omega) h
   ·exact o _ h0 h
theorem zay{ls:List Ln}{its:List It}(h:qA ls=.ok its):its.length<=24/\ls.length<=100/\∀x∈ls,qJ x=0:=by
 unfold qA at h;split at h
 ·cases h
 ·split at h
  ·cases h
  ·rename_i its' hg;split at h
   ·cases h
   ·cases h;obtain⟨h1,h2⟩:=zdw ls 0 [] its' (by simp) hg;refine⟨?_,by omega,h2⟩;unfold qX;rw[List.length_mergeSort];exact h1
theorem zkp{s:ByteArray}{ls:List Ln}{its:List It}(h:yM s=.ok (ls,its)):qA ls=.ok its:=by
 unfold yM at h;split at h
 ·cases h
 ·split at h
  ·cases h
  ·split at h
   ·cases h
   ·cases h
   ·rename_i hn;cases h;exact hn
theorem zj3{x:Ln}(h:qJ x=0):x.name.size<=100000/\x.other.size<=100000:=by
 unfold qJ at h;split at h
 ·cases h
 ·split at h
  ·cases h
  ·rename_i h5;split at h
   ·cases h
   ·rename_i h6;have hn:zr x.name:=by
     apply Classical.byContradiction;intro hc;exact h5 (Or.inl hc)
    refine⟨by have:=hn.len;omega,?_⟩
    by_cases hp:x.pair
    ·have ho:zr x.other:=by
      apply Classical.byContradiction;intro hc;exact h5 (Or.inr ⟨hp,hc⟩)
     have:=ho.len;omega
    ·have:x.other.size=0:=by
      apply Classical.byContradiction;intro hc;exact h6 ⟨hp,hc⟩
     omega
end
section
open Go.RowKit Go.Deep Go.Shelf Sv
attribute [local go_sem] Oper.semAt_some
def KP(w:World)(r:Except (Int × Option Nat) (List Ln × List It))(e:Ending)(w':World):Prop :=
 match r with
 |.ok (ls,its)=>∃bc vs,e=.returned (.tuple #[.pointer (some ⟨bc,0,none⟩),.nilIface])/\yH w' bc ls vs its w.heap.size/\(∀k,k<w.heap.size->RgN ls vs (some k))/\zB w w'
 |.error (k,p)=>∃er,e=.returned (.tuple #[.pointer none,er])/\yb w' er k p/\zB w w'
theorem yH.base{w:World}{b:Nat}{ls:List Ln}{vs:List Value}{its:List It}{B B':Nat}(h:yH w b ls vs its B)(hB:B'<=B):yH w b ls vs its B':=by
 obtain⟨lv,iv,bm,h1,h2,h3,h4,h5,h6,h7,h8,h9⟩:=h;exact⟨lv,iv,bm,h1,h2,h3,h4,h5,Nat.le_trans hB h6,Nat.le_trans hB h7,fun g hg=>Nat.le_trans hB (h8 g hg),fun g hg=>Nat.le_trans hB (h9 g hg)⟩
theorem znG(er:Value)(k:Int)(p:Option Nat)(w:World)(hg:yU w)(h:yb w er k p):zR 40 #[er] w (.int .i64 k):=by
 cases p with
 |none=>obtain rfl:er=_:=h;exact(JT k w hg)
 |some q =>obtain⟨N,rfl,hN⟩:=h;exact zcv k N w hg (hN.cell 0)
theorem zio(s:ByteArray)(w:World)(hs:20000<s.size):zC 18 #[s] w (KP w (.error (4,none))):=by
 have hl:(20000:Int)<(s.size:Int):=by omega
 generalize hn:(s.size:Int)=n at *;clear hs;go_enter Tryz.func18,Tryz.ntmps18;go_wp2;have k0:=(Blk.new w 24 #[.pointer none]).alloc (.cells #[.iface 42 (.int .i64 4)] 33);have k1:=Blk.new (w.alloc (.cells #[.pointer none] 24)) 33 #[.iface 42 (.int .i64 4)];rw[zA0] at k1;have hB:zB w ((w.alloc (.cells #[.pointer none] 24)).alloc (.cells #[.iface 42 (.int .i64 4)] 33)):=((Below.refl _ w).alloc zN _).alloc (by simp only[zA0];omega) _;generalize (w.alloc (.cells #[.pointer none] 24)).alloc (.cells #[.iface 42 (.int .i64 4)] 33)=WF at *;have r0:=k0.cell 0;have r3:=k1.cell 0;refine bodyPost_ret (v:=.tuple #[.pointer none,.iface 42 (.int .i64 4)]) (by simp[results,Tryz.f18,go_sem,r0,r3]) rfl ?_;exact⟨_,rfl,rfl,hB⟩
theorem zag:∀(ls:List Ln) (i:Nat) (its:List It) (k:Int) (j:Nat),qg ls i its=.error (k,j)->i<=j/\j<i+ls.length
 |[],i,its,k,j,h=>by cases h
 |x :: r,i,its,k,j,h=>by
  rw[qg] at h;split at h
  ·cases h;exact⟨Nat.le_refl _,by simp⟩
  ·split at h
   ·split at h
    ·cases h;exact⟨Nat.le_refl _,by simp⟩
    ·split at h
     ·cases h;exact⟨Nat.le_refl _,by simp⟩
     ·have:=zag r (i+1) _ k j h;simp;omega
   ·have:=zag r (i+1) _ k j h;simp;omega
theorem zfQ:∀(ls:List Ln) (i:Nat) (its:List It) (j:Nat),qu ls i its=some j->j<i+ls.length
 |[],i,its,j,h=>by cases h
 |x :: r,i,its,j,h=>by
  rw[qu] at h;split at h
  ·cases h;simp
  ·have:=zfQ r (i+1) its j h;simp;omega
theorem zfZ{ls:List Ln}{k:Int}{i:Nat}(h:qA ls=.error (k,some i)):i<ls.length:=by
 unfold qA at h;split at h
 ·cases h
 ·split at h
  ·rename_i e he;cases h;have:=zag ls 0 [] e.1 e.2 he;omega
  ·split at h
   ·rename_i j hj;cases h;have:=zfQ ls 0 _ i hj;omega
   ·cases h
theorem JB{W:World}{b i:Nat}{v:Value}{t:TypeId}{cs:Array Value}(h:Blk W b t cs)(hv:cs[i]?=some v):W.setCell ⟨b,i,none⟩ v=W:=by
 have e:(W.setCell ⟨b,i,none⟩ v).heap=W.heap:=by
  apply Array.ext_getElem?;intro k
  by_cases hk:k=b
  ·subst hk;have h1:(W.setCell ⟨k,i,none⟩ v).heap[k]?=_:=h.set (i:=i) (v:=v);rw[h1,show W.heap[k]?=_ from h];congr 2;apply Array.ext_getElem?;intro j;rw[Array.getElem?_setIfInBounds]
   by_cases hj:i=j
   ·subst hj;obtain⟨o,-⟩:=Array.getElem?_eq_some_iff.1 hv;rw[zA2 rfl,zA2 o,hv]
   ·rw[zA1 hj]
  ·exact Below.heap_setCell _ _ _ k hk
 have e2:W.setCell ⟨b,i,none⟩ v={ W with heap:=(W.setCell ⟨b,i,none⟩ v).heap }:=rfl;rw[e2,e]
theorem zog(w:World):(Instr.typeAssert .nilIface 33 100 true).run Tryz.prog w=.ok (.tuple #[.pointer none,false]) w:=by kernel_rfl
def PaI(w:World)(pre:List Pc)(W:World):Prop:=∃lv sv ls vs ss,(∃ps,plF (zZ pre) []=.ok ps/\ls=ps.map Prod.snd/\ss=ps.map Prod.fst)/\PS w W lv sv ls vs ss
def PaX(w:World)(c:Code)(pre:List Pc)(W:World):Prop :=
 (c=.ret/\∃k i N,plF (zZ pre) []=.error (k,i)/\Blk W w.heap.size 24 #[.pointer none]/\Blk W (w.heap.size+1) 33 #[.iface 100 (.pointer (some ⟨N,0,none⟩))]/\Blk W N 102 #[.int .i64 k,.int .i64 i])/\zB w W
theorem zhK(w:World)(B:Nat)(hB:w.heap.size<=B):∀c,OwnFrom B (PaX w c):=by
 intro c j W W' row ⟨⟨hc,k,i,N,h1,h2,h3,h4⟩,h6⟩ hg hr;have hr':∀r,row=some r->∃o:Obj,W.heap[r]?=some o/\o.isCells=false:=fun r e=>(hr r e).2;exact⟨⟨hc,k,i,N,h1,yo h2 hg hr',yo h3 hg hr',yo h4 hg hr'⟩,ownFrom_below (β:=Unit) zN hB () W W' row h6 hg hr⟩
theorem zl2(s:ByteArray)(w:World)(hs:s.size<=20000)(hw:Lw w) :
  CallsIn Fence.wide 4 Tryz.prog 18 #[s] w (KP w (yM s)):=by
 have HP:Hid (∀W,CallsIn Fence.wide 3 Tryz.prog 38 #[s] W fun e w'=>e=.returned (.func (.func 72) #[] #[.pointer (some W.heap.size)])/\w'=W.alloc (.cells #[s] 9)):=fun W=>zje s W;have HL:=zH hw;have br:=hw.lb.big;obtain⟨R,hR⟩:∃R,yM s=R:=⟨_,rfl⟩;rw[hR];have HR:=zH hR;clear hw hR;have bV:¬(20000:Int)<(s.size:Int):=by omega
 refine callsIn_of_wp_marks Tryz.func18 rfl trivial ?_ rfl;simp only[Tryz.ntmps18,List.size_toArray,List.length_cons,List.length_nil,Nat.reduceAdd,Nat.reduceSub,Array.replicate_succ,Array.replicate_zero,List.push_toArray,List.append_toArray,List.nil_append,List.cons_append]
 gi_wp2_with (refine⟨trivial,?_⟩;gi_at_call 38;refine(HP.out _).mono ?_;rintro e w' ⟨rfl,rfl⟩)
 clear HP;have k0:=((((Blk.new w 24 #[.pointer none]).alloc (.cells #[.nilIface] 33)).alloc (.cells #[.slice none 0 0] 88)).alloc (.cells #[.slice none 0 0] 23)).alloc (.cells #[s] 9);have k1:=(((Blk.new (w.alloc (.cells #[.pointer none] 24)) 33 #[.nilIface]).alloc (.cells #[.slice none 0 0] 88)).alloc (.cells #[.slice none 0 0] 23)).alloc (.cells #[s] 9);have k2:=((Blk.new ((w.alloc (.cells #[.pointer none] 24)).alloc (.cells #[.nilIface] 33)) 88 #[.slice none 0 0]).alloc (.cells #[.slice none 0 0] 23)).alloc (.cells #[s] 9);have k3:=(Blk.new (((w.alloc (.cells #[.pointer none] 24)).alloc (.cells #[.nilIface] 33)).alloc (.cells #[.slice none 0 0] 88)) 23 #[.slice none 0 0]).alloc (.cells #[s] 9);have k4:=Blk.new ((((w.alloc (.cells #[.pointer none] 24)).alloc (.cells #[.nilIface] 33)).alloc (.cells #[.slice none 0 0] 88)).alloc (.cells #[.slice none 0 0] 23)) 9 #[s];simp only[zA0] at k1 k2 k3 k4;have aw:zB w (((((w.alloc (.cells #[.pointer none] 24)).alloc (.cells #[.nilIface] 33)).alloc (.cells #[.slice none 0 0] 88)).alloc (.cells #[.slice none 0 0] 23)).alloc (.cells #[s] 9)):=(((((Below.refl _ w).alloc zN _).alloc (by simp only[zA0];omega) _).alloc (by simp only[zA0];omega) _).alloc (by simp only[zA0];omega) _).alloc (by simp only[zA0];omega) _;have bD:(((((w.alloc (.cells #[.pointer none] 24)).alloc (.cells #[.nilIface] 33)).alloc (.cells #[.slice none 0 0] 88)).alloc (.cells #[.slice none 0 0] 23)).alloc (.cells #[s] 9)).heap.size=w.heap.size+1+1+1+1+1:=by simp only[zA0]
 obtain⟨W0,b9⟩:∃W0,((((w.alloc (.cells #[.pointer none] 24)).alloc (.cells #[.nilIface] 33)).alloc (.cells #[.slice none 0 0] 88)).alloc (.cells #[.slice none 0 0] 23)).alloc (.cells #[s] 9)=W0:=⟨_,rfl⟩;rw[b9] at k0 k1 k2 k3 k4 aw bD ⊢;clear b9;have ad:PS w W0 (.slice none 0 0) (.slice none 0 0) [] [] []:=⟨k0,k1,k2,k3,World.ownsRow_nil _ _ _ _,World.ownsRow_nil _ _ _ _,zpB _,RgN.nil _,RgN.nil _,fun _ _=>RgN.nil _,aw,by omega⟩;obtain⟨n,hn⟩:=(HL.out.lb.below aw).ml;have c4:_=some (Value.string s):=k4.cell 0;clear k0 k1 k2 k3 k4;obtain⟨i0,bu,bI,bJ,bK⟩:=info_parts zca;obtain⟨i1,aZ,bF,bG,bH⟩:=info_parts Z0;refine wpIn_rangeFunc_ownF rfl (by omega) (gf:=72) (lb:=#[.pointer (some ⟨w.heap.size+1+1+1+1,0,none⟩)]) rfl trivial (enters_of Tryz.func72 (by kernel_rfl) rfl)
  (zjR (w.heap.size+1+1+1+1) s hs W0 (by omega) (by omega) c4 n hn) zbA (zlh (by omega) (by omega)) zF (fun _=>rfl)
  (fun ab W=>PaI w ab W)
  (fun c ab W=>PaX w c ab W)
  (PS.own W0.heap.size (by omega) _) (zhK w W0.heap.size (by omega))
  ⟨_,_,[],[],[],⟨[],rfl,rfl,rfl⟩,ad⟩
  (fun x=>{ tmps:=#[.string s,undef,.pointer (some w.heap.size),.pointer (some ⟨w.heap.size+1,0,none⟩),.pointer (some ⟨w.heap.size+1+1,0,none⟩),.pointer (some ⟨w.heap.size+1+1+1,0,none⟩),.int .i64 x.1.1,.string x.1.2,undef,undef,undef,undef,undef,undef,.string s,.int .i64 s.size,.bool false,undef,.string s,.func (.func 72) #[] #[.pointer (some ⟨w.heap.size+1+1+1+1,0,none⟩)],.int .i64 x.1.1,.string x.1.2,undef,undef,undef,undef,undef,undef,undef,undef,undef,undef,undef,undef,undef,undef,undef,undef,undef,undef,undef,undef,undef,undef,undef,undef,undef,undef,undef,undef,undef,undef,undef,undef,undef,undef,undef,undef,undef,undef,undef,undef,undef,undef,undef,undef,undef,undef,undef,undef],defers:=[] }) ?assign ?body ?done ?stop
 case assign =>
  intro l x W K hK
  gi_wp2
  exact hK
 case body =>
  rintro l ab x W ⟨lv,sv,ls,vs,ss,⟨ps,ay,ap,aq⟩,aa⟩ hlen;clear ad aw c4 hn;have bv:=zcT s s.size 0;have bf:=zg2 _ _ _ ay;rw[List.length_map,List.length_nil] at bf;have bU:ls.length<=100000:=by rw[ap,List.length_map];omega
  have bC:ss.length<=100000:=by rw[aq,List.length_map];omega
  have b1:=Ks (zZ ab) [x.1] [];rw[ay] at b1;have aQ:Hid (plF (zZ (ab++[x])) []=plF [x.1] ps):=by show _=_;rw[zZ,List.map_append];exact b1
  have bl:=zH ap;have bp:=zH aq;have C:=zH (zho x.1.2 W x.2.2 (HL.out.below aa.B));have U:=zH aa;clear b1 ay ap aq hlen bv bf aa;cases hwd:ZU x.1.2 with
  |error e2 =>
   obtain⟨k,q⟩:=e2;rw[hwd] at C;have a7:plF [x.1] ps=.error (k,x.1.1):=by rw[plF,hwd]
   rw[a7] at aQ;have aA:Hid (zC 39 #[x.1.2] W fun e w'=>∃er,e=.returned (.tuple #[.agg z7,er])/\yb w' er k q/\zB W w'):=C.out;clear hwd a7 C
   gi_wp2_with fail
   refine⟨trivial,?_⟩;refine(CallsIn.inRound l (callsIn_wide.2 aA.out)).mono ?_;rintro e wL ⟨er,rfl,a0,hb⟩;obtain⟨et,ev,rfl⟩:=a0.form;have ao:zB wL (wL.alloc (.cells z7 97)):=zF.alloc zN _;have V:zB W (wL.alloc (.cells z7 97)):=zT hb ao;have y:=zH (U.out.step V);have b5:=zH V;have HT:=zH (znG (.iface et ev) k q (wL.alloc (.cells z7 97)) ((HL.out.below y.out.B).lb.glob) (a0.below ao));clear aA a0 hb ao V
   gi_wp2_with fail
   generalize wL.alloc (.cells z7 97)=W1 at *;refine⟨trivial,?_⟩;refine(CallsIn.inRound l (callsIn_wide.2 HT.out)).mono ?_;rintro e wT ⟨rfl,aX⟩;have o:=zH (y.out.step aX);have ax:zB W wT:=zT b5.out aX;have m0:=o.out.r0.alloc (.cells #[.int .i64 k,x.1.1] 102);have m1:=o.out.r1.alloc (.cells #[.int .i64 k,x.1.1] 102);have mN:=Blk.new wT 102 #[.int .i64 k,x.1.1];have bW:=o.out.sz;have d0:(wT.alloc (.cells #[.int .i64 k,x.1.1] 102)).cell? w.heap.size=some (.pointer none):=m0.cell 0;have f0:=m0.frozen 0;have n1:=m1.other (b':=w.heap.size) (i:=0) (v:=.pointer none) (by omega);have d1:((wT.alloc (.cells #[.int .i64 k,x.1.1] 102)).setCell w.heap.size (.pointer none)).cell? ⟨w.heap.size+1,0,none⟩=some .nilIface:=n1.cell 0;have f1:=n1.frozen 0;have bk:Hid (KeepsOthers W (((wT.alloc (.cells #[.int .i64 k,x.1.1] 102)).setCell w.heap.size (.pointer none)).setCell ⟨w.heap.size+1,0,none⟩ (.iface 100 (.pointer (some wT.heap.size))))):=(((x9 ax).trans (KeepsOthers.alloc _ _)).trans (KeepsOthers.setCell _ _ _)).trans (KeepsOthers.setCell _ _ _);have HX:Hid (PaX w .ret (ab++[x]) (((wT.alloc (.cells #[.int .i64 k,x.1.1] 102)).setCell w.heap.size (.pointer none)).setCell ⟨w.heap.size+1,0,none⟩ (.iface 100 (.pointer (some wT.heap.size))))) :=
    ⟨⟨rfl,k,x.1.1,wT.heap.size,aQ.out,(m0.set (i:=0)).other (by omega),n1.set (i:=0),(mN.other (by omega)).other (by omega)⟩,((zL o.out.B).setCell (p:=w.heap.size) zN _).setCell (p:=⟨w.heap.size+1,0,none⟩) (Nat.le_succ _) _⟩
   clear HT aX y b5 o ax m0 m1 mN n1
   gi_wp2
   exact⟨bk.out,HX.out⟩
  |ok xl =>
   rw[hwd] at C;have a7:plF [x.1] ps=.ok (ps++[(x.1.1,xl)]):=by rw[plF,hwd];rfl
   rw[a7] at aQ;have aA:Hid (zC 39 #[x.1.2] W fun e w'=>∃v,e=.returned (.tuple #[.agg #[xl.kind,xl.name,xl.a,xl.b,xl.c,xl.other,v],.nilIface])/\zk w' v xl.rng/\Rg xl.rng/\(∀g,v.ownBlock=some g->W.heap.size<=g)/\zB W w'):=C.out;clear hwd a7 C
   gi_wp2_with fail
   refine⟨trivial,?_⟩;refine(CallsIn.inRound l (callsIn_wide.2 aA.out)).mono ?_;rintro e wL ⟨v,rfl,b2,bg,aN,hb⟩;have ao:zB wL (wL.alloc (.cells #[xl.kind,xl.name,xl.a,xl.b,xl.c,xl.other,v] 97)):=zF.alloc zN _;have V:zB W (wL.alloc (.cells #[xl.kind,xl.name,xl.a,xl.b,xl.c,xl.other,v] 97)):=zT hb ao;have y:=zH (U.out.step V);have aJ:=zH (b2.below ao zN);have b6:=zH bg;have bT:=U.out.sz;have aI:Hid (0<xl.rng.length->∀g,v.ownBlock=some g->w.heap.size+1+1+1+1+1<=g/\some g≠lv.ownBlock/\some g≠sv.ownBlock):=fun _ g hg=>by
    have h1:=aN g hg;refine⟨by omega,fun e=>?_,fun e=>?_⟩
    ·have:=(U.out.lrow.lt g e.symm).2;omega
    ·have:=(U.out.srow.lt g e.symm).2;omega
   have aD:Hid (KeepsOthers W (wL.alloc (.cells #[xl.kind,xl.name,xl.a,xl.b,xl.c,xl.other,v] 97))):=(x9 hb).trans (KeepsOthers.alloc _ _);have aF:Hid (Kp1 (w.heap.size+1+1+1+1) W (wL.alloc (.cells #[xl.kind,xl.name,xl.a,xl.b,xl.c,xl.other,v] 97))):=zby V (by omega) (by omega);have kx:=Blk.new wL 97 #[xl.kind,xl.name,xl.a,xl.b,xl.c,xl.other,v];obtain⟨ra,rc,rfl⟩:=b2.form;clear aA b2 bg aN hb ao V U
   gi_upto_region 11 with fail
   generalize wL.alloc (.cells #[xl.kind,xl.name,xl.a,xl.b,xl.c,xl.other,.slice ra xl.rng.length rc] 97)=W1 at *;generalize wL.heap.size=bx at *;have d0:_=some (Value.int .i64 xl.kind):=kx.cell 0;have d1:_=some (Value.string xl.name):=kx.cell 1;have d2:_=some (Value.int .i64 xl.a):=kx.cell 2;have d3:_=some (Value.int .i64 xl.b):=kx.cell 3;have d4:_=some (Value.int .i64 xl.c):=kx.cell 4;have d5:_=some (Value.string xl.other):=kx.cell 5;have d6:_=some (Value.slice ra xl.rng.length rc):=kx.cell 6;have dl:_=some lv:=y.out.r2.cell 0;obtain⟨la,lc,rfl,-⟩:=(zD y.out.lrow).form;have ax:zB W1 (W1.alloc (.cells #[xl.kind,xl.name,xl.a,xl.b,xl.c,xl.other,.slice ra xl.rng.length rc] 97)):=zF.alloc zN _;have o:=zH (y.out.step ax);have aK:=zH (aJ.out.below ax zN);have a6:=zH y.out.lrow;have bR:=y.out.sz;clear ax kx
   gi_wp2_with (gi_at_builtin;refine wpListIn_append_own_at _ rfl _ _ 88 rfl (w.heap.size+1+1+1+1+1) 97 i0 (.agg z7) 7 88 Tryz.underlying88 bu bI bJ bK rfl (by decide) _ _ _ rfl (a6.out.alloc _) W1.heap.size 1 1 [.int .i64 xl.kind,.string xl.name,.int .i64 xl.a,.int .i64 xl.b,.int .i64 xl.c,.string xl.other,.slice ra xl.rng.length rc] rfl rfl ?c1 ?c2 ?c3 ?c4 ?c5 ?_)
   case c1=>exact zfN _ _ _ _ _ _ _ _ _
   case c2=>intro u hu;simp at hu;rcases hu with rfl|rfl|rfl|rfl|rfl|rfl|rfl<;>rfl
   case c3=>unfold maxLen;omega
   case c4=>omega
   case c5=>simp;omega
   intro bX w2 a8 J _ ai;obtain⟨g2,am,rfl⟩:=ownsRow_succ a8;obtain⟨aO,q2,q3⟩:=o.out.appL aK.out b6.out aI.out a8 J (by rw[zA0];exact ai);have e2:_=some (Value.slice la ls.length lc):=q2.cell 0;have f2:=q2.frozen 0;have aE:Hid (KeepsOthers W (w2.setCell ⟨w.heap.size+1+1,0,none⟩ (.slice (some g2) (ls.length+1) am))):=((aD.out.trans (KeepsOthers.alloc _ _)).trans (KeepsOthers.of_grownBy J (zfW o.out.lrow))).trans (KeepsOthers.setCell _ _ _);have aG:Hid (Kp1 (w.heap.size+1+1+1+1) W (w2.setCell ⟨w.heap.size+1+1,0,none⟩ (.slice (some g2) (ls.length+1) am))):=zcW (zfr (zbA aF.out (zby ((Below.refl W1.heap.size _).alloc zN _) (by omega) (by omega))) o.out.lrow J (by omega) (by omega) (by have:=o.out.sz;omega) (by have:=o.out.sz;omega)) (by omega) (by omega);have Y:=zH aO;clear a8 J ai aO q2 q3 o aK a6 aD aF y aJ b6 aI d0 d1 d2 d3 d4 d5 d6 dl
   gi_upto_region 12 with fail
   clear e2 f2;generalize w2.setCell ⟨w.heap.size+1+1,0,none⟩ (.slice (some g2) (ls.length+1) am)=W3 at *;have ds:_=some sv:=Y.out.r3.cell 0;obtain⟨sa,sc,rfl,-⟩:=(zD Y.out.srow).form;have ba:zB W3 (W3.alloc (.cells #[x.1.1] 3)):=zF.alloc zN _;have Z:=zH (Y.out.step ba);have a6:=zH Y.out.srow;have bS:=Y.out.sz;clear ba
   gi_wp2_with (gi_at_builtin;refine wpListIn_append_own_at _ rfl _ _ 23 rfl (w.heap.size+1+1+1+1+1) 3 i1 (.int .i64 0) 1 8 Tryz.underlying23 aZ bF bG bH rfl (by decide) _ _ _ rfl (a6.out.alloc _) W3.heap.size 1 1 [.int .i64 x.1.1] rfl rfl ?a1 ?a2 ?a3 ?a4 ?a5 ?_)
   case a1=>exact xN _ _ _
   case a2=>exact xw _
   case a3=>unfold maxLen;omega
   case a4=>omega
   case a5=>simp;omega
   intro bY w4 a9 M _ aj;obtain⟨g4,an,rfl⟩:=ownsRow_succ a9;obtain⟨aP,q3⟩:=Z.out.appS a9 M (by rw[zA0];exact aj);have e3:_=some (Value.slice sa ss.length sc):=q3.cell 0;have f3:=q3.frozen 0;have aS:Hid (KeepsOthers W (w4.setCell ⟨w.heap.size+1+1+1,0,none⟩ (.slice (some g4) (ss.length+1) an))):=((aE.out.trans (KeepsOthers.alloc _ _)).trans (KeepsOthers.of_grownBy M (zfW Z.out.srow))).trans (KeepsOthers.setCell _ _ _);have aT:Hid (Kp1 (w.heap.size+1+1+1+1) W (w4.setCell ⟨w.heap.size+1+1+1,0,none⟩ (.slice (some g4) (ss.length+1) an))):=zcW (zfr (zbA aG.out (zby ((Below.refl W3.heap.size _).alloc zN _) (by omega) (by omega))) Z.out.srow M (by omega) (by omega) (by have:=Z.out.sz;omega) (by have:=Z.out.sz;omega)) (by omega) (by omega);have HI:Hid (PaI w (ab++[x]) (w4.setCell ⟨w.heap.size+1+1+1,0,none⟩ (.slice (some g4) (ss.length+1) an))):=⟨_,_,_,_,_,⟨_,aQ.out,by rw[bl.out];simp,by rw[bp.out];simp⟩,aP⟩;clear a9 M aj aP q3 Z a6 aE aG Y ds
   gi_wp2
   exact⟨aS.out,aT.out,HI.out⟩
 case done =>
  rintro D ys WF hD bj ⟨lv,sv,ls,vs,ss,⟨ps,ay,ap,aq⟩,aa⟩ hK;have av:Hid (R=match qA ls with
   |.error (e,none)=>.error (e,none)
   |.error (e,some i)=>.error (e,some (ss.getD i 0))
   | .ok its=>.ok (ls,its)):=by
   show _=_;rw[<-HR.out,yM,zA1 (by omega),<-bj,ay,ap,aq];rfl
  have aH:Hid (ss.length=ls.length):=by show _=_;rw[ap,aq];simp
  have X:=zH (zbt ls vs lv WF aa.rg (zD aa.lrow));have U:=zH aa;have dl:_=some lv:=aa.r2.cell 0;obtain⟨la,lc,rfl,-⟩:=(zD aa.lrow).form;have aC:=zH hK;have b7:=(Array.getElem?_eq_some_iff.1 hK).1;clear aa ay ap aq bj ad aw c4 hn hK;cases hnw:qA ls with
  |ok its =>
   rw[hnw] at X av;have au:Hid (zC 41 #[.slice la ls.length lc] WF fun e w'=>∃bc,e=.returned (.tuple #[.pointer (some ⟨bc,0,none⟩),.nilIface])/\yH w' bc ls vs its WF.heap.size/\zB WF w'):=X.out;clear X hnw
   gi_wp2_with fail
   refine⟨trivial,?_⟩;refine(callsIn_wide.2 au.out).mono ?_;rintro e w1 ⟨bc,rfl,aL,V⟩;have j:=U.out.step V;have af:w1.heap[D]?=some (.deferred (some [])):=(V.block D b7).trans aC.out;have b3:=U.out.sz;have bh:=zog w1;have m0:=j.r0;have m1:=j.r1;have d0:_=some (Value.pointer none):=m0.cell 0;have f0:=m0.frozen 0;have n1:=m1.other (b':=w.heap.size) (i:=0) (v:=.pointer (some ⟨bc,0,none⟩)) (by omega);have d1:(w1.setCell w.heap.size (.pointer (some ⟨bc,0,none⟩))).cell? ⟨w.heap.size+1,0,none⟩=some .nilIface:=n1.cell 0;have f1:=n1.frozen 0;have ah:((w1.setCell w.heap.size (.pointer (some ⟨bc,0,none⟩))).setCell ⟨w.heap.size+1,0,none⟩ .nilIface).heap[D]?=some (.deferred (some [])):=((KeepsOthers.setCell _ _ _).trans (KeepsOthers.setCell _ _ _)).same D _ af rfl;have ag:yH ((w1.setCell w.heap.size (.pointer (some ⟨bc,0,none⟩))).setCell ⟨w.heap.size+1,0,none⟩ .nilIface) bc ls vs its WF.heap.size:=(aL.set (by omega) (U.out.lo _ (by omega))).set (by omega) (U.out.lo _ (by omega));have ae:zB w ((w1.setCell w.heap.size (.pointer (some ⟨bc,0,none⟩))).setCell ⟨w.heap.size+1,0,none⟩ .nilIface):=(j.B.setCell (p:=w.heap.size) zN _).setCell (p:=⟨w.heap.size+1,0,none⟩) (Nat.le_succ _) _;have q0:Blk ((w1.setCell w.heap.size (.pointer (some ⟨bc,0,none⟩))).setCell ⟨w.heap.size+1,0,none⟩ .nilIface) w.heap.size 24 #[.pointer (some ⟨bc,0,none⟩)]:=(m0.set (i:=0)).other (by omega);have q1:Blk ((w1.setCell w.heap.size (.pointer (some ⟨bc,0,none⟩))).setCell ⟨w.heap.size+1,0,none⟩ .nilIface) (w.heap.size+1) 33 #[.nilIface]:=n1.set (i:=0);have aU:Hid (∀k,k<w.heap.size->RgN ls vs (some k)):=fun k hk=>U.out.lo k (by omega);have ac:=zH ah;have aB:=zH ag;have az:=zH ae;have Q0:=zH q0;have Q1:=zH q1;clear au aL V j af m0 m1 n1 ah ag ae q0 q1 dl aC U
   gi_wp2
   generalize (w1.setCell w.heap.size (.pointer (some ⟨bc,0,none⟩))).setCell ⟨w.heap.size+1,0,none⟩ .nilIface=WG at *;refine⟨by simp,.inl ⟨_,_,rfl,run_takeDeferred ac.out,?_⟩⟩;have r1:=(Q0.out.put (l:=D) (o':=.deferred none) (by omega)).cell 0;have r2:=(Q1.out.put (l:=D) (o':=.deferred none) (by omega)).cell 0;refine⟨.tuple #[.pointer (some ⟨bc,0,none⟩),.nilIface],?_,?_⟩
   ·simp[results,Tryz.f18,go_sem,r1,r2]
   ·rw[av.out];exact⟨bc,vs,rfl,(aB.out.putD ⟨_,ac.out,rfl,fun _ _ h=>by cases h⟩).base (by omega),aU.out,az.out.trans (belowK_b (w:=w) zN WG D _ _ (by omega) ac.out rfl rfl)⟩
  |error e2 =>
   obtain⟨k,q⟩:=e2;have aM:=zH hnw;rw[hnw] at X av;have au:Hid (zC 41 #[.slice la ls.length lc] WF fun e w'=>∃er,e=.returned (.tuple #[.pointer none,er])/\yb w' er k q/\zB WF w'):=X.out;clear X hnw
   gi_wp2_with fail
   refine⟨trivial,?_⟩;refine(callsIn_wide.2 au.out).mono ?_;rintro e w1 ⟨er,rfl,a0,V⟩;have j:=U.out.step V;have af:w1.heap[D]?=some (.deferred (some [])):=(V.block D b7).trans aC.out;have b3:=U.out.sz;cases q with
   |none =>
    obtain rfl:er=_:=a0;have bh:=zfx k w1;have m0:=j.r0;have m1:=j.r1;have d0:_=some (Value.pointer none):=m0.cell 0;have f0:=m0.frozen 0;have n1:=m1.other (b':=w.heap.size) (i:=0) (v:=.pointer none) (by omega);have d1:(w1.setCell w.heap.size (.pointer none)).cell? ⟨w.heap.size+1,0,none⟩=some .nilIface:=n1.cell 0;have f1:=n1.frozen 0;have ah:((w1.setCell w.heap.size (.pointer none)).setCell ⟨w.heap.size+1,0,none⟩ (.iface 42 (.int .i64 k))).heap[D]?=some (.deferred (some [])):=((KeepsOthers.setCell _ _ _).trans (KeepsOthers.setCell _ _ _)).same D _ af rfl;have ae:zB w ((w1.setCell w.heap.size (.pointer none)).setCell ⟨w.heap.size+1,0,none⟩ (.iface 42 (.int .i64 k))):=(j.B.setCell (p:=w.heap.size) zN _).setCell (p:=⟨w.heap.size+1,0,none⟩) (Nat.le_succ _) _;have q0:Blk ((w1.setCell w.heap.size (.pointer none)).setCell ⟨w.heap.size+1,0,none⟩ (.iface 42 (.int .i64 k))) w.heap.size 24 #[.pointer none]:=(m0.set (i:=0)).other (by omega);have q1:Blk ((w1.setCell w.heap.size (.pointer none)).setCell ⟨w.heap.size+1,0,none⟩ (.iface 42 (.int .i64 k))) (w.heap.size+1) 33 #[.iface 42 (.int .i64 k)]:=n1.set (i:=0);have ac:=zH ah;have az:=zH ae;have Q0:=zH q0;have Q1:=zH q1;clear au V j af m0 m1 n1 ah ae q0 q1 dl aC U
    gi_wp2
    generalize (w1.setCell w.heap.size (.pointer none)).setCell ⟨w.heap.size+1,0,none⟩ (.iface 42 (.int .i64 k))=WG at *;refine⟨by simp,.inl ⟨_,_,rfl,run_takeDeferred ac.out,?_⟩⟩;have r1:=(Q0.out.put (l:=D) (o':=.deferred none) (by omega)).cell 0;have r2:=(Q1.out.put (l:=D) (o':=.deferred none) (by omega)).cell 0;refine⟨.tuple #[.pointer none,.iface 42 (.int .i64 k)],?_,?_⟩
    ·simp[results,Tryz.f18,go_sem,r1,r2]
    ·rw[av.out];exact⟨_,rfl,rfl,az.out.trans (belowK_b (w:=w) zN WG D _ _ (by omega) ac.out rfl rfl)⟩
   |some i =>
    obtain⟨N,rfl,hN⟩:=a0;have bh:=zcL N w1;have be:i<ss.length:=by have:=zfZ aM.out;have:=aH.out;omega
    obtain⟨gs,sc,e,bd,bb⟩:=(zD j.srow).cells (by omega);subst e;have aR:w1.cell? ⟨gs,i,none⟩=some (.int .i64 ((ss.getD i 0:Nat):Int)):=bb i _ (by rw[QN _ _ (by simpa using be)];simp[List.getD_eq_getElem?_getD,be]);obtain⟨P,hP⟩:∃P:Nat,ss.getD i 0=P:=⟨_,rfl⟩;rw[hP] at aR;have bm:Hid (R=.error (k,some P)):=by rw[<-hP];exact av.out
    have m0:=j.r0.alloc (.cells #[.int .i64 k,P] 102);have m1:=j.r1.alloc (.cells #[.int .i64 k,P] 102);have m3:=j.r3;have mN:=Blk.new w1 102 #[.int .i64 k,P];have aY:w.heap.size+1+1+1+1+1<=gs:=(j.srow.lt gs rfl).1;have bQ:=hN.lt;have aV:N≠w.heap.size:=hN.ne_type j.r0 (by decide);have aW:N≠w.heap.size+1:=hN.ne_type j.r1 (by decide);have n1:=m1.other (b':=w.heap.size) (i:=0) (v:=.pointer none) (by omega);have bE:=j.sz;have bs:(0:Int)<=(i:Int):=by omega
    have bt:(i:Int)<(ss.length:Int):=by omega
    have S0:Hid (w1.cell? N=some (.int .i64 k)/\w1.cell? ⟨N,1,none⟩=some (.int .i64 i)/\w1.cell? ⟨w.heap.size+1+1+1,0,none⟩=some (.slice (some gs) ss.length sc)/\w1.cell? ⟨gs,i,none⟩=some (.int .i64 P)):=⟨hN.cell 0,hN.cell 1,m3.cell 0,aR⟩;have S1:Hid ((w1.alloc (.cells #[.int .i64 k,P] 102)).cell? N=some (.int .i64 k)/\(w1.alloc (.cells #[.int .i64 k,P] 102)).cell? ⟨N,1,none⟩=some (.int .i64 i)/\(w1.alloc (.cells #[.int .i64 k,P] 102)).cell? ⟨w.heap.size+1+1+1,0,none⟩=some (.slice (some gs) ss.length sc)/\(w1.alloc (.cells #[.int .i64 k,P] 102)).cell? ⟨gs,i,none⟩=some (.int .i64 P)):=by
     have hb:zB w1 (w1.alloc (.cells #[.int .i64 k,P] 102)):=zF.alloc zN _;exact⟨(hN.below hb hN.lt).cell 0,(hN.below hb hN.lt).cell 1,(m3.below hb m3.lt).cell 0,(hb.cell (p:=⟨gs,i,none⟩) bd).trans aR⟩
    have S2:Hid (((w1.alloc (.cells #[.int .i64 k,P] 102)).setCell w.heap.size (.pointer none)).cell? N=some (.int .i64 k)/\((w1.alloc (.cells #[.int .i64 k,P] 102)).setCell w.heap.size (.pointer none)).cell? ⟨N,1,none⟩=some (.int .i64 i)/\((w1.alloc (.cells #[.int .i64 k,P] 102)).setCell w.heap.size (.pointer none)).cell? ⟨w.heap.size+1+1+1,0,none⟩=some (.slice (some gs) ss.length sc)/\((w1.alloc (.cells #[.int .i64 k,P] 102)).setCell w.heap.size (.pointer none)).cell? ⟨gs,i,none⟩=some (.int .i64 P)):=⟨(qq aV).trans S1.out.1,(qq aV).trans S1.out.2.1,(qq (by omega)).trans S1.out.2.2.1,(qq (by omega)).trans S1.out.2.2.2⟩;have S3:Hid ((((w1.alloc (.cells #[.int .i64 k,P] 102)).setCell w.heap.size (.pointer none)).setCell ⟨w.heap.size+1,0,none⟩ (.iface 100 (.pointer (some w1.heap.size)))).cell? N=some (.int .i64 k)/\(((w1.alloc (.cells #[.int .i64 k,P] 102)).setCell w.heap.size (.pointer none)).setCell ⟨w.heap.size+1,0,none⟩ (.iface 100 (.pointer (some w1.heap.size)))).cell? ⟨N,1,none⟩=some (.int .i64 i)/\(((w1.alloc (.cells #[.int .i64 k,P] 102)).setCell w.heap.size (.pointer none)).setCell ⟨w.heap.size+1,0,none⟩ (.iface 100 (.pointer (some w1.heap.size)))).cell? ⟨w.heap.size+1+1+1,0,none⟩=some (.slice (some gs) ss.length sc)/\(((w1.alloc (.cells #[.int .i64 k,P] 102)).setCell w.heap.size (.pointer none)).setCell ⟨w.heap.size+1,0,none⟩ (.iface 100 (.pointer (some w1.heap.size)))).cell? ⟨gs,i,none⟩=some (.int .i64 P)):=⟨(qq aW).trans S2.out.1,(qq aW).trans S2.out.2.1,(qq (by omega)).trans S2.out.2.2.1,(qq (by omega)).trans S2.out.2.2.2⟩;have d0:(w1.alloc (.cells #[.int .i64 k,P] 102)).cell? w.heap.size=some (.pointer none):=m0.cell 0;have f0:(w1.alloc (.cells #[.int .i64 k,P] 102)).frozen? w.heap.size=false:=m0.frozen 0;have d1:((w1.alloc (.cells #[.int .i64 k,P] 102)).setCell w.heap.size (.pointer none)).cell? ⟨w.heap.size+1,0,none⟩=some .nilIface:=n1.cell 0;have f1:((w1.alloc (.cells #[.int .i64 k,P] 102)).setCell w.heap.size (.pointer none)).frozen? ⟨w.heap.size+1,0,none⟩=false:=n1.frozen 0;have ah:(((w1.alloc (.cells #[.int .i64 k,P] 102)).setCell ⟨w.heap.size+1,0,none⟩ (.iface 100 (.pointer (some w1.heap.size)))).drew).heap[D]?=some (.deferred (some [])):=(((KeepsOthers.alloc w1 _).trans (KeepsOthers.setCell _ _ _)).trans (KeepsOthers.drew _)).same D _ af rfl;have ae:zB w (((w1.alloc (.cells #[.int .i64 k,P] 102)).setCell ⟨w.heap.size+1,0,none⟩ (.iface 100 (.pointer (some w1.heap.size)))).drew):=((zL j.B).setCell (p:=⟨w.heap.size+1,0,none⟩) (Nat.le_succ _) _).drew;have q0:Blk (((w1.alloc (.cells #[.int .i64 k,P] 102)).setCell ⟨w.heap.size+1,0,none⟩ (.iface 100 (.pointer (some w1.heap.size)))).drew) w.heap.size 24 #[.pointer none]:=m0.other (b':=w.heap.size+1) (by omega);have q1:Blk (((w1.alloc (.cells #[.int .i64 k,P] 102)).setCell ⟨w.heap.size+1,0,none⟩ (.iface 100 (.pointer (some w1.heap.size)))).drew) (w.heap.size+1) 33 #[.iface 100 (.pointer (some w1.heap.size))]:=m1.set (i:=0);have q2:Blk (((w1.alloc (.cells #[.int .i64 k,P] 102)).setCell ⟨w.heap.size+1,0,none⟩ (.iface 100 (.pointer (some w1.heap.size)))).drew) w1.heap.size 102 #[.int .i64 k,P]:=mN.other (b':=w.heap.size+1) (by omega);have ac:=zH ah;have az:=zH ae;have Q0:=zH q0;have Q1:=zH q1;have Q2:=zH q2;have bq:D≠w1.heap.size:=by have:=(Array.getElem?_eq_some_iff.1 af).1;omega
    have z0:_=some (Value.pointer none):=j.r0.cell 0;have bP:=j.r0.frozen 0;have y0:((w1.alloc (.cells #[.int .i64 k,P] 102)).drew).cell? w.heap.size=some (.pointer none):=m0.cell 0;have bN:((w1.alloc (.cells #[.int .i64 k,P] 102)).drew).frozen? w.heap.size=false:=m0.frozen 0;have y1:((w1.alloc (.cells #[.int .i64 k,P] 102)).drew).cell? ⟨w.heap.size+1,0,none⟩=some .nilIface:=m1.cell 0;have bO:((w1.alloc (.cells #[.int .i64 k,P] 102)).drew).frozen? ⟨w.heap.size+1,0,none⟩=false:=m1.frozen 0;have x0:(((w1.alloc (.cells #[.int .i64 k,P] 102)).setCell ⟨w.heap.size+1,0,none⟩ (.iface 100 (.pointer (some w1.heap.size)))).drew).cell? w.heap.size=some (.pointer none):=(m0.other (by omega)).cell 0;have bM:(((w1.alloc (.cells #[.int .i64 k,P] 102)).setCell ⟨w.heap.size+1,0,none⟩ (.iface 100 (.pointer (some w1.heap.size)))).drew).frozen? w.heap.size=false:=(m0.other (by omega)).frozen 0;have v0:(((w1.alloc (.cells #[.int .i64 k,P] 102)).drew.setCell ⟨w.heap.size+1,0,none⟩ (.iface 100 (.pointer (some w1.heap.size))))).cell? w.heap.size=some (.pointer none):=(m0.other (by omega)).cell 0;have bL:(((w1.alloc (.cells #[.int .i64 k,P] 102)).drew.setCell ⟨w.heap.size+1,0,none⟩ (.iface 100 (.pointer (some w1.heap.size))))).frozen? w.heap.size=false:=(m0.other (by omega)).frozen 0;have bw:w1.drew.setCell w.heap.size (.pointer none)=w1.drew:=JB (show Blk w1.drew _ _ _ from j.r0) rfl;have bz:((w1.alloc (.cells #[.int .i64 k,P] 102)).drew).setCell w.heap.size (.pointer none)=(w1.alloc (.cells #[.int .i64 k,P] 102)).drew:=JB (show Blk ((w1.alloc (.cells #[.int .i64 k,P] 102)).drew) _ _ _ from m0) rfl;have bA:(((w1.alloc (.cells #[.int .i64 k,P] 102)).setCell ⟨w.heap.size+1,0,none⟩ (.iface 100 (.pointer (some w1.heap.size)))).drew).setCell w.heap.size (.pointer none)=((w1.alloc (.cells #[.int .i64 k,P] 102)).setCell ⟨w.heap.size+1,0,none⟩ (.iface 100 (.pointer (some w1.heap.size)))).drew:=JB (show Blk (((w1.alloc (.cells #[.int .i64 k,P] 102)).setCell ⟨w.heap.size+1,0,none⟩ (.iface 100 (.pointer (some w1.heap.size)))).drew) _ _ _ from m0.other (by omega)) rfl;have bB:(((w1.alloc (.cells #[.int .i64 k,P] 102)).drew.setCell ⟨w.heap.size+1,0,none⟩ (.iface 100 (.pointer (some w1.heap.size))))).setCell w.heap.size (.pointer none)=((w1.alloc (.cells #[.int .i64 k,P] 102)).drew.setCell ⟨w.heap.size+1,0,none⟩ (.iface 100 (.pointer (some w1.heap.size)))):=JB (show Blk (((w1.alloc (.cells #[.int .i64 k,P] 102)).drew.setCell ⟨w.heap.size+1,0,none⟩ (.iface 100 (.pointer (some w1.heap.size))))) _ _ _ from m0.other (by omega)) rfl;clear au V j af m0 m1 m3 mN n1 ah ae q0 q1 q2 dl aC U aR hN aV aW aY bd bb aM aH av hP
    gi_upto_region 16 with fail
    refine wpIn_wide.2 ?_
    as_aux_lemma =>
     clear S1 S2 S3 d0 f0 d1 f1;obtain⟨s0,s1,s2,s3⟩:=S0.out;clear S0;go_big_region
     all_goals
      clear s0 s1 s2 s3 z0 bP y0 bN y1 bO x0 bM v0 bL bw bz bA bB
      gi_wp2
      generalize ((w1.alloc (.cells #[.int .i64 k,P] 102)).setCell ⟨w.heap.size+1,0,none⟩ (.iface 100 (.pointer (some w1.heap.size)))).drew=WG at *;refine⟨by simp,.inl ⟨_,_,rfl,run_takeDeferred ac.out,?_⟩⟩;have r1:=(Q0.out.put (l:=D) (o':=.deferred none) (by omega)).cell 0;have r2:=(Q1.out.put (l:=D) (o':=.deferred none) (by omega)).cell 0;refine⟨.tuple #[.pointer none,.iface 100 (.pointer (some w1.heap.size))],?_,?_⟩
      ·simp[results,Tryz.f18,go_sem,r1,r2]
      ·rw[bm.out];exact⟨_,rfl,⟨_,rfl,Q2.out.put (fun e=>bq e.symm)⟩,az.out.trans (belowK_b (w:=w) zN WG D _ _ (by omega) ac.out rfl rfl)⟩
 case stop =>
  rintro D c ab W hD b0 ⟨⟨rfl,k,i,N,bi,x1,x2,x3⟩,xB⟩ hK;obtain⟨b4,ak⟩:=b0;have ar:=Ks (zZ ab) b4 [];rw[bi,ak] at ar;have bn:Hid (R=.error (k,some i)):=by
   show _=_;rw[<-HR.out,yM,zA1 (by omega),ar]
  have b8:N≠D:=fun e=>by
   subst e;have:=(show W.heap[N]?=_ from x3).symm.trans hK;simp at this
  have q1:=x1.put (l:=D) (o':=.deferred none) (by omega);have q2:=x2.put (l:=D) (o':=.deferred none) (by omega);have q3:=x3.put (l:=D) (o':=.deferred none) b8;have r1:=q1.cell 0;have r2:=q2.cell 0;have bo:=zH q3;have HB:=zH xB;clear bi ar ak x1 x2 x3 q1 q2 q3 xB b8 ad aw c4 hn
  gi_wp2
  refine⟨by simp,.inl ⟨_,_,rfl,run_takeDeferred hK,?_⟩⟩;refine⟨.tuple #[.pointer none,.iface 100 (.pointer (some N))],?_,?_⟩
  ·simp[results,Tryz.f18,go_sem,r1,r2]
  ·rw[bn.out];exact⟨_,rfl,⟨N,rfl,bo.out⟩,HB.out.trans (belowK_b (w:=w) zN W D _ _ (by omega) hK rfl rfl)⟩
theorem zjL(s:ByteArray)(w:World)(hw:Lw w):zC 18 #[s] w (KP w (yM s)):=by
 by_cases h:20000<s.size
 ·have e:yM s=.error (4,none):=by unfold yM;rw[zA2 h]
  rw[e];exact zio s w h
 ·exact(callsIn_wide (n:=4)).1 (zl2 s w (by omega) hw)
end
end Go.Proofs.YthifnefkdjkicaaGreatDoor
