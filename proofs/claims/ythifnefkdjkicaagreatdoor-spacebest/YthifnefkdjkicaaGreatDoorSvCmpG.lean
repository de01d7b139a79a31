import Derived.Test.YthifnefkdjkicaaGreatDoorSvPiece
set_option maxHeartbeats 2000000
set_option maxRecDepth 100000
namespace Go.Proofs.YthifnefkdjkicaaGreatDoor
section
open Go.RowKit Go.Shelf Sv
attribute [local go_sem] Oper.semAt_some
def qQ:List (Nat × ByteArray)->List zf->Except (Int × Nat) (List zf)
  |[],acc=>.ok acc
  |x :: r,acc=>match yO x.2 x.1 with
    |.error e=>.error e
    |.ok l=>qQ r (orr acc l)
theorem Jt(l r:List (Nat × ByteArray)):∀(acc:List zf),qQ (l++r) acc=match qQ l acc with
    |.error e=>.error e
    |.ok acc'=>qQ r acc':=by
  induction l with
  |nil=>intro acc;rfl
  |cons x l ih =>
    intro acc;rw[List.cons_append,qQ,qQ];split
    · rfl
    · exact ih _
theorem zmU:∀{l:List (Nat × ByteArray)} {acc acc':List zf},Rg acc->qQ l acc=.ok acc'->Rg acc':=by
  intro l
  induction l with
  |nil=>intro acc acc' h e;cases e;exact h
  |cons x l ih =>
    intro acc acc' h e;unfold qQ at e;split at e
    · cases e
    · rename_i l' hl
      exact ih (X0 h (zen hl)) e
def Zi(s:ByteArray):Except (Int × Nat) (List zf):=qQ (zq s ⟨#[124,124]⟩ s.size 0) []
theorem zf9{s:ByteArray}{l:List zf}(h:Zi s=.ok l):Rg l:=zmU Ze h
def zg7(w w':World)(v er:Value):Except (Int × Nat) (List zf)->Prop
  |.ok l=>er=.nilIface/\zk w' v l
  |.error (k,p)=>∃N,er=.iface 100 (.pointer (some ⟨N,0,none⟩))/\v=.slice none 0 0/\Blk w' N 102 #[k,p]/\w.heap.size<=N
theorem zn6(s:ByteArray)(p:Nat)(hp:p<=100000)(W:World)(hs:s.size<=100000)(hw:Lb W):zC 113 #[s,p] W fun e w'=>∃a' n' c' er,e=.returned (.tuple #[.agg #[.slice a' n' c'],er])/\zB W w'/\(∀g,(Value.slice a' n' c').ownBlock=some g->W.heap.size<=g)/\zg7 W w' (.slice a' n' c') er (yO s p):=((callsIn_wide (n:=4)).1 (zgp s p hp W hs hw)).mono fun e w' h=>by
  unfold XX at h;cases hx:yO s p with
  |ok l =>rw[hx] at h;obtain⟨v',he,h1,h2,h3⟩:=h;obtain⟨a',c',rfl⟩:=h1.form;exact⟨a',_,c',_,he,h3,h2,rfl,h1⟩
  |error e2 =>obtain⟨k,q⟩:=e2;rw[hx] at h;obtain⟨N,he,h1,h2,h3⟩:=h;exact⟨none,0,0,_,he,h3,fun g hg=>by simp[Value.ownBlock] at hg,N,rfl,rfl,h1,h2⟩
def RnI(w:World)(pre:List Pc)(W:World):Prop :=
  (Blk W w.heap.size 95 #[.slice none 0 0]/\Blk W (w.heap.size+1) 33 #[.nilIface]) /\
  (∃j v,qQ (zZ pre) []=.ok j/\Blk W (w.heap.size+1+1) 95 #[v]/\zk W v j/\Rg j/\(∀g,v.ownBlock=some g->w.heap.size+1+1<g)) /\
  zB w W/\w.heap.size+1+1+1+1+1<=W.heap.size
def RnX(w:World)(c:Code)(pre:List Pc)(W:World):Prop :=
  (c=.ret/\∃k i N,qQ (zZ pre) []=.error (k,i)/\Blk W w.heap.size 95 #[.slice none 0 0]/\Blk W (w.heap.size+1) 33 #[.iface 100 (.pointer (some ⟨N,0,none⟩))]/\Blk W N 102 #[.int .i64 k,.int .i64 i]/\w.heap.size<=N) /\
  zB w W
theorem zkH(w:World)(B:Nat)(hB:w.heap.size<=B):OwnFrom B (RnI w):=by
  intro j W W' row ⟨⟨h0,h1⟩,⟨acc,v,h3,h5,h6,h7,h9⟩,h10,h11⟩ hg hr;have hr':∀r,row=some r->∃o:Obj,W.heap[r]?=some o/\o.isCells=false:=fun r e=>(hr r e).2;exact⟨⟨yo h0 hg hr',yo h1 hg hr'⟩,⟨acc,v,h3,yo h5 hg hr',XI h6 hg hr',h7,h9⟩,ownFrom_below (β:=Unit) zN hB () W W' row h10 hg hr,Nat.le_trans h11 hg.size⟩
theorem ziV(w:World)(B:Nat)(hB:w.heap.size<=B):∀c,OwnFrom B (RnX w c):=by
  intro c j W W' row ⟨⟨hc,k,i,N,h1,h2,h3,h4,h5⟩,h6⟩ hg hr;have hr':∀r,row=some r->∃o:Obj,W.heap[r]?=some o/\o.isCells=false:=fun r e=>(hr r e).2;exact⟨⟨hc,k,i,N,h1,yo h2 hg hr',yo h3 hg hr',yo h4 hg hr',h5⟩,ownFrom_below (β:=Unit) zN hB () W W' row h6 hg hr⟩
theorem zkz(s:ByteArray)(w:World)(hs:s.size<=1000)(hw:Lb w) :
    CallsIn Fence.wide 4 Tryz.prog 77 #[s] w (XX w (Zi s)):=by
  have HP:Hid (∀W,CallsIn Fence.wide 3 Tryz.prog 111 #[s,.string ⟨#[124,124]⟩] W fun e w'=>e=.returned (.func (.func 155) #[] #[.pointer (some W.heap.size),.pointer (some ⟨W.heap.size+1,0,none⟩)])/\w'=(W.alloc (.cells #[s] 9)).alloc (.cells #[.string ⟨#[124,124]⟩] 9)):=fun W=>zbZ s ⟨#[124,124]⟩ W;have HL:=zH hw;have aI:=hw.big;clear hw;refine callsIn_of_wp_marks Tryz.func77 rfl trivial ?_ rfl;simp only[Tryz.ntmps77,List.size_toArray,List.length_cons,List.length_nil,Nat.reduceAdd,Nat.reduceSub,Array.replicate_succ,Array.replicate_zero,List.push_toArray,List.append_toArray,List.nil_append,List.cons_append]
  gi_wp2_with (refine⟨trivial,?_⟩;gi_at_call 111;refine(HP.out _).mono ?_;rintro e w' ⟨rfl,rfl⟩)
  have k0:=((((Blk.new w 95 #[.slice none 0 0]).alloc (.cells #[.nilIface] 33)).alloc (.cells #[.slice none 0 0] 95)).alloc (.cells #[s] 9)).alloc (.cells #[.string ⟨#[124,124]⟩] 9);have k1:=(((Blk.new (w.alloc (.cells #[.slice none 0 0] 95)) 33 #[.nilIface]).alloc (.cells #[.slice none 0 0] 95)).alloc (.cells #[s] 9)).alloc (.cells #[.string ⟨#[124,124]⟩] 9);have k2:=((Blk.new ((w.alloc (.cells #[.slice none 0 0] 95)).alloc (.cells #[.nilIface] 33)) 95 #[.slice none 0 0]).alloc (.cells #[s] 9)).alloc (.cells #[.string ⟨#[124,124]⟩] 9);have k3:=(Blk.new (((w.alloc (.cells #[.slice none 0 0] 95)).alloc (.cells #[.nilIface] 33)).alloc (.cells #[.slice none 0 0] 95)) 9 #[s]).alloc (.cells #[.string ⟨#[124,124]⟩] 9);have k4:=Blk.new ((((w.alloc (.cells #[.slice none 0 0] 95)).alloc (.cells #[.nilIface] 33)).alloc (.cells #[.slice none 0 0] 95)).alloc (.cells #[s] 9)) 9 #[.string ⟨#[124,124]⟩];simp only[zA0] at k1 k2 k3 k4;have af:zB w (((((w.alloc (.cells #[.slice none 0 0] 95)).alloc (.cells #[.nilIface] 33)).alloc (.cells #[.slice none 0 0] 95)).alloc (.cells #[s] 9)).alloc (.cells #[.string ⟨#[124,124]⟩] 9)):=(((((Below.refl _ w).alloc zN _).alloc (by simp only[zA0];omega) _).alloc (by simp only[zA0];omega) _).alloc (by simp only[zA0];omega) _).alloc (by simp only[zA0];omega) _;have aK:(((((w.alloc (.cells #[.slice none 0 0] 95)).alloc (.cells #[.nilIface] 33)).alloc (.cells #[.slice none 0 0] 95)).alloc (.cells #[s] 9)).alloc (.cells #[.string ⟨#[124,124]⟩] 9)).heap.size=w.heap.size+1+1+1+1+1:=by simp only[zA0]
  obtain⟨W0,au⟩:∃W0,((((w.alloc (.cells #[.slice none 0 0] 95)).alloc (.cells #[.nilIface] 33)).alloc (.cells #[.slice none 0 0] 95)).alloc (.cells #[s] 9)).alloc (.cells #[.string ⟨#[124,124]⟩] 9)=W0:=⟨_,rfl⟩;rw[au] at k0 k1 k2 k3 k4 af aK ⊢;clear au;obtain⟨n,hn⟩:=(HL.out.below af).ml;have c3:_=some (Value.string s):=k3.cell 0;have c4:_=some (Value.string ⟨#[124,124]⟩):=k4.cell 0;refine wpIn_rangeFunc_ownF rfl (by omega) (gf:=155) (lb:=#[.pointer (some ⟨w.heap.size+1+1+1,0,none⟩),.pointer (some ⟨w.heap.size+1+1+1+1,0,none⟩)]) rfl trivial (enters_of Tryz.func155 (by kernel_rfl) rfl)
    (zbb (w.heap.size+1+1+1) (w.heap.size+1+1+1+1) s ⟨#[124,124]⟩ (by omega) (by decide) W0 (by omega) (by omega) (by omega) c3 c4 n hn) Kk (zbw (by omega) (by omega) (by omega)) zF (fun _=>rfl)
    (fun U W=>RnI w U W)
    (fun c U W=>RnX w c U W)
    (zkH w W0.heap.size (by omega)) (ziV w W0.heap.size (by omega))
    ⟨⟨k0,k1⟩,⟨[],_,rfl,k2,Jg _,Ze,fun g hg=>by simp[Value.ownBlock] at hg⟩,af,by omega⟩
    (fun x=>{ tmps:=#[.string s,undef,.pointer (some w.heap.size),.pointer (some ⟨w.heap.size+1,0,none⟩),.pointer (some ⟨w.heap.size+1+1,0,none⟩),.int .i64 x.1.1,.string x.1.2,undef,undef,.string s,.int .i64 s.size,.bool (decide ((1000:Int)<(s.size:Int))),undef,undef,.string s,.func (.func 155) #[] #[.pointer (some ⟨w.heap.size+1+1+1,0,none⟩),.pointer (some ⟨w.heap.size+1+1+1+1,0,none⟩)],.int .i64 x.1.1,.string x.1.2,undef,undef,undef,undef,undef,undef,undef,undef,undef,undef,undef,undef,undef,undef],defers:=[] }) ?assign ?body ?done ?stop
  case assign =>
    intro l x W K hK
    gi_wp2
    exact hK
  case body =>
    rintro l U x W ⟨⟨i1,i2⟩,⟨j,v,Y,i3,a2,ac,C⟩,iB,aM⟩ hlen;obtain⟨va,vc,rfl⟩:=a2.form;have aL:=x.2.1;have ak:=Jt (zZ U) [x.1] [];rw[Y] at ak;have aa:Hid (qQ (zZ (U++[x])) []=qQ [x.1] j):=by show _=_;rw[zZ,List.map_append];exact ak
    have y:=zH (zn6 x.1.2 x.1.1 aL W x.2.2 (HL.out.below iB));clear ak Y k0 k1 k2 k3 k4;cases hwd:yO x.1.2 x.1.1 with
    |error e2 =>
      obtain⟨k,q⟩:=e2;rw[hwd] at y;have M:qQ [x.1] j=.error (k,q):=by rw[qQ,hwd]
      rw[M] at aa;clear hwd M
      gi_wp2_with fail
      refine⟨trivial,?_⟩;refine(CallsIn.inRound l (callsIn_wide.2 y.out)).mono ?_;rintro e wP ⟨ar,nr,cr,er,rfl,a5,ah,N,rfl,aJ,V,aN⟩;cases aJ;have a1:zB wP (wP.alloc (.cells #[.slice none 0 0] 95)):=zF.alloc zN _;have J:zB W (wP.alloc (.cells #[.slice none 0 0] 95)):=zT a5 a1;have t1:=i1.below J i1.lt;have t2:=i2.below J i2.lt;have tN:=V.alloc (.cells #[.slice none 0 0] 95);have q1:(wP.alloc (.cells #[.slice none 0 0] 95)).cell? w.heap.size=some (.slice none 0 0):=t1.cell 0;have q2:=t1.frozen 0;have y2:=t2.other (b':=w.heap.size) (i:=0) (v:=.slice none 0 0) (by omega);have q3:((wP.alloc (.cells #[.slice none 0 0] 95)).setCell w.heap.size (.slice none 0 0)).cell? ⟨w.heap.size+1,0,none⟩=some .nilIface:=y2.cell 0;have q4:=y2.frozen 0;obtain⟨WF,o⟩:∃WF,((wP.alloc (.cells #[.slice none 0 0] 95)).setCell w.heap.size (.slice none 0 0)).setCell ⟨w.heap.size+1,0,none⟩ (.iface 100 (.pointer (some N)))=WF:=⟨_,rfl⟩;have HX:Hid (RnX w .ret (U++[x]) WF):=by
        refine⟨⟨rfl,k,q,N,aa.out,?_,?_,?_,by have:=iB.size;omega⟩,?_⟩
        · rw[<-o];exact(t1.set (i:=0) (v:=.slice none 0 0)).other (by omega)
        · rw[<-o];exact y2.set (i:=0)
        · rw[<-o];exact(tN.other (by omega)).other (by omega)
        · rw[<-o];exact((zT iB J).setCell (p:=w.heap.size) zN _).setCell (p:=⟨w.heap.size+1,0,none⟩) (Nat.le_succ _) _
      have HK:Hid (KeepsOthers W WF):=by rw[<-o];exact((x9 J).trans (KeepsOthers.setCell _ _ _)).trans (KeepsOthers.setCell _ _ _)
      have a4:=zH o;clear i1 i2 i3 a2 C iB y a5 ah V a1 J t1 t2 tN y2 o
      gi_wp2
      rw[a4.out];exact⟨HK.out,HX.out⟩
    |ok lw =>
      rw[hwd] at y;have M:qQ [x.1] j=.ok (orr j lw):=by rw[qQ,hwd];rfl
      rw[M] at aa;have aj:=zen hwd;have ao:=zH (fun (u:Value) (X:World) (h1:zk X (.slice va j.length vc) j) (h2:zk X u lw)=>(zmV j lw ac aj (.slice va j.length vc) u X h1 h2).mono fun e w' (h:Yd X (orr j lw) e w')=>(show ∃a' c',e=.returned (.agg #[.slice a' (orr j lw).length c'])/\zk w' (.slice a' (orr j lw).length c') (orr j lw)/\(∀g,(Value.slice a' (orr j lw).length c').ownBlock=some g->X.heap.size<=g)/\zB X w' from by obtain⟨v',he,hs,hn,hb⟩:=h;obtain⟨a',c',rfl⟩:=hs.form;exact⟨a',c',he,hs,hn,hb⟩));have aF:=zH (X0 ac aj);clear M hwd aj ac
      gi_wp2_with fail
      refine⟨trivial,?_⟩;refine(CallsIn.inRound l (callsIn_wide.2 y.out)).mono ?_;rintro e wP ⟨ar,nr,cr,er,rfl,a5,ah,hm⟩;obtain⟨rfl,a9⟩:=hm;have a1:zB wP (wP.alloc (.cells #[.slice ar nr cr] 95)):=zF.alloc zN _;have kr:=Blk.new wP 95 #[.slice ar nr cr];have J:zB W (wP.alloc (.cells #[.slice ar nr cr] 95)):=zT a5 a1;have a7:=a2.below J zN;have a0:=a9.below a1 zN;have t1:=i1.below J i1.lt;have t2:=i2.below J i2.lt;have t3:=i3.below J i3.lt;have az:=zH (ao.out _ _ a7 a0);have q1:(wP.alloc (.cells #[.slice ar nr cr] 95)).cell? ⟨w.heap.size+1+1,0,none⟩=some (.slice va j.length vc):=t3.cell 0;have q2:(wP.alloc (.cells #[.slice ar nr cr] 95)).cell? wP.heap.size=some (.slice ar nr cr):=kr.cell 0;clear ao y a5 ah a9 a7 a0 a1 kr a2 i1 i2 i3
      gi_wp2_with fail
      refine⟨trivial,?_⟩;generalize wP.alloc (.cells #[.slice ar nr cr] 95)=W2 at *;refine(CallsIn.inRound l (callsIn_wide.2 az.out)).mono ?_;rintro e wN ⟨an,cn,rfl,a8,a6,V⟩;have aO:=J.size;have u1:=t1.below V t1.lt;have u2:=t2.below V t2.lt;have u3:=t3.below V t3.lt;have q3:_=some (Value.slice va j.length vc):=u3.cell 0;have q4:=u3.frozen 0;have ab:zB W wN:=zT J V;obtain⟨WF,o⟩:∃WF,wN.setCell ⟨w.heap.size+1+1,0,none⟩ (.slice an (orr j lw).length cn)=WF:=⟨_,rfl⟩;have R:∀g,(Value.slice an (orr j lw).length cn).ownBlock=some g->w.heap.size+1+1<g:=fun g hg=>by have:=a6 g hg;omega
      have HI:Hid (RnI w (U++[x]) WF):=by
        refine⟨⟨?_,?_⟩,⟨orr j lw,.slice an (orr j lw).length cn,aa.out,?_,?_,aF.out,R⟩,?_,?_⟩
        · rw[<-o];exact u1.other (by omega)
        · rw[<-o];exact u2.other (by omega)
        · rw[<-o];exact u3.set (i:=0)
        · rw[<-o];exact a8.set (fun e=>by have:=R _ e;omega)
        · rw[<-o];exact(zT iB ab).setCell (p:=⟨w.heap.size+1+1,0,none⟩) (by show w.heap.size<=w.heap.size+1+1;omega) _
        · rw[<-o,Ye];have:=V.size;omega
      have HK:Hid (KeepsOthers W WF):=by rw[<-o];exact(x9 ab).trans (KeepsOthers.setCell _ _ _)
      have aA:Hid (Kp2 (w.heap.size+1+1+1) (w.heap.size+1+1+1+1) W WF):=by rw[<-o];exact Xy (zbH ab (by omega) (by omega) (by omega)) (by omega) (by omega) (by omega)
      have a4:=zH o;clear a8 a6 V u1 u2 u3 t1 t2 t3 J ab R o iB C q1 q2
      gi_wp2
      rw[a4.out];exact⟨HK.out,aA.out,HI.out⟩
  case done =>
    rintro D ys W hD aw ⟨⟨i1,i2⟩,⟨j,v,Y,i3,a2,ac,C⟩,iB,aM⟩ hK;rw[aw] at Y;have ae:Hid (Zi s=.ok j):=Y;obtain⟨va,vc,rfl⟩:=a2.form;have d1:_=some (Value.slice none 0 0):=i1.cell 0;have e1:=i1.frozen 0;have d2:_=some Value.nilIface:=i2.cell 0;have e2:=i2.frozen 0;have d3:_=some (Value.slice va j.length vc):=i3.cell 0;obtain⟨WF,o⟩:∃WF,(W.setCell w.heap.size (.slice va j.length vc)).setCell ⟨w.heap.size+1,0,none⟩ .nilIface=WF:=⟨_,rfl⟩;have av:zB w WF:=by rw[<-o];exact(iB.setCell (p:=w.heap.size) zN _).setCell (p:=⟨w.heap.size+1,0,none⟩) (Nat.le_succ _) _
    have ag:WF.heap[D]?=some (.deferred (some [])):=by rw[<-o];exact((KeepsOthers.setCell _ _ _).trans (KeepsOthers.setCell _ _ _)).same D _ hK rfl
    have p1:Blk WF w.heap.size 95 #[.slice va j.length vc]:=by rw[<-o];exact(i1.set (i:=0)).other (by omega)
    have p2:Blk WF (w.heap.size+1) 33 #[.nilIface]:=by rw[<-o];exact(i2.other (by omega)).set (i:=0)
    have ax:zk WF (.slice va j.length vc) j:=by rw[<-o];exact(a2.set (fun e=>by have:=C _ e;omega)).set (fun e=>by have:=C _ e;omega)
    have q1:=p1.put (l:=D) (o':=.deferred none) (by omega);have q2:=p2.put (l:=D) (o':=.deferred none) (by omega);have ay:zk (WF.putObj D (.deferred none)) (.slice va j.length vc) j:=XI ax (grownBy_putObj' _ D (.deferred none)) (fun r e=>by cases e;exact⟨_,ag,rfl⟩);have aB:=zH q1;have aC:=zH q2;have aE:=zH ay;have aG:=zH av;have ap:=zH ag;have a4:=zH o;have ad:Hid (∀g,(Value.slice va j.length vc).ownBlock=some g->w.heap.size<=g):=fun g hg=>by have:=C _ hg;omega
    clear i1 i2 i3 a2 C iB hK av ag p1 p2 ax q1 q2 ay o Y aw k0 k1 k2 k3 k4
    gi_wp2
    rw[a4.out];refine⟨by simp,.inl ⟨_,_,rfl,run_takeDeferred ap.out,?_⟩⟩;have r1:=aB.out.cell 0;have r2:=aC.out.cell 0;refine⟨.tuple #[.agg #[.slice va j.length vc],.nilIface],?_,?_⟩
    · simp[results,Tryz.f77,go_sem,r1,r2]
    · rw[ae.out]
      exact⟨_,rfl,aE.out,ad.out,aG.out.trans (belowK_b (w:=w) zN WF D _ _ (by omega) ap.out rfl rfl)⟩
  case stop =>
    rintro D c U W hD ai ⟨⟨rfl,k,i,N,Y,x1,x2,x3,x4⟩,xB⟩ hK;obtain⟨am,Z⟩:=ai;have a3:=Jt (zZ U) am [];rw[Y,Z] at a3;have ae:Hid (Zi s=.error (k,i)):=a3;have aq:N≠D:=fun e=>by
      subst e;have:=(show W.heap[N]?=_ from x3).symm.trans hK;simp at this
    have q1:=x1.put (l:=D) (o':=.deferred none) (by omega);have q2:=x2.put (l:=D) (o':=.deferred none) (by omega);have q3:=x3.put (l:=D) (o':=.deferred none) aq;have r1:=q1.cell 0;have r2:=q2.cell 0;have aD:=zH q3;have HB:=zH xB;have aH:=zH x4;clear Y a3 Z x1 x2 x3 x4 q1 q2 q3 xB aq k0 k1 k2 k3 k4
    gi_wp2
    refine⟨by simp,.inl ⟨_,_,rfl,run_takeDeferred hK,?_⟩⟩;refine⟨.tuple #[.agg #[.slice none 0 0],.iface 100 (.pointer (some N))],?_,?_⟩
    · simp[results,Tryz.f77,go_sem,r1,r2]
    · rw[ae.out]
      exact⟨N,rfl,aD.out,aH.out,HB.out.trans (belowK_b (w:=w) zN W D _ _ (by omega) hK rfl rfl)⟩
theorem ziu(s:ByteArray)(w:World)(hs:s.size<=1000)(hw:Lb w):zC 77 #[s] w (XX w (Zi s)):=(callsIn_wide (n:=4)).1 (zkz s w hs hw)
end
section
open Go.RowKit Go.PlainAid
structure zr(s:ByteArray):Prop where
  pos:0<s.size
  len:s.size<=12
  first:97<=bt s 0/\bt s 0<=122
  any:s.toList≠[97,110,121]
  none:s.toList≠[110,111,110,101]
  each:∀k,k<s.size->(97<=bt s k/\bt s k<=122)\/(48<=bt s k/\bt s k<=57)\/bt s k=45
theorem Zb{s t:ByteArray}(h:s.toList=t.toList):s=t:=by
  apply ByteArray.ext;rw[ByteArray.toList_eq,ByteArray.toList_eq] at h;exact Array.ext' h
theorem Qs{s:ByteArray}(h:s.size=0):s=⟨#[]⟩:=by
  apply ByteArray.ext;exact Array.eq_empty_of_size_eq_zero h
theorem Qk{s:ByteArray}(h:0<s.size):s.toList.isEmpty=false:=by
  rw[ByteArray.toList_eq];cases e:s.data.toList with
  |nil =>
    have:s.data.toList.length=0:=by rw[e];rfl
    have h2:s.data.toList.length=s.size:=by simp
    omega
  |cons a l=>rfl
def KI(s:ByteArray)(e:Ending):Prop:=(zr s->e=.returned (.bool true))/\(¬zr s->e=.returned (.bool false))
theorem zb9(b:Int)(h0:0<=b)(h1:b<=255):(b<45)\/(b=45)\/(45<b/\b<48)\/(48<=b/\b<=57)\/(57<b/\b<97)\/(97<=b/\b<=122)\/122<b:=by omega
theorem zap(s:ByteArray)(w:World)(h:s=⟨#[]⟩\/s=⟨#[97,110,121]⟩\/s=⟨#[110,111,110,101]⟩) :
    zC 163 #[s] w fun e w'=>e=.returned (.bool false)/\w=w':=by
  rcases h with rfl|rfl|rfl
  all_goals
    go_enter Tryz.func163,Tryz.ntmps163;go_wp2;go_ret;exact⟨rfl,rfl⟩
theorem zaP(s:ByteArray)(w:World)(h:s=⟨#[]⟩\/s=⟨#[97,110,121]⟩\/s=⟨#[110,111,110,101]⟩) :
    zC 109 #[s] w fun e w'=>e=.returned (.bool false)/\w=w':=by
  rcases h with rfl|rfl|rfl
  all_goals
    go_enter Tryz.func109,Tryz.ntmps109;go_wp2;go_ret;exact⟨rfl,rfl⟩
theorem zp8(s:ByteArray)(w:World)(h:12<s.size) :
    zC 163 #[s] w fun e w'=>e=.returned (.bool false)/\w=w':=by
  have he:=Qk (s:=s) (by omega);go_enter Tryz.func163,Tryz.ntmps163;go_wp2;go_ret;exact⟨rfl,rfl⟩
theorem zke(s:ByteArray)(w:World)(h:12<s.size) :
    zC 109 #[s] w fun e w'=>e=.returned (.bool false)/\w=w':=by
  have hb:=get_bt s;go_enter Tryz.func109,Tryz.ntmps109;go_wp2;go_ret;exact⟨rfl,rfl⟩
theorem zon(s:ByteArray)(w:World)(h0:0<s.size)(h1:s.size<=12)(h:bt s 0<97\/122<bt s 0) :
    zC 109 #[s] w fun e w'=>e=.returned (.bool false)/\w=w':=by
  have hb:=get_bt s;have hn:=bt_nonneg s 0;have hl:=bt_le s 0;rcases h with h|h
  all_goals
    go_enter Tryz.func109,Tryz.ntmps109;go_wp2;go_ret;exact⟨rfl,rfl⟩
theorem zoo(s:ByteArray)(w:World)(h0:0<s.size)(h1:s.size<=12)(ha:(s.toList==[97,110,121])=false)(hn:(s.toList==[110,111,110,101])=false) :
    zC 163 #[s] w fun e w'=>KI s e/\w=w':=by
  have hb:=get_bt s;have he:=Qk h0;have HA:=zH ha;have HN:=zH hn;go_enter Tryz.func163,Tryz.ntmps163;go_wp2_with fail;clear ha hn he;go_loop [23] (fun i=>∃k:Nat,k<=s.size/\i=.int .i64 k/\∀j,j<k->(97<=bt s j/\bt s j<=122)\/(j≠0/\((48<=bt s j/\bt s j<=57)\/bt s j=45))) (fun i=>s.size-(intOf i).toNat)
  case atStart=>exact⟨0,Nat.zero_le _,rfl,fun j h=>by omega⟩
  case round =>
    obtain⟨k,hk,rfl,p⟩:=hrel;have o:=zH p;clear p;have q:=bt_nonneg s k;have u:=bt_le s k
    by_cases hlt:k<s.size
    · rcases zb9 _ q u with h|h|h|h|h|h|h<;>rcases Nat.eq_zero_or_pos k with hz|hz<;>(try subst hz)
      all_goals go_wp2
      all_goals
        first
        |(exfalso;rename_i hx;simp at hx;omega)
        | (go_ret
           exact ⟨⟨fun h=>by have:=h.each _ hlt;have:=h.first;omega,fun _=>rfl⟩,rfl⟩)
        | (go_round
           case rel =>
            refine⟨_+1,hlt,by go_num,fun j hj=>?_⟩;rcases Nat.lt_succ_iff_lt_or_eq.1 hj with e|e
            · exact o.out j e
            · rw[e];omega
           case measure=>simp [intOf];omega)
    · obtain rfl:k=s.size:=by omega
      clear q u;have y:zr s:=⟨h0,h1,by have:=o.out 0 h0;omega,by have:=HA.out;simpa using this,by have:=HN.out;simpa using this,fun j hj=>by have:=o.out j hj;omega⟩;go_wp2;go_ret;exact⟨⟨fun _=>rfl,fun h=>absurd y h⟩,rfl⟩
theorem zoT(s:ByteArray)(w:World)(h0:0<s.size)(h1:s.size<=12)(hf0:97<=bt s 0)(hf1:bt s 0<=122)(ha:(s.toList==[97,110,121])=false)(hn:(s.toList==[110,111,110,101])=false) :
    zC 109 #[s] w fun e w'=>KI s e/\w=w':=by
  have hb:=get_bt s;have HA:=zH ha;have HN:=zH hn;go_enter Tryz.func109,Tryz.ntmps109;go_wp2_with fail;clear ha hn;go_loop [33] (fun i=>∃k:Nat,k<=s.size/\i=.int .i64 k/\∀j,j<k->(97<=bt s j/\bt s j<=122)\/(48<=bt s j/\bt s j<=57)\/bt s j=45) (fun i=>s.size-(intOf i).toNat)
  case atStart=>exact⟨0,Nat.zero_le _,rfl,fun j h=>by omega⟩
  case round =>
    obtain⟨k,hk,rfl,p⟩:=hrel;have o:=zH p;clear p;have q:=bt_nonneg s k;have u:=bt_le s k
    by_cases hlt:k<s.size
    · rcases zb9 _ q u with h|h|h|h|h|h|h
      all_goals go_wp2
      all_goals
        first
        |(exfalso;rename_i hx;simp at hx;omega)
        | (go_ret
           exact ⟨⟨fun h=>by have:=h.each _ hlt;omega,fun _=>rfl⟩,rfl⟩)
        | (go_round
           case rel =>
            refine⟨_+1,hlt,by go_num,fun j hj=>?_⟩;rcases Nat.lt_succ_iff_lt_or_eq.1 hj with e|e
            · exact o.out j e
            · rw[e];omega
           case measure=>simp [intOf];omega)
    · obtain rfl:k=s.size:=by omega
      clear q u;have y:zr s:=⟨h0,h1,⟨hf0,hf1⟩,by have:=HA.out;simpa using this,by have:=HN.out;simpa using this,o.out⟩;go_wp2;go_ret;exact⟨⟨fun _=>rfl,fun h=>absurd y h⟩,rfl⟩
theorem zb6(s:ByteArray)(w:World):zC 163 #[s] w fun e w'=>KI s e/\w=w':=by
  by_cases h0:s.size=0
  · exact(zap s w (Or.inl (Qs h0))).mono fun e w' ⟨h,hw⟩=>⟨⟨fun x=>absurd x.pos (by omega),fun _=>h⟩,hw⟩
  by_cases h1:12<s.size
  · exact(zp8 s w h1).mono fun e w' ⟨h,hw⟩=>⟨⟨fun x=>absurd x.len (by omega),fun _=>h⟩,hw⟩
  by_cases ha:s.toList=[97,110,121]
  · exact(zap s w (Or.inr (Or.inl (Zb (ha.trans (by decide +kernel)))))).mono fun e w' ⟨h,hw⟩=>⟨⟨fun x=>absurd ha x.any,fun _=>h⟩,hw⟩
  by_cases hn:s.toList=[110,111,110,101]
  · exact(zap s w (Or.inr (Or.inr (Zb (hn.trans (by decide +kernel)))))).mono fun e w' ⟨h,hw⟩=>⟨⟨fun x=>absurd hn x.none,fun _=>h⟩,hw⟩
  exact zoo s w (by omega) (by omega) (by simpa using ha) (by simpa using hn)
theorem zeV(s:ByteArray)(w:World):zC 109 #[s] w fun e w'=>KI s e/\w=w':=by
  by_cases h0:s.size=0
  · exact(zaP s w (Or.inl (Qs h0))).mono fun e w' ⟨h,hw⟩=>⟨⟨fun x=>absurd x.pos (by omega),fun _=>h⟩,hw⟩
  by_cases h1:12<s.size
  · exact(zke s w h1).mono fun e w' ⟨h,hw⟩=>⟨⟨fun x=>absurd x.len (by omega),fun _=>h⟩,hw⟩
  by_cases hf:bt s 0<97\/122<bt s 0
  · exact(zon s w (by omega) (by omega) hf).mono fun e w' ⟨h,hw⟩=>⟨⟨fun x=>absurd x.first (by omega),fun _=>h⟩,hw⟩
  by_cases ha:s.toList=[97,110,121]
  · exact(zaP s w (Or.inr (Or.inl (Zb (ha.trans (by decide +kernel)))))).mono fun e w' ⟨h,hw⟩=>⟨⟨fun x=>absurd ha x.any,fun _=>h⟩,hw⟩
  by_cases hn:s.toList=[110,111,110,101]
  · exact(zaP s w (Or.inr (Or.inr (Zb (hn.trans (by decide +kernel)))))).mono fun e w' ⟨h,hw⟩=>⟨⟨fun x=>absurd hn x.none,fun _=>h⟩,hw⟩
  exact zoT s w (by omega) (by omega) (by omega) (by omega) (by simpa using ha) (by simpa using hn)
end
section
open Go.RowKit Sv
theorem zfR:∀{l:List zf} {lo:Nat},qR lo l->∀i j,i<=j->j<l.length->(sp l i).1<=(sp l j).1/\(sp l i).2<=(sp l j).2:=by
  intro l
  induction l with
  |nil=>intro lo _ i j _ h;simp at h
  |cons s r ih =>
    intro lo h i j o hj;obtain⟨h1,h2,h3,h4⟩:=h;cases i with
    |zero =>
      cases j with
      |zero=>exact⟨Nat.le_refl _,Nat.le_refl _⟩
      |succ j =>
        rw[KN];have hj':j<r.length:=by simpa using hj
        have:=ih h4 0 j (Nat.zero_le _) hj';have h0:s.2+1<=(sp r 0).1/\(sp r 0).1<(sp r 0).2:=by
          cases r with
          |nil=>simp at hj'
          |cons t r=>exact⟨h4.1,h4.2.1⟩
        show s.1<=_/\s.2<=_;omega
    |succ i =>
      cases j with
      |zero=>omega
      |succ j=>rw[KN,KN];exact ih h4 i j (by omega) (by simpa using hj)
theorem zjD{l:List zf}{n:Nat}:mem l n↔∃j,j<l.length/\(sp l j).1<=n/\n<(sp l j).2:=by
  constructor
  · rintro⟨s,hs,h⟩
    obtain⟨j,hj,rfl⟩:=List.getElem_of_mem hs;exact⟨j,hj,by rw[QT l j hj];exact h⟩
  · rintro⟨j,hj,h⟩
    rw[QT l j hj] at h;exact⟨_,List.getElem_mem hj,h⟩
theorem zmL{l:List zf}(hl:Rg l){n i:Nat}(hi:i<=l.length)(h1:∀j,j<i->(sp l j).2<=n)(h2:i<l.length->n<(sp l i).2):mem l n↔i<l.length/\(sp l i).1<=n:=by
  rw[zjD];constructor
  · rintro⟨j,hj,h3,h4⟩
    have o:i<=j:=by
      rcases Nat.lt_or_ge j i with h|h
      · have:=h1 j h;omega
      · exact h
    have:=zfR hl i j o hj;exact⟨by omega,by omega⟩
  · rintro⟨h3,h4⟩
    exact⟨i,h3,h4,h2 h3⟩
theorem zjN(l:List zf)(N bn br:Nat)(v:Value)(w:World)(hv:zk w v l)(kn:w.cell? bn=some (.int .i64 N))(kr:w.cell? br=some v)(i:Nat)(hi:i<l.length) :
    zR 129 #[i,.pointer (some bn),.pointer (some br)] w (.bool (decide (N<(sp l i).2))):=by
  obtain⟨g,p,rfl,hg,c0,c1⟩:=hv.cells i hi;clear hv;generalize (sp l i).1=A at *;generalize (sp l i).2=T at *;have hd:decide ((N:Int)<(T:Int))=decide (N<T):=by by_cases h:N<T<;>simp[h]
  have HD:=zH hd;clear hd;go_enter Tryz.func129,Tryz.ntmps129;go_wp2_with fail;go_quiet (fail);have j:zB w (w.drewN nq):=⟨rfl,rfl,rfl,Nat.le_refl _,fun _ _=>rfl⟩;have o:=zH j;clear j;go_wp2;go_ret;exact⟨by first|(rw[<-HD.out];rfl)|rfl,o.out⟩
theorem zkW(n:Nat)(hn:n<=500000000)(F:Nat)(cb:Array Value)(p:Nat->Bool)(w:World)(hent:∀o w,(callFunc F o).run Tryz.prog w=.ok (.enter F o) w)
    (hf:∀W i,zB w W->i<n->zR F (#[.int .i64 i]++cb) W (.bool (p i)))
    (hmono:∀a b,a<=b->b<n->p a=true->p b=true) :
    zC 128 #[n,.func (.func F) #[] cb] w fun e w'=>∃i:Nat,e=.returned (.int .i64 i)/\i<=n/\(∀j,j<i->p j=false)/\(i<n->p i=true)/\zB w w':=by
  have HF:=zH hf;have HM:=zH hmono;clear hf hmono;go_enter Tryz.func128,Tryz.ntmps128;go_wp2_with fail;go_loopw [5,6] (fun iV jV wr=>∃i j:Nat,i<=j/\j<=n/\iV=.int .i64 i/\jV=.int .i64 j/\(∀q,q<i->p q=false)/\(j<n->p j=true)/\zB w wr) (fun iV jV _=>(intOf jV).toNat-(intOf iV).toNat)
  case atStart=>exact⟨0,n,Nat.zero_le _,Nat.le_refl _,rfl,rfl,fun q h=>by omega,fun h=>by omega,Below.refl _ _⟩
  case round =>
    obtain⟨i,j,U,K,rfl,rfl,h1,h2,J⟩:=hrel;have H1:=zH h1;have H2:=zH h2;have y:=zH J;clear h1 h2 J
    by_cases hlt:i<j
    · have hm:((i:Int)+(j:Int))/2=(((i+j)/2:Nat):Int):=by omega
      have M:i<=(i+j)/2:=by omega
      have R:(i+j)/2<j:=by omega
      have HC:=zH (HF.out _ ((i+j)/2) y.out (by omega));generalize (i+j)/2=m at *;cases hp:p m with
      |true =>
        rw[hp] at HC;have HP:=zH hp;clear hp;go_wp2_with fail;refine HC.out.mono ?_;rintro e w1 ⟨rfl,u⟩;have C:Hid (zB w w1):=zT y.out u;clear u HC;go_wp2;go_roundw
        case rel=>exact⟨i,m,M,by omega,rfl,rfl,H1.out,fun _=>HP.out,C.out⟩
        case measure=>simp[intOf];omega
      |false =>
        rw[hp] at HC;have HP:=zH hp;clear hp;go_wp2_with fail;refine HC.out.mono ?_;rintro e w1 ⟨rfl,u⟩;have C:Hid (zB w w1):=zT y.out u;clear u HC;go_wp2;go_roundw
        case rel=>exact ⟨m + 1,j,R,K,by go_num,rfl,(fun q hq=>by
          cases hpq:p q with
          |false=>rfl
          |true =>have:=HM.out q m (by omega) (by omega) hpq;rw[HP.out] at this;cases this),H2.out,C.out⟩
        case measure=>simp[intOf];omega
    · obtain rfl:i=j:=by omega
      go_wp2;go_ret;exact⟨i,rfl,K,H1.out,H2.out,y.out⟩
theorem zj5:∀j w,(callFunc 129 j).run Tryz.prog w=.ok (.enter 129 j) w:=by intro j w;kernel_rfl
theorem Yr(A B C:Int)(W:World):(Instr.index 92 (.agg #[A,B,C]) (.int .i64 0)).run Tryz.prog W=.ok (.int .i64 A) W:=by kernel_rfl
theorem Xd(A B C:Int)(W:World):(Instr.index 92 (.agg #[A,B,C]) (.int .i64 1)).run Tryz.prog W=.ok (.int .i64 B) W:=by kernel_rfl
theorem zbf(A B C:Int)(W:World):(Instr.index 92 (.agg #[A,B,C]) (.int .i64 2)).run Tryz.prog W=.ok (.int .i64 C) W:=by kernel_rfl
def ZR(a b c:Nat):Nat:=(a*1000+b)*1000+c
theorem KK(l:List zf)(hl:Rg l)(v:Value)(a b c:Nat)(ha:a<=999)(hb:b<=999)(hc:c<=999)(w:World)(hv:zk w v l) :
    zC 85 #[.agg #[v],.agg #[a,b,c]] w fun e w'=>∃B,e=.returned (.bool B)/\(B=true↔mem l (ZR a b c))/\zB w w':=by
  obtain⟨va,vc,rfl⟩:=hv.form;have HN:Hid (∀W,zR 127 #[.agg #[a,b,c]] W (.int .i64 (ZR a b c:Nat))):=fun W=>xL a b c (by omega) (by omega) (by omega) W;have ac:=Yf hl;have HV:=zH hv;have HL:=zH hl;clear hv hl;generalize ZR a b c=N at *;have kr:=(Blk.new w 95 #[.slice va l.length vc]).alloc (.cells #[a,b,c] 92);have kv:=Blk.new (w.alloc (.cells #[.slice va l.length vc] 95)) 92 #[a,b,c];rw[zA0] at kv;have a6:zB w ((w.alloc (.cells #[.slice va l.length vc] 95)).alloc (.cells #[a,b,c] 92)):=((Below.refl _ w).alloc zN _).alloc (by simp only[zA0];omega) _;have a5:=zH kr;have Z:=zH kv;have aa:=zH a6;clear kr kv a6;go_enter Tryz.func85,Tryz.ntmps85;go_wp2_with fail;generalize (w.alloc (.cells #[.slice va l.length vc] 95)).alloc (.cells #[a,b,c] 92)=W0 at *;have ia:(a:Int)<=999:=by omega
  have ib:(b:Int)<=999:=by omega
  have ic:(c:Int)<=999:=by omega
  go_loop [10] (fun i=>∃k:Nat,k<=3/\i=.int .i64 k) (fun i=>3-(intOf i).toNat)
  case atStart=>exact⟨0,by omega,rfl⟩
  case round =>
    obtain⟨k,hk,rfl⟩:=hrel
    match k,hk with
    |0,_ =>
      have a8:=Yr (a:Int) (b:Int) (c:Int) W0;go_wp2;go_round
      case rel=>exact⟨1,by omega,rfl⟩
      case measure=>simp[intOf]
    |1,_ =>
      have a8:=Xd (a:Int) (b:Int) (c:Int) W0;go_wp2;go_round
      case rel=>exact⟨2,by omega,rfl⟩
      case measure=>simp[intOf]
    |2,_ =>
      have a8:=zbf (a:Int) (b:Int) (c:Int) W0;go_wp2;go_round
      case rel=>exact⟨3,by omega,rfl⟩
      case measure=>simp[intOf]
    |3,_ =>
      have d0:_=some (Value.int .i64 a):=Z.out.cell 0;have d1:_=some (Value.int .i64 b):=Z.out.cell 1;have d2:_=some (Value.int .i64 c):=Z.out.cell 2;go_wp2_with fail;refine(HN.out _).mono ?_;rintro e w1 ⟨rfl,a1⟩;have k1:=a5.out.below a1 a5.out.lt;have kn:=Blk.new w1 3 #[N];have k2:=k1.alloc (.cells #[N] 3);have q:zB w w1:=zT aa.out a1;have C:=q.alloc q.size (.cells #[N] 3);have q1:(w1.alloc (.cells #[N] 3)).cell? w.heap.size=some (.slice va l.length vc):=k2.cell 0;have Y:=zH kn;have X:=zH k2;have u:=zH C;clear d0 d1 d2 a1 k1 kn k2 q C;have a3:w.heap.size<(w1.alloc (.cells #[N] 3)).heap.size:=X.out.lt;have a4:w1.heap.size<(w1.alloc (.cells #[N] 3)).heap.size:=Y.out.lt;have HS:=zH (zkW l.length ac 129 #[.pointer (some w1.heap.size),.pointer (some w.heap.size)] (fun i=>decide (N<(sp l i).2)) (w1.alloc (.cells #[N] 3)) zj5
        (fun W i hW hi=>zjN l N w1.heap.size w.heap.size (.slice va l.length vc) W (HV.out.below (zT u.out hW) zN) ((Y.out.below hW a4).cell 0) ((X.out.below hW a3).cell 0) i hi)
        (fun x y ad hy hx=>by
          simp only[decide_eq_true_eq] at hx ⊢;have:=(zfR HL.out x y ad hy).2;omega))
      go_wp2_with fail;generalize w1.alloc (.cells #[N] 3)=W2 at *;refine HS.out.mono ?_;rintro e w3 ⟨i,rfl,hi,K,a7,U⟩;have p:=zmL HL.out (n:=N) hi (fun j hj=>by have:=K j hj;simpa using this) (fun h=>by have:=a7 h;simpa using this);have k3:=X.out.below U a3;have a9:=Y.out.below U a4;have q3:_=some (Value.slice va l.length vc):=k3.cell 0;have q4:_=some (Value.int .i64 N):=a9.cell 0;have J:zB w w3:=zT u.out U;have R:=zH p;have o:=zH J;clear HS K a7 p U J k3 a9 q1 a3 a4
      by_cases a2:i<l.length
      · obtain⟨g,ab,e1,hg,c0,c1⟩:=(HV.out.below o.out zN).cells i a2
        simp at e1;obtain⟨rfl,rfl⟩:=e1;have a0:Hid (mem l N↔(sp l i).1<=N):=by show _↔_;rw[R.out];exact⟨fun h=>h.2,fun h=>⟨a2,h⟩⟩
        clear R;generalize (sp l i).1=A at *;generalize (sp l i).2=T at *;go_wp2_with fail;go_quiet (fail);have M:zB w (w3.drewN nq):=⟨o.out.os,o.out.tape,o.out.output,o.out.size,o.out.block⟩;have V:=zH M;clear M;go_wp2;go_ret;refine⟨_,rfl,?_,V.out⟩;rw[a0.out];simp
      · have a0:Hid (¬mem l N):=by show ¬_;rw[R.out];exact fun h=>a2 h.1
        clear R;go_wp2_with fail;go_quiet (fail);have M:zB w (w3.drewN nq):=⟨o.out.os,o.out.tape,o.out.output,o.out.size,o.out.block⟩;have V:=zH M;clear M;go_wp2;go_ret;refine⟨false,rfl,⟨(fun h=>by cases h),fun h=>absurd h a0.out⟩,V.out⟩
end
section
open Go.RowKit Sv
def qP(x y:Int):Int:=if x<y then -1 else if y<x then 1 else 0
theorem zfp(x:Int)(w:World):zC 230 #[x] w fun e w'=>e=.returned (.bool false)/\w'=w:=by
  go_enter Tryz.func230,Tryz.ntmps230;go_wp2;go_ret;exact⟨rfl,rfl⟩
theorem znj(x y:Int)(w:World):zC 207 #[x,y] w fun e w'=>e=.returned (.int .i64 (qP x y))/\w'=w:=by
  have H1:Hid (∀W,zC 230 #[x] W fun e w'=>e=.returned (.bool false)/\w'=W):=fun W=>zfp x W;have H2:Hid (∀W,zC 230 #[y] W fun e w'=>e=.returned (.bool false)/\w'=W):=fun W=>zfp y W
  by_cases h:x<y
  · have HC:Hid (qP x y=-1):=by show _=_;unfold qP;rw[zA2 h]
    go_enter Tryz.func207,Tryz.ntmps207;go_wp2_with fail;refine(H1.out _).mono ?_;rintro e w1 ⟨rfl,rfl⟩;go_wp2_with fail;refine(H2.out _).mono ?_;rintro e w2 ⟨rfl,rfl⟩;go_wp2;go_ret;exact⟨by rw[HC.out];rfl,rfl⟩
  · by_cases h':y<x
    · have HC:Hid (qP x y=1):=by show _=_;unfold qP;rw[zA1 h,zA2 h']
      go_enter Tryz.func207,Tryz.ntmps207;go_wp2_with fail;refine(H1.out _).mono ?_;rintro e w1 ⟨rfl,rfl⟩;go_wp2_with fail;refine(H2.out _).mono ?_;rintro e w2 ⟨rfl,rfl⟩;go_wp2;go_ret;exact⟨by rw[HC.out];rfl,rfl⟩
    · have HC:Hid (qP x y=0):=by show _=_;unfold qP;rw[zA1 h,zA1 h']
      go_enter Tryz.func207,Tryz.ntmps207;go_wp2_with fail;refine(H1.out _).mono ?_;rintro e w1 ⟨rfl,rfl⟩;go_wp2_with fail;refine(H2.out _).mono ?_;rintro e w2 ⟨rfl,rfl⟩;go_wp2;go_ret;exact⟨by rw[HC.out];rfl,rfl⟩
def q8(x y:Nat->Int):Nat->Int
  |0=>0
  |n+1=>if qP (x (2-n)) (y (2-n))≠0 then qP (x (2-n)) (y (2-n)) else q8 x y n
end
section
open Go.RowKit Sv
def tI(a b c:Int)(j:Nat):Int:=if j=0 then a else if j=1 then b else c
end
section
open Go.RowKit Go.Sort Sv
def Gr(w w':World):Prop:=∃q os,w'=grow (w.drewN q) os
theorem Gr.refl(w:World):Gr w w:=⟨0,#[],by rw[grow_empty];rfl⟩
theorem zlL(w:World)(os:Array Obj)(q:Nat):(grow w os).drewN q=grow (w.drewN q) os:=rfl
theorem zmt(w:World)(p q:Nat):(w.drewN p).drewN q=w.drewN (p+q):=by unfold World.drewN;simp[Nat.add_assoc]
theorem Gr.trans{a b c:World}(h:Gr a b)(k:Gr b c):Gr a c:=by
  obtain⟨q,os,rfl⟩:=h;obtain⟨q',j,rfl⟩:=k;exact⟨q+q',os++j,by rw[zlL,zmt,grow_grow]⟩
theorem Gr.alloc{a b:World}(h:Gr a b)(o:Obj):Gr a (b.alloc o):=h.trans ⟨0,#[o],by rw[alloc_eq_grow];rfl⟩
theorem Gr.drew{a b:World}(h:Gr a b):Gr a b.drew:=h.trans ⟨1,#[],by rw[grow_empty];rfl⟩
theorem Gr.below{a b:World}(h:Gr a b):zB a b:=by
  obtain⟨q,os,rfl⟩:=h;refine⟨rfl,rfl,rfl,by simp[grow,World.drewN],fun k hk=>?_⟩;show (a.heap++os)[k]?=a.heap[k]?;rw[Array.getElem?_append_left hk]
theorem zi0(x y:Nat->Int)(bx bv:Nat)(w:World)(lx:bx<w.heap.size)(ly:bv<w.heap.size)(hx:∀j,j<3->w.cell? ⟨bx,j,none⟩=some (.int .i64 (x j)))(hy:∀j,j<3->w.cell? ⟨bv,j,none⟩=some (.int .i64 (y j))) :
    zC 167 #[.slice (some bx) 3 3,.slice (some bv) 3 3] w fun e w'=>e=.returned (.int .i64 (q8 x y 3))/\Gr w w':=by
  have HC:Hid (∀X Y W,zC 207 #[.int .i64 X,.int .i64 Y] W fun e w'=>e=.returned (.int .i64 (qP X Y))/\w'=W):=fun X Y W=>znj X Y W;have o:Hid ((∀W,zB w W->∀j,j<3->W.cell? ⟨bx,j,none⟩=some (.int .i64 (x j)))/\(∀W,zB w W->∀j,j<3->W.cell? ⟨bv,j,none⟩=some (.int .i64 (y j)))):=⟨fun W hb j hj=>(hb.cell (p:=⟨bx,j,none⟩) lx).trans (hx j hj),fun W hb j hj=>(hb.cell (p:=⟨bv,j,none⟩) ly).trans (hy j hj)⟩;clear hx hy lx ly;go_enter Tryz.func167,Tryz.ntmps167;go_wp2_with fail;go_loopw [11] (fun iV wr=>∃k:Nat,k<=3/\iV=.int .i64 k/\q8 x y 3=q8 x y (3-k)/\Gr w wr) (fun iV _=>3-(intOf iV).toNat)
  case atStart=>exact⟨0,by omega,rfl,rfl,Gr.refl _⟩
  case round =>
    obtain⟨k,hk,rfl,C,u⟩:=hrel;have HE:=zH C;have q:=zH u;clear C u
    by_cases hlt:k<3
    · have c0:=o.out.1 _ q.out.below k hlt
      have c1:=o.out.2 _ q.out.below k hlt;have HS:Hid (q8 x y (3-k)=if qP (x k) (y k)≠0 then qP (x k) (y k) else q8 x y (3-(k+1))):=by
        show _=_
        match k,hlt with
        |0,_=>rfl
        |1,_=>rfl
        |2,_=>rfl
      generalize x k=X at *;generalize y k=Y at *;go_wp2_with fail;refine(HC.out _ _ _).mono ?_;rintro e w1 ⟨rfl,rfl⟩;generalize qP X Y=Z at *
      by_cases hz:Z=0
      · subst hz
        go_wp2;go_roundw
        case rel=>exact⟨k+1,by omega,by go_num,by rw[HE.out,HS.out,zA1 (by simp)],q.out⟩
        case measure=>simp[intOf];omega
      · have J:(Z==0)=false:=by rw[beq_eq_false_iff_ne];exact hz
        go_wp2;go_ret;exact⟨by rw[HE.out,HS.out,zA2 hz];rfl,q.out⟩
    · obtain rfl:k=3:=by omega
      go_wp2;go_ret;exact⟨by rw[HE.out];rfl,q.out⟩
theorem zpA(a b c d e f:Int)(w:World) :
    zC 123 #[.agg #[a,b,c],.agg #[d,e,f]] w fun r w'=>r=.returned (.int .i64 (q8 (tI a b c) (tI d e f) 3))/\Gr w w':=by
  have kv:=(Blk.new w 92 #[a,b,c]).alloc (.cells #[d,e,f] 92);have kw:=Blk.new (w.alloc (.cells #[a,b,c] 92)) 92 #[d,e,f];rw[zA0] at kw;have o:Gr w ((w.alloc (.cells #[a,b,c] 92)).alloc (.cells #[d,e,f] 92)):=((Gr.refl w).alloc _).alloc _;have HX:Hid (zC 167 #[.slice (some w.heap.size) 3 3,.slice (some ⟨w.heap.size+1,0,none⟩) 3 3] ((w.alloc (.cells #[a,b,c] 92)).alloc (.cells #[d,e,f] 92)).drew fun r w'=>r=.returned (.int .i64 (q8 (tI a b c) (tI d e f) 3))/\Gr w w'):=by
    generalize (w.alloc (.cells #[a,b,c] 92)).alloc (.cells #[d,e,f] 92)=W0 at *;have hd:zB W0 W0.drew:=zF.drew;have q:=kv.below hd kv.lt;have u:=kw.below hd kw.lt;refine(zi0 (tI a b c) (tI d e f) w.heap.size (w.heap.size+1) W0.drew q.lt u.lt ?_ ?_).mono ?_
    · intro j hj
      rw[q.cell j]
      match j,hj with
      |0,_=>rfl
      |1,_=>rfl
      |2,_=>rfl
    · intro j hj
      rw[u.cell j]
      match j,hj with
      |0,_=>rfl
      |1,_=>rfl
      |2,_=>rfl
    · rintro r w1 ⟨h1,h2⟩
      have hb:Gr w W0.drew:=o.drew;exact⟨h1,hb.trans h2⟩
  clear kv kw o;go_enter Tryz.func123,Tryz.ntmps123;go_wp2_with fail;go_region_held3 (fun _=>True) (exact trivial)
    (((with_reducible refine HX.out.mono ?_);rintro r w1 ⟨rfl,p⟩;have y:=zH p;clear p))
  go_wp2;go_ret;exact⟨rfl,y.out⟩
end
end Go.Proofs.YthifnefkdjkicaaGreatDoor
