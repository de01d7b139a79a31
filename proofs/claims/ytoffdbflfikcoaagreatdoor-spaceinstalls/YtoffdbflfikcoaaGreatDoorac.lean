import Derived.Test.YtoffdbflfikcoaaGreatDoorab
open Go.Proofs.Tryz Go.RowKit
set_option maxHeartbeats 2000000
set_option maxRecDepth 100000
namespace Go.Proofs.YtoffdbflfikcoaaGreatDoor
section
open Go.Shelf Sv
attribute [local go_sem] Oper.semAt_some
def qW:List (Nat × ByteArray)->List zf->Except (Int × Nat) (List zf)
  |[],acc=>.ok acc
  |x :: r,acc=>match yQ x.2 x.1 with
    |.error e=>.error e
    |.ok l=>qW r (orr acc l)
theorem Jp(l r:List (Nat × ByteArray)):∀(acc:List zf),qW (l++r) acc=match qW l acc with
    |.error e=>.error e
    |.ok acc'=>qW r acc':=by
  induction l with
  |nil=>intro acc;rfl
  |cons x l ih =>
    intro acc;rw[zrL,qW,qW];split
    · rfl
    · exact ih _
theorem zjJ:∀{l:List (Nat × ByteArray)} {acc acc':List zf},Rg acc->qW l acc=.ok acc'->Rg acc':=by
  intro l
  induction l with
  |nil=>intro acc acc' h e;cases e;exact h
  |cons x l ih =>
    intro acc acc' h e;unfold qW at e;split at e
    · cases e
    · rename_i l' hl
      exact ih (XJ h (ze0 hl)) e
def Zr(s:ByteArray):Except (Int × Nat) (List zf):=qW (zq s ⟨#[124,124]⟩ s.size 0) []
theorem zeJ{s:ByteArray}{l:List zf}(h:Zr s=.ok l):Rg l:=zjJ Zu h
def zo0(w w':World)(v er:Value):Except (Int × Nat) (List zf)->Prop
  |.ok l=>er=.nilIface/\zk w' v l
  |.error (k,p)=>∃N,er=.iface 110 (.pointer (some ⟨N,0,none⟩))/\v=.slice none 0 0/\Blk w' N 112 #[k,p]/\w.heap.size<=N
theorem zkq(s:ByteArray)(p:Nat)(hp:p<=100000)(W:World)(hs:s.size<=100000)(hw:Lb W):zC 130 #[s,p] W fun e w'=>∃a' n' c' er,e=.returned (.tuple #[.agg #[.slice a' n' c'],er])/\zB W w'/\(∀g,(Value.slice a' n' c').ownBlock=some g->W.heap.size<=g)/\zo0 W w' (.slice a' n' c') er (yQ s p):=((callsIn_wide (n:=4)).1 (zqS s p hp W hs hw)).mono fun e w' h=>by
  unfold X0 at h;cases hx:yQ s p with
  |ok l =>rw[hx] at h;obtain⟨v',he,h1,h2,h3⟩:=h;obtain⟨a',c',rfl⟩:=h1.form;exact⟨a',_,c',_,he,h3,h2,rfl,h1⟩
  |error e2 =>obtain⟨k,q⟩:=e2;rw[hx] at h;obtain⟨N,he,h1,h2,h3⟩:=h;exact⟨none,0,0,_,he,h3,fun g hg=>by simp[Value.ownBlock] at hg,N,rfl,rfl,h1,h2⟩
def RnI(w:World)(pre:List Pc)(W:World):Prop :=
  (Blk W w.heap.size 105 #[.slice none 0 0]/\Blk W (w.heap.size+1) 31 #[.nilIface]) /\
  (∃j v,qW (zW pre) []=.ok j/\Blk W (w.heap.size+1+1) 105 #[v]/\zk W v j/\Rg j/\(∀g,v.ownBlock=some g->w.heap.size+1+1<g)) /\
  zB w W/\w.heap.size+1+1+1+1+1<=W.heap.size
def RnX(w:World)(c:Code)(pre:List Pc)(W:World):Prop :=
  (c=.ret/\∃k i N,qW (zW pre) []=.error (k,i)/\Blk W w.heap.size 105 #[.slice none 0 0]/\Blk W (w.heap.size+1) 31 #[.iface 110 (.pointer (some ⟨N,0,none⟩))]/\Blk W N 112 #[.int .i64 k,.int .i64 i]/\w.heap.size<=N) /\
  zB w W
theorem zlm(w:World)(B:Nat)(hB:w.heap.size<=B):OwnFrom B (RnI w):=by
  intro j W W' row ⟨⟨h0,h1⟩,⟨acc,v,h3,h5,h6,h7,h9⟩,h10,h11⟩ hg hr;have hr':∀r,row=some r->∃o:Obj,W.heap[r]?=some o/\o.isCells=false:=fun r e=>(hr r e).2;exact⟨⟨yB h0 hg hr',yB h1 hg hr'⟩,⟨acc,v,h3,yB h5 hg hr',XM h6 hg hr',h7,h9⟩,ownFrom_below (β:=Unit) zN hB () W W' row h10 hg hr,zf1 h11 hg.size⟩
theorem zkD(w:World)(B:Nat)(hB:w.heap.size<=B):∀c,OwnFrom B (RnX w c):=by
  intro c j W W' row ⟨⟨hc,k,i,N,h1,h2,h3,h4,h5⟩,h6⟩ hg hr;have hr':∀r,row=some r->∃o:Obj,W.heap[r]?=some o/\o.isCells=false:=fun r e=>(hr r e).2;exact⟨⟨hc,k,i,N,h1,yB h2 hg hr',yB h3 hg hr',yB h4 hg hr',h5⟩,ownFrom_below (β:=Unit) zN hB () W W' row h6 hg hr⟩
theorem zoe(s:ByteArray)(w:World)(hs:s.size<=1000)(hw:Lb w) :
    CallsIn Fence.wide 4 prog 83 #[s] w (X0 w (Zr s)):=by
  have HP:Hid (∀W,CallsIn Fence.wide 3 prog 128 #[s,.string ⟨#[124,124]⟩] W fun e w'=>e=.returned (.func (.func 181) #[] #[.pointer (some W),.pointer (some ⟨W.heap.size+1,0,none⟩)])/\w'=(W.alloc (.cells #[s] 9)).alloc (.cells #[.string ⟨#[124,124]⟩] 9)):=fun W=>zcc s ⟨#[124,124]⟩ W;have HL:=zH hw;have aJ:=hw.big;clear hw;refine callsIn_of_wp_marks func83 rfl trivial ?_ rfl;simp only[ntmps83,zrT,zrb,zrY,Nat.reduceAdd,Nat.reduceSub,zr6,zr5,zsq,zsb,zrX,zrL]
  gi_wp2_with (refine⟨trivial,?_⟩;gi_at_call 128;refine(HP.out _).mono ?_;rintro e w' ⟨rfl,rfl⟩)
  have k0:=((((Blk.new w 105 #[.slice none 0 0]).alloc (.cells #[.nilIface] 31)).alloc (.cells #[.slice none 0 0] 105)).alloc (.cells #[s] 9)).alloc (.cells #[.string ⟨#[124,124]⟩] 9);have k1:=(((Blk.new (w.alloc (.cells #[.slice none 0 0] 105)) 31 #[.nilIface]).alloc (.cells #[.slice none 0 0] 105)).alloc (.cells #[s] 9)).alloc (.cells #[.string ⟨#[124,124]⟩] 9);have k2:=((Blk.new ((w.alloc (.cells #[.slice none 0 0] 105)).alloc (.cells #[.nilIface] 31)) 105 #[.slice none 0 0]).alloc (.cells #[s] 9)).alloc (.cells #[.string ⟨#[124,124]⟩] 9);have k3:=(Blk.new (((w.alloc (.cells #[.slice none 0 0] 105)).alloc (.cells #[.nilIface] 31)).alloc (.cells #[.slice none 0 0] 105)) 9 #[s]).alloc (.cells #[.string ⟨#[124,124]⟩] 9);have k4:=Blk.new ((((w.alloc (.cells #[.slice none 0 0] 105)).alloc (.cells #[.nilIface] 31)).alloc (.cells #[.slice none 0 0] 105)).alloc (.cells #[s] 9)) 9 #[.string ⟨#[124,124]⟩];simp only[zc1] at k1 k2 k3 k4;have af:zB w (((((w.alloc (.cells #[.slice none 0 0] 105)).alloc (.cells #[.nilIface] 31)).alloc (.cells #[.slice none 0 0] 105)).alloc (.cells #[s] 9)).alloc (.cells #[.string ⟨#[124,124]⟩] 9)):=(((((zf0 _ w).alloc zN _).alloc (by simp only[zc1];omega) _).alloc (by simp only[zc1];omega) _).alloc (by simp only[zc1];omega) _).alloc (by simp only[zc1];omega) _;have aL:(((((w.alloc (.cells #[.slice none 0 0] 105)).alloc (.cells #[.nilIface] 31)).alloc (.cells #[.slice none 0 0] 105)).alloc (.cells #[s] 9)).alloc (.cells #[.string ⟨#[124,124]⟩] 9)).heap.size=w.heap.size+1+1+1+1+1:=by simp only[zc1]
  obtain⟨W0,av⟩:∃W0,((((w.alloc (.cells #[.slice none 0 0] 105)).alloc (.cells #[.nilIface] 31)).alloc (.cells #[.slice none 0 0] 105)).alloc (.cells #[s] 9)).alloc (.cells #[.string ⟨#[124,124]⟩] 9)=W0:=⟨_,rfl⟩;rw[av] at k0 k1 k2 k3 k4 af aL ⊢;clear av;obtain⟨n,hn⟩:=(HL.out.below af).ml;have c3:_=some (Value.string s):=k3.cell 0;have c4:_=some (Value.string ⟨#[124,124]⟩):=k4.cell 0;refine wpIn_rangeFunc_ownF rfl (by omega) (gf:=181) (lb:=#[.pointer (some ⟨w.heap.size+1+1+1,0,none⟩),.pointer (some ⟨w.heap.size+1+1+1+1,0,none⟩)]) rfl trivial (enters_of func181 (by kernel_rfl) rfl)
    (zb1 (w.heap.size+1+1+1) (w.heap.size+1+1+1+1) s ⟨#[124,124]⟩ (by omega) (by decide) W0 (by omega) (by omega) (by omega) c3 c4 n hn) JV (za0 (by omega) (by omega) (by omega)) zF (fun _=>rfl)
    (fun U W=>RnI w U W)
    (fun c U W=>RnX w c U W)
    (zlm w W0.heap.size (by omega)) (zkD w W0.heap.size (by omega))
    ⟨⟨k0,k1⟩,⟨[],_,rfl,k2,K4 _,Zu,fun g hg=>by simp[Value.ownBlock] at hg⟩,af,by omega⟩
    (fun x=>{ tmps:=#[.string s,undef,.pointer (some w),.pointer (some ⟨w.heap.size+1,0,none⟩),.pointer (some ⟨w.heap.size+1+1,0,none⟩),.int .i64 x.1.1,.string x.1.2,undef,undef,.string s,.int .i64 s.size,.bool (decide ((1000:Int)<(s.size:Int))),undef,undef,.string s,.func (.func 181) #[] #[.pointer (some ⟨w.heap.size+1+1+1,0,none⟩),.pointer (some ⟨w.heap.size+1+1+1+1,0,none⟩)],.int .i64 x.1.1,.string x.1.2,undef,undef,undef,undef,undef,undef,undef,undef,undef,undef,undef,undef,undef,undef],defers:=[] }) ?assign ?body ?done ?stop
  case assign =>
    intro l x W K hK
    gi_wp2
    exact hK
  case body =>
    rintro l U x W ⟨⟨i1,i2⟩,⟨j,v,Y,i3,a2,ac,C⟩,iB,aN⟩ hlen;obtain⟨va,vc,rfl⟩:=a2.form;have aM:=x.2.1;have ak:=Jp (zW U) [x.1] [];rw[Y] at ak;have aa:Hid (qW (zW (U++[x])) []=qW [x.1] j):=by show _=_;rw[zW,zrv];exact ak
    have y:=zH (zkq x.1.2 x.1.1 aM W x.2.2 (HL.out.below iB));clear ak Y k0 k1 k2 k3 k4;cases hwd:yQ x.1.2 x.1.1 with
    |error e2 =>
      obtain⟨k,q⟩:=e2;rw[hwd] at y;have M:qW [x.1] j=.error (k,q):=by rw[qW,hwd]
      rw[M] at aa;clear hwd M
      gi_wp2_with fail
      refine⟨trivial,?_⟩;refine(CallsIn.inRound l (callsIn_wide.2 y.out)).mono ?_;rintro e wP ⟨ar,nr,cr,er,rfl,a5,ah,N,rfl,aK,V,aO⟩;cases aK;have a1:zB wP (wP.alloc (.cells #[.slice none 0 0] 105)):=zF.alloc zN _;have J:zB W (wP.alloc (.cells #[.slice none 0 0] 105)):=zT a5 a1;have t1:=i1.below J i1.lt;have t2:=i2.below J i2.lt;have tN:=V.alloc (.cells #[.slice none 0 0] 105);have q1:(wP.alloc (.cells #[.slice none 0 0] 105)).cell? w.heap.size=some (.slice none 0 0):=t1.cell 0;have q2:=t1.frozen 0;have y2:=t2.other (b':=w.heap.size) (i:=0) (v:=.slice none 0 0) (by omega);have q3:((wP.alloc (.cells #[.slice none 0 0] 105)).setCell w (.slice none 0 0)).cell? ⟨w.heap.size+1,0,none⟩=some .nilIface:=y2.cell 0;have q4:=y2.frozen 0;obtain⟨WF,o⟩:∃WF,((wP.alloc (.cells #[.slice none 0 0] 105)).setCell w (.slice none 0 0)).setCell ⟨w.heap.size+1,0,none⟩ (.iface 110 (.pointer (some N)))=WF:=⟨_,rfl⟩;have HX:Hid (RnX w .ret (U++[x]) WF):=by
        refine⟨⟨rfl,k,q,N,aa.out,?_,?_,?_,by have:=iB.size;omega⟩,?_⟩
        · rw[<-o];exact(t1.set (i:=0) (v:=.slice none 0 0)).other (by omega)
        · rw[<-o];exact y2.set (i:=0)
        · rw[<-o];exact(tN.other (by omega)).other (by omega)
        · rw[<-o];exact((zT iB J).setCell (p:=w) zN _).setCell (p:=⟨w.heap.size+1,0,none⟩) (zrr _) _
      have HK:Hid (KeepsOthers W WF):=by rw[<-o];exact((Zi J).trans (KeepsOthers.setCell _ _ _)).trans (KeepsOthers.setCell _ _ _)
      have a4:=zH o;clear i1 i2 i3 a2 C iB y a5 ah V a1 J t1 t2 tN y2 o
      gi_wp2
      rw[a4.out];exact⟨HK.out,HX.out⟩
    |ok lw =>
      rw[hwd] at y;have M:qW [x.1] j=.ok (orr j lw):=by rw[qW,hwd];rfl
      rw[M] at aa;have aj:=ze0 hwd;have ao:=zH (fun (u:Value) (X:World) (h1:zk X (.slice va j.length vc) j) (h2:zk X u lw)=>(zhI j lw ac aj (.slice va j.length vc) u X h1 h2).mono fun e w' (h:Q4 X (orr j lw) e w')=>(show ∃a' c',e=.returned (.agg #[.slice a' (orr j lw).length c'])/\zk w' (.slice a' (orr j lw).length c') (orr j lw)/\(∀g,(Value.slice a' (orr j lw).length c').ownBlock=some g->X.heap.size<=g)/\zB X w' from by obtain⟨v',he,hs,hn,hb⟩:=h;obtain⟨a',c',rfl⟩:=hs.form;exact⟨a',c',he,hs,hn,hb⟩));have aG:=zH (XJ ac aj);clear M hwd aj ac
      gi_wp2_with fail
      refine⟨trivial,?_⟩;refine(CallsIn.inRound l (callsIn_wide.2 y.out)).mono ?_;rintro e wP ⟨ar,nr,cr,er,rfl,a5,ah,hm⟩;obtain⟨rfl,a9⟩:=hm;have a1:zB wP (wP.alloc (.cells #[.slice ar nr cr] 105)):=zF.alloc zN _;have kr:=Blk.new wP 105 #[.slice ar nr cr];have J:zB W (wP.alloc (.cells #[.slice ar nr cr] 105)):=zT a5 a1;have a7:=a2.below J zN;have a0:=a9.below a1 zN;have t1:=i1.below J i1.lt;have t2:=i2.below J i2.lt;have t3:=i3.below J i3.lt;have aA:=zH (ao.out _ _ a7 a0);have q1:(wP.alloc (.cells #[.slice ar nr cr] 105)).cell? ⟨w.heap.size+1+1,0,none⟩=some (.slice va j.length vc):=t3.cell 0;have q2:(wP.alloc (.cells #[.slice ar nr cr] 105)).cell? wP.heap.size=some (.slice ar nr cr):=kr.cell 0;clear ao y a5 ah a9 a7 a0 a1 kr a2 i1 i2 i3
      gi_wp2_with fail
      refine⟨trivial,?_⟩;generalize wP.alloc (.cells #[.slice ar nr cr] 105)=W2 at *;refine(CallsIn.inRound l (callsIn_wide.2 aA.out)).mono ?_;rintro e wN ⟨an,cn,rfl,a8,a6,V⟩;have aP:=J.size;have u1:=t1.below V t1.lt;have u2:=t2.below V t2.lt;have u3:=t3.below V t3.lt;have q3:_=some (Value.slice va j.length vc):=u3.cell 0;have q4:=u3.frozen 0;have ab:zB W wN:=zT J V;obtain⟨WF,o⟩:∃WF,wN.setCell ⟨w.heap.size+1+1,0,none⟩ (.slice an (orr j lw).length cn)=WF:=⟨_,rfl⟩;have R:∀g,(Value.slice an (orr j lw).length cn).ownBlock=some g->w.heap.size+1+1<g:=fun g hg=>by have:=a6 g hg;omega
      have HI:Hid (RnI w (U++[x]) WF):=by
        refine⟨⟨?_,?_⟩,⟨orr j lw,.slice an (orr j lw).length cn,aa.out,?_,?_,aG.out,R⟩,?_,?_⟩
        · rw[<-o];exact u1.other (by omega)
        · rw[<-o];exact u2.other (by omega)
        · rw[<-o];exact u3.set (i:=0)
        · rw[<-o];exact a8.set (fun e=>by have:=R _ e;omega)
        · rw[<-o];exact(zT iB ab).setCell (p:=⟨w.heap.size+1+1,0,none⟩) (by show w.heap.size<=w.heap.size+1+1;omega) _
        · rw[<-o,Ye];have:=V.size;omega
      have HK:Hid (KeepsOthers W WF):=by rw[<-o];exact(Zi ab).trans (KeepsOthers.setCell _ _ _)
      have aB:Hid (Kp2 (w.heap.size+1+1+1) (w.heap.size+1+1+1+1) W WF):=by rw[<-o];exact X8 (zbB ab (by omega) (by omega) (by omega)) (by omega) (by omega) (by omega)
      have a4:=zH o;clear a8 a6 V u1 u2 u3 t1 t2 t3 J ab R o iB C q1 q2
      gi_wp2
      rw[a4.out];exact⟨HK.out,aB.out,HI.out⟩
  case done =>
    rintro D ys W hD ax ⟨⟨i1,i2⟩,⟨j,v,Y,i3,a2,ac,C⟩,iB,aN⟩ hK;rw[ax] at Y;have ae:Hid (Zr s=.ok j):=Y;obtain⟨va,vc,rfl⟩:=a2.form;have d1:_=some (Value.slice none 0 0):=i1.cell 0;have e1:=i1.frozen 0;have d2:_=some Value.nilIface:=i2.cell 0;have e2:=i2.frozen 0;have d3:_=some (Value.slice va j.length vc):=i3.cell 0;obtain⟨WF,o⟩:∃WF,(W.setCell w (.slice va j.length vc)).setCell ⟨w.heap.size+1,0,none⟩ .nilIface=WF:=⟨_,rfl⟩;have aw:zB w WF:=by rw[<-o];exact(iB.setCell (p:=w) zN _).setCell (p:=⟨w.heap.size+1,0,none⟩) (zrr _) _
    have ag:WF.heap[D]?=some (.deferred (some [])):=by rw[<-o];exact((KeepsOthers.setCell _ _ _).trans (KeepsOthers.setCell _ _ _)).same D _ hK rfl
    have p1:Blk WF w.heap.size 105 #[.slice va j.length vc]:=by rw[<-o];exact(i1.set (i:=0)).other (by omega)
    have p2:Blk WF (w.heap.size+1) 31 #[.nilIface]:=by rw[<-o];exact(i2.other (by omega)).set (i:=0)
    have ay:zk WF (.slice va j.length vc) j:=by rw[<-o];exact(a2.set (fun e=>by have:=C _ e;omega)).set (fun e=>by have:=C _ e;omega)
    have q1:=p1.put (l:=D) (o':=.deferred none) (by omega);have q2:=p2.put (l:=D) (o':=.deferred none) (by omega);have az:zk (WF.putObj D (.deferred none)) (.slice va j.length vc) j:=XM ay (grownBy_putObj' _ D (.deferred none)) (fun r e=>by cases e;exact⟨_,ag,rfl⟩);have aC:=zH q1;have aD:=zH q2;have aF:=zH az;have aH:=zH aw;have aq:=zH ag;have a4:=zH o;have ad:Hid (∀g,(Value.slice va j.length vc).ownBlock=some g->w.heap.size<=g):=fun g hg=>by have:=C _ hg;omega
    clear i1 i2 i3 a2 C iB hK aw ag p1 p2 ay q1 q2 az o Y ax k0 k1 k2 k3 k4
    gi_wp2
    rw[a4.out];refine⟨by simp,.inl ⟨_,_,rfl,run_takeDeferred aq.out,?_⟩⟩;have r1:=aC.out.cell 0;have r2:=aD.out.cell 0;refine⟨.tuple #[.agg #[.slice va j.length vc],.nilIface],?_,?_⟩
    · simp[results,Tryz.f83,go_sem,r1,r2]
    · rw[ae.out]
      exact⟨_,rfl,aF.out,ad.out,aH.out.trans (belowK_b (w:=w) zN WF D _ _ (by omega) aq.out rfl rfl)⟩
  case stop =>
    rintro D c U W hD ai ⟨⟨rfl,k,i,N,Y,x1,x2,x3,x4⟩,xB⟩ hK;obtain⟨am,Z⟩:=ai;have a3:=Jp (zW U) am [];rw[Y,Z] at a3;have ae:Hid (Zr s=.error (k,i)):=a3;have au:N≠D:=fun e=>by
      subst e;have:=(show W.heap[N]?=_ from x3).symm.trans hK;simp at this
    have q1:=x1.put (l:=D) (o':=.deferred none) (by omega);have q2:=x2.put (l:=D) (o':=.deferred none) (by omega);have q3:=x3.put (l:=D) (o':=.deferred none) au;have r1:=q1.cell 0;have r2:=q2.cell 0;have aE:=zH q3;have HB:=zH xB;have aI:=zH x4;clear Y a3 Z x1 x2 x3 x4 q1 q2 q3 xB au k0 k1 k2 k3 k4
    gi_wp2
    refine⟨by simp,.inl ⟨_,_,rfl,run_takeDeferred hK,?_⟩⟩;refine⟨.tuple #[.agg #[.slice none 0 0],.iface 110 (.pointer (some N))],?_,?_⟩
    · simp[results,Tryz.f83,go_sem,r1,r2]
    · rw[ae.out]
      exact⟨N,rfl,aE.out,aI.out,HB.out.trans (belowK_b (w:=w) zN W D _ _ (by omega) hK rfl rfl)⟩
theorem zpp(s:ByteArray)(w:World)(hs:s.size<=1000)(hw:Lb w):zC 83 #[s] w (X0 w (Zr s)):=(callsIn_wide (n:=4)).1 (zoe s w hs hw)
end
section
open Go.PlainAid
structure zr(s:ByteArray):Prop where
  pos:0<s.size
  len:s.size<=12
  first:97<=bt s 0/\bt s 0<=122
  any:s.toList≠[97,110,121]
  none:s.toList≠[110,111,110,101]
  each:∀k,k<s.size->(97<=bt s k/\bt s k<=122)\/(48<=bt s k/\bt s k<=57)\/bt s k=45
theorem Zd{s t:ByteArray}(h:s.toList=t.toList):s=t:=by
  apply zuY;rw[ByteArray.toList_eq,ByteArray.toList_eq] at h;exact Array.ext' h
theorem Qu{s:ByteArray}(h:s.size=0):s=⟨#[]⟩:=by
  apply zuY;exact Array.eq_empty_of_size_eq_zero h
theorem Qr{s:ByteArray}(h:0<s.size):s.toList.isEmpty=false:=by
  rw[ByteArray.toList_eq];cases e:s.data.toList with
  |nil =>
    have:s.data.toList.length=0:=by rw[e];rfl
    have h2:s.data.toList.length=s.size:=by simp
    omega
  |cons a l=>rfl
def KM(s:ByteArray)(e:Ending):Prop:=(zr s->e=.returned true)/\(¬zr s->e=.returned false)
theorem zeR(b:Int)(h0:0<=b)(h1:b<=255):(b<45)\/(b=45)\/(45<b/\b<48)\/(48<=b/\b<=57)\/(57<b/\b<97)\/(97<=b/\b<=122)\/122<b:=by omega
theorem zb2(s:ByteArray)(w:World)(h:s=⟨#[]⟩\/s=⟨#[97,110,121]⟩\/s=⟨#[110,111,110,101]⟩) :
    zC 189 #[s] w fun e w'=>e=.returned false/\w=w':=by
  rcases h with rfl|rfl|rfl
  all_goals
    go_enter func189,ntmps189;go_wp2;go_ret;exact⟨rfl,rfl⟩
theorem zbF(s:ByteArray)(w:World)(h:s=⟨#[]⟩\/s=⟨#[97,110,121]⟩\/s=⟨#[110,111,110,101]⟩) :
    zC 126 #[s] w fun e w'=>e=.returned false/\w=w':=by
  rcases h with rfl|rfl|rfl
  all_goals
    go_enter func126,ntmps126;go_wp2;go_ret;exact⟨rfl,rfl⟩
theorem zh9(s:ByteArray)(w:World)(h:12<s.size) :
    zC 189 #[s] w fun e w'=>e=.returned false/\w=w':=by
  have he:=Qr (s:=s) (by omega);go_enter func189,ntmps189;go_wp2;go_ret;exact⟨rfl,rfl⟩
theorem zoV(s:ByteArray)(w:World)(h:12<s.size) :
    zC 126 #[s] w fun e w'=>e=.returned false/\w=w':=by
  have hb:=get_bt s;go_enter func126,ntmps126;go_wp2;go_ret;exact⟨rfl,rfl⟩
theorem zjP(s:ByteArray)(w:World)(h0:0<s.size)(h1:s.size<=12)(h:bt s 0<97\/122<bt s 0) :
    zC 126 #[s] w fun e w'=>e=.returned false/\w=w':=by
  have hb:=get_bt s;have hn:=bt_nonneg s 0;have hl:=bt_le s 0;rcases h with h|h
  all_goals
    go_enter func126,ntmps126;go_wp2;go_ret;exact⟨rfl,rfl⟩
theorem zmI(s:ByteArray)(w:World)(h0:0<s.size)(h1:s.size<=12)(ha:(s.toList==[97,110,121])=false)(hn:(s.toList==[110,111,110,101])=false) :
    zC 189 #[s] w fun e w'=>KM s e/\w=w':=by
  have hb:=get_bt s;have he:=Qr h0;have HA:=zH ha;have HN:=zH hn;go_enter func189,ntmps189;go_wp2_with fail;clear ha hn he;go_loop [23] (fun i=>∃k:Nat,k<=s.size/\i=.int .i64 k/\∀j,j<k->(97<=bt s j/\bt s j<=122)\/(j≠0/\((48<=bt s j/\bt s j<=57)\/bt s j=45))) (fun i=>s.size-(intOf i).toNat)
  case atStart=>exact⟨0,zf6 _,rfl,fun j h=>by omega⟩
  case round =>
    obtain⟨k,hk,rfl,p⟩:=hrel;have o:=zH p;clear p;have q:=bt_nonneg s k;have u:=bt_le s k
    by_cases hlt:k<s.size
    · rcases zeR _ q u with h|h|h|h|h|h|h<;>rcases Nat.eq_zero_or_pos k with hz|hz<;>(try subst hz)
      all_goals go_wp2
      all_goals
        first
        |(exfalso;rename_i hx;simp at hx;omega)
        | (go_ret
           exact ⟨⟨fun h=>by have:=h.each _ hlt;have:=h.first;omega,fun _=>rfl⟩,rfl⟩)
        | (go_round
           case rel =>
            refine⟨_+1,hlt,by go_num,fun j hj=>?_⟩;rcases zse.1 hj with e|e
            · exact o.out j e
            · rw[e];omega
           case measure=>simp [intOf];omega)
    · obtain rfl:k=s.size:=by omega
      clear q u;have y:zr s:=⟨h0,h1,by have:=o.out 0 h0;omega,by have:=HA.out;simpa using this,by have:=HN.out;simpa using this,fun j hj=>by have:=o.out j hj;omega⟩;go_wp2;go_ret;exact⟨⟨fun _=>rfl,fun h=>absurd y h⟩,rfl⟩
theorem zhO(s:ByteArray)(w:World)(h0:0<s.size)(h1:s.size<=12)(hf0:97<=bt s 0)(hf1:bt s 0<=122)(ha:(s.toList==[97,110,121])=false)(hn:(s.toList==[110,111,110,101])=false) :
    zC 126 #[s] w fun e w'=>KM s e/\w=w':=by
  have hb:=get_bt s;have HA:=zH ha;have HN:=zH hn;go_enter func126,ntmps126;go_wp2_with fail;clear ha hn;go_loop [33] (fun i=>∃k:Nat,k<=s.size/\i=.int .i64 k/\∀j,j<k->(97<=bt s j/\bt s j<=122)\/(48<=bt s j/\bt s j<=57)\/bt s j=45) (fun i=>s.size-(intOf i).toNat)
  case atStart=>exact⟨0,zf6 _,rfl,fun j h=>by omega⟩
  case round =>
    obtain⟨k,hk,rfl,p⟩:=hrel;have o:=zH p;clear p;have q:=bt_nonneg s k;have u:=bt_le s k
    by_cases hlt:k<s.size
    · rcases zeR _ q u with h|h|h|h|h|h|h
      all_goals go_wp2
      all_goals
        first
        |(exfalso;rename_i hx;simp at hx;omega)
        | (go_ret
           exact ⟨⟨fun h=>by have:=h.each _ hlt;omega,fun _=>rfl⟩,rfl⟩)
        | (go_round
           case rel =>
            refine⟨_+1,hlt,by go_num,fun j hj=>?_⟩;rcases zse.1 hj with e|e
            · exact o.out j e
            · rw[e];omega
           case measure=>simp [intOf];omega)
    · obtain rfl:k=s.size:=by omega
      clear q u;have y:zr s:=⟨h0,h1,⟨hf0,hf1⟩,by have:=HA.out;simpa using this,by have:=HN.out;simpa using this,o.out⟩;go_wp2;go_ret;exact⟨⟨fun _=>rfl,fun h=>absurd y h⟩,rfl⟩
theorem zeZ(s:ByteArray)(w:World):zC 189 #[s] w fun e w'=>KM s e/\w=w':=by
  by_cases h0:s.size=0
  · exact(zb2 s w (Or.inl (Qu h0))).mono fun e w' ⟨h,hw⟩=>⟨⟨fun x=>absurd x.pos (by omega),fun _=>h⟩,hw⟩
  by_cases h1:12<s.size
  · exact(zh9 s w h1).mono fun e w' ⟨h,hw⟩=>⟨⟨fun x=>absurd x.len (by omega),fun _=>h⟩,hw⟩
  by_cases ha:s.toList=[97,110,121]
  · exact(zb2 s w (Or.inr (Or.inl (Zd (ha.trans (by decide +kernel)))))).mono fun e w' ⟨h,hw⟩=>⟨⟨fun x=>absurd ha x.any,fun _=>h⟩,hw⟩
  by_cases hn:s.toList=[110,111,110,101]
  · exact(zb2 s w (Or.inr (Or.inr (Zd (hn.trans (by decide +kernel)))))).mono fun e w' ⟨h,hw⟩=>⟨⟨fun x=>absurd hn x.none,fun _=>h⟩,hw⟩
  exact zmI s w (by omega) (by omega) (by simpa using ha) (by simpa using hn)
theorem zgu(s:ByteArray)(w:World):zC 126 #[s] w fun e w'=>KM s e/\w=w':=by
  by_cases h0:s.size=0
  · exact(zbF s w (Or.inl (Qu h0))).mono fun e w' ⟨h,hw⟩=>⟨⟨fun x=>absurd x.pos (by omega),fun _=>h⟩,hw⟩
  by_cases h1:12<s.size
  · exact(zoV s w h1).mono fun e w' ⟨h,hw⟩=>⟨⟨fun x=>absurd x.len (by omega),fun _=>h⟩,hw⟩
  by_cases hf:bt s 0<97\/122<bt s 0
  · exact(zjP s w (by omega) (by omega) hf).mono fun e w' ⟨h,hw⟩=>⟨⟨fun x=>absurd x.first (by omega),fun _=>h⟩,hw⟩
  by_cases ha:s.toList=[97,110,121]
  · exact(zbF s w (Or.inr (Or.inl (Zd (ha.trans (by decide +kernel)))))).mono fun e w' ⟨h,hw⟩=>⟨⟨fun x=>absurd ha x.any,fun _=>h⟩,hw⟩
  by_cases hn:s.toList=[110,111,110,101]
  · exact(zbF s w (Or.inr (Or.inr (Zd (hn.trans (by decide +kernel)))))).mono fun e w' ⟨h,hw⟩=>⟨⟨fun x=>absurd hn x.none,fun _=>h⟩,hw⟩
  exact zhO s w (by omega) (by omega) (by omega) (by omega) (by simpa using ha) (by simpa using hn)
end
section
open Sv
theorem zgN:∀{l:List zf} {lo:Nat},qV lo l->∀i j,i<=j->j<l.length->(sp l i).1<=(sp l j).1/\(sp l i).2<=(sp l j).2:=by
  intro l
  induction l with
  |nil=>intro lo _ i j _ h;simp at h
  |cons s r ih =>
    intro lo h i j o hj;obtain⟨h1,h2,h3,h4⟩:=h;cases i with
    |zero =>
      cases j with
      |zero=>exact⟨zri _,zri _⟩
      |succ j =>
        rw[KG];have hj':j<r.length:=by simpa using hj
        have:=ih h4 0 j (zf6 _) hj';have h0:s.2+1<=(sp r 0).1/\(sp r 0).1<(sp r 0).2:=by
          cases r with
          |nil=>simp at hj'
          |cons t r=>exact⟨h4.1,h4.2.1⟩
        show s.1<=_/\s.2<=_;omega
    |succ i =>
      cases j with
      |zero=>omega
      |succ j=>rw[KG,KG];exact ih h4 i j (by omega) (by simpa using hj)
theorem zjv{l:List zf}{n:Nat}:mem l n↔∃j,j<l.length/\(sp l j).1<=n/\n<(sp l j).2:=by
  constructor
  · rintro⟨s,hs,h⟩
    obtain⟨j,hj,rfl⟩:=zrQ hs;exact⟨j,hj,by rw[Q9 l j hj];exact h⟩
  · rintro⟨j,hj,h⟩
    rw[Q9 l j hj] at h;exact⟨_,zr0 hj,h⟩
theorem zlV{l:List zf}(hl:Rg l){n i:Nat}(hi:i<=l.length)(h1:∀j,j<i->(sp l j).2<=n)(h2:i<l.length->n<(sp l i).2):mem l n↔i<l.length/\(sp l i).1<=n:=by
  rw[zjv];constructor
  · rintro⟨j,hj,h3,h4⟩
    have o:i<=j:=by
      rcases zsh j i with h|h
      · have:=h1 j h;omega
      · exact h
    have:=zgN hl i j o hj;exact⟨by omega,by omega⟩
  · rintro⟨h3,h4⟩
    exact⟨i,h3,h4,h2 h3⟩
theorem zjs(l:List zf)(N bn br:Nat)(v:Value)(w:World)(hv:zk w v l)(kn:w.cell? bn=some (.int .i64 N))(kr:w.cell? br=some v)(i:Nat)(hi:i<l.length) :
    zR 146 #[i,.pointer (some bn),.pointer (some br)] w (.bool (decide (N<(sp l i).2))):=by
  obtain⟨g,p,rfl,hg,c0,c1⟩:=hv.cells i hi;clear hv;generalize (sp l i).1=A at *;generalize (sp l i).2=T at *;have hd:decide ((N:Int)<(T:Int))=decide (N<T):=by by_cases h:N<T<;>simp[h]
  have HD:=zH hd;clear hd;go_enter func146,ntmps146;go_wp2_with fail;go_quiet (fail);have j:zB w (w.drewN nq):=⟨rfl,rfl,rfl,zri _,fun _ _=>rfl⟩;have o:=zH j;clear j;go_wp2;go_ret;exact⟨by first|(rw[<-HD.out];rfl)|rfl,o.out⟩
theorem zns(n:Nat)(hn:n<=500000000)(F:Nat)(cb:Array Value)(p:Nat->Bool)(w:World)(hent:∀o w,(callFunc F o).run prog w=.ok (.enter F o) w)
    (hf:∀W i,zB w W->i<n->zR F (#[.int .i64 i]++cb) W (.bool (p i)))
    (hmono:∀a b,a<=b->b<n->p a=true->p b=true) :
    zC 145 #[n,.func (.func F) #[] cb] w fun e w'=>∃i:Nat,e=.returned (.int .i64 i)/\i<=n/\(∀j,j<i->p j=false)/\(i<n->p i=true)/\zB w w':=by
  have HF:=zH hf;have HM:=zH hmono;clear hf hmono;go_enter func145,ntmps145;go_wp2_with fail;go_loopw [5,6] (fun iV jV wr=>∃i j:Nat,i<=j/\j<=n/\iV=.int .i64 i/\jV=.int .i64 j/\(∀q,q<i->p q=false)/\(j<n->p j=true)/\zB w wr) (fun iV jV _=>(intOf jV).toNat-(intOf iV).toNat)
  case atStart=>exact⟨0,n,zf6 _,zri _,rfl,rfl,fun q h=>by omega,fun h=>by omega,zf0 _ _⟩
  case round =>
    obtain⟨i,j,U,K,rfl,rfl,h1,h2,J⟩:=hrel;have H1:=zH h1;have H2:=zH h2;have y:=zH J;clear h1 h2 J
    by_cases hlt:i<j
    · have hm:((i:Int)+(j:Int))/2=(((i+j)/2:Nat):Int):=by omega
      have M:i<=(i+j)/2:=by omega
      have R:(i+j)/2<j:=by omega
      have HC:=zH (HF.out _ ((i+j)/2) y.out (by omega));generalize (i+j)/2=m at *;cases hp:p m with
      |true =>
        rw[hp] at HC;have HP:=zH hp;clear hp;go_wp2_with fail;refine HC.out.mono ?_;rintro e w1 ⟨rfl,u⟩;have C:Hid (zB w w1):=zT y.out u;clear u HC;go_wp2;go_roundw
        case rel=>exact⟨i,m,M,by omega,rfl,rfl,H1.out,fun _=>HP.out,C.out⟩
        case measure=>simp[intOf];omega
      |false =>
        rw[hp] at HC;have HP:=zH hp;clear hp;go_wp2_with fail;refine HC.out.mono ?_;rintro e w1 ⟨rfl,u⟩;have C:Hid (zB w w1):=zT y.out u;clear u HC;go_wp2;go_roundw
        case rel=>exact ⟨m + 1,j,R,K,by go_num,rfl,(fun q hq=>by
          cases hpq:p q with
          |false=>rfl
          |true =>have:=HM.out q m (by omega) (by omega) hpq;rw[HP.out] at this;cases this),H2.out,C.out⟩
        case measure=>simp[intOf];omega
    · obtain rfl:i=j:=by omega
      go_wp2;go_ret;exact⟨i,rfl,K,H1.out,H2.out,y.out⟩
theorem zpD:∀j w,(callFunc 146 j).run prog w=.ok (.enter 146 j) w:=by intro j w;kernel_rfl
theorem YL(A B C:Int)(W:World):(Instr.index 102 (.agg #[A,B,C]) (.int .i64 0)).run prog W=.ok (.int .i64 A) W:=by kernel_rfl
theorem Xt(A B C:Int)(W:World):(Instr.index 102 (.agg #[A,B,C]) (.int .i64 1)).run prog W=.ok (.int .i64 B) W:=by kernel_rfl
theorem zaP(A B C:Int)(W:World):(Instr.index 102 (.agg #[A,B,C]) (.int .i64 2)).run prog W=.ok (.int .i64 C) W:=by kernel_rfl
def Z4(a b c:Nat):Nat:=(a*1000+b)*1000+c
theorem Kz(l:List zf)(hl:Rg l)(v:Value)(a b c:Nat)(ha:a<=999)(hb:b<=999)(hc:c<=999)(w:World)(hv:zk w v l) :
    zC 91 #[.agg #[v],.agg #[a,b,c]] w fun e w'=>∃B,e=.returned (.bool B)/\(B=true↔mem l (Z4 a b c))/\zB w w':=by
  obtain⟨va,vc,rfl⟩:=hv.form;have HN:Hid (∀W,zR 144 #[.agg #[a,b,c]] W (.int .i64 (Z4 a b c:Nat))):=fun W=>Zb a b c (by omega) (by omega) (by omega) W;have ac:=YB hl;have HV:=zH hv;have HL:=zH hl;clear hv hl;generalize Z4 a b c=N at *;have kr:=(Blk.new w 105 #[.slice va l.length vc]).alloc (.cells #[a,b,c] 102);have kv:=Blk.new (w.alloc (.cells #[.slice va l.length vc] 105)) 102 #[a,b,c];rw[zc1] at kv;have a6:zB w ((w.alloc (.cells #[.slice va l.length vc] 105)).alloc (.cells #[a,b,c] 102)):=((zf0 _ w).alloc zN _).alloc (by simp only[zc1];omega) _;have a5:=zH kr;have Z:=zH kv;have aa:=zH a6;clear kr kv a6;go_enter zuj,ztY;go_wp2_with fail;generalize (w.alloc (.cells #[.slice va l.length vc] 105)).alloc (.cells #[a,b,c] 102)=W0 at *;have ia:(a:Int)<=999:=by omega
  have ib:(b:Int)<=999:=by omega
  have ic:(c:Int)<=999:=by omega
  go_loop [10] (fun i=>∃k:Nat,k<=3/\i=.int .i64 k) (fun i=>3-(intOf i).toNat)
  case atStart=>exact⟨0,by omega,rfl⟩
  case round =>
    obtain⟨k,hk,rfl⟩:=hrel
    match k,hk with
    |0,_ =>
      have a8:=YL (a:Int) (b:Int) (c:Int) W0;go_wp2;go_round
      case rel=>exact⟨1,by omega,rfl⟩
      case measure=>simp[intOf]
    |1,_ =>
      have a8:=Xt (a:Int) (b:Int) (c:Int) W0;go_wp2;go_round
      case rel=>exact⟨2,by omega,rfl⟩
      case measure=>simp[intOf]
    |2,_ =>
      have a8:=zaP (a:Int) (b:Int) (c:Int) W0;go_wp2;go_round
      case rel=>exact⟨3,by omega,rfl⟩
      case measure=>simp[intOf]
    |3,_ =>
      have d0:_=some (Value.int .i64 a):=Z.out.cell 0;have d1:_=some (Value.int .i64 b):=Z.out.cell 1;have d2:_=some (Value.int .i64 c):=Z.out.cell 2;go_wp2_with fail;refine(HN.out _).mono ?_;rintro e w1 ⟨rfl,a1⟩;have k1:=a5.out.below a1 a5.out.lt;have kn:=Blk.new w1 3 #[N];have k2:=k1.alloc (.cells #[N] 3);have q:zB w w1:=zT aa.out a1;have C:=q.alloc q.size (.cells #[N] 3);have q1:(w1.alloc (.cells #[N] 3)).cell? w.heap.size=some (.slice va l.length vc):=k2.cell 0;have Y:=zH kn;have X:=zH k2;have u:=zH C;clear d0 d1 d2 a1 k1 kn k2 q C;have a3:w.heap.size<(w1.alloc (.cells #[N] 3)).heap.size:=X.out.lt;have a4:w1.heap.size<(w1.alloc (.cells #[N] 3)).heap.size:=Y.out.lt;have HS:=zH (zns l.length ac 146 #[.pointer (some w1),.pointer (some w)] (fun i=>decide (N<(sp l i).2)) (w1.alloc (.cells #[N] 3)) zpD
        (fun W i hW hi=>zjs l N w1.heap.size w.heap.size (.slice va l.length vc) W (HV.out.below (zT u.out hW) zN) ((Y.out.below hW a4).cell 0) ((X.out.below hW a3).cell 0) i hi)
        (fun x y ad hy hx=>by
          simp only[zrz] at hx ⊢;have:=(zgN HL.out x y ad hy).2;omega))
      go_wp2_with fail;generalize w1.alloc (.cells #[N] 3)=W2 at *;refine HS.out.mono ?_;rintro e w3 ⟨i,rfl,hi,K,a7,U⟩;have p:=zlV HL.out (n:=N) hi (fun j hj=>by have:=K j hj;simpa using this) (fun h=>by have:=a7 h;simpa using this);have k3:=X.out.below U a3;have a9:=Y.out.below U a4;have q3:_=some (Value.slice va l.length vc):=k3.cell 0;have q4:_=some (Value.int .i64 N):=a9.cell 0;have J:zB w w3:=zT u.out U;have R:=zH p;have o:=zH J;clear HS K a7 p U J k3 a9 q1 a3 a4
      by_cases a2:i<l.length
      · obtain⟨g,ab,e1,hg,c0,c1⟩:=(HV.out.below o.out zN).cells i a2
        simp at e1;obtain⟨rfl,rfl⟩:=e1;have a0:Hid (mem l N↔(sp l i).1<=N):=by show _↔_;rw[R.out];exact⟨fun h=>h.2,fun h=>⟨a2,h⟩⟩
        clear R;generalize (sp l i).1=A at *;generalize (sp l i).2=T at *;go_wp2_with fail;go_quiet (fail);have M:zB w (w3.drewN nq):=⟨o.out.os,o.out.tape,o.out.output,o.out.size,o.out.block⟩;have V:=zH M;clear M;go_wp2;go_ret;refine⟨_,rfl,?_,V.out⟩;rw[a0.out];simp
      · have a0:Hid (¬mem l N):=by show ¬_;rw[R.out];exact fun h=>a2 h.1
        clear R;go_wp2_with fail;go_quiet (fail);have M:zB w (w3.drewN nq):=⟨o.out.os,o.out.tape,o.out.output,o.out.size,o.out.block⟩;have V:=zH M;clear M;go_wp2;go_ret;refine⟨false,rfl,⟨(fun h=>by cases h),fun h=>absurd h a0.out⟩,V.out⟩
end
section
open Sv
def qU(x y:Int):Int:=if x<y then -1 else if y<x then 1 else 0
theorem zei(x:Int)(w:World):zC 250 #[x] w fun e w'=>e=.returned false/\w'=w:=by
  go_enter func250,ntmps250;go_wp2;go_ret;exact⟨rfl,rfl⟩
theorem znE(x y:Int)(w:World):zC 231 #[x,y] w fun e w'=>e=.returned (.int .i64 (qU x y))/\w'=w:=by
  have H1:Hid (∀W,zC 250 #[x] W fun e w'=>e=.returned false/\w'=W):=fun W=>zei x W;have H2:Hid (∀W,zC 250 #[y] W fun e w'=>e=.returned false/\w'=W):=fun W=>zei y W
  by_cases h:x<y
  · have HC:Hid (qU x y=-1):=by show _=_;unfold qU;rw[zc3 h]
    go_enter func231,ntmps231;go_wp2_with fail;refine(H1.out _).mono ?_;rintro e w1 ⟨rfl,rfl⟩;go_wp2_with fail;refine(H2.out _).mono ?_;rintro e w2 ⟨rfl,rfl⟩;go_wp2;go_ret;exact⟨by rw[HC.out];rfl,rfl⟩
  · by_cases h':y<x
    · have HC:Hid (qU x y=1):=by show _=_;unfold qU;rw[zc2 h,zc3 h']
      go_enter func231,ntmps231;go_wp2_with fail;refine(H1.out _).mono ?_;rintro e w1 ⟨rfl,rfl⟩;go_wp2_with fail;refine(H2.out _).mono ?_;rintro e w2 ⟨rfl,rfl⟩;go_wp2;go_ret;exact⟨by rw[HC.out];rfl,rfl⟩
    · have HC:Hid (qU x y=0):=by show _=_;unfold qU;rw[zc2 h,zc2 h']
      go_enter func231,ntmps231;go_wp2_with fail;refine(H1.out _).mono ?_;rintro e w1 ⟨rfl,rfl⟩;go_wp2_with fail;refine(H2.out _).mono ?_;rintro e w2 ⟨rfl,rfl⟩;go_wp2;go_ret;exact⟨by rw[HC.out];rfl,rfl⟩
def yd(x y:Nat->Int):Nat->Int
  |0=>0
  |n+1=>if qU (x (2-n)) (y (2-n))≠0 then qU (x (2-n)) (y (2-n)) else yd x y n
end
section
open Sv
def tI(a b c:Int)(j:Nat):Int:=if j=0 then a else if j=1 then b else c
end
section
open Go.Sort Sv
def Gr(w w':World):Prop:=∃q os,w'=grow (w.drewN q) os
theorem Gr.refl(w:World):Gr w w:=⟨0,#[],by rw[grow_empty];rfl⟩
theorem ziw(w:World)(os:Array Obj)(q:Nat):(grow w os).drewN q=grow (w.drewN q) os:=rfl
theorem zhd(w:World)(p q:Nat):(w.drewN p).drewN q=w.drewN (p+q):=by unfold World.drewN;simp[Nat.add_assoc]
theorem Gr.trans{a b c:World}(h:Gr a b)(k:Gr b c):Gr a c:=by
  obtain⟨q,os,rfl⟩:=h;obtain⟨q',j,rfl⟩:=k;exact⟨q+q',os++j,by rw[ziw,zhd,grow_grow]⟩
theorem Gr.alloc{a b:World}(h:Gr a b)(o:Obj):Gr a (b.alloc o):=h.trans ⟨0,#[o],by rw[alloc_eq_grow];rfl⟩
theorem Gr.drew{a b:World}(h:Gr a b):Gr a b.drew:=h.trans ⟨1,#[],by rw[grow_empty];rfl⟩
theorem Gr.below{a b:World}(h:Gr a b):zB a b:=by
  obtain⟨q,os,rfl⟩:=h;refine⟨rfl,rfl,rfl,by simp[grow,World.drewN],fun k hk=>?_⟩;show (a.heap++os)[k]?=a.heap[k]?;rw[ztb hk]
theorem zje(x y:Nat->Int)(bx bv:Nat)(w:World)(lx:bx<w.heap.size)(ly:bv<w.heap.size)(hx:∀j,j<3->w.cell? ⟨bx,j,none⟩=some (.int .i64 (x j)))(hy:∀j,j<3->w.cell? ⟨bv,j,none⟩=some (.int .i64 (y j))) :
    zC 193 #[.slice (some bx) 3 3,.slice (some bv) 3 3] w fun e w'=>e=.returned (.int .i64 (yd x y 3))/\Gr w w':=by
  have HC:Hid (∀X Y W,zC 231 #[.int .i64 X,.int .i64 Y] W fun e w'=>e=.returned (.int .i64 (qU X Y))/\w'=W):=fun X Y W=>znE X Y W;have o:Hid ((∀W,zB w W->∀j,j<3->W.cell? ⟨bx,j,none⟩=some (.int .i64 (x j)))/\(∀W,zB w W->∀j,j<3->W.cell? ⟨bv,j,none⟩=some (.int .i64 (y j)))):=⟨fun W hb j hj=>(hb.cell (p:=⟨bx,j,none⟩) lx).trans (hx j hj),fun W hb j hj=>(hb.cell (p:=⟨bv,j,none⟩) ly).trans (hy j hj)⟩;clear hx hy lx ly;go_enter func193,ntmps193;go_wp2_with fail;go_loopw [11] (fun iV wr=>∃k:Nat,k<=3/\iV=.int .i64 k/\yd x y 3=yd x y (3-k)/\Gr w wr) (fun iV _=>3-(intOf iV).toNat)
  case atStart=>exact⟨0,by omega,rfl,rfl,Gr.refl _⟩
  case round =>
    obtain⟨k,hk,rfl,C,u⟩:=hrel;have HE:=zH C;have q:=zH u;clear C u
    by_cases hlt:k<3
    · have c0:=o.out.1 _ q.out.below k hlt
      have c1:=o.out.2 _ q.out.below k hlt;have HS:Hid (yd x y (3-k)=if qU (x k) (y k)≠0 then qU (x k) (y k) else yd x y (3-(k+1))):=by
        show _=_
        match k,hlt with
        |0,_=>rfl
        |1,_=>rfl
        |2,_=>rfl
      generalize x k=X at *;generalize y k=Y at *;go_wp2_with fail;refine(HC.out _ _ _).mono ?_;rintro e w1 ⟨rfl,rfl⟩;generalize qU X Y=Z at *
      by_cases hz:Z=0
      · subst hz
        go_wp2;go_roundw
        case rel=>exact⟨k+1,by omega,by go_num,by rw[HE.out,HS.out,zc2 (by simp)],q.out⟩
        case measure=>simp[intOf];omega
      · have J:(Z==0)=false:=by rw[zf2];exact hz
        go_wp2;go_ret;exact⟨by rw[HE.out,HS.out,zc3 hz];rfl,q.out⟩
    · obtain rfl:k=3:=by omega
      go_wp2;go_ret;exact⟨by rw[HE.out];rfl,q.out⟩
theorem zmP(a b c d e f:Int)(w:World) :
    zC 140 #[.agg #[a,b,c],.agg #[d,e,f]] w fun r w'=>r=.returned (.int .i64 (yd (tI a b c) (tI d e f) 3))/\Gr w w':=by
  have kv:=(Blk.new w 102 #[a,b,c]).alloc (.cells #[d,e,f] 102);have kw:=Blk.new (w.alloc (.cells #[a,b,c] 102)) 102 #[d,e,f];rw[zc1] at kw;have o:Gr w ((w.alloc (.cells #[a,b,c] 102)).alloc (.cells #[d,e,f] 102)):=((Gr.refl w).alloc _).alloc _;have HX:Hid (zC 193 #[.slice (some w) 3 3,.slice (some ⟨w.heap.size+1,0,none⟩) 3 3] ((w.alloc (.cells #[a,b,c] 102)).alloc (.cells #[d,e,f] 102)).drew fun r w'=>r=.returned (.int .i64 (yd (tI a b c) (tI d e f) 3))/\Gr w w'):=by
    generalize (w.alloc (.cells #[a,b,c] 102)).alloc (.cells #[d,e,f] 102)=W0 at *;have hd:zB W0 W0.drew:=zF.drew;have q:=kv.below hd kv.lt;have u:=kw.below hd kw.lt;refine(zje (tI a b c) (tI d e f) w.heap.size (w.heap.size+1) W0.drew q.lt u.lt ?_ ?_).mono ?_
    · intro j hj
      rw[q.cell j]
      match j,hj with
      |0,_=>rfl
      |1,_=>rfl
      |2,_=>rfl
    · intro j hj
      rw[u.cell j]
      match j,hj with
      |0,_=>rfl
      |1,_=>rfl
      |2,_=>rfl
    · rintro r w1 ⟨h1,h2⟩
      have hb:Gr w W0.drew:=o.drew;exact⟨h1,hb.trans h2⟩
  clear kv kw o;go_enter func140,ntmps140;go_wp2_with fail;go_region_held3 (fun _=>True) (exact trivial)
    (((with_reducible refine HX.out.mono ?_);rintro r w1 ⟨rfl,p⟩;have y:=zH p;clear p))
  go_wp2;go_ret;exact⟨rfl,y.out⟩
end
