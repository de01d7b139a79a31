/- Cmp of any two versions: what it leaves, to the block. -/
import Derived.Test.YtapobpgbcbplbaaGreatDoorSvPiece
set_option maxHeartbeats 2000000
set_option maxRecDepth 100000
namespace Go.Proofs.YtapobpgbcbplbaaGreatDoor
section
open Go.RowKit Go.Shelf Sv
attribute [local go_sem] Oper.semAt_some
def yL:List (Nat × ByteArray)->List zh->Except (Int × Nat) (List zh)
  |[],acc=>.ok acc
  |x :: r,acc=>match xx x.2 x.1 with
    |.error e=>.error e
    |.ok l=>yL r (orr acc l)
theorem zdd(l r:List (Nat × ByteArray)):∀(acc:List zh),yL (l++r) acc=match yL l acc with
    |.error e=>.error e
    |.ok acc'=>yL r acc':=by
  induction l with
  |nil=>intro acc;rfl
  |cons x l ih =>
    intro acc;rw[List.cons_append,yL,yL];split
    · rfl
    · exact ih _
theorem zgr:∀{l:List (Nat × ByteArray)} {acc acc':List zh},Rg acc->yL l acc=.ok acc'->Rg acc':=by
  intro l
  induction l with
  |nil=>intro acc acc' h e;cases e;exact h
  |cons x l ih =>
    intro acc acc' h e;unfold yL at e;split at e
    · cases e
    · rename_i l' hl
      exact ih (zcC h (zd0 hl)) e
def Qh(s:ByteArray):Except (Int × Nat) (List zh):=yL (qy s ⟨#[124,124]⟩ s.size 0) []
theorem zka{s:ByteArray}{l:List zh}(h:Qh s=.ok l):Rg l:=zgr KA h
def zid(w w':World)(v er:Value):Except (Int × Nat) (List zh)->Prop
  |.ok l=>er=.nilIface/\zi w' v l
  |.error (k,p)=>∃N,er=.iface 83 (.pointer (some ⟨N,0,none⟩))/\v=.slice none 0 0/\Blk w' N 86 #[.int .i64 k,.int .i64 p]/\w.heap.size<=N
theorem zgS(s:ByteArray)(p:Nat)(hp:p<=100000)(W:World)(hs:s.size<=100000)(hw:Lb W):zC 85 #[.string s,.int .i64 p] W fun e w'=>∃a' n' c' er,e=.returned (.tuple #[.agg #[.slice a' n' c'],er])/\zB W w'/\(∀g,(Value.slice a' n' c').ownBlock=some g->W.heap.size<=g)/\zid W w' (.slice a' n' c') er (xx s p):=((callsIn_wide (n:=4)).1 (zml s p hp W hs hw)).mono fun e w' h=>by
  unfold YL at h;cases hx:xx s p with
  |ok l =>rw[hx] at h;obtain⟨v',he,h1,h2,h3⟩:=h;obtain⟨a',c',rfl⟩:=h1.form;exact⟨a',_,c',_,he,h3,h2,rfl,h1⟩
  |error e2 =>obtain⟨k,q⟩:=e2;rw[hx] at h;obtain⟨N,he,h1,h2,h3⟩:=h;exact⟨none,0,0,_,he,h3,fun g hg=>by simp[Value.ownBlock] at hg,N,rfl,rfl,h1,h2⟩
def RnI(w:World)(pre:List Pc)(W:World):Prop :=
  (Blk W w.heap.size 36 #[.slice none 0 0]/\Blk W (w.heap.size+1) 41 #[.nilIface]) /\
  (∃acc v,yL (zW pre) []=.ok acc/\Blk W (w.heap.size+1+1) 36 #[v]/\zi W v acc/\Rg acc/\(∀g,v.ownBlock=some g->w.heap.size+1+1<g)) /\
  zB w W/\w.heap.size+1+1+1+1+1<=W.heap.size
def RnX(w:World)(c:Code)(pre:List Pc)(W:World):Prop :=
  (c=.ret/\∃k i N,yL (zW pre) []=.error (k,i)/\Blk W w.heap.size 36 #[.slice none 0 0]/\Blk W (w.heap.size+1) 41 #[.iface 83 (.pointer (some ⟨N,0,none⟩))]/\Blk W N 86 #[.int .i64 k,.int .i64 i]/\w.heap.size<=N) /\
  zB w W
theorem zkG(w:World)(B:Nat)(hB:w.heap.size<=B):OwnFrom B (RnI w):=by
  intro pre W W' row ⟨⟨h0,h1⟩,⟨acc,v,h3,h5,h6,h7,h9⟩,h10,h11⟩ hg hr;have hr':∀r,row=some r->∃o:Obj,W.heap[r]?=some o/\o.isCells=false:=fun r e=>(hr r e).2;exact⟨⟨qZ h0 hg hr',qZ h1 hg hr'⟩,⟨acc,v,h3,qZ h5 hg hr',Xk h6 hg hr',h7,h9⟩,ownFrom_below (β:=Unit) zN hB () W W' row h10 hg hr,Nat.le_trans h11 hg.size⟩
theorem zmV(w:World)(B:Nat)(hB:w.heap.size<=B):∀c,OwnFrom B (RnX w c):=by
  intro c pre W W' row ⟨⟨hc,k,i,N,h1,h2,h3,h4,h5⟩,h6⟩ hg hr;have hr':∀r,row=some r->∃o:Obj,W.heap[r]?=some o/\o.isCells=false:=fun r e=>(hr r e).2;exact⟨⟨hc,k,i,N,h1,qZ h2 hg hr',qZ h3 hg hr',qZ h4 hg hr',h5⟩,ownFrom_below (β:=Unit) zN hB () W W' row h6 hg hr⟩
theorem ziT(s:ByteArray)(w:World)(hs:s.size<=1000)(hw:Lb w) :
    CallsIn Fence.wide 4 Tryz.prog 54 #[.string s] w (YL w (Qh s)):=by
  have HP:Hid (∀W,CallsIn Fence.wide 3 Tryz.prog 83 #[.string s,.string ⟨#[124,124]⟩] W fun e w'=>e=.returned (.func (.func 142) #[] #[.pointer (some ⟨W.heap.size,0,none⟩),.pointer (some ⟨W.heap.size+1,0,none⟩)])/\w'=(W.alloc (.cells #[.string s] 9)).alloc (.cells #[.string ⟨#[124,124]⟩] 9)):=fun W=>zaa s ⟨#[124,124]⟩ W;have HL:=zH hw;have hbig:=hw.big;clear hw;refine callsIn_of_wp_marks Tryz.func54 rfl trivial ?_ rfl;simp only[Tryz.ntmps54,List.size_toArray,List.length_cons,List.length_nil,Nat.reduceAdd,Nat.reduceSub,Array.replicate_succ,Array.replicate_zero,List.push_toArray,List.append_toArray,List.nil_append,List.cons_append]
  gi_wp2_with (refine⟨trivial,?_⟩;gi_at_call 83;refine(HP.out _).mono ?_;rintro e w' ⟨rfl,rfl⟩)
  have k0:=((((Blk.new w 36 #[.slice none 0 0]).alloc (.cells #[.nilIface] 41)).alloc (.cells #[.slice none 0 0] 36)).alloc (.cells #[.string s] 9)).alloc (.cells #[.string ⟨#[124,124]⟩] 9);have k1:=(((Blk.new (w.alloc (.cells #[.slice none 0 0] 36)) 41 #[.nilIface]).alloc (.cells #[.slice none 0 0] 36)).alloc (.cells #[.string s] 9)).alloc (.cells #[.string ⟨#[124,124]⟩] 9);have k2:=((Blk.new ((w.alloc (.cells #[.slice none 0 0] 36)).alloc (.cells #[.nilIface] 41)) 36 #[.slice none 0 0]).alloc (.cells #[.string s] 9)).alloc (.cells #[.string ⟨#[124,124]⟩] 9);have k3:=(Blk.new (((w.alloc (.cells #[.slice none 0 0] 36)).alloc (.cells #[.nilIface] 41)).alloc (.cells #[.slice none 0 0] 36)) 9 #[.string s]).alloc (.cells #[.string ⟨#[124,124]⟩] 9);have k4:=Blk.new ((((w.alloc (.cells #[.slice none 0 0] 36)).alloc (.cells #[.nilIface] 41)).alloc (.cells #[.slice none 0 0] 36)).alloc (.cells #[.string s] 9)) 9 #[.string ⟨#[124,124]⟩];simp only[World.size_alloc] at k1 k2 k3 k4;have hB0:zB w (((((w.alloc (.cells #[.slice none 0 0] 36)).alloc (.cells #[.nilIface] 41)).alloc (.cells #[.slice none 0 0] 36)).alloc (.cells #[.string s] 9)).alloc (.cells #[.string ⟨#[124,124]⟩] 9)):=(((((Below.refl _ w).alloc zN _).alloc (by simp only[World.size_alloc];omega) _).alloc (by simp only[World.size_alloc];omega) _).alloc (by simp only[World.size_alloc];omega) _).alloc (by simp only[World.size_alloc];omega) _;have hsz:(((((w.alloc (.cells #[.slice none 0 0] 36)).alloc (.cells #[.nilIface] 41)).alloc (.cells #[.slice none 0 0] 36)).alloc (.cells #[.string s] 9)).alloc (.cells #[.string ⟨#[124,124]⟩] 9)).heap.size=w.heap.size+1+1+1+1+1:=by simp only[World.size_alloc]
  obtain⟨W0,hW0⟩:∃W0,((((w.alloc (.cells #[.slice none 0 0] 36)).alloc (.cells #[.nilIface] 41)).alloc (.cells #[.slice none 0 0] 36)).alloc (.cells #[.string s] 9)).alloc (.cells #[.string ⟨#[124,124]⟩] 9)=W0:=⟨_,rfl⟩;rw[hW0] at k0 k1 k2 k3 k4 hB0 hsz ⊢;clear hW0;obtain⟨n,hn⟩:=(HL.out.below hB0).ml;have c3:_=some (Value.string s):=k3.cell 0;have c4:_=some (Value.string ⟨#[124,124]⟩):=k4.cell 0;refine wpIn_rangeFunc_ownF rfl (by omega) (gf:=142) (lb:=#[.pointer (some ⟨w.heap.size+1+1+1,0,none⟩),.pointer (some ⟨w.heap.size+1+1+1+1,0,none⟩)]) rfl trivial (enters_of Tryz.func142 (by kernel_rfl) rfl)
    (JM (w.heap.size+1+1+1) (w.heap.size+1+1+1+1) s ⟨#[124,124]⟩ (by omega) (by decide) W0 (by omega) (by omega) (by omega) c3 c4 n hn) Xy (JB (by omega) (by omega) (by omega)) zF (fun _=>rfl)
    (fun pre W=>RnI w pre W)
    (fun c pre W=>RnX w c pre W)
    (zkG w W0.heap.size (by omega)) (zmV w W0.heap.size (by omega))
    ⟨⟨k0,k1⟩,⟨[],_,rfl,k2,XG _,KA,fun g hg=>by simp[Value.ownBlock] at hg⟩,hB0,by omega⟩
    (fun x=>{ tmps:=#[.string s,undef,.pointer (some ⟨w.heap.size,0,none⟩),.pointer (some ⟨w.heap.size+1,0,none⟩),.pointer (some ⟨w.heap.size+1+1,0,none⟩),.int .i64 x.1.1,.string x.1.2,undef,undef,.string s,.int .i64 s.size,.bool (decide ((1000:Int)<(s.size:Int))),undef,undef,.string s,.func (.func 142) #[] #[.pointer (some ⟨w.heap.size+1+1+1,0,none⟩),.pointer (some ⟨w.heap.size+1+1+1+1,0,none⟩)],.int .i64 x.1.1,.string x.1.2,undef,undef,undef,undef,undef,undef,undef,undef,undef,undef,undef,undef,undef,undef],defers:=[] }) ?assign ?body ?done ?stop
  case assign =>
    intro l x W K hK
    gi_wp2
    exact hK
  case body =>
    rintro l pre x W ⟨⟨i1,i2⟩,⟨acc,v,hwf,i3,isp,irg,iown⟩,iB,isz⟩ hlen;obtain⟨va,vc,rfl⟩:=isp.form;have hx1:=x.2.1;have hsn:=zdd (zW pre) [x.1] [];rw[hwf] at hsn;have HSN:Hid (yL (zW (pre++[x])) []=yL [x.1] acc):=by show _=_;rw[zW,List.map_append];exact hsn
    have HCALL:=zH (zgS x.1.2 x.1.1 hx1 W x.2.2 (HL.out.below iB));clear hsn hwf k0 k1 k2 k3 k4;cases hwd:xx x.1.2 x.1.1 with
    |error e2 =>
      obtain⟨k,q⟩:=e2;rw[hwd] at HCALL;have hone:yL [x.1] acc=.error (k,q):=by rw[yL,hwd]
      rw[hone] at HSN;clear hwd hone
      gi_wp2_with fail
      refine⟨trivial,?_⟩;refine(CallsIn.inRound l (callsIn_wide.2 HCALL.out)).mono ?_;rintro e wP ⟨ar,nr,cr,er,rfl,hbP,hnP,N,rfl,hsl,hbN,hNl⟩;cases hsl;have a1:zB wP (wP.alloc (.cells #[.slice none 0 0] 36)):=zF.alloc zN _;have b01:zB W (wP.alloc (.cells #[.slice none 0 0] 36)):=zT hbP a1;have t1:=i1.below b01 i1.lt;have t2:=i2.below b01 i2.lt;have tN:=hbN.alloc (.cells #[.slice none 0 0] 36);have q1:(wP.alloc (.cells #[.slice none 0 0] 36)).cell? ⟨w.heap.size,0,none⟩=some (.slice none 0 0):=t1.cell 0;have q2:=t1.frozen 0;have y2:=t2.other (b':=w.heap.size) (i:=0) (v:=.slice none 0 0) (by omega);have q3:((wP.alloc (.cells #[.slice none 0 0] 36)).setCell ⟨w.heap.size,0,none⟩ (.slice none 0 0)).cell? ⟨w.heap.size+1,0,none⟩=some .nilIface:=y2.cell 0;have q4:=y2.frozen 0;obtain⟨WF,hWF⟩:∃WF,((wP.alloc (.cells #[.slice none 0 0] 36)).setCell ⟨w.heap.size,0,none⟩ (.slice none 0 0)).setCell ⟨w.heap.size+1,0,none⟩ (.iface 83 (.pointer (some ⟨N,0,none⟩)))=WF:=⟨_,rfl⟩;have HX:Hid (RnX w .ret (pre++[x]) WF):=by
        refine⟨⟨rfl,k,q,N,HSN.out,?_,?_,?_,by have:=iB.size;omega⟩,?_⟩
        · rw[<-hWF];exact(t1.set (i:=0) (v:=.slice none 0 0)).other (by omega)
        · rw[<-hWF];exact y2.set (i:=0)
        · rw[<-hWF];exact(tN.other (by omega)).other (by omega)
        · rw[<-hWF];exact((zT iB b01).setCell (p:=⟨w.heap.size,0,none⟩) zN _).setCell (p:=⟨w.heap.size+1,0,none⟩) (Nat.le_succ _) _
      have HK:Hid (KeepsOthers W WF):=by rw[<-hWF];exact((xt b01).trans (KeepsOthers.setCell _ _ _)).trans (KeepsOthers.setCell _ _ _)
      have HWF:=zH hWF;clear i1 i2 i3 isp iown iB HCALL hbP hnP hbN a1 b01 t1 t2 tN y2 hWF
      gi_wp2
      rw[HWF.out];exact⟨HK.out,HX.out⟩
    |ok lw =>
      rw[hwd] at HCALL;have hone:yL [x.1] acc=.ok (orr acc lw):=by rw[yL,hwd];rfl
      rw[hone] at HSN;have hrl:=zd0 hwd;have HOR:=zH (fun (u:Value) (X:World) (h1:zi X (.slice va acc.length vc) acc) (h2:zi X u lw)=>(K0 acc lw irg hrl (.slice va acc.length vc) u X h1 h2).mono fun e w' (h:Qs X (orr acc lw) e w')=>(show ∃a' c',e=.returned (.agg #[.slice a' (orr acc lw).length c'])/\zi w' (.slice a' (orr acc lw).length c') (orr acc lw)/\(∀g,(Value.slice a' (orr acc lw).length c').ownBlock=some g->X.heap.size<=g)/\zB X w' from by obtain⟨v',he,hs,hn,hb⟩:=h;obtain⟨a',c',rfl⟩:=hs.form;exact⟨a',c',he,hs,hn,hb⟩));have HRG:=zH (zcC irg hrl);clear hone hwd hrl irg
      gi_wp2_with fail
      refine⟨trivial,?_⟩;refine(CallsIn.inRound l (callsIn_wide.2 HCALL.out)).mono ?_;rintro e wP ⟨ar,nr,cr,er,rfl,hbP,hnP,hm⟩;obtain⟨rfl,hspr⟩:=hm;have a1:zB wP (wP.alloc (.cells #[.slice ar nr cr] 36)):=zF.alloc zN _;have kr:=Blk.new wP 36 #[.slice ar nr cr];have b01:zB W (wP.alloc (.cells #[.slice ar nr cr] 36)):=zT hbP a1;have hsp2:=isp.below b01 zN;have hspr2:=hspr.below a1 zN;have t1:=i1.below b01 i1.lt;have t2:=i2.below b01 i2.lt;have t3:=i3.below b01 i3.lt;have HA2:=zH (HOR.out _ _ hsp2 hspr2);have q1:(wP.alloc (.cells #[.slice ar nr cr] 36)).cell? ⟨w.heap.size+1+1,0,none⟩=some (.slice va acc.length vc):=t3.cell 0;have q2:(wP.alloc (.cells #[.slice ar nr cr] 36)).cell? ⟨wP.heap.size,0,none⟩=some (.slice ar nr cr):=kr.cell 0;clear HOR HCALL hbP hnP hspr hsp2 hspr2 a1 kr isp i1 i2 i3
      gi_wp2_with fail
      refine⟨trivial,?_⟩;generalize wP.alloc (.cells #[.slice ar nr cr] 36)=W2 at *;refine(CallsIn.inRound l (callsIn_wide.2 HA2.out)).mono ?_;rintro e wN ⟨an,cn,rfl,hspn,hnn2,hbN⟩;have hW2:=b01.size;have u1:=t1.below hbN t1.lt;have u2:=t2.below hbN t2.lt;have u3:=t3.below hbN t3.lt;have q3:_=some (Value.slice va acc.length vc):=u3.cell 0;have q4:=u3.frozen 0;have b0N:zB W wN:=zT b01 hbN;obtain⟨WF,hWF⟩:∃WF,wN.setCell ⟨w.heap.size+1+1,0,none⟩ (.slice an (orr acc lw).length cn)=WF:=⟨_,rfl⟩;have hown2:∀g,(Value.slice an (orr acc lw).length cn).ownBlock=some g->w.heap.size+1+1<g:=fun g hg=>by have:=hnn2 g hg;omega
      have HI:Hid (RnI w (pre++[x]) WF):=by
        refine⟨⟨?_,?_⟩,⟨orr acc lw,.slice an (orr acc lw).length cn,HSN.out,?_,?_,HRG.out,hown2⟩,?_,?_⟩
        · rw[<-hWF];exact u1.other (by omega)
        · rw[<-hWF];exact u2.other (by omega)
        · rw[<-hWF];exact u3.set (i:=0)
        · rw[<-hWF];exact hspn.set (fun e=>by have:=hown2 _ e;omega)
        · rw[<-hWF];exact(zT iB b0N).setCell (p:=⟨w.heap.size+1+1,0,none⟩) (by show w.heap.size<=w.heap.size+1+1;omega) _
        · rw[<-hWF,Qc];have:=hbN.size;omega
      have HK:Hid (KeepsOthers W WF):=by rw[<-hWF];exact(xt b0N).trans (KeepsOthers.setCell _ _ _)
      have HKP:Hid (Kp2 (w.heap.size+1+1+1) (w.heap.size+1+1+1+1) W WF):=by rw[<-hWF];exact Y5 (J6 b0N (by omega) (by omega) (by omega)) (by omega) (by omega) (by omega)
      have HWF:=zH hWF;clear hspn hnn2 hbN u1 u2 u3 t1 t2 t3 b01 b0N hown2 hWF iB iown q1 q2
      gi_wp2
      rw[HWF.out];exact⟨HK.out,HKP.out,HI.out⟩
  case done =>
    rintro D ys W hD hys ⟨⟨i1,i2⟩,⟨acc,v,hwf,i3,isp,irg,iown⟩,iB,isz⟩ hK;rw[hys] at hwf;have HPF:Hid (Qh s=.ok acc):=hwf;obtain⟨va,vc,rfl⟩:=isp.form;have d1:_=some (Value.slice none 0 0):=i1.cell 0;have e1:=i1.frozen 0;have d2:_=some Value.nilIface:=i2.cell 0;have e2:=i2.frozen 0;have d3:_=some (Value.slice va acc.length vc):=i3.cell 0;obtain⟨WF,hWF⟩:∃WF,(W.setCell ⟨w.heap.size,0,none⟩ (.slice va acc.length vc)).setCell ⟨w.heap.size+1,0,none⟩ .nilIface=WF:=⟨_,rfl⟩;have hWB:zB w WF:=by rw[<-hWF];exact(iB.setCell (p:=⟨w.heap.size,0,none⟩) zN _).setCell (p:=⟨w.heap.size+1,0,none⟩) (Nat.le_succ _) _
    have hWK:WF.heap[D]?=some (.deferred (some [])):=by rw[<-hWF];exact((KeepsOthers.setCell _ _ _).trans (KeepsOthers.setCell _ _ _)).same D _ hK rfl
    have p1:Blk WF w.heap.size 36 #[.slice va acc.length vc]:=by rw[<-hWF];exact(i1.set (i:=0)).other (by omega)
    have p2:Blk WF (w.heap.size+1) 41 #[.nilIface]:=by rw[<-hWF];exact(i2.other (by omega)).set (i:=0)
    have psp:zi WF (.slice va acc.length vc) acc:=by rw[<-hWF];exact(isp.set (fun e=>by have:=iown _ e;omega)).set (fun e=>by have:=iown _ e;omega)
    have q1:=p1.put (l:=D) (o':=.deferred none) (by omega);have q2:=p2.put (l:=D) (o':=.deferred none) (by omega);have qsp:zi (WF.putObj D (.deferred none)) (.slice va acc.length vc) acc:=Xk psp (grownBy_putObj' _ D (.deferred none)) (fun r e=>by cases e;exact⟨_,hWK,rfl⟩);have HQ1:=zH q1;have HQ2:=zH q2;have HQS:=zH qsp;have HWB:=zH hWB;have HWK:=zH hWK;have HWF:=zH hWF;have HOWN:Hid (∀g,(Value.slice va acc.length vc).ownBlock=some g->w.heap.size<=g):=fun g hg=>by have:=iown _ hg;omega
    clear i1 i2 i3 isp iown iB hK hWB hWK p1 p2 psp q1 q2 qsp hWF hwf hys k0 k1 k2 k3 k4
    gi_wp2
    rw[HWF.out];refine⟨by simp,.inl ⟨_,_,rfl,run_takeDeferred HWK.out,?_⟩⟩;have r1:=HQ1.out.cell 0;have r2:=HQ2.out.cell 0;refine⟨.tuple #[.agg #[.slice va acc.length vc],.nilIface],?_,?_⟩
    · simp[results,Tryz.f54,go_sem,r1,r2]
    · rw[HPF.out]
      exact⟨_,rfl,HQS.out,HOWN.out,HWB.out.trans (belowK_b (w:=w) zN WF D _ _ (by omega) HWK.out rfl rfl)⟩
  case stop =>
    rintro D c pre W hD hpre ⟨⟨rfl,k,i,N,hwf,x1,x2,x3,x4⟩,xB⟩ hK;obtain⟨rest,hrest⟩:=hpre;have hwf2:=zdd (zW pre) rest [];rw[hwf,hrest] at hwf2;have HPF:Hid (Qh s=.error (k,i)):=hwf2;have hND:N≠D:=fun e=>by
      subst e;have:=(show W.heap[N]?=_ from x3).symm.trans hK;simp at this
    have q1:=x1.put (l:=D) (o':=.deferred none) (by omega);have q2:=x2.put (l:=D) (o':=.deferred none) (by omega);have q3:=x3.put (l:=D) (o':=.deferred none) hND;have r1:=q1.cell 0;have r2:=q2.cell 0;have HQ3:=zH q3;have HB:=zH xB;have HX4:=zH x4;clear hwf hwf2 hrest x1 x2 x3 x4 q1 q2 q3 xB hND k0 k1 k2 k3 k4
    gi_wp2
    refine⟨by simp,.inl ⟨_,_,rfl,run_takeDeferred hK,?_⟩⟩;refine⟨.tuple #[.agg #[.slice none 0 0],.iface 83 (.pointer (some ⟨N,0,none⟩))],?_,?_⟩
    · simp[results,Tryz.f54,go_sem,r1,r2]
    · rw[HPF.out]
      exact⟨N,rfl,HQ3.out,HX4.out,HB.out.trans (belowK_b (w:=w) zN W D _ _ (by omega) hK rfl rfl)⟩
theorem zhf(s:ByteArray)(w:World)(hs:s.size<=1000)(hw:Lb w):zC 54 #[.string s] w (YL w (Qh s)):=(callsIn_wide (n:=4)).1 (ziT s w hs hw)
end
section
open Go.RowKit Go.PlainAid
structure zV(s:ByteArray):Prop where
  pos:0<s.size
  len:s.size<=12
  first:97<=bt s 0/\bt s 0<=122
  any:s.toList≠[97,110,121]
  none:s.toList≠[110,111,110,101]
  each:∀k,k<s.size->(97<=bt s k/\bt s k<=122)\/(48<=bt s k/\bt s k<=57)\/bt s k=45
theorem QL{s t:ByteArray}(h:s.toList=t.toList):s=t:=by
  apply ByteArray.ext;rw[ByteArray.toList_eq,ByteArray.toList_eq] at h;exact Array.ext' h
theorem Yz{s:ByteArray}(h:s.size=0):s=⟨#[]⟩:=by
  apply ByteArray.ext;exact Array.eq_empty_of_size_eq_zero h
theorem Q4{s:ByteArray}(h:0<s.size):s.toList.isEmpty=false:=by
  rw[ByteArray.toList_eq];cases e:s.data.toList with
  |nil =>
    have:s.data.toList.length=0:=by rw[e];rfl
    have h2:s.data.toList.length=s.size:=by simp
    omega
  |cons a l=>rfl
def zec(s:ByteArray)(e:Ending):Prop:=(zV s->e=.returned (.bool true))/\(¬zV s->e=.returned (.bool false))
theorem zgK(b:Int)(h0:0<=b)(h1:b<=255):(b<45)\/(b=45)\/(45<b/\b<48)\/(48<=b/\b<=57)\/(57<b/\b<97)\/(97<=b/\b<=122)\/122<b:=by omega
theorem Jq(s:ByteArray)(w:World)(h:s=⟨#[]⟩\/s=⟨#[97,110,121]⟩\/s=⟨#[110,111,110,101]⟩) :
    zC 152 #[.string s] w fun e w'=>e=.returned (.bool false)/\w=w':=by
  rcases h with rfl|rfl|rfl
  all_goals
    go_enter Tryz.func152,Tryz.ntmps152;go_wp2;go_ret;exact⟨rfl,rfl⟩
theorem znx(s:ByteArray)(w:World)(h:12<s.size) :
    zC 152 #[.string s] w fun e w'=>e=.returned (.bool false)/\w=w':=by
  have he:=Q4 (s:=s) (by omega);go_enter Tryz.func152,Tryz.ntmps152;go_wp2;go_ret;exact⟨rfl,rfl⟩
theorem zny(s:ByteArray)(w:World)(h0:0<s.size)(h1:s.size<=12)(ha:(s.toList==[97,110,121])=false)(hn:(s.toList==[110,111,110,101])=false) :
    zC 152 #[.string s] w fun e w'=>zec s e/\w=w':=by
  have hb:=get_bt s;have he:=Q4 h0;have HA:=zH ha;have HN:=zH hn;go_enter Tryz.func152,Tryz.ntmps152;go_wp2_with fail;clear ha hn he;go_loop [23] (fun i=>∃k:Nat,k<=s.size/\i=.int .i64 k/\∀j,j<k->(97<=bt s j/\bt s j<=122)\/(j≠0/\((48<=bt s j/\bt s j<=57)\/bt s j=45))) (fun i=>s.size-(intOf i).toNat)
  case atStart=>exact⟨0,Nat.zero_le _,rfl,fun j h=>by omega⟩
  case round =>
    obtain⟨k,hk,rfl,hall⟩:=hrel;have HALL:=zH hall;clear hall;have hb0:=bt_nonneg s k;have hb1:=bt_le s k
    by_cases hlt:k<s.size
    · rcases zgK _ hb0 hb1 with h|h|h|h|h|h|h<;>rcases Nat.eq_zero_or_pos k with hz|hz<;>(try subst hz)
      all_goals go_wp2
      all_goals
        first
        |(exfalso;rename_i hx;simp at hx;omega)
        | (go_ret
           exact ⟨⟨fun h=>by have:=h.each _ hlt;have:=h.first;omega,fun _=>rfl⟩,rfl⟩)
        | (go_round
           case rel =>
            refine⟨_+1,hlt,by go_num,fun j hj=>?_⟩;rcases Nat.lt_succ_iff_lt_or_eq.1 hj with e|e
            · exact HALL.out j e
            · rw[e];omega
           case measure=>simp [intOf];omega)
    · obtain rfl:k=s.size:=by omega
      clear hb0 hb1;have hok:zV s:=⟨h0,h1,by have:=HALL.out 0 h0;omega,by have:=HA.out;simpa using this,by have:=HN.out;simpa using this,fun j hj=>by have:=HALL.out j hj;omega⟩;go_wp2;go_ret;exact⟨⟨fun _=>rfl,fun h=>absurd hok h⟩,rfl⟩
theorem zb6(s:ByteArray)(w:World):zC 152 #[.string s] w fun e w'=>zec s e/\w=w':=by
  by_cases h0:s.size=0
  · exact(Jq s w (Or.inl (Yz h0))).mono fun e w' ⟨h,hw⟩=>⟨⟨fun x=>absurd x.pos (by omega),fun _=>h⟩,hw⟩
  by_cases h1:12<s.size
  · exact(znx s w h1).mono fun e w' ⟨h,hw⟩=>⟨⟨fun x=>absurd x.len (by omega),fun _=>h⟩,hw⟩
  by_cases ha:s.toList=[97,110,121]
  · exact(Jq s w (Or.inr (Or.inl (QL (ha.trans (by decide +kernel)))))).mono fun e w' ⟨h,hw⟩=>⟨⟨fun x=>absurd ha x.any,fun _=>h⟩,hw⟩
  by_cases hn:s.toList=[110,111,110,101]
  · exact(Jq s w (Or.inr (Or.inr (QL (hn.trans (by decide +kernel)))))).mono fun e w' ⟨h,hw⟩=>⟨⟨fun x=>absurd hn x.none,fun _=>h⟩,hw⟩
  exact zny s w (by omega) (by omega) (by simpa using ha) (by simpa using hn)
end
section
open Go.RowKit Sv
theorem zcc:∀{l:List zh} {lo:Nat},qW lo l->∀i j,i<=j->j<l.length->(sp l i).1<=(sp l j).1/\(sp l i).2<=(sp l j).2:=by
  intro l
  induction l with
  |nil=>intro lo _ i j _ h;simp at h
  |cons s r ih =>
    intro lo h i j hij hj;obtain⟨h1,h2,h3,h4⟩:=h;cases i with
    |zero =>
      cases j with
      |zero=>exact⟨Nat.le_refl _,Nat.le_refl _⟩
      |succ j =>
        rw[Xr];have hj':j<r.length:=by simpa using hj
        have:=ih h4 0 j (Nat.zero_le _) hj';have h0:s.2+1<=(sp r 0).1/\(sp r 0).1<(sp r 0).2:=by
          cases r with
          |nil=>simp at hj'
          |cons t r=>exact⟨h4.1,h4.2.1⟩
        show s.1<=_/\s.2<=_;omega
    |succ i =>
      cases j with
      |zero=>omega
      |succ j=>rw[Xr,Xr];exact ih h4 i j (by omega) (by simpa using hj)
theorem zgG{l:List zh}{n:Nat}:mem l n↔∃j,j<l.length/\(sp l j).1<=n/\n<(sp l j).2:=by
  constructor
  · rintro⟨s,hs,h⟩
    obtain⟨j,hj,rfl⟩:=List.getElem_of_mem hs;exact⟨j,hj,by rw[Qq l j hj];exact h⟩
  · rintro⟨j,hj,h⟩
    rw[Qq l j hj] at h;exact⟨_,List.getElem_mem hj,h⟩
theorem ziG{l:List zh}(hl:Rg l){n i:Nat}(hi:i<=l.length)(h1:∀j,j<i->(sp l j).2<=n)(h2:i<l.length->n<(sp l i).2):mem l n↔i<l.length/\(sp l i).1<=n:=by
  rw[zgG];constructor
  · rintro⟨j,hj,h3,h4⟩
    have hij:i<=j:=by
      rcases Nat.lt_or_ge j i with h|h
      · have:=h1 j h;omega
      · exact h
    have:=zcc hl i j hij hj;exact⟨by omega,by omega⟩
  · rintro⟨h3,h4⟩
    exact⟨i,h3,h4,h2 h3⟩
theorem zkK(l:List zh)(N bn br:Nat)(v:Value)(w:World)(hv:zi w v l)(kn:w.cell? ⟨bn,0,none⟩=some (.int .i64 N))(kr:w.cell? ⟨br,0,none⟩=some v)(i:Nat)(hi:i<l.length) :
    zR 99 #[.int .i64 i,.pointer (some ⟨bn,0,none⟩),.pointer (some ⟨br,0,none⟩)] w (.bool (decide (N<(sp l i).2))):=by
  obtain⟨g,cap,rfl,hg,c0,c1⟩:=hv.cells i hi;clear hv;generalize (sp l i).1=A at *;generalize (sp l i).2=T at *;have hd:decide ((N:Int)<(T:Int))=decide (N<T):=by by_cases h:N<T<;>simp[h]
  have HD:=zH hd;clear hd;go_enter Tryz.func99,Tryz.ntmps99;go_wp2_with fail;go_quiet (fail);have hbn:zB w (w.drewN nq):=⟨rfl,rfl,rfl,Nat.le_refl _,fun _ _=>rfl⟩;have HBN:=zH hbn;clear hbn;go_wp2;go_ret;exact⟨by first|(rw[<-HD.out];rfl)|rfl,HBN.out⟩
theorem zkh(n:Nat)(hn:n<=500000000)(F:Nat)(cb:Array Value)(p:Nat->Bool)(w:World)(hent:∀args w,(callFunc F args).run Tryz.prog w=.ok (.enter F args) w)
    (hf:∀W i,zB w W->i<n->zR F (#[.int .i64 i]++cb) W (.bool (p i)))
    (hmono:∀a b,a<=b->b<n->p a=true->p b=true) :
    zC 98 #[.int .i64 n,.func (.func F) #[] cb] w fun e w'=>∃i:Nat,e=.returned (.int .i64 i)/\i<=n/\(∀j,j<i->p j=false)/\(i<n->p i=true)/\zB w w':=by
  have HF:=zH hf;have HM:=zH hmono;clear hf hmono;go_enter Tryz.func98,Tryz.ntmps98;go_wp2_with fail;go_loopw [5,6] (fun iV jV wr=>∃i j:Nat,i<=j/\j<=n/\iV=.int .i64 i/\jV=.int .i64 j/\(∀q,q<i->p q=false)/\(j<n->p j=true)/\zB w wr) (fun iV jV _=>(intOf jV).toNat-(intOf iV).toNat)
  case atStart=>exact⟨0,n,Nat.zero_le _,Nat.le_refl _,rfl,rfl,fun q h=>by omega,fun h=>by omega,Below.refl _ _⟩
  case round =>
    obtain⟨i,j,hij,hjn,rfl,rfl,h1,h2,hbr⟩:=hrel;have H1:=zH h1;have H2:=zH h2;have HBR:=zH hbr;clear h1 h2 hbr
    by_cases hlt:i<j
    · have hm:((i:Int)+(j:Int))/2=(((i+j)/2:Nat):Int):=by omega
      have hmi:i<=(i+j)/2:=by omega
      have hmj:(i+j)/2<j:=by omega
      have HC:=zH (HF.out _ ((i+j)/2) HBR.out (by omega));generalize (i+j)/2=m at *;cases hp:p m with
      |true =>
        rw[hp] at HC;have HP:=zH hp;clear hp;go_wp2_with fail;refine HC.out.mono ?_;rintro e w1 ⟨rfl,hb1⟩;have HB1:Hid (zB w w1):=zT HBR.out hb1;clear hb1 HC;go_wp2;go_roundw
        case rel=>exact⟨i,m,hmi,by omega,rfl,rfl,H1.out,fun _=>HP.out,HB1.out⟩
        case measure=>simp[intOf];omega
      |false =>
        rw[hp] at HC;have HP:=zH hp;clear hp;go_wp2_with fail;refine HC.out.mono ?_;rintro e w1 ⟨rfl,hb1⟩;have HB1:Hid (zB w w1):=zT HBR.out hb1;clear hb1 HC;go_wp2;go_roundw
        case rel=>exact ⟨m + 1,j,hmj,hjn,by go_num,rfl,(fun q hq=>by
          cases hpq:p q with
          |false=>rfl
          |true =>have:=HM.out q m (by omega) (by omega) hpq;rw[HP.out] at this;cases this),H2.out,HB1.out⟩
        case measure=>simp[intOf];omega
    · obtain rfl:i=j:=by omega
      go_wp2;go_ret;exact⟨i,rfl,hjn,H1.out,H2.out,HBR.out⟩
theorem zne:∀args w,(callFunc 99 args).run Tryz.prog w=.ok (.enter 99 args) w:=by intro args w;kernel_rfl
theorem Qv(A B C:Int)(W:World):(Instr.index 33 (.agg #[.int .i64 A,.int .i64 B,.int .i64 C]) (.int .i64 0)).run Tryz.prog W=.ok (.int .i64 A) W:=by kernel_rfl
theorem YE(A B C:Int)(W:World):(Instr.index 33 (.agg #[.int .i64 A,.int .i64 B,.int .i64 C]) (.int .i64 1)).run Tryz.prog W=.ok (.int .i64 B) W:=by kernel_rfl
theorem Ji(A B C:Int)(W:World):(Instr.index 33 (.agg #[.int .i64 A,.int .i64 B,.int .i64 C]) (.int .i64 2)).run Tryz.prog W=.ok (.int .i64 C) W:=by kernel_rfl
def QV(a b c:Nat):Nat:=(a*1000+b)*1000+c
theorem X6(l:List zh)(hl:Rg l)(v:Value)(a b c:Nat)(ha:a<=999)(hb:b<=999)(hc:c<=999)(w:World)(hv:zi w v l) :
    zC 60 #[.agg #[v],.agg #[.int .i64 a,.int .i64 b,.int .i64 c]] w fun e w'=>∃B,e=.returned (.bool B)/\(B=true↔mem l (QV a b c))/\zB w w':=by
  obtain⟨va,vc,rfl⟩:=hv.form;have HN:Hid (∀W,zR 97 #[.agg #[.int .i64 a,.int .i64 b,.int .i64 c]] W (.int .i64 (QV a b c:Nat))):=fun W=>y9 a b c (by omega) (by omega) (by omega) W;have hll:=Yc hl;have HV:=zH hv;have HL:=zH hl;clear hv hl;generalize QV a b c=N at *;have kr:=(Blk.new w 36 #[.slice va l.length vc]).alloc (.cells #[.int .i64 a,.int .i64 b,.int .i64 c] 33);have kv:=Blk.new (w.alloc (.cells #[.slice va l.length vc] 36)) 33 #[.int .i64 a,.int .i64 b,.int .i64 c];rw[World.size_alloc] at kv;have hB0:zB w ((w.alloc (.cells #[.slice va l.length vc] 36)).alloc (.cells #[.int .i64 a,.int .i64 b,.int .i64 c] 33)):=((Below.refl _ w).alloc zN _).alloc (by simp only[World.size_alloc];omega) _;have HKR:=zH kr;have HKV:=zH kv;have HB0:=zH hB0;clear kr kv hB0;go_enter Tryz.func60,Tryz.ntmps60;go_wp2_with fail;generalize (w.alloc (.cells #[.slice va l.length vc] 36)).alloc (.cells #[.int .i64 a,.int .i64 b,.int .i64 c] 33)=W0 at *;have ia:(a:Int)<=999:=by omega
  have ib:(b:Int)<=999:=by omega
  have ic:(c:Int)<=999:=by omega
  go_loop [10] (fun i=>∃k:Nat,k<=3/\i=.int .i64 k) (fun i=>3-(intOf i).toNat)
  case atStart=>exact⟨0,by omega,rfl⟩
  case round =>
    obtain⟨k,hk,rfl⟩:=hrel
    match k,hk with
    |0,_ =>
      have hix:=Qv (a:Int) (b:Int) (c:Int) W0;go_wp2;go_round
      case rel=>exact⟨1,by omega,rfl⟩
      case measure=>simp[intOf]
    |1,_ =>
      have hix:=YE (a:Int) (b:Int) (c:Int) W0;go_wp2;go_round
      case rel=>exact⟨2,by omega,rfl⟩
      case measure=>simp[intOf]
    |2,_ =>
      have hix:=Ji (a:Int) (b:Int) (c:Int) W0;go_wp2;go_round
      case rel=>exact⟨3,by omega,rfl⟩
      case measure=>simp[intOf]
    |3,_ =>
      have d0:_=some (Value.int .i64 a):=HKV.out.cell 0;have d1:_=some (Value.int .i64 b):=HKV.out.cell 1;have d2:_=some (Value.int .i64 c):=HKV.out.cell 2;go_wp2_with fail;refine(HN.out _).mono ?_;rintro e w1 ⟨rfl,hb1⟩;have k1:=HKR.out.below hb1 HKR.out.lt;have kn:=Blk.new w1 3 #[.int .i64 N];have k2:=k1.alloc (.cells #[.int .i64 N] 3);have hb01:zB w w1:=zT HB0.out hb1;have hb02:=hb01.alloc hb01.size (.cells #[.int .i64 N] 3);have q1:(w1.alloc (.cells #[.int .i64 N] 3)).cell? ⟨w.heap.size,0,none⟩=some (.slice va l.length vc):=k2.cell 0;have HKN:=zH kn;have HK2:=zH k2;have HB02:=zH hb02;clear d0 d1 d2 hb1 k1 kn k2 hb01 hb02;have hl1:w.heap.size<(w1.alloc (.cells #[.int .i64 N] 3)).heap.size:=HK2.out.lt;have hl2:w1.heap.size<(w1.alloc (.cells #[.int .i64 N] 3)).heap.size:=HKN.out.lt;have HS:=zH (zkh l.length hll 99 #[.pointer (some ⟨w1.heap.size,0,none⟩),.pointer (some ⟨w.heap.size,0,none⟩)] (fun i=>decide (N<(sp l i).2)) (w1.alloc (.cells #[.int .i64 N] 3)) zne
        (fun W i hW hi=>zkK l N w1.heap.size w.heap.size (.slice va l.length vc) W (HV.out.below (zT HB02.out hW) zN) ((HKN.out.below hW hl2).cell 0) ((HK2.out.below hW hl1).cell 0) i hi)
        (fun x y hxy hy hx=>by
          simp only[decide_eq_true_eq] at hx ⊢;have:=(zcc HL.out x y hxy hy).2;omega))
      go_wp2_with fail;generalize w1.alloc (.cells #[.int .i64 N] 3)=W2 at *;refine HS.out.mono ?_;rintro e w3 ⟨i,rfl,hi,hbef,hat,hb3⟩;have hspec:=ziG HL.out (n:=N) hi (fun j hj=>by have:=hbef j hj;simpa using this) (fun h=>by have:=hat h;simpa using this);have k3:=HK2.out.below hb3 hl1;have kn3:=HKN.out.below hb3 hl2;have q3:_=some (Value.slice va l.length vc):=k3.cell 0;have q4:_=some (Value.int .i64 N):=kn3.cell 0;have hb03:zB w w3:=zT HB02.out hb3;have HSP:=zH hspec;have HB03:=zH hb03;clear HS hbef hat hspec hb3 hb03 k3 kn3 q1 hl1 hl2
      by_cases hil:i<l.length
      · obtain⟨g,cap',e1,hg,c0,c1⟩:=(HV.out.below HB03.out zN).cells i hil
        simp at e1;obtain⟨rfl,rfl⟩:=e1;have HS2:Hid (mem l N↔(sp l i).1<=N):=by show _↔_;rw[HSP.out];exact⟨fun h=>h.2,fun h=>⟨hil,h⟩⟩
        clear HSP;generalize (sp l i).1=A at *;generalize (sp l i).2=T at *;go_wp2_with fail;go_quiet (fail);have hbn:zB w (w3.drewN nq):=⟨HB03.out.os,HB03.out.tape,HB03.out.output,HB03.out.size,HB03.out.block⟩;have HBN:=zH hbn;clear hbn;go_wp2;go_ret;refine⟨_,rfl,?_,HBN.out⟩;rw[HS2.out];simp
      · have HS2:Hid (¬mem l N):=by show ¬_;rw[HSP.out];exact fun h=>hil h.1
        clear HSP;go_wp2_with fail;go_quiet (fail);have hbn:zB w (w3.drewN nq):=⟨HB03.out.os,HB03.out.tape,HB03.out.output,HB03.out.size,HB03.out.block⟩;have HBN:=zH hbn;clear hbn;go_wp2;go_ret;refine⟨false,rfl,⟨(fun h=>by cases h),fun h=>absurd h HS2.out⟩,HBN.out⟩
end
section
open Go.RowKit Sv
def yk(x y:Int):Int:=if x<y then -1 else if y<x then 1 else 0
theorem zbr(x:Int)(w:World):zC 219 #[.int .i64 x] w fun e w'=>e=.returned (.bool false)/\w'=w:=by
  go_enter Tryz.func219,Tryz.ntmps219;go_wp2;go_ret;exact⟨rfl,rfl⟩
theorem zaz(x y:Int)(w:World):zC 190 #[.int .i64 x,.int .i64 y] w fun e w'=>e=.returned (.int .i64 (yk x y))/\w'=w:=by
  have H1:Hid (∀W,zC 219 #[.int .i64 x] W fun e w'=>e=.returned (.bool false)/\w'=W):=fun W=>zbr x W;have H2:Hid (∀W,zC 219 #[.int .i64 y] W fun e w'=>e=.returned (.bool false)/\w'=W):=fun W=>zbr y W
  by_cases h:x<y
  · have HC:Hid (yk x y=-1):=by show _=_;unfold yk;rw[if_pos h]
    go_enter Tryz.func190,Tryz.ntmps190;go_wp2_with fail;refine(H1.out _).mono ?_;rintro e w1 ⟨rfl,rfl⟩;go_wp2_with fail;refine(H2.out _).mono ?_;rintro e w2 ⟨rfl,rfl⟩;go_wp2;go_ret;exact⟨by rw[HC.out];rfl,rfl⟩
  · by_cases h':y<x
    · have HC:Hid (yk x y=1):=by show _=_;unfold yk;rw[if_neg h,if_pos h']
      go_enter Tryz.func190,Tryz.ntmps190;go_wp2_with fail;refine(H1.out _).mono ?_;rintro e w1 ⟨rfl,rfl⟩;go_wp2_with fail;refine(H2.out _).mono ?_;rintro e w2 ⟨rfl,rfl⟩;go_wp2;go_ret;exact⟨by rw[HC.out];rfl,rfl⟩
    · have HC:Hid (yk x y=0):=by show _=_;unfold yk;rw[if_neg h,if_neg h']
      go_enter Tryz.func190,Tryz.ntmps190;go_wp2_with fail;refine(H1.out _).mono ?_;rintro e w1 ⟨rfl,rfl⟩;go_wp2_with fail;refine(H2.out _).mono ?_;rintro e w2 ⟨rfl,rfl⟩;go_wp2;go_ret;exact⟨by rw[HC.out];rfl,rfl⟩
def yI(x y:Nat->Int):Nat->Int
  |0=>0
  |n+1=>if yk (x (2-n)) (y (2-n))≠0 then yk (x (2-n)) (y (2-n)) else yI x y n
end
section
open Go.RowKit Sv
def tI(a b c:Int)(j:Nat):Int:=if j=0 then a else if j=1 then b else c
end
section
open Go.RowKit Go.Sort Sv
def Gr(w w':World):Prop:=∃q os,w'=grow (w.drewN q) os
theorem Gr.refl(w:World):Gr w w:=⟨0,#[],by rw[grow_empty];rfl⟩
theorem zns(w:World)(os:Array Obj)(q:Nat):(grow w os).drewN q=grow (w.drewN q) os:=rfl
theorem znL(w:World)(p q:Nat):(w.drewN p).drewN q=w.drewN (p+q):=by unfold World.drewN;simp[Nat.add_assoc]
theorem Gr.trans{a b c:World}(h:Gr a b)(k:Gr b c):Gr a c:=by
  obtain⟨q,os,rfl⟩:=h;obtain⟨q',os',rfl⟩:=k;exact⟨q+q',os++os',by rw[zns,znL,grow_grow]⟩
theorem Gr.alloc{a b:World}(h:Gr a b)(o:Obj):Gr a (b.alloc o):=h.trans ⟨0,#[o],by rw[alloc_eq_grow];rfl⟩
theorem Gr.drew{a b:World}(h:Gr a b):Gr a b.drew:=h.trans ⟨1,#[],by rw[grow_empty];rfl⟩
theorem Gr.below{a b:World}(h:Gr a b):zB a b:=by
  obtain⟨q,os,rfl⟩:=h;refine⟨rfl,rfl,rfl,by simp[grow,World.drewN],fun k hk=>?_⟩;show (a.heap++os)[k]?=a.heap[k]?;rw[Array.getElem?_append_left hk]
theorem zot(x y:Nat->Int)(bx bv:Nat)(w:World)(lx:bx<w.heap.size)(ly:bv<w.heap.size)(hx:∀j,j<3->w.cell? ⟨bx,j,none⟩=some (.int .i64 (x j)))(hy:∀j,j<3->w.cell? ⟨bv,j,none⟩=some (.int .i64 (y j))) :
    zC 155 #[.slice (some ⟨bx,0,none⟩) 3 3,.slice (some ⟨bv,0,none⟩) 3 3] w fun e w'=>e=.returned (.int .i64 (yI x y 3))/\Gr w w':=by
  have HC:Hid (∀X Y W,zC 190 #[.int .i64 X,.int .i64 Y] W fun e w'=>e=.returned (.int .i64 (yk X Y))/\w'=W):=fun X Y W=>zaz X Y W;have hcell:Hid ((∀W,zB w W->∀j,j<3->W.cell? ⟨bx,j,none⟩=some (.int .i64 (x j)))/\(∀W,zB w W->∀j,j<3->W.cell? ⟨bv,j,none⟩=some (.int .i64 (y j)))):=⟨fun W hb j hj=>(hb.cell (p:=⟨bx,j,none⟩) lx).trans (hx j hj),fun W hb j hj=>(hb.cell (p:=⟨bv,j,none⟩) ly).trans (hy j hj)⟩;clear hx hy lx ly;go_enter Tryz.func155,Tryz.ntmps155;go_wp2_with fail;go_loopw [11] (fun iV wr=>∃k:Nat,k<=3/\iV=.int .i64 k/\yI x y 3=yI x y (3-k)/\Gr w wr) (fun iV _=>3-(intOf iV).toNat)
  case atStart=>exact⟨0,by omega,rfl,rfl,Gr.refl _⟩
  case round =>
    obtain⟨k,hk,rfl,heq,hbr⟩:=hrel;have HE:=zH heq;have HBR:=zH hbr;clear heq hbr
    by_cases hlt:k<3
    · have c0:=hcell.out.1 _ HBR.out.below k hlt
      have c1:=hcell.out.2 _ HBR.out.below k hlt;have HS:Hid (yI x y (3-k)=if yk (x k) (y k)≠0 then yk (x k) (y k) else yI x y (3-(k+1))):=by
        show _=_
        match k,hlt with
        |0,_=>rfl
        |1,_=>rfl
        |2,_=>rfl
      generalize x k=X at *;generalize y k=Y at *;go_wp2_with fail;refine(HC.out _ _ _).mono ?_;rintro e w1 ⟨rfl,rfl⟩;generalize yk X Y=Z at *
      by_cases hz:Z=0
      · subst hz
        go_wp2;go_roundw
        case rel=>exact⟨k+1,by omega,by go_num,by rw[HE.out,HS.out,if_neg (by simp)],HBR.out⟩
        case measure=>simp[intOf];omega
      · have hz2:(Z==0)=false:=by rw[beq_eq_false_iff_ne];exact hz
        go_wp2;go_ret;exact⟨by rw[HE.out,HS.out,if_pos hz];rfl,HBR.out⟩
    · obtain rfl:k=3:=by omega
      go_wp2;go_ret;exact⟨by rw[HE.out];rfl,HBR.out⟩
theorem zh2(a b c d e f:Int)(w:World) :
    zC 95 #[.agg #[.int .i64 a,.int .i64 b,.int .i64 c],.agg #[.int .i64 d,.int .i64 e,.int .i64 f]] w fun r w'=>r=.returned (.int .i64 (yI (tI a b c) (tI d e f) 3))/\Gr w w':=by
  have kv:=(Blk.new w 33 #[.int .i64 a,.int .i64 b,.int .i64 c]).alloc (.cells #[.int .i64 d,.int .i64 e,.int .i64 f] 33);have kw:=Blk.new (w.alloc (.cells #[.int .i64 a,.int .i64 b,.int .i64 c] 33)) 33 #[.int .i64 d,.int .i64 e,.int .i64 f];rw[World.size_alloc] at kw;have hB0:Gr w ((w.alloc (.cells #[.int .i64 a,.int .i64 b,.int .i64 c] 33)).alloc (.cells #[.int .i64 d,.int .i64 e,.int .i64 f] 33)):=((Gr.refl w).alloc _).alloc _;have HX:Hid (zC 155 #[.slice (some ⟨w.heap.size,0,none⟩) 3 3,.slice (some ⟨w.heap.size+1,0,none⟩) 3 3] ((w.alloc (.cells #[.int .i64 a,.int .i64 b,.int .i64 c] 33)).alloc (.cells #[.int .i64 d,.int .i64 e,.int .i64 f] 33)).drew fun r w'=>r=.returned (.int .i64 (yI (tI a b c) (tI d e f) 3))/\Gr w w'):=by
    generalize (w.alloc (.cells #[.int .i64 a,.int .i64 b,.int .i64 c] 33)).alloc (.cells #[.int .i64 d,.int .i64 e,.int .i64 f] 33)=W0 at *;have hd:zB W0 W0.drew:=zF.drew;have kv2:=kv.below hd kv.lt;have kw2:=kw.below hd kw.lt;refine(zot (tI a b c) (tI d e f) w.heap.size (w.heap.size+1) W0.drew kv2.lt kw2.lt ?_ ?_).mono ?_
    · intro j hj
      rw[kv2.cell j]
      match j,hj with
      |0,_=>rfl
      |1,_=>rfl
      |2,_=>rfl
    · intro j hj
      rw[kw2.cell j]
      match j,hj with
      |0,_=>rfl
      |1,_=>rfl
      |2,_=>rfl
    · rintro r w1 ⟨h1,h2⟩
      have hb:Gr w W0.drew:=hB0.drew;exact⟨h1,hb.trans h2⟩
  clear kv kw hB0;go_enter Tryz.func95,Tryz.ntmps95;go_wp2_with fail;go_region_held3 (fun _=>True) (exact trivial)
    (((with_reducible refine HX.out.mono ?_);rintro r w1 ⟨rfl,hb1⟩;have HB1:=zH hb1;clear hb1))
  go_wp2;go_ret;exact⟨rfl,HB1.out⟩
end
end Go.Proofs.YtapobpgbcbplbaaGreatDoor
