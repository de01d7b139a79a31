/- parsePiece. -/
import Derived.Test.YtapobpgbcbplbaaGreatDoorSvRound
set_option maxHeartbeats 2000000
set_option maxRecDepth 100000
namespace Go.Proofs.YtapobpgbcbplbaaGreatDoor
open Go.RowKit Go.Shelf Sv
attribute [local go_sem] Oper.semAt_some
def yi:List (Nat × ByteArray)->List zh × Nat->Except (Int × Nat) (List zh × Nat)
 |[],st=>.ok st
 |x :: r,st=>if x.2.toList=[] then yi r st else match ZU x.2 with
  |.error k=>.error (k,x.1)
  |.ok l=>yi r (nd st.1 l,st.2+1)
theorem zeZ(l r:List (Nat × ByteArray)):∀(st:List zh × Nat),yi (l++r) st=match yi l st with
  |.error e=>.error e
  |.ok st'=>yi r st':=by
 induction l with
 |nil=>intro st;rfl
 |cons x l ih =>
  intro st;rw[List.cons_append,yi,yi];split
  ·exact ih st
  ·split
   ·rfl
   ·exact ih _
def xx(s:ByteArray)(at':Nat):Except (Int × Nat) (List zh) :=
 match yi (qy s ⟨#[32]⟩ s.size 0) (zr,0) with
 |.error (k,i)=>.error (k,at'+i)
 |.ok (acc,n)=>if n=0 then .error (3,at'+s.size) else .ok acc
theorem znb:∀{l:List (Nat × ByteArray)} {st st':List zh × Nat},Rg st.1->yi l st=.ok st'->Rg st'.1:=by
 intro l
 induction l with
 |nil=>intro st st' h e;cases e;exact h
 |cons x l ih =>
  intro st st' h e;unfold yi at e;split at e
  ·exact ih h e
  ·split at e
   ·cases e
   ·rename_i l' hl;exact ih (st:=(nd st.1 l',st.2+1)) (YF h (zek hl)) e
theorem zd0{s:ByteArray}{p:Nat}{l:List zh}(h:xx s p=.ok l):Rg l:=by
 unfold xx at h;split at h
 ·cases h
 ·rename_i hw;split at h
  ·cases h
  ·cases h;exact znb (st:=(zr,0)) Xm hw
def zhT(w':World)(v er:Value):Except Int (List zh)->Prop
 |.ok l=>er=.nilIface/\zi w' v l
 |.error k=>er=.iface 64 (.int .i64 k)/\v=.slice none 0 0
theorem zoI(s:ByteArray)(W:World)(hs:s.size<=100000)(hw:Lb W):zC 146 #[.string s] W fun e w'=>∃a' n' c' er,e=.returned (.tuple #[.agg #[.slice a' n' c'],er])/\zB W w'/\(∀g,(Value.slice a' n' c').ownBlock=some g->W.heap.size<=g)/\zhT w' (.slice a' n' c') er (ZU s):=(zkD s W hs hw).mono fun e w' h=>by
 unfold yp at h;cases hx:ZU s with
 |ok l =>rw[hx] at h;obtain⟨v',he,h1,h2,h3⟩:=h;obtain⟨a',c',rfl⟩:=h1.form;exact⟨a',_,c',_,he,h3,h2,rfl,h1⟩
 |error k =>rw[hx] at h;obtain⟨he,h3⟩:=h;exact⟨none,0,0,_,he,h3,fun g hg=>by simp[Value.ownBlock] at hg,rfl,rfl⟩
theorem Xk{W W':World}{row:Option Nat}{v:Value}{l:List zh}(h:zi W v l)(hg:W.grownBy W' row)(hr:∀r,row=some r->∃o:Obj,W.heap[r]?=some o/\o.isCells=false):zi W' v l :=
 ⟨h.form,fun i hi=>by
  obtain⟨g,cap,e,hlt,c0,c1⟩:=h.cells i hi;exact ⟨g,cap,e,Nat.lt_of_lt_of_le hlt hg.size,cell_kept c0 hg hr,cell_kept c1 hg hr⟩⟩
theorem zjR(s m:ByteArray):∀(f k:Nat),(qy s m f k).length<=f+1:=by
 intro f
 induction f with
 |zero=>intro k;simp[qy]
 |succ f ih =>
  intro k;rw[qy];split
  ·simp
  ·simp only[List.length_cons];have:=ih (k+(Lib.index (s.extract k s.size).data.toList m.data.toList).toNat+m.size);omega
def YL(w:World)(x:Except (Int × Nat) (List zh))(e:Ending)(w':World):Prop :=
 match x with
 |.ok l=>∃v',e=.returned (.tuple #[.agg #[v'],.nilIface])/\zi w' v' l/\(∀g,v'.ownBlock=some g->w.heap.size<=g)/\zB w w'
 |.error (k,p)=>∃N,e=.returned (.tuple #[.agg #[.slice none 0 0],.iface 83 (.pointer (some ⟨N,0,none⟩))])/\Blk w' N 86 #[.int .i64 k,.int .i64 p]/\w.heap.size<=N/\zB w w'
theorem Qc(W:World)(a:Addr)(v:Value):(W.setCell a v).heap.size=W.heap.size:=by simp[World.setCell]
def PcI(w wA:World)(p:Nat)(pre:List Pc)(W:World):Prop :=
 (Blk W w.heap.size 3 #[.int .i64 p]/\Blk W (w.heap.size+1) 36 #[.slice none 0 0]/\Blk W (w.heap.size+1+1) 41 #[.nilIface]) /\
 (∃acc n v,yi (zW pre) (zr,0)=.ok (acc,n)/\n<=pre.length/\Blk W wA.heap.size 36 #[v]/\zi W v acc/\Rg acc/\Blk W (wA.heap.size+1) 3 #[.int .i64 n]/\(∀g,v.ownBlock=some g->w.heap.size+1+1<g/\g≠wA.heap.size/\g≠wA.heap.size+1)) /\
 zB w W/\wA.heap.size+1+1+1+1<=W.heap.size
def PcX(w:World)(p:Nat)(c:Code)(pre:List Pc)(W:World):Prop :=
 (c=.ret/\∃k i N,yi (zW pre) (zr,0)=.error (k,i)/\Blk W (w.heap.size+1) 36 #[.slice none 0 0]/\Blk W (w.heap.size+1+1) 41 #[.iface 83 (.pointer (some ⟨N,0,none⟩))]/\Blk W N 86 #[.int .i64 k,.int .i64 ((p+i:Nat):Int)]/\w.heap.size<=N) /\
 zB w W
theorem qZ{W W':World}{row:Option Nat}{b:Nat}{t:TypeId}{cs:Array Value}(h:Blk W b t cs)(hg:W.grownBy W' row)(hr:∀r,row=some r->∃o:Obj,W.heap[r]?=some o/\o.isCells=false):Blk W' b t cs:=Qa b t (fun _:Unit=>cs) () W W' row h hg hr
theorem znI(w wA:World)(p B:Nat)(hB:w.heap.size<=B):OwnFrom B (PcI w wA p):=by
 intro pre W W' row ⟨⟨h0,h1,h2⟩,⟨acc,n,v,h3,h4,h5,h6,h7,h8,h9⟩,h10,h11⟩ hg hr;have hr':∀r,row=some r->∃o:Obj,W.heap[r]?=some o/\o.isCells=false:=fun r e=>(hr r e).2;exact⟨⟨qZ h0 hg hr',qZ h1 hg hr',qZ h2 hg hr'⟩,⟨acc,n,v,h3,h4,qZ h5 hg hr',Xk h6 hg hr',h7,qZ h8 hg hr',h9⟩,ownFrom_below (β:=Unit) zN hB () W W' row h10 hg hr,Nat.le_trans h11 hg.size⟩
theorem zgN(w:World)(p B:Nat)(hB:w.heap.size<=B):∀c,OwnFrom B (PcX w p c):=by
 intro c pre W W' row ⟨⟨hc,k,i,N,h1,h2,h3,h4,h5⟩,h6⟩ hg hr;have hr':∀r,row=some r->∃o:Obj,W.heap[r]?=some o/\o.isCells=false:=fun r e=>(hr r e).2;exact⟨⟨hc,k,i,N,h1,qZ h2 hg hr',qZ h3 hg hr',qZ h4 hg hr',h5⟩,ownFrom_below (β:=Unit) zN hB () W W' row h6 hg hr⟩
theorem zcI{w W2 wT:World}{p k:Int}{i:Int}(t1:Blk W2 (w.heap.size+1) 36 #[.slice none 0 0])(t2:Blk W2 (w.heap.size+1+1) 41 #[.nilIface])(hb:zB w W2)(hbT:zB W2 wT) :
  (Blk wT (w.heap.size+1) 36 #[.slice none 0 0]/\Blk (wT.alloc (.cells #[.int .i64 k,.int .i64 (p+i)] 86)) (w.heap.size+1) 36 #[.slice none 0 0]/\Blk ((wT.setCell ⟨w.heap.size+1,0,none⟩ (.slice none 0 0)).alloc (.cells #[.int .i64 k,.int .i64 (p+i)] 86)) (w.heap.size+1+1) 41 #[.nilIface]/\Blk ((wT.alloc (.cells #[.int .i64 k,.int .i64 (p+i)] 86)).setCell ⟨w.heap.size+1,0,none⟩ (.slice none 0 0)) (w.heap.size+1+1) 41 #[.nilIface]) /\
  (∀ XF,(XF=(((wT.alloc (.cells #[.int .i64 k,.int .i64 (p + i)] 86)).setCell ⟨w.heap.size + 1,0,none⟩ (.slice none 0 0)).setCell ⟨w.heap.size + 1 + 1,0,none⟩ (.iface 83 (.pointer (some ⟨wT.heap.size,0,none⟩))))\/XF=(((wT.setCell ⟨w.heap.size + 1,0,none⟩ (.slice none 0 0)).alloc (.cells #[.int .i64 k,.int .i64 (p + i)] 86)).setCell ⟨w.heap.size + 1 + 1,0,none⟩ (.iface 83 (.pointer (some ⟨wT.heap.size,0,none⟩))))) ->
   Blk XF (w.heap.size + 1) 36 #[.slice none 0 0]/\Blk XF (w.heap.size + 1 + 1) 41 #[.iface 83 (.pointer (some ⟨wT.heap.size,0,none⟩))]/\Blk XF wT.heap.size 86 #[.int .i64 k,.int .i64 (p + i)]/\w.heap.size<=wT.heap.size/\zB w XF/\KeepsOthers W2 XF):=by
 have u1:=t1.below hbT t1.lt;have u2:=t2.below hbT t2.lt;have hwT:zB w wT:=zT hb hbT;have hl:=u2.lt;have m1:=u1.alloc (.cells #[.int .i64 k,.int .i64 (p+i)] 86);have m2:=(u2.other (b':=w.heap.size+1) (i:=0) (v:=.slice none 0 0) (by omega)).alloc (.cells #[.int .i64 k,.int .i64 (p+i)] 86);have m3:=(u2.alloc (.cells #[.int .i64 k,.int .i64 (p+i)] 86)).other (b':=w.heap.size+1) (i:=0) (v:=.slice none 0 0) (by omega);refine⟨⟨u1,m1,m2,m3⟩,?_⟩;rintro XF (rfl|rfl)
 ·exact⟨(m1.set (i:=0) (v:=.slice none 0 0)).other (by omega),m3.set (i:=0),((Blk.new wT 86 #[.int .i64 k,.int .i64 (p+i)]).other (by omega)).other (by omega),by omega,((zL hwT).setCell (p:=⟨w.heap.size+1,0,none⟩) (Nat.le_succ _) _).setCell (p:=⟨w.heap.size+1+1,0,none⟩) (by show w.heap.size<=w.heap.size+1+1;omega) _,(((xt hbT).trans (KeepsOthers.alloc _ _)).trans (KeepsOthers.setCell _ _ _)).trans (KeepsOthers.setCell _ _ _)⟩
 ·have hn:=Blk.new (wT.setCell ⟨w.heap.size+1,0,none⟩ (.slice none 0 0)) 86 #[.int .i64 k,.int .i64 (p+i)];rw[Qc] at hn;exact⟨((u1.set (i:=0) (v:=.slice none 0 0)).alloc _).other (by omega),m2.set (i:=0),hn.other (by omega),by omega,((hwT.setCell (p:=⟨w.heap.size+1,0,none⟩) (Nat.le_succ _) _).alloc (by rw[Qc];exact hwT.size) _).setCell (p:=⟨w.heap.size+1+1,0,none⟩) (by show w.heap.size<=w.heap.size+1+1;omega) _,(((xt hbT).trans (KeepsOthers.setCell _ _ _)).trans (KeepsOthers.alloc _ _)).trans (KeepsOthers.setCell _ _ _)⟩
theorem zml(s:ByteArray)(p:Nat)(hp:p<=100000)(w:World)(hs:s.size<=100000)(hw:Lb w) :
  CallsIn Fence.wide 4 Tryz.prog 85 #[.string s,.int .i64 p] w (YL w (xx s p)):=by
 have HA:Hid (∀W,CallsIn Fence.wide 3 Tryz.prog 145 #[] W fun e w'=>∃a' c',e=.returned (.agg #[.slice a' zr.length c'])/\zi w' (.slice a' zr.length c') zr/\(∀g,(Value.slice a' zr.length c').ownBlock=some g->W.heap.size<=g)/\zB W w'):=fun W=>callsIn_wide.2 ((QH W).mono fun e w' ⟨v',he,hs,hn,hb⟩=>by obtain⟨a',c',rfl⟩:=hs.form;exact⟨a',c',he,hs,hn,hb⟩);have HP:Hid (∀W,CallsIn Fence.wide 3 Tryz.prog 83 #[.string s,.string ⟨#[32]⟩] W fun e w'=>e=.returned (.func (.func 142) #[] #[.pointer (some ⟨W.heap.size,0,none⟩),.pointer (some ⟨W.heap.size+1,0,none⟩)])/\w'=(W.alloc (.cells #[.string s] 9)).alloc (.cells #[.string ⟨#[32]⟩] 9)):=fun W=>zaa s ⟨#[32]⟩ W;have HL:=zH hw;have hbig:=hw.big;clear hw;refine callsIn_of_wp_marks Tryz.func85 rfl trivial ?_ rfl;simp only[Tryz.ntmps85,List.size_toArray,List.length_cons,List.length_nil,Nat.reduceAdd,Nat.reduceSub,Array.replicate_succ,Array.replicate_zero,List.push_toArray,List.append_toArray,List.nil_append,List.cons_append]
 gi_wp2_with fail
 have k0:=((Blk.new w 3 #[.int .i64 p]).alloc (.cells #[.slice none 0 0] 36)).alloc (.cells #[.nilIface] 41);have k1:=(Blk.new (w.alloc (.cells #[.int .i64 p] 3)) 36 #[.slice none 0 0]).alloc (.cells #[.nilIface] 41);have k2:=Blk.new ((w.alloc (.cells #[.int .i64 p] 3)).alloc (.cells #[.slice none 0 0] 36)) 41 #[.nilIface];simp only[World.size_alloc] at k1 k2;have hB0:zB w (((w.alloc (.cells #[.int .i64 p] 3)).alloc (.cells #[.slice none 0 0] 36)).alloc (.cells #[.nilIface] 41)):=(((Below.refl _ w).alloc zN _).alloc (by simp only[World.size_alloc];omega) _).alloc (by simp only[World.size_alloc];omega) _;generalize ((w.alloc (.cells #[.int .i64 p] 3)).alloc (.cells #[.slice none 0 0] 36)).alloc (.cells #[.nilIface] 41)=Wa at *;refine⟨trivial,?_⟩;refine(HA.out _).mono ?_;rintro e wA ⟨a0,c0,rfl,hsA,hnA,hbA⟩;have j0:=k0.below hbA k0.lt;have j1:=k1.below hbA k1.lt;have j2:=k2.below hbA k2.lt;have hBA:zB w wA:=zT hB0 hbA;have HJ0:=zH j0;have HJ1:=zH j1;have HJ2:=zH j2;have HBA:=zH hBA;have HSA:=zH hsA;have hWs:w.heap.size+1+1<Wa.heap.size:=k2.lt;have hown0:∀ g,(Value.slice a0 zr.length c0).ownBlock=some g->w.heap.size + 1 + 1<g/\g<wA.heap.size:=fun g hg=>⟨Nat.lt_of_lt_of_le hWs (hnA g hg),by
  obtain⟨g',cap',e',hlt',-,-⟩:=hsA.cells 0 (by decide);rw[e'] at hg;simp[Value.ownBlock] at hg;omega⟩
 have HOWN0:=zH hown0;have hAs:w.heap.size+1+1<wA.heap.size:=Nat.lt_of_lt_of_le hWs hbA.size;clear k0 k1 k2 hB0 HA hsA hnA hbA j0 j1 j2 hBA hown0 hWs
 gi_wp2_with (refine⟨trivial,?_⟩;gi_at_call 83;refine(HP.out _).mono ?_;rintro e w' ⟨rfl,rfl⟩)
 have j0:=(((HJ0.out.alloc (.cells #[.slice a0 zr.length c0] 36)).alloc (.cells #[.int .i64 0] 3)).alloc (.cells #[.string s] 9)).alloc (.cells #[.string ⟨#[32]⟩] 9);have j1:=(((HJ1.out.alloc (.cells #[.slice a0 zr.length c0] 36)).alloc (.cells #[.int .i64 0] 3)).alloc (.cells #[.string s] 9)).alloc (.cells #[.string ⟨#[32]⟩] 9);have j2:=(((HJ2.out.alloc (.cells #[.slice a0 zr.length c0] 36)).alloc (.cells #[.int .i64 0] 3)).alloc (.cells #[.string s] 9)).alloc (.cells #[.string ⟨#[32]⟩] 9);have j3:=(((Blk.new wA 36 #[.slice a0 zr.length c0]).alloc (.cells #[.int .i64 0] 3)).alloc (.cells #[.string s] 9)).alloc (.cells #[.string ⟨#[32]⟩] 9);have j4:=((Blk.new (wA.alloc (.cells #[.slice a0 zr.length c0] 36)) 3 #[.int .i64 0]).alloc (.cells #[.string s] 9)).alloc (.cells #[.string ⟨#[32]⟩] 9);have j5:=(Blk.new ((wA.alloc (.cells #[.slice a0 zr.length c0] 36)).alloc (.cells #[.int .i64 0] 3)) 9 #[.string s]).alloc (.cells #[.string ⟨#[32]⟩] 9);have j6:=Blk.new (((wA.alloc (.cells #[.slice a0 zr.length c0] 36)).alloc (.cells #[.int .i64 0] 3)).alloc (.cells #[.string s] 9)) 9 #[.string ⟨#[32]⟩];simp only[World.size_alloc] at j4 j5 j6;have hBA0:zB wA ((((wA.alloc (.cells #[.slice a0 zr.length c0] 36)).alloc (.cells #[.int .i64 0] 3)).alloc (.cells #[.string s] 9)).alloc (.cells #[.string ⟨#[32]⟩] 9)):=((((Below.refl _ wA).alloc zN _).alloc (by simp only[World.size_alloc];omega) _).alloc (by simp only[World.size_alloc];omega) _).alloc (by simp only[World.size_alloc];omega) _;have hsz:((((wA.alloc (.cells #[.slice a0 zr.length c0] 36)).alloc (.cells #[.int .i64 0] 3)).alloc (.cells #[.string s] 9)).alloc (.cells #[.string ⟨#[32]⟩] 9)).heap.size=wA.heap.size+1+1+1+1:=by simp only[World.size_alloc]
 obtain⟨W0,hW0⟩:∃W0,(((wA.alloc (.cells #[.slice a0 zr.length c0] 36)).alloc (.cells #[.int .i64 0] 3)).alloc (.cells #[.string s] 9)).alloc (.cells #[.string ⟨#[32]⟩] 9)=W0:=⟨_,rfl⟩;rw[hW0] at j0 j1 j2 j3 j4 j5 j6 hBA0 hsz ⊢;clear hW0;have hB0:zB w W0:=zT HBA.out hBA0;have hsp0:zi W0 (.slice a0 zr.length c0) zr:=HSA.out.below hBA0 zN;obtain⟨n,hn⟩:=(HL.out.below hB0).ml;have c5:_=some (Value.string s):=j5.cell 0;have c6:_=some (Value.string ⟨#[32]⟩):=j6.cell 0;have hwA:=HBA.out.size;refine wpIn_rangeFunc_ownF rfl (by omega) (gf:=142) (lb:=#[.pointer (some ⟨wA.heap.size+1+1,0,none⟩),.pointer (some ⟨wA.heap.size+1+1+1,0,none⟩)]) rfl trivial (enters_of Tryz.func142 (by kernel_rfl) rfl)
  (JM (wA.heap.size+1+1) (wA.heap.size+1+1+1) s ⟨#[32]⟩ hs (by decide) W0 (by omega) (by omega) (by omega) c5 c6 n hn) Xy (JB (by omega) (by omega) (by omega)) zF (fun _=>rfl)
  (fun pre W=>PcI w wA p pre W)
  (fun c pre W=>PcX w p c pre W)
  (znI w wA p W0.heap.size (by omega)) (zgN w p W0.heap.size (by omega))
  ⟨⟨j0,j1,j2⟩,⟨zr,0,_,rfl,Nat.zero_le _,j3,hsp0,Xm,j4,fun g hg=>by have:=HOWN0.out g hg;omega⟩,hB0,by omega⟩
  (fun x=>{ tmps:=#[.string s,.int .i64 p,undef,.pointer (some ⟨w.heap.size,0,none⟩),.pointer (some ⟨w.heap.size+1,0,none⟩),.pointer (some ⟨w.heap.size+1+1,0,none⟩),.pointer (some ⟨wA.heap.size,0,none⟩),.pointer (some ⟨wA.heap.size+1,0,none⟩),.int .i64 x.1.1,.string x.1.2,undef,undef,.agg #[.slice a0 zr.length c0],.string s,.func (.func 142) #[] #[.pointer (some ⟨wA.heap.size+1+1,0,none⟩),.pointer (some ⟨wA.heap.size+1+1+1,0,none⟩)],.int .i64 x.1.1,.string x.1.2,undef,undef,undef,undef,undef,undef,undef,undef,undef,undef,undef,undef,undef,undef,undef,undef,undef,undef,undef,undef,undef,undef,undef,undef,undef,undef,undef,undef,undef,undef,undef,undef,undef,undef],defers:=[] }) ?assign ?body ?done ?stop
 case assign =>
  intro l x W K hK
  gi_wp2
  exact hK
 case body =>
  rintro l pre x W ⟨⟨i0,i1,i2⟩,⟨acc,n',v,hwf,hnl,i3,isp,irg,i4,iown⟩,iB,isz⟩ hlen;obtain⟨va,vc,rfl⟩:=isp.form;have hcl:=zjR s ⟨#[32]⟩ s.size 0;have hx1:=x.2.1;have hsn:=zeZ (zW pre) [x.1] (zr,0);rw[hwf] at hsn;have HSN:Hid (yi (zW (pre++[x])) (zr,0)=yi [x.1] (acc,n')):=by show _=_;rw[zW,List.map_append];exact hsn
  clear hsn hwf
  by_cases he:x.1.2.toList=[]
  ·have hz:x.1.2.toList.isEmpty=true:=by rw[he];rfl
   have hone:yi [x.1] (acc,n')=.ok (acc,n'):=by rw[yi,if_pos he];rfl
   rw[hone] at HSN;have HI:Hid (PcI w wA p (pre++[x]) W):=⟨⟨i0,i1,i2⟩,⟨acc,n',_,HSN.out,by rw[List.length_append];omega,i3,isp,irg,i4,iown⟩,iB,isz⟩;clear i0 i1 i2 i3 isp i4 iown iB hone HSN j0 j1 j2 j3 j4 j5 j6 hsp0
   gi_wp2
   exact⟨KeepsOthers.refl _,⟨rfl,rfl,rfl⟩,HI.out⟩
  ·have hz:x.1.2.toList.isEmpty=false:=by
    cases h:x.1.2.toList with
    |nil=>exact absurd h he
    |cons a t=>rfl
   have d4:_=some (Value.int .i64 n'):=i4.cell 0;have e4:=i4.frozen 0;have hnn:(n':Int)+1=((n'+1:Nat):Int):=by omega
   -- words++
   obtain⟨W1,hW1⟩:∃W1,W.setCell ⟨wA.heap.size+1,0,none⟩ (.int .i64 ((n':Int)+1))=W1:=⟨_,rfl⟩;have s0:Blk W1 w.heap.size 3 #[.int .i64 p]:=by rw[<-hW1];exact i0.other (by omega)
   have s1:Blk W1 (w.heap.size+1) 36 #[.slice none 0 0]:=by rw[<-hW1];exact i1.other (by omega)
   have s2:Blk W1 (w.heap.size+1+1) 41 #[.nilIface]:=by rw[<-hW1];exact i2.other (by omega)
   have s3:Blk W1 wA.heap.size 36 #[.slice va acc.length vc]:=by rw[<-hW1];exact i3.other (by omega)
   have s4:Blk W1 (wA.heap.size+1) 3 #[.int .i64 ((n'+1:Nat):Int)]:=by rw[<-hW1,<-hnn];exact i4.set (i:=0)
   have ssp:zi W1 (.slice va acc.length vc) acc:=by rw[<-hW1];exact isp.set (fun e=>(iown _ e).2.2 rfl)
   have sB:zB w W1:=by rw[<-hW1];exact iB.setCell (p:=⟨wA.heap.size+1,0,none⟩) (by show w.heap.size<=wA.heap.size+1;omega) _
   have ssz:W1.heap.size=W.heap.size:=by rw[<-hW1];exact Qc _ _ _
   have sko:KeepsOthers W W1:=by rw[<-hW1];exact KeepsOthers.setCell _ _ _
   have skp:Kp2 (wA.heap.size+1+1) (wA.heap.size+1+1+1) W W1:=by rw[<-hW1];exact Y5 ⟨rfl,rfl,rfl⟩ (by omega) (by omega) (by omega)
   have HW1:=zH hW1;have HCALL:=zH (zoI x.1.2 W1 x.2.2 (HL.out.below sB));clear i0 i1 i2 i3 i4 isp iB hW1 hnn j0 j1 j2 j3 j4 j5 j6 hsp0;cases hwd:ZU x.1.2 with
   |error k =>
    rw[hwd] at HCALL;have hone:yi [x.1] (acc,n')=.error (k,x.1.1):=by rw[yi,if_neg he,hwd]
    rw[hone] at HSN;have hk:zR 146 #[.string x.1.2] W1 (.tuple #[.agg #[.slice none 0 0],.iface 64 (.int .i64 k)]):=HCALL.out.mono fun e w' ⟨a',n'',c',er,h1,h2,h3,h4,h5⟩=>by rw[h4,h5] at h1;exact⟨h1,h2⟩
    have HK:=zH hk;clear hk hone hwd he HCALL irg ssp
    gi_wp2_with fail
    rw[HW1.out];refine⟨trivial,?_⟩;refine(CallsIn.inRound l (callsIn_wide.2 HK.out)).mono ?_;rintro e wP ⟨rfl,hbP⟩;have hmx:Tryz.prog.follows .mixedOrders=true:=by kernel_rfl
    have a1:zB wP (wP.alloc (.cells #[.slice none 0 0] 36)):=zF.alloc zN _;have b01:zB W1 (wP.alloc (.cells #[.slice none 0 0] 36)):=zT hbP a1;have t0:=s0.below b01 s0.lt;have t1:=s1.below b01 s1.lt;have t2:=s2.below b01 s2.lt;have q1:(wP.alloc (.cells #[.slice none 0 0] 36)).cell? ⟨w.heap.size,0,none⟩=some (.int .i64 p):=t0.cell 0;have HB02:Hid (zB w (wP.alloc (.cells #[.slice none 0 0] 36))):=zT sB b01;have HTELL:Hid (∀X,zB w X->zR 26 #[.iface 64 (.int .i64 k)] X (.int .i64 k)):=fun X hb=>ze4 k X (HL.out.below hb).glob;have hw1:wrap64 ((p:Int)+(x.1.1:Int))=(p:Int)+(x.1.1:Int):=by unfold wrap64;omega
    have hw2:IntKind.i64.wrap ((p:Int)+(x.1.1:Int))=(p:Int)+(x.1.1:Int):=by rw[IntKind.wrap_i64];unfold wrap64 at hw1;exact hw1
    clear hbP HK a1 s0 s1 s2 s3 s4
    gi_wp2_with fail
    generalize wP.alloc (.cells #[.slice none 0 0] 36)=W2 at *;have hpi:((p+x.1.1:Nat):Int)=(p:Int)+(x.1.1:Int):=by omega
    refine zmi hmx ?nd ?any
    case nd =>intro j o h c hc;have hm:=Array.mem_of_getElem? h;simp at hm;rcases hm with rfl|rfl|rfl|rfl|rfl|rfl|rfl|rfl|rfl|rfl|rfl<;>cases hc
    case any =>
     refine wpAnyIn_take (i:=0) (v:=.agg #[.slice none 0 0]) rfl rfl (by kernel_rfl) (by kernel_rfl) (by kernel_rfl) (fun _ _ _ h=>h) ⟨Or.inl ⟨by rfl,by intro w;go_simp⟩,fun _=>rfl⟩ ?_;refine wpAnyIn_take (i:=1) (v:=.iface 64 (.int .i64 k)) rfl rfl (by kernel_rfl) (by kernel_rfl) (by kernel_rfl) (fun _ _ _ h=>h) ⟨Or.inl ⟨by rfl,by intro w;go_simp⟩,fun _=>rfl⟩ ?_;refine wpAnyIn_take (i:=4) (v:=.int .i64 x.1.1) rfl rfl (by kernel_rfl) (by kernel_rfl) (by kernel_rfl) (fun _ _ _ h=>h) ⟨Or.inl ⟨by rfl,by intro w;go_simp⟩,fun _=>rfl⟩ ?_;refine wpAnyIn_ready (rs:=[2,3]) (by kernel_rfl) (by simp) ?_;refine AllReadyIn.cons rfl (fun K hK=>?_) (AllReadyIn.cons rfl (fun K hK=>?_) AllReadyIn.nil)
     ·skip
      go_simp
      gi_wp2_with (refine⟨trivial,?_⟩;gi_at_call 26;refine(callsIn_wide.2 (HTELL.out _ HB02.out.drew)).mono ?_;rintro e wT ⟨rfl,hbT⟩)
      have hbT':zB W2 wT:=((Below.refl _ W2).drew).trans hbT;obtain⟨⟨v1,v2,v3,v4⟩,vF⟩:=zcI (k:=k) (p:=(p:Int)) (i:=(x.1.1:Int)) t1 t2 HB02.out hbT';have q9:wT.cell? ⟨w.heap.size,0,none⟩=some (.int .i64 p):=(t0.below hbT' t0.lt).cell 0;have z1:_=some (Value.slice none 0 0):=v1.cell 0;have z2:=v1.frozen 0;have z3:(wT.alloc (.cells #[.int .i64 k,.int .i64 ((p:Int)+(x.1.1:Int))] 86)).cell? ⟨w.heap.size+1,0,none⟩=some (.slice none 0 0):=v2.cell 0;have z4:=v2.frozen 0;have z5:((wT.setCell ⟨w.heap.size+1,0,none⟩ (.slice none 0 0)).alloc (.cells #[.int .i64 k,.int .i64 ((p:Int)+(x.1.1:Int))] 86)).cell? ⟨w.heap.size+1+1,0,none⟩=some .nilIface:=v3.cell 0;have z6:=v3.frozen 0;have z7:((wT.alloc (.cells #[.int .i64 k,.int .i64 ((p:Int)+(x.1.1:Int))] 86)).setCell ⟨w.heap.size+1,0,none⟩ (.slice none 0 0)).cell? ⟨w.heap.size+1+1,0,none⟩=some .nilIface:=v4.cell 0;have z8:=v4.frozen 0;have z9:(wT.setCell ⟨w.heap.size+1,0,none⟩ (.slice none 0 0)).cell? ⟨w.heap.size,0,none⟩=some (.int .i64 p):=((t0.below hbT' t0.lt).other (by omega)).cell 0;have HVF:=zH vF;clear v1 v2 v3 v4 vF hbT;refine wpAnyIn_ready (rs:=[3,9]) (by kernel_rfl) (by simp) ?_;refine AllReadyIn.cons rfl (fun K hK=>?_) (AllReadyIn.cons rfl (fun K hK=>?_) AllReadyIn.nil)
      ·skip
       go_simp;refine hK _ _ ?_;clear hK K;refine wpAnyIn_take (i:=5) (v:=.int .i64 ((p:Int)+(x.1.1:Int))) rfl rfl (by kernel_rfl) (by kernel_rfl) (by kernel_rfl) (fun _ _ _ h=>h) ⟨Or.inl ⟨by rfl,by intro w;go_simp⟩,fun _=>rfl⟩ ?_;refine wpAnyIn_take (i:=6) (v:=.agg #[.int .i64 k,.int .i64 ((p:Int)+(x.1.1:Int))]) rfl rfl (by kernel_rfl) (by kernel_rfl) (by kernel_rfl) (fun _ _ _ h=>h) ⟨Or.inl ⟨by rfl,by intro w;go_simp⟩,fun _=>rfl⟩ ?_;refine wpAnyIn_ready (rs:=[7,9]) (by kernel_rfl) (by simp) ?_;refine AllReadyIn.cons rfl (fun K hK=>?_) (AllReadyIn.cons rfl (fun K hK=>?_) AllReadyIn.nil)
       ·skip
        go_simp;refine hK _ _ ?_;clear hK K;refine wpAnyIn_take (i:=8) (v:=.iface 83 (.pointer (some ⟨wT.heap.size,0,none⟩))) rfl rfl (by kernel_rfl) (by kernel_rfl) (by kernel_rfl) (fun _ _ _ h=>h) ⟨Or.inl ⟨by rfl,by intro w;go_simp⟩,fun _=>rfl⟩ ?_;refine wpAnyIn_ready (rs:=[9]) (by kernel_rfl) (by simp) ?_;refine AllReadyIn.cons rfl (fun K hK=>?_) AllReadyIn.nil;go_simp;refine hK _ _ ?_;clear hK K;refine wpAnyIn_ready (rs:=[10]) (by kernel_rfl) (by simp) ?_;refine AllReadyIn.cons rfl (fun K hK=>?_) AllReadyIn.nil;go_simp;refine hK _ _ ?_;clear hK K;refine wpAnyIn_done (by kernel_rfl) ?_ _;obtain⟨y1,y2,y3,y4,y5,y6⟩:=HVF.out _ (.inl rfl);have HFIN:Hid (KeepsOthers W _/\PcX w p .ret (pre++[x]) _):=⟨(sko.trans (xt b01)).trans y6,⟨rfl,k,x.1.1,wT.heap.size,HSN.out,y1,y2,by rw[hpi];exact y3,y4⟩,y5⟩;clear y1 y2 y3 y4 y5 y6 z1 z2 z3 z4 z5 z6 z7 z8 z9 HVF t0 t1 t2 b01 sko skp sB iown
        gi_wp2
        exact HFIN.out
       ·skip
        go_simp;refine hK _ _ ?_;clear hK K;refine wpAnyIn_ready (rs:=[7]) (by kernel_rfl) (by simp) ?_;refine AllReadyIn.cons rfl (fun K hK=>?_) AllReadyIn.nil;go_simp;refine hK _ _ ?_;clear hK K;refine wpAnyIn_take (i:=8) (v:=.iface 83 (.pointer (some ⟨wT.heap.size,0,none⟩))) rfl rfl (by kernel_rfl) (by kernel_rfl) (by kernel_rfl) (fun _ _ _ h=>h) ⟨Or.inl ⟨by rfl,by intro w;go_simp⟩,fun _=>rfl⟩ ?_;refine wpAnyIn_ready (rs:=[10]) (by kernel_rfl) (by simp) ?_;refine AllReadyIn.cons rfl (fun K hK=>?_) AllReadyIn.nil;go_simp;refine hK _ _ ?_;clear hK K;refine wpAnyIn_done (by kernel_rfl) ?_ _;obtain⟨y1,y2,y3,y4,y5,y6⟩:=HVF.out _ (.inr rfl);have HFIN:Hid (KeepsOthers W _/\PcX w p .ret (pre++[x]) _):=⟨(sko.trans (xt b01)).trans y6,⟨rfl,k,x.1.1,wT.heap.size,HSN.out,y1,y2,by rw[hpi];exact y3,y4⟩,y5⟩;clear y1 y2 y3 y4 y5 y6 z1 z2 z3 z4 z5 z6 z7 z8 z9 HVF t0 t1 t2 b01 sko skp sB iown
        gi_wp2
        exact HFIN.out
      ·skip
       go_simp;refine hK _ _ ?_;clear hK K;refine wpAnyIn_ready (rs:=[3]) (by kernel_rfl) (by simp) ?_;refine AllReadyIn.cons rfl (fun K hK=>?_) AllReadyIn.nil;go_simp;refine hK _ _ ?_;clear hK K;refine wpAnyIn_take (i:=5) (v:=.int .i64 ((p:Int)+(x.1.1:Int))) rfl rfl (by kernel_rfl) (by kernel_rfl) (by kernel_rfl) (fun _ _ _ h=>h) ⟨Or.inl ⟨by rfl,by intro w;go_simp⟩,fun _=>rfl⟩ ?_;refine wpAnyIn_take (i:=6) (v:=.agg #[.int .i64 k,.int .i64 ((p:Int)+(x.1.1:Int))]) rfl rfl (by kernel_rfl) (by kernel_rfl) (by kernel_rfl) (fun _ _ _ h=>h) ⟨Or.inl ⟨by rfl,by intro w;go_simp⟩,fun _=>rfl⟩ ?_;refine wpAnyIn_ready (rs:=[7]) (by kernel_rfl) (by simp) ?_;refine AllReadyIn.cons rfl (fun K hK=>?_) AllReadyIn.nil;go_simp;refine hK _ _ ?_;clear hK K;refine wpAnyIn_take (i:=8) (v:=.iface 83 (.pointer (some ⟨wT.heap.size,0,none⟩))) rfl rfl (by kernel_rfl) (by kernel_rfl) (by kernel_rfl) (fun _ _ _ h=>h) ⟨Or.inl ⟨by rfl,by intro w;go_simp⟩,fun _=>rfl⟩ ?_;refine wpAnyIn_ready (rs:=[10]) (by kernel_rfl) (by simp) ?_;refine AllReadyIn.cons rfl (fun K hK=>?_) AllReadyIn.nil;go_simp;refine hK _ _ ?_;clear hK K;refine wpAnyIn_done (by kernel_rfl) ?_ _;obtain⟨y1,y2,y3,y4,y5,y6⟩:=HVF.out _ (.inr rfl);have HFIN:Hid (KeepsOthers W _/\PcX w p .ret (pre++[x]) _):=⟨(sko.trans (xt b01)).trans y6,⟨rfl,k,x.1.1,wT.heap.size,HSN.out,y1,y2,by rw[hpi];exact y3,y4⟩,y5⟩;clear y1 y2 y3 y4 y5 y6 z1 z2 z3 z4 z5 z6 z7 z8 z9 HVF t0 t1 t2 b01 sko skp sB iown
       gi_wp2
       exact HFIN.out
     ·skip
      go_simp;refine hK _ _ ?_;clear hK K;refine wpAnyIn_take (i:=5) (v:=.int .i64 ((p:Int)+(x.1.1:Int))) rfl rfl (by kernel_rfl) (by kernel_rfl) (by kernel_rfl) (fun _ _ _ h=>h) ⟨Or.inl ⟨by rfl,by intro w;go_simp⟩,fun _=>rfl⟩ ?_;refine wpAnyIn_ready (rs:=[2]) (by kernel_rfl) (by simp) ?_;refine AllReadyIn.cons rfl (fun K hK=>?_) AllReadyIn.nil;go_simp
      gi_wp2_with (refine⟨trivial,?_⟩;gi_at_call 26;refine(callsIn_wide.2 (HTELL.out _ HB02.out.drew)).mono ?_;rintro e wT ⟨rfl,hbT⟩)
      have hbT':zB W2 wT:=((Below.refl _ W2).drew).trans hbT;obtain⟨⟨v1,v2,v3,v4⟩,vF⟩:=zcI (k:=k) (p:=(p:Int)) (i:=(x.1.1:Int)) t1 t2 HB02.out hbT';have q9:wT.cell? ⟨w.heap.size,0,none⟩=some (.int .i64 p):=(t0.below hbT' t0.lt).cell 0;have z1:_=some (Value.slice none 0 0):=v1.cell 0;have z2:=v1.frozen 0;have z3:(wT.alloc (.cells #[.int .i64 k,.int .i64 ((p:Int)+(x.1.1:Int))] 86)).cell? ⟨w.heap.size+1,0,none⟩=some (.slice none 0 0):=v2.cell 0;have z4:=v2.frozen 0;have z5:((wT.setCell ⟨w.heap.size+1,0,none⟩ (.slice none 0 0)).alloc (.cells #[.int .i64 k,.int .i64 ((p:Int)+(x.1.1:Int))] 86)).cell? ⟨w.heap.size+1+1,0,none⟩=some .nilIface:=v3.cell 0;have z6:=v3.frozen 0;have z7:((wT.alloc (.cells #[.int .i64 k,.int .i64 ((p:Int)+(x.1.1:Int))] 86)).setCell ⟨w.heap.size+1,0,none⟩ (.slice none 0 0)).cell? ⟨w.heap.size+1+1,0,none⟩=some .nilIface:=v4.cell 0;have z8:=v4.frozen 0;have z9:(wT.setCell ⟨w.heap.size+1,0,none⟩ (.slice none 0 0)).cell? ⟨w.heap.size,0,none⟩=some (.int .i64 p):=((t0.below hbT' t0.lt).other (by omega)).cell 0;have HVF:=zH vF;clear v1 v2 v3 v4 vF hbT;refine wpAnyIn_take (i:=6) (v:=.agg #[.int .i64 k,.int .i64 ((p:Int)+(x.1.1:Int))]) rfl rfl (by kernel_rfl) (by kernel_rfl) (by kernel_rfl) (fun _ _ _ h=>h) ⟨Or.inl ⟨by rfl,by intro w;go_simp⟩,fun _=>rfl⟩ ?_;refine wpAnyIn_ready (rs:=[7,9]) (by kernel_rfl) (by simp) ?_;refine AllReadyIn.cons rfl (fun K hK=>?_) (AllReadyIn.cons rfl (fun K hK=>?_) AllReadyIn.nil)
      ·skip
       go_simp;refine hK _ _ ?_;clear hK K;refine wpAnyIn_take (i:=8) (v:=.iface 83 (.pointer (some ⟨wT.heap.size,0,none⟩))) rfl rfl (by kernel_rfl) (by kernel_rfl) (by kernel_rfl) (fun _ _ _ h=>h) ⟨Or.inl ⟨by rfl,by intro w;go_simp⟩,fun _=>rfl⟩ ?_;refine wpAnyIn_ready (rs:=[9]) (by kernel_rfl) (by simp) ?_;refine AllReadyIn.cons rfl (fun K hK=>?_) AllReadyIn.nil;go_simp;refine hK _ _ ?_;clear hK K;refine wpAnyIn_ready (rs:=[10]) (by kernel_rfl) (by simp) ?_;refine AllReadyIn.cons rfl (fun K hK=>?_) AllReadyIn.nil;go_simp;refine hK _ _ ?_;clear hK K;refine wpAnyIn_done (by kernel_rfl) ?_ _;obtain⟨y1,y2,y3,y4,y5,y6⟩:=HVF.out _ (.inl rfl);have HFIN:Hid (KeepsOthers W _/\PcX w p .ret (pre++[x]) _):=⟨(sko.trans (xt b01)).trans y6,⟨rfl,k,x.1.1,wT.heap.size,HSN.out,y1,y2,by rw[hpi];exact y3,y4⟩,y5⟩;clear y1 y2 y3 y4 y5 y6 z1 z2 z3 z4 z5 z6 z7 z8 z9 HVF t0 t1 t2 b01 sko skp sB iown
       gi_wp2
       exact HFIN.out
      ·skip
       go_simp;refine hK _ _ ?_;clear hK K;refine wpAnyIn_ready (rs:=[7]) (by kernel_rfl) (by simp) ?_;refine AllReadyIn.cons rfl (fun K hK=>?_) AllReadyIn.nil;go_simp;refine hK _ _ ?_;clear hK K;refine wpAnyIn_take (i:=8) (v:=.iface 83 (.pointer (some ⟨wT.heap.size,0,none⟩))) rfl rfl (by kernel_rfl) (by kernel_rfl) (by kernel_rfl) (fun _ _ _ h=>h) ⟨Or.inl ⟨by rfl,by intro w;go_simp⟩,fun _=>rfl⟩ ?_;refine wpAnyIn_ready (rs:=[10]) (by kernel_rfl) (by simp) ?_;refine AllReadyIn.cons rfl (fun K hK=>?_) AllReadyIn.nil;go_simp;refine hK _ _ ?_;clear hK K;refine wpAnyIn_done (by kernel_rfl) ?_ _;obtain⟨y1,y2,y3,y4,y5,y6⟩:=HVF.out _ (.inr rfl);have HFIN:Hid (KeepsOthers W _/\PcX w p .ret (pre++[x]) _):=⟨(sko.trans (xt b01)).trans y6,⟨rfl,k,x.1.1,wT.heap.size,HSN.out,y1,y2,by rw[hpi];exact y3,y4⟩,y5⟩;clear y1 y2 y3 y4 y5 y6 z1 z2 z3 z4 z5 z6 z7 z8 z9 HVF t0 t1 t2 b01 sko skp sB iown
       gi_wp2
       exact HFIN.out
   |ok lw =>
    rw[hwd] at HCALL;have hone:yi [x.1] (acc,n')=.ok (nd acc lw,n'+1):=by rw[yi,if_neg he,hwd];rfl
    rw[hone] at HSN;have hrl:=zek hwd;have HAND:=zH (fun (u:Value) (X:World) (h1:zi X (.slice va acc.length vc) acc) (h2:zi X u lw)=>(zbi acc lw irg hrl (.slice va acc.length vc) u X h1 h2).mono fun e w' (h:Qs X (nd acc lw) e w')=>(show ∃a' c',e=.returned (.agg #[.slice a' (nd acc lw).length c'])/\zi w' (.slice a' (nd acc lw).length c') (nd acc lw)/\(∀g,(Value.slice a' (nd acc lw).length c').ownBlock=some g->X.heap.size<=g)/\zB X w' from by obtain⟨v',he,hs,hn,hb⟩:=h;obtain⟨a',c',rfl⟩:=hs.form;exact⟨a',c',he,hs,hn,hb⟩));have HRG:=zH (YF irg hrl);clear hone hwd he hrl
    gi_wp2_with fail
    rw[HW1.out];refine⟨trivial,?_⟩;refine(CallsIn.inRound l (callsIn_wide.2 HCALL.out)).mono ?_;rintro e wP ⟨ar,nr,cr,er,rfl,hbP,hnP,hm⟩;obtain⟨rfl,hspr⟩:=hm;have a1:zB wP (wP.alloc (.cells #[.slice ar nr cr] 36)):=zF.alloc zN _;have kr:=Blk.new wP 36 #[.slice ar nr cr];have b01:zB W1 (wP.alloc (.cells #[.slice ar nr cr] 36)):=zT hbP a1;have hsp2:=ssp.below b01 zN;have hspr2:=hspr.below a1 zN;have t0:=s0.below b01 s0.lt;have t1:=s1.below b01 s1.lt;have t2:=s2.below b01 s2.lt;have t3:=s3.below b01 s3.lt;have t4:=s4.below b01 s4.lt;have HA2:=zH (HAND.out _ _ hsp2 hspr2);have q1:(wP.alloc (.cells #[.slice ar nr cr] 36)).cell? ⟨wA.heap.size,0,none⟩=some (.slice va acc.length vc):=t3.cell 0;have q2:(wP.alloc (.cells #[.slice ar nr cr] 36)).cell? ⟨wP.heap.size,0,none⟩=some (.slice ar nr cr):=kr.cell 0;clear HAND HCALL hbP hnP hspr hsp2 hspr2 a1 kr ssp s0 s1 s2 s3 s4
    gi_wp2_with fail
    refine⟨trivial,?_⟩;generalize wP.alloc (.cells #[.slice ar nr cr] 36)=W2 at *;refine(CallsIn.inRound l (callsIn_wide.2 HA2.out)).mono ?_;rintro e wN ⟨an,cn,rfl,hspn,hnn2,hbN⟩;have hW2:W.heap.size<=W2.heap.size:=by rw[<-ssz];exact b01.size
    have u0:=t0.below hbN t0.lt;have u1:=t1.below hbN t1.lt;have u2:=t2.below hbN t2.lt;have u3:=t3.below hbN t3.lt;have u4:=t4.below hbN t4.lt;have q3:_=some (Value.slice va acc.length vc):=u3.cell 0;have q4:=u3.frozen 0;have b0N:zB W1 wN:=zT b01 hbN;obtain⟨WF,hWF⟩:∃WF,wN.setCell ⟨wA.heap.size,0,none⟩ (.slice an (nd acc lw).length cn)=WF:=⟨_,rfl⟩;have hown2:∀g,(Value.slice an (nd acc lw).length cn).ownBlock=some g->w.heap.size+1+1<g/\g≠wA.heap.size/\g≠wA.heap.size+1:=fun g hg=>by have:=hnn2 g hg;omega
    have HI:Hid (PcI w wA p (pre++[x]) WF):=by
     refine⟨⟨?_,?_,?_⟩,⟨nd acc lw,n'+1,.slice an (nd acc lw).length cn,HSN.out,by rw[List.length_append];simp;exact hnl,?_,?_,HRG.out,?_,hown2⟩,?_,?_⟩
     ·rw[<-hWF];exact u0.other (by omega)
     ·rw[<-hWF];exact u1.other (by omega)
     ·rw[<-hWF];exact u2.other (by omega)
     ·rw[<-hWF];exact u3.set (i:=0)
     ·rw[<-hWF];exact hspn.set (fun e=>by have:=hown2 _ e;omega)
     ·rw[<-hWF];exact u4.other (by omega)
     ·rw[<-hWF];exact(zT sB b0N).setCell (p:=⟨wA.heap.size,0,none⟩) (by show w.heap.size<=wA.heap.size;omega) _
     ·rw[<-hWF,Qc];have:=hbN.size;omega
    have HK:Hid (KeepsOthers W WF):=by rw[<-hWF];exact(sko.trans (xt b0N)).trans (KeepsOthers.setCell _ _ _)
    have HKP:Hid (Kp2 (wA.heap.size+1+1) (wA.heap.size+1+1+1) W WF):=by rw[<-hWF];exact Y5 (Xy skp (J6 b0N (by omega) (by omega) (by omega))) (by omega) (by omega) (by omega)
    have HWF:=zH hWF;clear hspn hnn2 hbN u0 u1 u2 u3 u4 t0 t1 t2 t3 t4 b01 b0N hown2 hWF sB sko skp iown q1 q2
    gi_wp2
    rw[HWF.out];exact⟨HK.out,HKP.out,HI.out⟩
 case done =>
  rintro D ys W hD hys ⟨⟨i0,i1,i2⟩,⟨acc,n',v,hwf,hnl,i3,isp,irg,i4,iown⟩,iB,isz⟩ hK;rw[hys] at hwf;obtain⟨va,vc,rfl⟩:=isp.form;have d0:_=some (Value.int .i64 p):=i0.cell 0;have d1:_=some (Value.slice none 0 0):=i1.cell 0;have e1:=i1.frozen 0;have d2:_=some Value.nilIface:=i2.cell 0;have e2:=i2.frozen 0;have d3:_=some (Value.slice va acc.length vc):=i3.cell 0;have d4:_=some (Value.int .i64 n'):=i4.cell 0
  by_cases hn0:n'=0
  ·have HPF:Hid (xx s p=.error (3,p+s.size)):=by unfold Hid xx;rw[hwf];simp only;rw[if_pos hn0]
   have hb0:((n':Int)==0)=true:=by rw[beq_iff_eq];omega
   have hmx:Tryz.prog.follows .mixedOrders=true:=by kernel_rfl
   have hi:(p:Int)+(s.size:Int)=((p+s.size:Nat):Int):=by omega
   have m1:=i1.alloc (.cells #[.int .i64 3,.int .i64 ((p:Int)+(s.size:Int))] 86);have m2:=i2.alloc (.cells #[.int .i64 3,.int .i64 ((p:Int)+(s.size:Int))] 86);have f1:(W.alloc (.cells #[.int .i64 3,.int .i64 ((p:Int)+(s.size:Int))] 86)).cell? ⟨w.heap.size+1,0,none⟩=some (.slice none 0 0):=m1.cell 0;have f2:=m1.frozen 0;have f3:(W.alloc (.cells #[.int .i64 3,.int .i64 ((p:Int)+(s.size:Int))] 86)).cell? ⟨w.heap.size+1+1,0,none⟩=some .nilIface:=m2.cell 0;have f4:=m2.frozen 0;clear hi;have hw1:wrap64 ((p:Int)+(s.size:Int))=(p:Int)+(s.size:Int):=by unfold wrap64;omega
   have hw2:IntKind.i64.wrap ((p:Int)+(s.size:Int))=(p:Int)+(s.size:Int):=by rw[IntKind.wrap_i64];unfold wrap64 at hw1;exact hw1
   have x2:=(i2.other (b':=w.heap.size+1) (i:=0) (v:=.slice none 0 0) (by omega)).alloc (.cells #[.int .i64 3,.int .i64 ((p:Int)+(s.size:Int))] 86);have g1:((W.setCell ⟨w.heap.size+1,0,none⟩ (.slice none 0 0)).alloc (.cells #[.int .i64 3,.int .i64 ((p:Int)+(s.size:Int))] 86)).cell? ⟨w.heap.size+1+1,0,none⟩=some .nilIface:=x2.cell 0;have g2:=x2.frozen 0;have y2:=m2.other (b':=w.heap.size+1) (i:=0) (v:=.slice none 0 0) (by omega);have g3:((W.alloc (.cells #[.int .i64 3,.int .i64 ((p:Int)+(s.size:Int))] 86)).setCell ⟨w.heap.size+1,0,none⟩ (.slice none 0 0)).cell? ⟨w.heap.size+1+1,0,none⟩=some .nilIface:=y2.cell 0;have g4:=y2.frozen 0;have hlt1:w.heap.size+1<=W.heap.size:=by omega
   have SC:Hid (∀X,Below (w.heap.size+1) W X->X.cell? ⟨w.heap.size,0,none⟩=some (.int .i64 p)):=fun X hb=>(i0.below hb (Nat.lt_succ_self _)).cell 0
   gi_wp2_with fail
   refine wpIn_wide.2 ?_;go_region_held3 (fun w'=>w'.cell? ⟨w.heap.size,0,none⟩=some (.int .i64 p)) ((refine SC.out _ ?_;repeat' (first|exact Below.refl _ _|refine Below.drew ?_|refine Below.alloc ?_ (by first|exact hlt1|(simp;omega)) _|refine Below.setCell ?_ (by first|exact Nat.le_refl _|exact Nat.le_succ _) _))) (first|fail)
   ·obtain⟨WF,hWF⟩:∃WF,(((W.alloc (.cells #[.int .i64 3,.int .i64 ((p:Int)+(s.size:Int))] 86)).setCell ⟨w.heap.size+1,0,none⟩ (.slice none 0 0)).setCell ⟨w.heap.size+1+1,0,none⟩ (.iface 83 (.pointer (some ⟨W.heap.size,0,none⟩)))).drew=WF:=⟨_,rfl⟩;have p1:Blk WF (w.heap.size+1) 36 #[.slice none 0 0]:=by rw[<-hWF];exact(m1.set (i:=0) (v:=.slice none 0 0)).other (by omega)
    have p2:Blk WF (w.heap.size+1+1) 41 #[.iface 83 (.pointer (some ⟨W.heap.size,0,none⟩))]:=by rw[<-hWF];exact y2.set (i:=0) (v:=(.iface 83 (.pointer (some ⟨W.heap.size,0,none⟩))))
    have p3:Blk WF W.heap.size 86 #[.int .i64 3,.int .i64 ((p:Int)+(s.size:Int))]:=by rw[<-hWF];exact((Blk.new W 86 #[.int .i64 3,.int .i64 ((p:Int)+(s.size:Int))]).other (by omega)).other (by omega)
    have hWB:zB w WF:=by rw[<-hWF];exact(((zL iB).setCell (p:=⟨w.heap.size+1,0,none⟩) (Nat.le_succ _) _).setCell (p:=⟨w.heap.size+1+1,0,none⟩) (by show w.heap.size<=w.heap.size+1+1;omega) _).drew
    have hWK:WF.heap[D]?=some (.deferred (some [])):=by rw[<-hWF];exact((((KeepsOthers.alloc _ _).trans (KeepsOthers.setCell _ _ _)).trans (KeepsOthers.setCell _ _ _)).trans (KeepsOthers.drew _)).same D _ hK rfl
    have hND:W.heap.size≠D:=fun e=>by have:=(Array.getElem?_eq_some_iff.1 hK).1;omega
    have q1:=p1.put (l:=D) (o':=.deferred none) (by omega);have q2:=p2.put (l:=D) (o':=.deferred none) (by omega);have q3:=p3.put (l:=D) (o':=.deferred none) hND;have HQ1:=zH q1;have HQ2:=zH q2;have HQ3:=zH q3;have HWB:=zH hWB;have HWK:=zH hWK;have hle:=iB.size;have HLE:=zH hle;rw[hWF];clear i0 i1 i2 i3 i4 isp iown iB hK hWB hWK p1 p2 p3 q1 q2 q3 hWF hwf hys j0 j1 j2 j3 j4 j5 j6 hsp0 f1 f2 f3 f4 g1 g2 g3 g4 m1 m2 x2 y2 hle
    gi_wp2
    refine⟨by simp,.inl ⟨_,_,rfl,run_takeDeferred HWK.out,?_⟩⟩;have r1:=HQ1.out.cell 0;have r2:=HQ2.out.cell 0;refine⟨.tuple #[.agg #[.slice none 0 0],.iface 83 (.pointer (some ⟨W.heap.size,0,none⟩))],?_,?_⟩
    ·simp[results,Tryz.f85,go_sem,r1,r2]
    ·rw[HPF.out];exact⟨W.heap.size,rfl,HQ3.out,HLE.out,HWB.out.trans (belowK_b (w:=w) zN WF D _ _ (by omega) HWK.out rfl rfl)⟩
   ·obtain⟨WF,hWF⟩:∃WF,(((W.setCell ⟨w.heap.size+1,0,none⟩ (.slice none 0 0)).alloc (.cells #[.int .i64 3,.int .i64 ((p:Int)+(s.size:Int))] 86)).setCell ⟨w.heap.size+1+1,0,none⟩ (.iface 83 (.pointer (some ⟨W.heap.size,0,none⟩)))).drew=WF:=⟨_,rfl⟩;have p1:Blk WF (w.heap.size+1) 36 #[.slice none 0 0]:=by rw[<-hWF];exact((i1.set (i:=0) (v:=.slice none 0 0)).alloc _).other (by omega)
    have p2:Blk WF (w.heap.size+1+1) 41 #[.iface 83 (.pointer (some ⟨W.heap.size,0,none⟩))]:=by rw[<-hWF];exact x2.set (i:=0) (v:=(.iface 83 (.pointer (some ⟨W.heap.size,0,none⟩))))
    have p3:Blk WF W.heap.size 86 #[.int .i64 3,.int .i64 ((p:Int)+(s.size:Int))]:=by rw[<-hWF];exact(show Blk _ W.heap.size _ _ from (by have:=Blk.new (W.setCell ⟨w.heap.size+1,0,none⟩ (.slice none 0 0)) 86 #[.int .i64 3,.int .i64 ((p:Int)+(s.size:Int))];rw[Qc] at this;exact this)).other (by omega)
    have hWB:zB w WF:=by rw[<-hWF];exact(((iB.setCell (p:=⟨w.heap.size+1,0,none⟩) (Nat.le_succ _) _).alloc (by rw[Qc];exact iB.size) _).setCell (p:=⟨w.heap.size+1+1,0,none⟩) (by show w.heap.size<=w.heap.size+1+1;omega) _).drew
    have hWK:WF.heap[D]?=some (.deferred (some [])):=by rw[<-hWF];exact((((KeepsOthers.setCell _ _ _).trans (KeepsOthers.alloc _ _)).trans (KeepsOthers.setCell _ _ _)).trans (KeepsOthers.drew _)).same D _ hK rfl
    have hND:W.heap.size≠D:=fun e=>by have:=(Array.getElem?_eq_some_iff.1 hK).1;omega
    have q1:=p1.put (l:=D) (o':=.deferred none) (by omega);have q2:=p2.put (l:=D) (o':=.deferred none) (by omega);have q3:=p3.put (l:=D) (o':=.deferred none) hND;have HQ1:=zH q1;have HQ2:=zH q2;have HQ3:=zH q3;have HWB:=zH hWB;have HWK:=zH hWK;have hle:=iB.size;have HLE:=zH hle;rw[hWF];clear i0 i1 i2 i3 i4 isp iown iB hK hWB hWK p1 p2 p3 q1 q2 q3 hWF hwf hys j0 j1 j2 j3 j4 j5 j6 hsp0 f1 f2 f3 f4 g1 g2 g3 g4 m1 m2 x2 y2 hle
    gi_wp2
    refine⟨by simp,.inl ⟨_,_,rfl,run_takeDeferred HWK.out,?_⟩⟩;have r1:=HQ1.out.cell 0;have r2:=HQ2.out.cell 0;refine⟨.tuple #[.agg #[.slice none 0 0],.iface 83 (.pointer (some ⟨W.heap.size,0,none⟩))],?_,?_⟩
    ·simp[results,Tryz.f85,go_sem,r1,r2]
    ·rw[HPF.out];exact⟨W.heap.size,rfl,HQ3.out,HLE.out,HWB.out.trans (belowK_b (w:=w) zN WF D _ _ (by omega) HWK.out rfl rfl)⟩
  ·have HPF:Hid (xx s p=.ok acc):=by unfold Hid xx;rw[hwf];simp only;rw[if_neg hn0]
   have hb0:((n':Int)==0)=false:=by rw[beq_eq_false_iff_ne];omega
   obtain⟨WF,hWF⟩:∃WF,(W.setCell ⟨w.heap.size+1,0,none⟩ (.slice va acc.length vc)).setCell ⟨w.heap.size+1+1,0,none⟩ .nilIface=WF:=⟨_,rfl⟩;have hWB:zB w WF:=by rw[<-hWF];exact(iB.setCell (p:=⟨w.heap.size+1,0,none⟩) (Nat.le_succ _) _).setCell (p:=⟨w.heap.size+1+1,0,none⟩) (by show w.heap.size<=w.heap.size+1+1;omega) _
   have hWK:WF.heap[D]?=some (.deferred (some [])):=by rw[<-hWF];exact((KeepsOthers.setCell _ _ _).trans (KeepsOthers.setCell _ _ _)).same D _ hK rfl
   have p1:Blk WF (w.heap.size+1) 36 #[.slice va acc.length vc]:=by rw[<-hWF];exact(i1.set (i:=0)).other (by omega)
   have p2:Blk WF (w.heap.size+1+1) 41 #[.nilIface]:=by rw[<-hWF];exact(i2.other (by omega)).set (i:=0)
   have psp:zi WF (.slice va acc.length vc) acc:=by rw[<-hWF];exact(isp.set (fun e=>by have:=iown _ e;omega)).set (fun e=>by have:=iown _ e;omega)
   have q1:=p1.put (l:=D) (o':=.deferred none) (by omega);have q2:=p2.put (l:=D) (o':=.deferred none) (by omega);have qsp:zi (WF.putObj D (.deferred none)) (.slice va acc.length vc) acc:=Xk psp (grownBy_putObj' _ D (.deferred none)) (fun r e=>by cases e;exact⟨_,hWK,rfl⟩);have HQ1:=zH q1;have HQ2:=zH q2;have HQS:=zH qsp;have HWB:=zH hWB;have HWK:=zH hWK;have HWF:=zH hWF;have HOWN:Hid (∀g,(Value.slice va acc.length vc).ownBlock=some g->w.heap.size<=g):=fun g hg=>by have:=iown _ hg;omega
   clear i0 i1 i2 i3 i4 isp iown iB hK hWB hWK p1 p2 psp q1 q2 qsp hWF hwf hys j0 j1 j2 j3 j4 j5 j6 hsp0
   gi_wp2
   rw[HWF.out];refine⟨by simp,.inl ⟨_,_,rfl,run_takeDeferred HWK.out,?_⟩⟩;have r1:=HQ1.out.cell 0;have r2:=HQ2.out.cell 0;refine⟨.tuple #[.agg #[.slice va acc.length vc],.nilIface],?_,?_⟩
   ·simp[results,Tryz.f85,go_sem,r1,r2]
   ·rw[HPF.out];exact⟨_,rfl,HQS.out,HOWN.out,HWB.out.trans (belowK_b (w:=w) zN WF D _ _ (by omega) HWK.out rfl rfl)⟩
 case stop =>
  rintro D c pre W hD hpre ⟨⟨rfl,k,i,N,hwf,x1,x2,x3,x4⟩,xB⟩ hK;obtain⟨rest,hrest⟩:=hpre;have hwf2:=zeZ (zW pre) rest (zr,0);rw[hwf,hrest] at hwf2;have HPF:Hid (xx s p=.error (k,p+i)):=by unfold Hid xx;rw[hwf2]
  have hND:N≠D:=fun e=>by
   subst e;have:=(show W.heap[N]?=_ from x3).symm.trans hK;simp at this
  have q1:=x1.put (l:=D) (o':=.deferred none) (by omega);have q2:=x2.put (l:=D) (o':=.deferred none) (by omega);have q3:=x3.put (l:=D) (o':=.deferred none) hND;have r1:=q1.cell 0;have r2:=q2.cell 0;have HQ3:=zH q3;have HB:=zH xB;have HX4:=zH x4;clear hwf hwf2 hrest x1 x2 x3 x4 q1 q2 q3 xB hND j0 j1 j2 j3 j4 j5 j6 hsp0
  gi_wp2
  refine⟨by simp,.inl ⟨_,_,rfl,run_takeDeferred hK,?_⟩⟩;refine⟨.tuple #[.agg #[.slice none 0 0],.iface 83 (.pointer (some ⟨N,0,none⟩))],?_,?_⟩
  ·simp[results,Tryz.f85,go_sem,r1,r2]
  ·rw[HPF.out];exact⟨N,rfl,HQ3.out,HX4.out,HB.out.trans (belowK_b (w:=w) zN W D _ _ (by omega) hK rfl rfl)⟩
end Go.Proofs.YtapobpgbcbplbaaGreatDoor
