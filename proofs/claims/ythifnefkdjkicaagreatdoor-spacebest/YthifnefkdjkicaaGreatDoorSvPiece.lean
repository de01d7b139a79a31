import Derived.Test.YthifnefkdjkicaaGreatDoorSpEithP
set_option maxHeartbeats 2000000
set_option maxRecDepth 100000
namespace Go.Proofs.YthifnefkdjkicaaGreatDoor
open Go.RowKit Go.Shelf Sv
attribute [local go_sem] Oper.semAt_some
def qF:List (Nat × ByteArray)->List zf × Nat->Except (Int × Nat) (List zf × Nat)
 |[],st=>.ok st
 |x :: r,st=>if x.2.toList=[] then qF r st else match xS x.2 with
  |.error k=>.error (k,x.1)
  |.ok l=>qF r (nd st.1 l,st.2+1)
theorem Kt(l r:List (Nat × ByteArray)):∀(st:List zf × Nat),qF (l++r) st=match qF l st with
  |.error e=>.error e
  |.ok st'=>qF r st':=by
 induction l with
 |nil=>intro st;rfl
 |cons x l ih =>
  intro st;rw[List.cons_append,qF,qF];split
  ·exact ih st
  ·split
   ·rfl
   ·exact ih _
def yO(s:ByteArray)(at':Nat):Except (Int × Nat) (List zf) :=
 match qF (zq s ⟨#[32]⟩ s.size 0) (zn,0) with
 |.error (k,i)=>.error (k,at'+i)
 |.ok (acc,n)=>if n=0 then .error (3,at'+s.size) else .ok acc
theorem ziP:∀{l:List (Nat × ByteArray)} {st st':List zf × Nat},Rg st.1->qF l st=.ok st'->Rg st'.1:=by
 intro l
 induction l with
 |nil=>intro st st' h e;cases e;exact h
 |cons x l ih =>
  intro st st' h e;unfold qF at e;split at e
  ·exact ih h e
  ·split at e
   ·cases e
   ·rename_i l' hl;exact ih (st:=(nd st.1 l',st.2+1)) (Qg h (za2 hl)) e
theorem zen{s:ByteArray}{p:Nat}{l:List zf}(h:yO s p=.ok l):Rg l:=by
 unfold yO at h;split at h
 ·cases h
 ·rename_i hw;split at h
  ·cases h
  ·cases h;exact ziP (st:=(zn,0)) XG hw
def zhj(w':World)(v er:Value):Except Int (List zf)->Prop
 |.ok l=>er=.nilIface/\zk w' v l
 |.error k=>er=.iface 42 (.int .i64 k)/\v=.slice none 0 0
theorem zm0(s:ByteArray)(W:World)(hs:s.size<=100000)(hw:Lb W):zC 157 #[s] W fun e w'=>∃a' n' c' er,e=.returned (.tuple #[.agg #[.slice a' n' c'],er])/\zB W w'/\(∀g,(Value.slice a' n' c').ownBlock=some g->W.heap.size<=g)/\zhj w' (.slice a' n' c') er (xS s):=(zgu s W hs hw).mono fun e w' h=>by
 unfold yN at h;cases hx:xS s with
 |ok l =>rw[hx] at h;obtain⟨v',he,h1,h2,h3⟩:=h;obtain⟨a',c',rfl⟩:=h1.form;exact⟨a',_,c',_,he,h3,h2,rfl,h1⟩
 |error k =>rw[hx] at h;obtain⟨he,h3⟩:=h;exact⟨none,0,0,_,he,h3,fun g hg=>by simp[Value.ownBlock] at hg,rfl,rfl⟩
theorem XI{W W':World}{row:Option Nat}{v:Value}{l:List zf}(h:zk W v l)(hg:W.grownBy W' row)(hr:∀r,row=some r->∃o:Obj,W.heap[r]?=some o/\o.isCells=false):zk W' v l :=
 ⟨h.form,fun i hi=>by
  obtain⟨g,j,e,p,c0,c1⟩:=h.cells i hi;exact ⟨g,j,e,Nat.lt_of_lt_of_le p hg.size,cell_kept c0 hg hr,cell_kept c1 hg hr⟩⟩
theorem zdc(s m:ByteArray):∀(f k:Nat),(zq s m f k).length<=f+1:=by
 intro f
 induction f with
 |zero=>intro k;simp[zq]
 |succ f ih =>
  intro k;rw[zq];split
  ·simp
  ·simp only[List.length_cons];have:=ih (k+(Lib.index (s.extract k s.size).data.toList m.data.toList).toNat+m.size);omega
def XX(w:World)(x:Except (Int × Nat) (List zf))(e:Ending)(w':World):Prop :=
 match x with
 |.ok l=>∃v',e=.returned (.tuple #[.agg #[v'],.nilIface])/\zk w' v' l/\(∀g,v'.ownBlock=some g->w.heap.size<=g)/\zB w w'
 |.error (k,p)=>∃N,e=.returned (.tuple #[.agg #[.slice none 0 0],.iface 100 (.pointer (some ⟨N,0,none⟩))])/\Blk w' N 102 #[k,p]/\w.heap.size<=N/\zB w w'
theorem Ye(W:World)(a:Addr)(v:Value):(W.setCell a v).heap.size=W.heap.size:=by simp[World.setCell]
def PcI(w wA:World)(p:Nat)(pre:List Pc)(W:World):Prop :=
 (Blk W w.heap.size 3 #[p]/\Blk W (w.heap.size+1) 95 #[.slice none 0 0]/\Blk W (w.heap.size+1+1) 33 #[.nilIface]) /\
 (∃j n v,qF (zZ pre) (zn,0)=.ok (j,n)/\n<=pre.length/\Blk W wA.heap.size 95 #[v]/\zk W v j/\Rg j/\Blk W (wA.heap.size+1) 3 #[.int .i64 n]/\(∀g,v.ownBlock=some g->w.heap.size+1+1<g/\g≠wA.heap.size/\g≠wA.heap.size+1)) /\
 zB w W/\wA.heap.size+1+1+1+1<=W.heap.size
def PcX(w:World)(p:Nat)(c:Code)(pre:List Pc)(W:World):Prop :=
 (c=.ret/\∃k i N,qF (zZ pre) (zn,0)=.error (k,i)/\Blk W (w.heap.size+1) 95 #[.slice none 0 0]/\Blk W (w.heap.size+1+1) 33 #[.iface 100 (.pointer (some ⟨N,0,none⟩))]/\Blk W N 102 #[.int .i64 k,.int .i64 ((p+i:Nat):Int)]/\w.heap.size<=N) /\
 zB w W
theorem yo{W W':World}{row:Option Nat}{b:Nat}{t:TypeId}{cs:Array Value}(h:Blk W b t cs)(hg:W.grownBy W' row)(hr:∀r,row=some r->∃o:Obj,W.heap[r]?=some o/\o.isCells=false):Blk W' b t cs:=Yg b t (fun _:Unit=>cs) () W W' row h hg hr
theorem zmC(w wA:World)(p B:Nat)(hB:w.heap.size<=B):OwnFrom B (PcI w wA p):=by
 intro j W W' row ⟨⟨h0,h1,h2⟩,⟨acc,n,v,h3,h4,h5,h6,h7,h8,h9⟩,h10,h11⟩ hg hr;have hr':∀r,row=some r->∃o:Obj,W.heap[r]?=some o/\o.isCells=false:=fun r e=>(hr r e).2;exact⟨⟨yo h0 hg hr',yo h1 hg hr',yo h2 hg hr'⟩,⟨acc,n,v,h3,h4,yo h5 hg hr',XI h6 hg hr',h7,yo h8 hg hr',h9⟩,ownFrom_below (β:=Unit) zN hB () W W' row h10 hg hr,Nat.le_trans h11 hg.size⟩
theorem zhy(w:World)(p B:Nat)(hB:w.heap.size<=B):∀c,OwnFrom B (PcX w p c):=by
 intro c j W W' row ⟨⟨hc,k,i,N,h1,h2,h3,h4,h5⟩,h6⟩ hg hr;have hr':∀r,row=some r->∃o:Obj,W.heap[r]?=some o/\o.isCells=false:=fun r e=>(hr r e).2;exact⟨⟨hc,k,i,N,h1,yo h2 hg hr',yo h3 hg hr',yo h4 hg hr',h5⟩,ownFrom_below (β:=Unit) zN hB () W W' row h6 hg hr⟩
theorem zel{w W2 wT:World}{p k:Int}{i:Int}(t1:Blk W2 (w.heap.size+1) 95 #[.slice none 0 0])(t2:Blk W2 (w.heap.size+1+1) 33 #[.nilIface])(hb:zB w W2)(hbT:zB W2 wT) :
  (Blk wT (w.heap.size+1) 95 #[.slice none 0 0]/\Blk (wT.alloc (.cells #[k,.int .i64 (p+i)] 102)) (w.heap.size+1) 95 #[.slice none 0 0]/\Blk ((wT.setCell ⟨w.heap.size+1,0,none⟩ (.slice none 0 0)).alloc (.cells #[k,.int .i64 (p+i)] 102)) (w.heap.size+1+1) 33 #[.nilIface]/\Blk ((wT.alloc (.cells #[k,.int .i64 (p+i)] 102)).setCell ⟨w.heap.size+1,0,none⟩ (.slice none 0 0)) (w.heap.size+1+1) 33 #[.nilIface]) /\
  (∀ XF,(XF=(((wT.alloc (.cells #[k,.int .i64 (p + i)] 102)).setCell ⟨w.heap.size + 1,0,none⟩ (.slice none 0 0)).setCell ⟨w.heap.size + 1 + 1,0,none⟩ (.iface 100 (.pointer (some wT.heap.size))))\/XF=(((wT.setCell ⟨w.heap.size + 1,0,none⟩ (.slice none 0 0)).alloc (.cells #[k,.int .i64 (p + i)] 102)).setCell ⟨w.heap.size + 1 + 1,0,none⟩ (.iface 100 (.pointer (some wT.heap.size))))) ->
   Blk XF (w.heap.size + 1) 95 #[.slice none 0 0]/\Blk XF (w.heap.size + 1 + 1) 33 #[.iface 100 (.pointer (some wT.heap.size))]/\Blk XF wT.heap.size 102 #[k,.int .i64 (p + i)]/\w.heap.size<=wT.heap.size/\zB w XF/\KeepsOthers W2 XF):=by
 have u1:=t1.below hbT t1.lt;have u2:=t2.below hbT t2.lt;have j:zB w wT:=zT hb hbT;have hl:=u2.lt;have m1:=u1.alloc (.cells #[k,.int .i64 (p+i)] 102);have m2:=(u2.other (b':=w.heap.size+1) (i:=0) (v:=.slice none 0 0) (by omega)).alloc (.cells #[k,.int .i64 (p+i)] 102);have m3:=(u2.alloc (.cells #[k,.int .i64 (p+i)] 102)).other (b':=w.heap.size+1) (i:=0) (v:=.slice none 0 0) (by omega);refine⟨⟨u1,m1,m2,m3⟩,?_⟩;rintro XF (rfl|rfl)
 ·exact⟨(m1.set (i:=0) (v:=.slice none 0 0)).other (by omega),m3.set (i:=0),((Blk.new wT 102 #[k,.int .i64 (p+i)]).other (by omega)).other (by omega),by omega,((zL j).setCell (p:=⟨w.heap.size+1,0,none⟩) (Nat.le_succ _) _).setCell (p:=⟨w.heap.size+1+1,0,none⟩) (by show w.heap.size<=w.heap.size+1+1;omega) _,(((x9 hbT).trans (KeepsOthers.alloc _ _)).trans (KeepsOthers.setCell _ _ _)).trans (KeepsOthers.setCell _ _ _)⟩
 ·have hn:=Blk.new (wT.setCell ⟨w.heap.size+1,0,none⟩ (.slice none 0 0)) 102 #[k,.int .i64 (p+i)];rw[Ye] at hn;exact⟨((u1.set (i:=0) (v:=.slice none 0 0)).alloc _).other (by omega),m2.set (i:=0),hn.other (by omega),by omega,((j.setCell (p:=⟨w.heap.size+1,0,none⟩) (Nat.le_succ _) _).alloc (by rw[Ye];exact j.size) _).setCell (p:=⟨w.heap.size+1+1,0,none⟩) (by show w.heap.size<=w.heap.size+1+1;omega) _,(((x9 hbT).trans (KeepsOthers.setCell _ _ _)).trans (KeepsOthers.alloc _ _)).trans (KeepsOthers.setCell _ _ _)⟩
theorem zgp(s:ByteArray)(p:Nat)(hp:p<=100000)(w:World)(hs:s.size<=100000)(hw:Lb w) :
  CallsIn Fence.wide 4 Tryz.prog 113 #[s,p] w (XX w (yO s p)):=by
 have HA:Hid (∀W,CallsIn Fence.wide 3 Tryz.prog 156 #[] W fun e w'=>∃a' c',e=.returned (.agg #[.slice a' zn.length c'])/\zk w' (.slice a' zn.length c') zn/\(∀g,(Value.slice a' zn.length c').ownBlock=some g->W.heap.size<=g)/\zB W w'):=fun W=>callsIn_wide.2 ((YT W).mono fun e w' ⟨v',he,hs,hn,hb⟩=>by obtain⟨a',c',rfl⟩:=hs.form;exact⟨a',c',he,hs,hn,hb⟩);have HP:Hid (∀W,CallsIn Fence.wide 3 Tryz.prog 111 #[s,.string ⟨#[32]⟩] W fun e w'=>e=.returned (.func (.func 155) #[] #[.pointer (some W.heap.size),.pointer (some ⟨W.heap.size+1,0,none⟩)])/\w'=(W.alloc (.cells #[s] 9)).alloc (.cells #[.string ⟨#[32]⟩] 9)):=fun W=>zbZ s ⟨#[32]⟩ W;have HL:=zH hw;have bi:=hw.big;clear hw;refine callsIn_of_wp_marks Tryz.func113 rfl trivial ?_ rfl;simp only[Tryz.ntmps113,List.size_toArray,List.length_cons,List.length_nil,Nat.reduceAdd,Nat.reduceSub,Array.replicate_succ,Array.replicate_zero,List.push_toArray,List.append_toArray,List.nil_append,List.cons_append]
 gi_wp2_with fail
 have k0:=((Blk.new w 3 #[p]).alloc (.cells #[.slice none 0 0] 95)).alloc (.cells #[.nilIface] 33);have k1:=(Blk.new (w.alloc (.cells #[p] 3)) 95 #[.slice none 0 0]).alloc (.cells #[.nilIface] 33);have k2:=Blk.new ((w.alloc (.cells #[p] 3)).alloc (.cells #[.slice none 0 0] 95)) 33 #[.nilIface];simp only[zA0] at k1 k2;have ay:zB w (((w.alloc (.cells #[p] 3)).alloc (.cells #[.slice none 0 0] 95)).alloc (.cells #[.nilIface] 33)):=(((Below.refl _ w).alloc zN _).alloc (by simp only[zA0];omega) _).alloc (by simp only[zA0];omega) _;generalize ((w.alloc (.cells #[p] 3)).alloc (.cells #[.slice none 0 0] 95)).alloc (.cells #[.nilIface] 33)=Wa at *;refine⟨trivial,?_⟩;refine(HA.out _).mono ?_;rintro e wA ⟨a0,c0,rfl,aS,b1,ao⟩;have j0:=k0.below ao k0.lt;have j1:=k1.below ao k1.lt;have j2:=k2.below ao k2.lt;have aY:zB w wA:=zT ay ao;have b8:=zH j0;have b9:=zH j1;have ba:=zH j2;have aW:=zH aY;have be:=zH aS;have aO:w.heap.size+1+1<Wa.heap.size:=k2.lt;have ae:∀ g,(Value.slice a0 zn.length c0).ownBlock=some g->w.heap.size + 1 + 1<g/\g<wA.heap.size:=fun g hg=>⟨Nat.lt_of_lt_of_le aO (b1 g hg),by
  obtain⟨g',bg,e',bj,-,-⟩:=aS.cells 0 (by decide);rw[e'] at hg;simp[Value.ownBlock] at hg;omega⟩
 have aq:=zH ae;have bo:w.heap.size+1+1<wA.heap.size:=Nat.lt_of_lt_of_le aO ao.size;clear k0 k1 k2 ay HA aS b1 ao j0 j1 j2 aY ae aO
 gi_wp2_with (refine⟨trivial,?_⟩;gi_at_call 111;refine(HP.out _).mono ?_;rintro e w' ⟨rfl,rfl⟩)
 have j0:=(((b8.out.alloc (.cells #[.slice a0 zn.length c0] 95)).alloc (.cells #[(0:Int)] 3)).alloc (.cells #[s] 9)).alloc (.cells #[.string ⟨#[32]⟩] 9);have j1:=(((b9.out.alloc (.cells #[.slice a0 zn.length c0] 95)).alloc (.cells #[(0:Int)] 3)).alloc (.cells #[s] 9)).alloc (.cells #[.string ⟨#[32]⟩] 9);have j2:=(((ba.out.alloc (.cells #[.slice a0 zn.length c0] 95)).alloc (.cells #[(0:Int)] 3)).alloc (.cells #[s] 9)).alloc (.cells #[.string ⟨#[32]⟩] 9);have j3:=(((Blk.new wA 95 #[.slice a0 zn.length c0]).alloc (.cells #[(0:Int)] 3)).alloc (.cells #[s] 9)).alloc (.cells #[.string ⟨#[32]⟩] 9);have j4:=((Blk.new (wA.alloc (.cells #[.slice a0 zn.length c0] 95)) 3 #[(0:Int)]).alloc (.cells #[s] 9)).alloc (.cells #[.string ⟨#[32]⟩] 9);have j5:=(Blk.new ((wA.alloc (.cells #[.slice a0 zn.length c0] 95)).alloc (.cells #[(0:Int)] 3)) 9 #[s]).alloc (.cells #[.string ⟨#[32]⟩] 9);have j6:=Blk.new (((wA.alloc (.cells #[.slice a0 zn.length c0] 95)).alloc (.cells #[(0:Int)] 3)).alloc (.cells #[s] 9)) 9 #[.string ⟨#[32]⟩];simp only[zA0] at j4 j5 j6;have ah:zB wA ((((wA.alloc (.cells #[.slice a0 zn.length c0] 95)).alloc (.cells #[(0:Int)] 3)).alloc (.cells #[s] 9)).alloc (.cells #[.string ⟨#[32]⟩] 9)):=((((Below.refl _ wA).alloc zN _).alloc (by simp only[zA0];omega) _).alloc (by simp only[zA0];omega) _).alloc (by simp only[zA0];omega) _;have bl:((((wA.alloc (.cells #[.slice a0 zn.length c0] 95)).alloc (.cells #[(0:Int)] 3)).alloc (.cells #[s] 9)).alloc (.cells #[.string ⟨#[32]⟩] 9)).heap.size=wA.heap.size+1+1+1+1:=by simp only[zA0]
 obtain⟨W0,aZ⟩:∃W0,(((wA.alloc (.cells #[.slice a0 zn.length c0] 95)).alloc (.cells #[(0:Int)] 3)).alloc (.cells #[s] 9)).alloc (.cells #[.string ⟨#[32]⟩] 9)=W0:=⟨_,rfl⟩;rw[aZ] at j0 j1 j2 j3 j4 j5 j6 ah bl ⊢;clear aZ;have ay:zB w W0:=zT aW.out ah;have V:zk W0 (.slice a0 zn.length c0) zn:=be.out.below ah zN;obtain⟨n,hn⟩:=(HL.out.below ay).ml;have c5:_=some (Value.string s):=j5.cell 0;have c6:_=some (Value.string ⟨#[32]⟩):=j6.cell 0;have br:=aW.out.size;refine wpIn_rangeFunc_ownF rfl (by omega) (gf:=155) (lb:=#[.pointer (some ⟨wA.heap.size+1+1,0,none⟩),.pointer (some ⟨wA.heap.size+1+1+1,0,none⟩)]) rfl trivial (enters_of Tryz.func155 (by kernel_rfl) rfl)
  (zbb (wA.heap.size+1+1) (wA.heap.size+1+1+1) s ⟨#[32]⟩ hs (by decide) W0 (by omega) (by omega) (by omega) c5 c6 n hn) Kk (zbw (by omega) (by omega) (by omega)) zF (fun _=>rfl)
  (fun Y W=>PcI w wA p Y W)
  (fun c Y W=>PcX w p c Y W)
  (zmC w wA p W0.heap.size (by omega)) (zhy w p W0.heap.size (by omega))
  ⟨⟨j0,j1,j2⟩,⟨zn,0,_,rfl,Nat.zero_le _,j3,V,XG,j4,fun g hg=>by have:=aq.out g hg;omega⟩,ay,by omega⟩
  (fun x=>{ tmps:=#[.string s,.int .i64 p,undef,.pointer (some w.heap.size),.pointer (some ⟨w.heap.size+1,0,none⟩),.pointer (some ⟨w.heap.size+1+1,0,none⟩),.pointer (some wA.heap.size),.pointer (some ⟨wA.heap.size+1,0,none⟩),.int .i64 x.1.1,.string x.1.2,undef,undef,.agg #[.slice a0 zn.length c0],.string s,.func (.func 155) #[] #[.pointer (some ⟨wA.heap.size+1+1,0,none⟩),.pointer (some ⟨wA.heap.size+1+1+1,0,none⟩)],.int .i64 x.1.1,.string x.1.2,undef,undef,undef,undef,undef,undef,undef,undef,undef,undef,undef,undef,undef,undef,undef,undef,undef,undef,undef,undef,undef,undef,undef,undef,undef,undef,undef,undef,undef,undef,undef,undef,undef,undef],defers:=[] }) ?assign ?body ?done ?stop
 case assign =>
  intro l x W K hK
  gi_wp2
  exact hK
 case body =>
  rintro l Y x W ⟨⟨i0,i1,i2⟩,⟨q,n',v,a2,b2,i3,a7,aI,i4,C⟩,iB,b4⟩ hlen;obtain⟨va,vc,rfl⟩:=a7.form;have bq:=zdc s ⟨#[32]⟩ s.size 0;have bs:=x.2.1;have aT:=Kt (zZ Y) [x.1] (zn,0);rw[a2] at aT;have a4:Hid (qF (zZ (Y++[x])) (zn,0)=qF [x.1] (q,n')):=by show _=_;rw[zZ,List.map_append];exact aT
  clear aT a2
  by_cases he:x.1.2.toList=[]
  ·have hz:x.1.2.toList.isEmpty=true:=by rw[he];rfl
   have U:qF [x.1] (q,n')=.ok (q,n'):=by rw[qF,zA2 he];rfl
   rw[U] at a4;have HI:Hid (PcI w wA p (Y++[x]) W):=⟨⟨i0,i1,i2⟩,⟨q,n',_,a4.out,by rw[List.length_append];omega,i3,a7,aI,i4,C⟩,iB,b4⟩;clear i0 i1 i2 i3 a7 i4 C iB U a4 j0 j1 j2 j3 j4 j5 j6 V
   gi_wp2
   exact⟨KeepsOthers.refl _,⟨rfl,rfl,rfl⟩,HI.out⟩
  ·have hz:x.1.2.toList.isEmpty=false:=by
    cases h:x.1.2.toList with
    |nil=>exact absurd h he
    |cons a t=>rfl
   have d4:_=some (Value.int .i64 n'):=i4.cell 0;have e4:=i4.frozen 0;have b3:(n':Int)+1=((n'+1:Nat):Int):=by omega
   -- words++
   obtain⟨W1,Z⟩:∃W1,W.setCell ⟨wA.heap.size+1,0,none⟩ (.int .i64 ((n':Int)+1))=W1:=⟨_,rfl⟩;have s0:Blk W1 w.heap.size 3 #[p]:=by rw[<-Z];exact i0.other (by omega)
   have s1:Blk W1 (w.heap.size+1) 95 #[.slice none 0 0]:=by rw[<-Z];exact i1.other (by omega)
   have s2:Blk W1 (w.heap.size+1+1) 33 #[.nilIface]:=by rw[<-Z];exact i2.other (by omega)
   have s3:Blk W1 wA.heap.size 95 #[.slice va q.length vc]:=by rw[<-Z];exact i3.other (by omega)
   have s4:Blk W1 (wA.heap.size+1) 3 #[.int .i64 ((n'+1:Nat):Int)]:=by rw[<-Z,<-b3];exact i4.set (i:=0)
   have aV:zk W1 (.slice va q.length vc) q:=by rw[<-Z];exact a7.set (fun e=>(C _ e).2.2 rfl)
   have sB:zB w W1:=by rw[<-Z];exact iB.setCell (p:=⟨wA.heap.size+1,0,none⟩) (by show w.heap.size<=wA.heap.size+1;omega) _
   have bn:W1.heap.size=W.heap.size:=by rw[<-Z];exact Ye _ _ _
   have a3:KeepsOthers W W1:=by rw[<-Z];exact KeepsOthers.setCell _ _ _
   have aj:Kp2 (wA.heap.size+1+1) (wA.heap.size+1+1+1) W W1:=by rw[<-Z];exact Xy ⟨rfl,rfl,rfl⟩ (by omega) (by omega) (by omega)
   have aX:=zH Z;have M:=zH (zm0 x.1.2 W1 x.2.2 (HL.out.below sB));clear i0 i1 i2 i3 i4 a7 iB Z b3 j0 j1 j2 j3 j4 j5 j6 V;cases hwd:xS x.1.2 with
   |error k =>
    rw[hwd] at M;have U:qF [x.1] (q,n')=.error (k,x.1.1):=by rw[qF,zA1 he,hwd]
    rw[U] at a4;have hk:zR 157 #[x.1.2] W1 (.tuple #[.agg #[.slice none 0 0],.iface 42 (.int .i64 k)]):=M.out.mono fun e w' ⟨a',n'',c',er,h1,h2,h3,h4,h5⟩=>by rw[h4,h5] at h1;exact⟨h1,h2⟩
    have HK:=zH hk;clear hk U hwd he M aI aV
    gi_wp2_with fail
    rw[aX.out];refine⟨trivial,?_⟩;refine(CallsIn.inRound l (callsIn_wide.2 HK.out)).mono ?_;rintro e wP ⟨rfl,az⟩;have b0:Tryz.prog.follows .mixedOrders=true:=by kernel_rfl
    have a1:zB wP (wP.alloc (.cells #[.slice none 0 0] 95)):=zF.alloc zN _;have J:zB W1 (wP.alloc (.cells #[.slice none 0 0] 95)):=zT az a1;have t0:=s0.below J s0.lt;have t1:=s1.below J s1.lt;have t2:=s2.below J s2.lt;have q1:(wP.alloc (.cells #[.slice none 0 0] 95)).cell? w.heap.size=some (.int .i64 p):=t0.cell 0;have a8:Hid (zB w (wP.alloc (.cells #[.slice none 0 0] 95))):=zT sB J;have aa:Hid (∀X,zB w X->zR 40 #[.iface 42 (.int .i64 k)] X (.int .i64 k)):=fun X hb=>JT k X (HL.out.below hb).glob;have aH:wrap64 ((p:Int)+(x.1.1:Int))=(p:Int)+(x.1.1:Int):=by unfold wrap64;omega
    have bm:IntKind.i64.wrap ((p:Int)+(x.1.1:Int))=(p:Int)+(x.1.1:Int):=by rw[IntKind.wrap_i64];unfold wrap64 at aH;exact aH
    clear az HK a1 s0 s1 s2 s3 s4
    gi_wp2_with fail
    generalize wP.alloc (.cells #[.slice none 0 0] 95)=W2 at *;have aD:((p+x.1.1:Nat):Int)=(p:Int)+(x.1.1:Int):=by omega
    refine zfu b0 ?nd ?any
    case nd =>intro j o h c hc;have hm:=Array.mem_of_getElem? h;simp at hm;rcases hm with rfl|rfl|rfl|rfl|rfl|rfl|rfl|rfl|rfl|rfl|rfl<;>cases hc
    case any =>
     refine wpAnyIn_take (i:=0) (v:=.agg #[.slice none 0 0]) rfl rfl (by kernel_rfl) (by kernel_rfl) (by kernel_rfl) (fun _ _ _ h=>h) ⟨Or.inl ⟨by rfl,by intro w;go_simp⟩,fun _=>rfl⟩ ?_;refine wpAnyIn_take (i:=1) (v:=.iface 42 (.int .i64 k)) rfl rfl (by kernel_rfl) (by kernel_rfl) (by kernel_rfl) (fun _ _ _ h=>h) ⟨Or.inl ⟨by rfl,by intro w;go_simp⟩,fun _=>rfl⟩ ?_;refine wpAnyIn_take (i:=4) (v:=.int .i64 x.1.1) rfl rfl (by kernel_rfl) (by kernel_rfl) (by kernel_rfl) (fun _ _ _ h=>h) ⟨Or.inl ⟨by rfl,by intro w;go_simp⟩,fun _=>rfl⟩ ?_;refine wpAnyIn_ready (rs:=[2,3]) (by kernel_rfl) (by simp) ?_;refine AllReadyIn.cons rfl (fun K hK=>?_) (AllReadyIn.cons rfl (fun K hK=>?_) AllReadyIn.nil)
     ·skip
      go_simp
      gi_wp2_with (refine⟨trivial,?_⟩;gi_at_call 40;refine(callsIn_wide.2 (aa.out _ a8.out.drew)).mono ?_;rintro e wT ⟨rfl,aA⟩)
      have hbT':zB W2 wT:=((Below.refl _ W2).drew).trans aA;obtain⟨⟨v1,v2,v3,v4⟩,vF⟩:=zel (k:=k) (p:=(p:Int)) (i:=(x.1.1:Int)) t1 t2 a8.out hbT';have q9:wT.cell? w.heap.size=some (.int .i64 p):=(t0.below hbT' t0.lt).cell 0;have z1:_=some (Value.slice none 0 0):=v1.cell 0;have z2:=v1.frozen 0;have z3:(wT.alloc (.cells #[k,.int .i64 ((p:Int)+(x.1.1:Int))] 102)).cell? ⟨w.heap.size+1,0,none⟩=some (.slice none 0 0):=v2.cell 0;have z4:=v2.frozen 0;have z5:((wT.setCell ⟨w.heap.size+1,0,none⟩ (.slice none 0 0)).alloc (.cells #[k,.int .i64 ((p:Int)+(x.1.1:Int))] 102)).cell? ⟨w.heap.size+1+1,0,none⟩=some .nilIface:=v3.cell 0;have z6:=v3.frozen 0;have z7:((wT.alloc (.cells #[k,.int .i64 ((p:Int)+(x.1.1:Int))] 102)).setCell ⟨w.heap.size+1,0,none⟩ (.slice none 0 0)).cell? ⟨w.heap.size+1+1,0,none⟩=some .nilIface:=v4.cell 0;have z8:=v4.frozen 0;have z9:(wT.setCell ⟨w.heap.size+1,0,none⟩ (.slice none 0 0)).cell? w.heap.size=some (.int .i64 p):=((t0.below hbT' t0.lt).other (by omega)).cell 0;have a5:=zH vF;clear v1 v2 v3 v4 vF aA;refine wpAnyIn_ready (rs:=[3,9]) (by kernel_rfl) (by simp) ?_;refine AllReadyIn.cons rfl (fun K hK=>?_) (AllReadyIn.cons rfl (fun K hK=>?_) AllReadyIn.nil)
      ·skip
       go_simp;refine hK _ _ ?_;clear hK K;refine wpAnyIn_take (i:=5) (v:=.int .i64 ((p:Int)+(x.1.1:Int))) rfl rfl (by kernel_rfl) (by kernel_rfl) (by kernel_rfl) (fun _ _ _ h=>h) ⟨Or.inl ⟨by rfl,by intro w;go_simp⟩,fun _=>rfl⟩ ?_;refine wpAnyIn_take (i:=6) (v:=.agg #[k,.int .i64 ((p:Int)+(x.1.1:Int))]) rfl rfl (by kernel_rfl) (by kernel_rfl) (by kernel_rfl) (fun _ _ _ h=>h) ⟨Or.inl ⟨by rfl,by intro w;go_simp⟩,fun _=>rfl⟩ ?_;refine wpAnyIn_ready (rs:=[7,9]) (by kernel_rfl) (by simp) ?_;refine AllReadyIn.cons rfl (fun K hK=>?_) (AllReadyIn.cons rfl (fun K hK=>?_) AllReadyIn.nil)
       ·skip
        go_simp;refine hK _ _ ?_;clear hK K;refine wpAnyIn_take (i:=8) (v:=.iface 100 (.pointer (some wT.heap.size))) rfl rfl (by kernel_rfl) (by kernel_rfl) (by kernel_rfl) (fun _ _ _ h=>h) ⟨Or.inl ⟨by rfl,by intro w;go_simp⟩,fun _=>rfl⟩ ?_;refine wpAnyIn_ready (rs:=[9]) (by kernel_rfl) (by simp) ?_;refine AllReadyIn.cons rfl (fun K hK=>?_) AllReadyIn.nil;go_simp;refine hK _ _ ?_;clear hK K;refine wpAnyIn_ready (rs:=[10]) (by kernel_rfl) (by simp) ?_;refine AllReadyIn.cons rfl (fun K hK=>?_) AllReadyIn.nil;go_simp;refine hK _ _ ?_;clear hK K;refine wpAnyIn_done (by kernel_rfl) ?_ _;obtain⟨y1,y2,y3,y4,y5,y6⟩:=a5.out _ (.inl rfl);have R:Hid (KeepsOthers W _/\PcX w p .ret (Y++[x]) _):=⟨(a3.trans (x9 J)).trans y6,⟨rfl,k,x.1.1,wT.heap.size,a4.out,y1,y2,by rw[aD];exact y3,y4⟩,y5⟩;clear y1 y2 y3 y4 y5 y6 z1 z2 z3 z4 z5 z6 z7 z8 z9 a5 t0 t1 t2 J a3 aj sB C
        gi_wp2
        exact R.out
       ·skip
        go_simp;refine hK _ _ ?_;clear hK K;refine wpAnyIn_ready (rs:=[7]) (by kernel_rfl) (by simp) ?_;refine AllReadyIn.cons rfl (fun K hK=>?_) AllReadyIn.nil;go_simp;refine hK _ _ ?_;clear hK K;refine wpAnyIn_take (i:=8) (v:=.iface 100 (.pointer (some wT.heap.size))) rfl rfl (by kernel_rfl) (by kernel_rfl) (by kernel_rfl) (fun _ _ _ h=>h) ⟨Or.inl ⟨by rfl,by intro w;go_simp⟩,fun _=>rfl⟩ ?_;refine wpAnyIn_ready (rs:=[10]) (by kernel_rfl) (by simp) ?_;refine AllReadyIn.cons rfl (fun K hK=>?_) AllReadyIn.nil;go_simp;refine hK _ _ ?_;clear hK K;refine wpAnyIn_done (by kernel_rfl) ?_ _;obtain⟨y1,y2,y3,y4,y5,y6⟩:=a5.out _ (.inr rfl);have R:Hid (KeepsOthers W _/\PcX w p .ret (Y++[x]) _):=⟨(a3.trans (x9 J)).trans y6,⟨rfl,k,x.1.1,wT.heap.size,a4.out,y1,y2,by rw[aD];exact y3,y4⟩,y5⟩;clear y1 y2 y3 y4 y5 y6 z1 z2 z3 z4 z5 z6 z7 z8 z9 a5 t0 t1 t2 J a3 aj sB C
        gi_wp2
        exact R.out
      ·skip
       go_simp;refine hK _ _ ?_;clear hK K;refine wpAnyIn_ready (rs:=[3]) (by kernel_rfl) (by simp) ?_;refine AllReadyIn.cons rfl (fun K hK=>?_) AllReadyIn.nil;go_simp;refine hK _ _ ?_;clear hK K;refine wpAnyIn_take (i:=5) (v:=.int .i64 ((p:Int)+(x.1.1:Int))) rfl rfl (by kernel_rfl) (by kernel_rfl) (by kernel_rfl) (fun _ _ _ h=>h) ⟨Or.inl ⟨by rfl,by intro w;go_simp⟩,fun _=>rfl⟩ ?_;refine wpAnyIn_take (i:=6) (v:=.agg #[k,.int .i64 ((p:Int)+(x.1.1:Int))]) rfl rfl (by kernel_rfl) (by kernel_rfl) (by kernel_rfl) (fun _ _ _ h=>h) ⟨Or.inl ⟨by rfl,by intro w;go_simp⟩,fun _=>rfl⟩ ?_;refine wpAnyIn_ready (rs:=[7]) (by kernel_rfl) (by simp) ?_;refine AllReadyIn.cons rfl (fun K hK=>?_) AllReadyIn.nil;go_simp;refine hK _ _ ?_;clear hK K;refine wpAnyIn_take (i:=8) (v:=.iface 100 (.pointer (some wT.heap.size))) rfl rfl (by kernel_rfl) (by kernel_rfl) (by kernel_rfl) (fun _ _ _ h=>h) ⟨Or.inl ⟨by rfl,by intro w;go_simp⟩,fun _=>rfl⟩ ?_;refine wpAnyIn_ready (rs:=[10]) (by kernel_rfl) (by simp) ?_;refine AllReadyIn.cons rfl (fun K hK=>?_) AllReadyIn.nil;go_simp;refine hK _ _ ?_;clear hK K;refine wpAnyIn_done (by kernel_rfl) ?_ _;obtain⟨y1,y2,y3,y4,y5,y6⟩:=a5.out _ (.inr rfl);have R:Hid (KeepsOthers W _/\PcX w p .ret (Y++[x]) _):=⟨(a3.trans (x9 J)).trans y6,⟨rfl,k,x.1.1,wT.heap.size,a4.out,y1,y2,by rw[aD];exact y3,y4⟩,y5⟩;clear y1 y2 y3 y4 y5 y6 z1 z2 z3 z4 z5 z6 z7 z8 z9 a5 t0 t1 t2 J a3 aj sB C
       gi_wp2
       exact R.out
     ·skip
      go_simp;refine hK _ _ ?_;clear hK K;refine wpAnyIn_take (i:=5) (v:=.int .i64 ((p:Int)+(x.1.1:Int))) rfl rfl (by kernel_rfl) (by kernel_rfl) (by kernel_rfl) (fun _ _ _ h=>h) ⟨Or.inl ⟨by rfl,by intro w;go_simp⟩,fun _=>rfl⟩ ?_;refine wpAnyIn_ready (rs:=[2]) (by kernel_rfl) (by simp) ?_;refine AllReadyIn.cons rfl (fun K hK=>?_) AllReadyIn.nil;go_simp
      gi_wp2_with (refine⟨trivial,?_⟩;gi_at_call 40;refine(callsIn_wide.2 (aa.out _ a8.out.drew)).mono ?_;rintro e wT ⟨rfl,aA⟩)
      have hbT':zB W2 wT:=((Below.refl _ W2).drew).trans aA;obtain⟨⟨v1,v2,v3,v4⟩,vF⟩:=zel (k:=k) (p:=(p:Int)) (i:=(x.1.1:Int)) t1 t2 a8.out hbT';have q9:wT.cell? w.heap.size=some (.int .i64 p):=(t0.below hbT' t0.lt).cell 0;have z1:_=some (Value.slice none 0 0):=v1.cell 0;have z2:=v1.frozen 0;have z3:(wT.alloc (.cells #[k,.int .i64 ((p:Int)+(x.1.1:Int))] 102)).cell? ⟨w.heap.size+1,0,none⟩=some (.slice none 0 0):=v2.cell 0;have z4:=v2.frozen 0;have z5:((wT.setCell ⟨w.heap.size+1,0,none⟩ (.slice none 0 0)).alloc (.cells #[k,.int .i64 ((p:Int)+(x.1.1:Int))] 102)).cell? ⟨w.heap.size+1+1,0,none⟩=some .nilIface:=v3.cell 0;have z6:=v3.frozen 0;have z7:((wT.alloc (.cells #[k,.int .i64 ((p:Int)+(x.1.1:Int))] 102)).setCell ⟨w.heap.size+1,0,none⟩ (.slice none 0 0)).cell? ⟨w.heap.size+1+1,0,none⟩=some .nilIface:=v4.cell 0;have z8:=v4.frozen 0;have z9:(wT.setCell ⟨w.heap.size+1,0,none⟩ (.slice none 0 0)).cell? w.heap.size=some (.int .i64 p):=((t0.below hbT' t0.lt).other (by omega)).cell 0;have a5:=zH vF;clear v1 v2 v3 v4 vF aA;refine wpAnyIn_take (i:=6) (v:=.agg #[k,.int .i64 ((p:Int)+(x.1.1:Int))]) rfl rfl (by kernel_rfl) (by kernel_rfl) (by kernel_rfl) (fun _ _ _ h=>h) ⟨Or.inl ⟨by rfl,by intro w;go_simp⟩,fun _=>rfl⟩ ?_;refine wpAnyIn_ready (rs:=[7,9]) (by kernel_rfl) (by simp) ?_;refine AllReadyIn.cons rfl (fun K hK=>?_) (AllReadyIn.cons rfl (fun K hK=>?_) AllReadyIn.nil)
      ·skip
       go_simp;refine hK _ _ ?_;clear hK K;refine wpAnyIn_take (i:=8) (v:=.iface 100 (.pointer (some wT.heap.size))) rfl rfl (by kernel_rfl) (by kernel_rfl) (by kernel_rfl) (fun _ _ _ h=>h) ⟨Or.inl ⟨by rfl,by intro w;go_simp⟩,fun _=>rfl⟩ ?_;refine wpAnyIn_ready (rs:=[9]) (by kernel_rfl) (by simp) ?_;refine AllReadyIn.cons rfl (fun K hK=>?_) AllReadyIn.nil;go_simp;refine hK _ _ ?_;clear hK K;refine wpAnyIn_ready (rs:=[10]) (by kernel_rfl) (by simp) ?_;refine AllReadyIn.cons rfl (fun K hK=>?_) AllReadyIn.nil;go_simp;refine hK _ _ ?_;clear hK K;refine wpAnyIn_done (by kernel_rfl) ?_ _;obtain⟨y1,y2,y3,y4,y5,y6⟩:=a5.out _ (.inl rfl);have R:Hid (KeepsOthers W _/\PcX w p .ret (Y++[x]) _):=⟨(a3.trans (x9 J)).trans y6,⟨rfl,k,x.1.1,wT.heap.size,a4.out,y1,y2,by rw[aD];exact y3,y4⟩,y5⟩;clear y1 y2 y3 y4 y5 y6 z1 z2 z3 z4 z5 z6 z7 z8 z9 a5 t0 t1 t2 J a3 aj sB C
       gi_wp2
       exact R.out
      ·skip
       go_simp;refine hK _ _ ?_;clear hK K;refine wpAnyIn_ready (rs:=[7]) (by kernel_rfl) (by simp) ?_;refine AllReadyIn.cons rfl (fun K hK=>?_) AllReadyIn.nil;go_simp;refine hK _ _ ?_;clear hK K;refine wpAnyIn_take (i:=8) (v:=.iface 100 (.pointer (some wT.heap.size))) rfl rfl (by kernel_rfl) (by kernel_rfl) (by kernel_rfl) (fun _ _ _ h=>h) ⟨Or.inl ⟨by rfl,by intro w;go_simp⟩,fun _=>rfl⟩ ?_;refine wpAnyIn_ready (rs:=[10]) (by kernel_rfl) (by simp) ?_;refine AllReadyIn.cons rfl (fun K hK=>?_) AllReadyIn.nil;go_simp;refine hK _ _ ?_;clear hK K;refine wpAnyIn_done (by kernel_rfl) ?_ _;obtain⟨y1,y2,y3,y4,y5,y6⟩:=a5.out _ (.inr rfl);have R:Hid (KeepsOthers W _/\PcX w p .ret (Y++[x]) _):=⟨(a3.trans (x9 J)).trans y6,⟨rfl,k,x.1.1,wT.heap.size,a4.out,y1,y2,by rw[aD];exact y3,y4⟩,y5⟩;clear y1 y2 y3 y4 y5 y6 z1 z2 z3 z4 z5 z6 z7 z8 z9 a5 t0 t1 t2 J a3 aj sB C
       gi_wp2
       exact R.out
   |ok lw =>
    rw[hwd] at M;have U:qF [x.1] (q,n')=.ok (nd q lw,n'+1):=by rw[qF,zA1 he,hwd];rfl
    rw[U] at a4;have aR:=za2 hwd;have ap:=zH (fun (u:Value) (X:World) (h1:zk X (.slice va q.length vc) q) (h2:zk X u lw)=>(zda q lw aI aR (.slice va q.length vc) u X h1 h2).mono fun e w' (h:Yd X (nd q lw) e w')=>(show ∃a' c',e=.returned (.agg #[.slice a' (nd q lw).length c'])/\zk w' (.slice a' (nd q lw).length c') (nd q lw)/\(∀g,(Value.slice a' (nd q lw).length c').ownBlock=some g->X.heap.size<=g)/\zB X w' from by obtain⟨v',he,hs,hn,hb⟩:=h;obtain⟨a',c',rfl⟩:=hs.form;exact⟨a',c',he,hs,hn,hb⟩));have bd:=zH (Qg aI aR);clear U hwd he aR
    gi_wp2_with fail
    rw[aX.out];refine⟨trivial,?_⟩;refine(CallsIn.inRound l (callsIn_wide.2 M.out)).mono ?_;rintro e wP ⟨ar,nr,cr,er,rfl,az,bk,hm⟩;obtain⟨rfl,aG⟩:=hm;have a1:zB wP (wP.alloc (.cells #[.slice ar nr cr] 95)):=zF.alloc zN _;have kr:=Blk.new wP 95 #[.slice ar nr cr];have J:zB W1 (wP.alloc (.cells #[.slice ar nr cr] 95)):=zT az a1;have aE:=aV.below J zN;have ag:=aG.below a1 zN;have t0:=s0.below J s0.lt;have t1:=s1.below J s1.lt;have t2:=s2.below J s2.lt;have t3:=s3.below J s3.lt;have t4:=s4.below J s4.lt;have b7:=zH (ap.out _ _ aE ag);have q1:(wP.alloc (.cells #[.slice ar nr cr] 95)).cell? wA.heap.size=some (.slice va q.length vc):=t3.cell 0;have q2:(wP.alloc (.cells #[.slice ar nr cr] 95)).cell? wP.heap.size=some (.slice ar nr cr):=kr.cell 0;clear ap M az bk aG aE ag a1 kr aV s0 s1 s2 s3 s4
    gi_wp2_with fail
    refine⟨trivial,?_⟩;generalize wP.alloc (.cells #[.slice ar nr cr] 95)=W2 at *;refine(CallsIn.inRound l (callsIn_wide.2 b7.out)).mono ?_;rintro e wN ⟨an,cn,rfl,aF,aC,ad⟩;have bp:W.heap.size<=W2.heap.size:=by rw[<-bn];exact J.size
    have u0:=t0.below ad t0.lt;have u1:=t1.below ad t1.lt;have u2:=t2.below ad t2.lt;have u3:=t3.below ad t3.lt;have u4:=t4.below ad t4.lt;have q3:_=some (Value.slice va q.length vc):=u3.cell 0;have q4:=u3.frozen 0;have aJ:zB W1 wN:=zT J ad;obtain⟨WF,y⟩:∃WF,wN.setCell wA.heap.size (.slice an (nd q lw).length cn)=WF:=⟨_,rfl⟩;have a6:∀g,(Value.slice an (nd q lw).length cn).ownBlock=some g->w.heap.size+1+1<g/\g≠wA.heap.size/\g≠wA.heap.size+1:=fun g hg=>by have:=aC g hg;omega
    have HI:Hid (PcI w wA p (Y++[x]) WF):=by
     refine⟨⟨?_,?_,?_⟩,⟨nd q lw,n'+1,.slice an (nd q lw).length cn,a4.out,by rw[List.length_append];simp;exact b2,?_,?_,bd.out,?_,a6⟩,?_,?_⟩
     ·rw[<-y];exact u0.other (by omega)
     ·rw[<-y];exact u1.other (by omega)
     ·rw[<-y];exact u2.other (by omega)
     ·rw[<-y];exact u3.set (i:=0)
     ·rw[<-y];exact aF.set (fun e=>by have:=a6 _ e;omega)
     ·rw[<-y];exact u4.other (by omega)
     ·rw[<-y];exact(zT sB aJ).setCell (p:=wA.heap.size) (by show w.heap.size<=wA.heap.size;omega) _
     ·rw[<-y,Ye];have:=ad.size;omega
    have HK:Hid (KeepsOthers W WF):=by rw[<-y];exact(a3.trans (x9 aJ)).trans (KeepsOthers.setCell _ _ _)
    have bb:Hid (Kp2 (wA.heap.size+1+1) (wA.heap.size+1+1+1) W WF):=by rw[<-y];exact Xy (Kk aj (zbH aJ (by omega) (by omega) (by omega))) (by omega) (by omega) (by omega)
    have aN:=zH y;clear aF aC ad u0 u1 u2 u3 u4 t0 t1 t2 t3 t4 J aJ a6 y sB a3 aj C q1 q2
    gi_wp2
    rw[aN.out];exact⟨HK.out,bb.out,HI.out⟩
 case done =>
  rintro D ys W hD aK ⟨⟨i0,i1,i2⟩,⟨q,n',v,a2,b2,i3,a7,aI,i4,C⟩,iB,b4⟩ hK;rw[aK] at a2;obtain⟨va,vc,rfl⟩:=a7.form;have d0:_=some (Value.int .i64 p):=i0.cell 0;have d1:_=some (Value.slice none 0 0):=i1.cell 0;have e1:=i1.frozen 0;have d2:_=some Value.nilIface:=i2.cell 0;have e2:=i2.frozen 0;have d3:_=some (Value.slice va q.length vc):=i3.cell 0;have d4:_=some (Value.int .i64 n'):=i4.cell 0
  by_cases hn0:n'=0
  ·have ak:Hid (yO s p=.error (3,p+s.size)):=by unfold Hid yO;rw[a2];simp only;rw[zA2 hn0]
   have bh:((n':Int)==0)=true:=by rw[beq_iff_eq];omega
   have b0:Tryz.prog.follows .mixedOrders=true:=by kernel_rfl
   have hi:(p:Int)+(s.size:Int)=((p+s.size:Nat):Int):=by omega
   have m1:=i1.alloc (.cells #[(3:Int),.int .i64 ((p:Int)+(s.size:Int))] 102);have m2:=i2.alloc (.cells #[(3:Int),.int .i64 ((p:Int)+(s.size:Int))] 102);have f1:(W.alloc (.cells #[(3:Int),.int .i64 ((p:Int)+(s.size:Int))] 102)).cell? ⟨w.heap.size+1,0,none⟩=some (.slice none 0 0):=m1.cell 0;have f2:=m1.frozen 0;have f3:(W.alloc (.cells #[(3:Int),.int .i64 ((p:Int)+(s.size:Int))] 102)).cell? ⟨w.heap.size+1+1,0,none⟩=some .nilIface:=m2.cell 0;have f4:=m2.frozen 0;clear hi;have aH:wrap64 ((p:Int)+(s.size:Int))=(p:Int)+(s.size:Int):=by unfold wrap64;omega
   have bm:IntKind.i64.wrap ((p:Int)+(s.size:Int))=(p:Int)+(s.size:Int):=by rw[IntKind.wrap_i64];unfold wrap64 at aH;exact aH
   have x2:=(i2.other (b':=w.heap.size+1) (i:=0) (v:=.slice none 0 0) (by omega)).alloc (.cells #[(3:Int),.int .i64 ((p:Int)+(s.size:Int))] 102);have g1:((W.setCell ⟨w.heap.size+1,0,none⟩ (.slice none 0 0)).alloc (.cells #[(3:Int),.int .i64 ((p:Int)+(s.size:Int))] 102)).cell? ⟨w.heap.size+1+1,0,none⟩=some .nilIface:=x2.cell 0;have g2:=x2.frozen 0;have y2:=m2.other (b':=w.heap.size+1) (i:=0) (v:=.slice none 0 0) (by omega);have g3:((W.alloc (.cells #[(3:Int),.int .i64 ((p:Int)+(s.size:Int))] 102)).setCell ⟨w.heap.size+1,0,none⟩ (.slice none 0 0)).cell? ⟨w.heap.size+1+1,0,none⟩=some .nilIface:=y2.cell 0;have g4:=y2.frozen 0;have aP:w.heap.size+1<=W.heap.size:=by omega
   have SC:Hid (∀X,Below (w.heap.size+1) W X->X.cell? w.heap.size=some (.int .i64 p)):=fun X hb=>(i0.below hb (Nat.lt_succ_self _)).cell 0
   gi_wp2_with fail
   refine wpIn_wide.2 ?_;go_region_held3 (fun w'=>w'.cell? w.heap.size=some (.int .i64 p)) ((refine SC.out _ ?_;repeat' (first|exact Below.refl _ _|refine Below.drew ?_|refine Below.alloc ?_ (by first|exact aP|(simp;omega)) _|refine Below.setCell ?_ (by first|exact Nat.le_refl _|exact Nat.le_succ _) _))) (first|fail)
   ·obtain⟨WF,y⟩:∃WF,(((W.alloc (.cells #[(3:Int),.int .i64 ((p:Int)+(s.size:Int))] 102)).setCell ⟨w.heap.size+1,0,none⟩ (.slice none 0 0)).setCell ⟨w.heap.size+1+1,0,none⟩ (.iface 100 (.pointer (some W.heap.size)))).drew=WF:=⟨_,rfl⟩;have p1:Blk WF (w.heap.size+1) 95 #[.slice none 0 0]:=by rw[<-y];exact(m1.set (i:=0) (v:=.slice none 0 0)).other (by omega)
    have p2:Blk WF (w.heap.size+1+1) 33 #[.iface 100 (.pointer (some W.heap.size))]:=by rw[<-y];exact y2.set (i:=0) (v:=(.iface 100 (.pointer (some W.heap.size))))
    have p3:Blk WF W.heap.size 102 #[(3:Int),.int .i64 ((p:Int)+(s.size:Int))]:=by rw[<-y];exact((Blk.new W 102 #[(3:Int),.int .i64 ((p:Int)+(s.size:Int))]).other (by omega)).other (by omega)
    have ac:zB w WF:=by rw[<-y];exact(((zL iB).setCell (p:=⟨w.heap.size+1,0,none⟩) (Nat.le_succ _) _).setCell (p:=⟨w.heap.size+1+1,0,none⟩) (by show w.heap.size<=w.heap.size+1+1;omega) _).drew
    have a9:WF.heap[D]?=some (.deferred (some [])):=by rw[<-y];exact((((KeepsOthers.alloc _ _).trans (KeepsOthers.setCell _ _ _)).trans (KeepsOthers.setCell _ _ _)).trans (KeepsOthers.drew _)).same D _ hK rfl
    have am:W.heap.size≠D:=fun e=>by have:=(Array.getElem?_eq_some_iff.1 hK).1;omega
    have q1:=p1.put (l:=D) (o':=.deferred none) (by omega);have q2:=p2.put (l:=D) (o':=.deferred none) (by omega);have q3:=p3.put (l:=D) (o':=.deferred none) am;have au:=zH q1;have av:=zH q2;have aw:=zH q3;have ax:=zH ac;have ab:=zH a9;have aB:=iB.size;have aL:=zH aB;rw[y];clear i0 i1 i2 i3 i4 a7 C iB hK ac a9 p1 p2 p3 q1 q2 q3 y a2 aK j0 j1 j2 j3 j4 j5 j6 V f1 f2 f3 f4 g1 g2 g3 g4 m1 m2 x2 y2 aB
    gi_wp2
    refine⟨by simp,.inl ⟨_,_,rfl,run_takeDeferred ab.out,?_⟩⟩;have r1:=au.out.cell 0;have r2:=av.out.cell 0;refine⟨.tuple #[.agg #[.slice none 0 0],.iface 100 (.pointer (some W.heap.size))],?_,?_⟩
    ·simp[results,Tryz.f113,go_sem,r1,r2]
    ·rw[ak.out];exact⟨W.heap.size,rfl,aw.out,aL.out,ax.out.trans (belowK_b (w:=w) zN WF D _ _ (by omega) ab.out rfl rfl)⟩
   ·obtain⟨WF,y⟩:∃WF,(((W.setCell ⟨w.heap.size+1,0,none⟩ (.slice none 0 0)).alloc (.cells #[(3:Int),.int .i64 ((p:Int)+(s.size:Int))] 102)).setCell ⟨w.heap.size+1+1,0,none⟩ (.iface 100 (.pointer (some W.heap.size)))).drew=WF:=⟨_,rfl⟩;have p1:Blk WF (w.heap.size+1) 95 #[.slice none 0 0]:=by rw[<-y];exact((i1.set (i:=0) (v:=.slice none 0 0)).alloc _).other (by omega)
    have p2:Blk WF (w.heap.size+1+1) 33 #[.iface 100 (.pointer (some W.heap.size))]:=by rw[<-y];exact x2.set (i:=0) (v:=(.iface 100 (.pointer (some W.heap.size))))
    have p3:Blk WF W.heap.size 102 #[(3:Int),.int .i64 ((p:Int)+(s.size:Int))]:=by rw[<-y];exact(show Blk _ W.heap.size _ _ from (by have:=Blk.new (W.setCell ⟨w.heap.size+1,0,none⟩ (.slice none 0 0)) 102 #[(3:Int),.int .i64 ((p:Int)+(s.size:Int))];rw[Ye] at this;exact this)).other (by omega)
    have ac:zB w WF:=by rw[<-y];exact(((iB.setCell (p:=⟨w.heap.size+1,0,none⟩) (Nat.le_succ _) _).alloc (by rw[Ye];exact iB.size) _).setCell (p:=⟨w.heap.size+1+1,0,none⟩) (by show w.heap.size<=w.heap.size+1+1;omega) _).drew
    have a9:WF.heap[D]?=some (.deferred (some [])):=by rw[<-y];exact((((KeepsOthers.setCell _ _ _).trans (KeepsOthers.alloc _ _)).trans (KeepsOthers.setCell _ _ _)).trans (KeepsOthers.drew _)).same D _ hK rfl
    have am:W.heap.size≠D:=fun e=>by have:=(Array.getElem?_eq_some_iff.1 hK).1;omega
    have q1:=p1.put (l:=D) (o':=.deferred none) (by omega);have q2:=p2.put (l:=D) (o':=.deferred none) (by omega);have q3:=p3.put (l:=D) (o':=.deferred none) am;have au:=zH q1;have av:=zH q2;have aw:=zH q3;have ax:=zH ac;have ab:=zH a9;have aB:=iB.size;have aL:=zH aB;rw[y];clear i0 i1 i2 i3 i4 a7 C iB hK ac a9 p1 p2 p3 q1 q2 q3 y a2 aK j0 j1 j2 j3 j4 j5 j6 V f1 f2 f3 f4 g1 g2 g3 g4 m1 m2 x2 y2 aB
    gi_wp2
    refine⟨by simp,.inl ⟨_,_,rfl,run_takeDeferred ab.out,?_⟩⟩;have r1:=au.out.cell 0;have r2:=av.out.cell 0;refine⟨.tuple #[.agg #[.slice none 0 0],.iface 100 (.pointer (some W.heap.size))],?_,?_⟩
    ·simp[results,Tryz.f113,go_sem,r1,r2]
    ·rw[ak.out];exact⟨W.heap.size,rfl,aw.out,aL.out,ax.out.trans (belowK_b (w:=w) zN WF D _ _ (by omega) ab.out rfl rfl)⟩
  ·have ak:Hid (yO s p=.ok q):=by unfold Hid yO;rw[a2];simp only;rw[zA1 hn0]
   have bh:((n':Int)==0)=false:=by rw[beq_eq_false_iff_ne];omega
   obtain⟨WF,y⟩:∃WF,(W.setCell ⟨w.heap.size+1,0,none⟩ (.slice va q.length vc)).setCell ⟨w.heap.size+1+1,0,none⟩ .nilIface=WF:=⟨_,rfl⟩;have ac:zB w WF:=by rw[<-y];exact(iB.setCell (p:=⟨w.heap.size+1,0,none⟩) (Nat.le_succ _) _).setCell (p:=⟨w.heap.size+1+1,0,none⟩) (by show w.heap.size<=w.heap.size+1+1;omega) _
   have a9:WF.heap[D]?=some (.deferred (some [])):=by rw[<-y];exact((KeepsOthers.setCell _ _ _).trans (KeepsOthers.setCell _ _ _)).same D _ hK rfl
   have p1:Blk WF (w.heap.size+1) 95 #[.slice va q.length vc]:=by rw[<-y];exact(i1.set (i:=0)).other (by omega)
   have p2:Blk WF (w.heap.size+1+1) 33 #[.nilIface]:=by rw[<-y];exact(i2.other (by omega)).set (i:=0)
   have b5:zk WF (.slice va q.length vc) q:=by rw[<-y];exact(a7.set (fun e=>by have:=C _ e;omega)).set (fun e=>by have:=C _ e;omega)
   have q1:=p1.put (l:=D) (o':=.deferred none) (by omega);have q2:=p2.put (l:=D) (o':=.deferred none) (by omega);have b6:zk (WF.putObj D (.deferred none)) (.slice va q.length vc) q:=XI b5 (grownBy_putObj' _ D (.deferred none)) (fun r e=>by cases e;exact⟨_,a9,rfl⟩);have au:=zH q1;have av:=zH q2;have bc:=zH b6;have ax:=zH ac;have ab:=zH a9;have aN:=zH y;have aM:Hid (∀g,(Value.slice va q.length vc).ownBlock=some g->w.heap.size<=g):=fun g hg=>by have:=C _ hg;omega
   clear i0 i1 i2 i3 i4 a7 C iB hK ac a9 p1 p2 b5 q1 q2 b6 y a2 aK j0 j1 j2 j3 j4 j5 j6 V
   gi_wp2
   rw[aN.out];refine⟨by simp,.inl ⟨_,_,rfl,run_takeDeferred ab.out,?_⟩⟩;have r1:=au.out.cell 0;have r2:=av.out.cell 0;refine⟨.tuple #[.agg #[.slice va q.length vc],.nilIface],?_,?_⟩
   ·simp[results,Tryz.f113,go_sem,r1,r2]
   ·rw[ak.out];exact⟨_,rfl,bc.out,aM.out,ax.out.trans (belowK_b (w:=w) zN WF D _ _ (by omega) ab.out rfl rfl)⟩
 case stop =>
  rintro D c Y W hD aQ ⟨⟨rfl,k,i,N,a2,x1,x2,x3,x4⟩,xB⟩ hK;obtain⟨aU,af⟩:=aQ;have ai:=Kt (zZ Y) aU (zn,0);rw[a2,af] at ai;have ak:Hid (yO s p=.error (k,p+i)):=by unfold Hid yO;rw[ai]
  have am:N≠D:=fun e=>by
   subst e;have:=(show W.heap[N]?=_ from x3).symm.trans hK;simp at this
  have q1:=x1.put (l:=D) (o':=.deferred none) (by omega);have q2:=x2.put (l:=D) (o':=.deferred none) (by omega);have q3:=x3.put (l:=D) (o':=.deferred none) am;have r1:=q1.cell 0;have r2:=q2.cell 0;have aw:=zH q3;have HB:=zH xB;have bf:=zH x4;clear a2 ai af x1 x2 x3 x4 q1 q2 q3 xB am j0 j1 j2 j3 j4 j5 j6 V
  gi_wp2
  refine⟨by simp,.inl ⟨_,_,rfl,run_takeDeferred hK,?_⟩⟩;refine⟨.tuple #[.agg #[.slice none 0 0],.iface 100 (.pointer (some N))],?_,?_⟩
  ·simp[results,Tryz.f113,go_sem,r1,r2]
  ·rw[ak.out];exact⟨N,rfl,aw.out,bf.out,HB.out.trans (belowK_b (w:=w) zN W D _ _ (by omega) hK rfl rfl)⟩
end Go.Proofs.YthifnefkdjkicaaGreatDoor
