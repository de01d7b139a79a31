/- ParseLine. -/
import Derived.Test.YtapobpgbcbplbaaGreatDoorErAt
set_option maxHeartbeats 4000000
set_option maxRecDepth 100000
namespace Go.Proofs.YtapobpgbcbplbaaGreatDoor
section
open Go.RowKit Go.Shelf Sv
structure Lw(w:World):Prop where
 lb:Lb w
 wd:Zq w
theorem Lw.below{w w':World}(h:Lw w)(hb:zB w w'):Lw w':=⟨h.lb.below hb,h.wd.below hb (by have:=h.lb.big;omega)⟩
theorem Ze(s:ByteArray)(c:UInt8)(W:World)(hs:s.size<=100000)(hw:Lb W) :
  zC 50 #[.string s,.string ⟨#[c]⟩] W fun e w'=>∃b,e=.returned (.tuple #[.string (zg s c).1,.string (zg s c).2,.bool b])/\zB W w':=by
 obtain⟨m,hm⟩:=hw.ml;refine(Tryz.strings_Cut s ⟨#[c]⟩ m W (by omega) hm).mono fun e w' ⟨he,n,hn⟩=>⟨_,he,?_⟩;subst hn;exact⟨rfl,rfl,rfl,Nat.le_refl _,fun _ _=>rfl⟩
theorem zfy(s:ByteArray)(w:World)(hs:1000<s.size) :
  zR 54 #[.string s] w (.tuple #[.agg #[.slice none 0 0],.iface 64 (.int .i64 4)]):=by
 have hl:(1000:Int)<(s.size:Int):=by omega
 generalize hn:(s.size:Int)=n at *;clear hs;go_enter Tryz.func54,Tryz.ntmps54;go_wp2;have k0:=((Blk.new w 36 #[.slice none 0 0]).alloc (.cells #[.iface 64 (.int .i64 4)] 41));have k1:=(Blk.new (w.alloc (.cells #[.slice none 0 0] 36)) 41 #[.iface 64 (.int .i64 4)]);rw[World.size_alloc] at k1;have hB:zB w ((w.alloc (.cells #[.slice none 0 0] 36)).alloc (.cells #[.iface 64 (.int .i64 4)] 41)):=((Below.refl _ w).alloc zN _).alloc (by simp only[World.size_alloc];omega) _;generalize (w.alloc (.cells #[.slice none 0 0] 36)).alloc (.cells #[.iface 64 (.int .i64 4)] 41)=WF at *;have r0:=k0.cell 0;have r3:=k1.cell 0;refine bodyPost_ret (v:=.tuple #[.agg #[.slice none 0 0],.iface 64 (.int .i64 4)]) (by simp[results,Tryz.f54,go_sem,r0,r3]) rfl ?_;exact⟨rfl,hB⟩
def qF(w:World)(er:Value)(k:Int):Option Nat->Prop
 |none=>er=.iface 64 (.int .i64 k)
 |some q=>∃N,er=.iface 83 (.pointer (some ⟨N,0,none⟩))/\Blk w N 86 #[.int .i64 k,.int .i64 q]
theorem qF.below{w w':World}{er:Value}{k:Int}{p:Option Nat}(h:qF w er k p)(hb:zB w w'):qF w' er k p:=by
 cases p with
 |none=>exact h
 |some q =>obtain⟨N,h1,h2⟩:=h;exact⟨N,h1,h2.below hb h2.lt⟩
theorem qF.form{w:World}{er:Value}{k:Int}{p:Option Nat}(h:qF w er k p):∃t v,er=.iface t v:=by
 cases p with
 |none=>exact⟨_,_,h⟩
 |some q=>obtain⟨N,h1,_⟩:=h;exact⟨_,_,h1⟩
def zmg(r:Except (Int × Option Nat) (List zh))(w':World)(v er:Value):Prop :=
 match r with
 |.ok l=>er=.nilIface/\zi w' v l/\Rg l
 |.error (k,p)=>v=.slice none 0 0/\qF w' er k p
theorem zfc(s:ByteArray)(w:World)(hs:s.size<=100000)(hw:Lb w) :
  zC 54 #[.string s] w fun e w'=>∃a n c er,e=.returned (.tuple #[.agg #[.slice a n c],er])/\zmg (Yy s) w' (.slice a n c) er/\(∀g,(Value.slice a n c).ownBlock=some g->w.heap.size<=g)/\zB w w':=by
 unfold Yy
 by_cases h:1000<s.size
 ·rw[if_pos h];exact(zfy s w h).mono fun e w' ⟨he,hb⟩=>⟨none,0,0,_,he,⟨rfl,rfl⟩,(fun g hg=>by simp[Value.ownBlock] at hg),hb⟩
 ·rw[if_neg h];refine(zhf s w (by omega) hw).mono fun e w' h=>?_;unfold YL at h;cases hx:Qh s with
  |ok l =>rw[hx] at h;obtain⟨v',he,h1,h2,h3⟩:=h;obtain⟨a',c',rfl⟩:=h1.form;exact⟨a',_,c',_,he,⟨rfl,h1,zka hx⟩,h2,h3⟩
  |error e2 =>obtain⟨k,q⟩:=e2;rw[hx] at h;obtain⟨N,he,h1,h2,h3⟩:=h;exact⟨none,0,0,_,he,⟨rfl,N,rfl,h1⟩,(fun g hg=>by simp[Value.ownBlock] at hg),h3⟩
abbrev z7:Array Value:=#[.int .i64 0,.string ⟨#[]⟩,.int .i64 0,.int .i64 0,.int .i64 0,.string ⟨#[]⟩,.slice none 0 0]
def Y0(w:World)(r:Except (Int × Option Nat) Ln)(e:Ending)(w':World):Prop :=
 match r with
 |.ok x=>∃v,e=.returned (.tuple #[.agg #[.int .i64 x.kind,.string x.name,.int .i64 x.a,.int .i64 x.b,.int .i64 x.c,.string x.other,v],.nilIface])/\zi w' v x.rng/\Rg x.rng/\(∀g,v.ownBlock=some g->w.heap.size<=g)/\zB w w'
 |.error (k,p)=>∃er,e=.returned (.tuple #[.agg z7,er])/\qF w' er k p/\zB w w'
structure LS(w W:World)(b:Nat)(cs:Array Value):Prop where
 z:Blk W w.heap.size 38 z7
 x:Blk W b 38 cs
 ne:w.heap.size<b
 B:zB w W
theorem LS.step{w W W':World}{b:Nat}{cs:Array Value}(h:LS w W b cs)(hb:zB W W'):LS w W' b cs:=⟨h.z.below hb h.z.lt,h.x.below hb h.x.lt,h.ne,zT h.B hb⟩
theorem LS.set{w W:World}{b:Nat}{cs:Array Value}(h:LS w W b cs)(i:Nat)(v:Value):LS w (W.setCell ⟨b,i,none⟩ v) b (cs.setIfInBounds i v) :=
 ⟨h.z.other (by have:=h.ne;omega),h.x.set,h.ne,h.B.setCell (p:=⟨b,i,none⟩) (Nat.le_of_lt h.ne) _⟩
theorem Blk.ne_type{W:World}{b b':Nat}{t t':TypeId}{cs cs':Array Value}(h:Blk W b t cs)(h':Blk W b' t' cs')(hne:t≠t'):b≠b':=by
 rintro rfl;have:=(show W.heap[b]?=_ from h).symm.trans h';simp only[Option.some.injEq,Obj.cells.injEq] at this;exact hne this.2.1
theorem qF.setx{w W:World}{b:Nat}{cs:Array Value}{er:Value}{k:Int}{p:Option Nat}{i:Nat}{v:Value}(h:qF W er k p)(hL:LS w W b cs):qF (W.setCell ⟨b,i,none⟩ v) er k p:=by
 cases p with
 |none=>exact h
 |some q =>obtain⟨N,h1,h2⟩:=h;exact⟨N,h1,h2.other (h2.ne_type hL.x (by decide))⟩
theorem qF.one{W:World}{b:Nat}{cs:Array Value}{er:Value}{k:Int}{p:Option Nat}{i:Nat}{v:Value}(h:qF W er k p)(hL:Blk W b 38 cs):qF (W.setCell ⟨b,i,none⟩ v) er k p:=by
 cases p with
 |none=>exact h
 |some q =>obtain⟨N,h1,h2⟩:=h;exact⟨N,h1,h2.other (h2.ne_type hL (by decide))⟩
theorem qF.setz{w W:World}{b:Nat}{cs:Array Value}{er:Value}{k:Int}{p:Option Nat}{v0 v1 v2 v3 v4 v5 v6:Value}(h:qF W er k p)(hL:LS w W b cs):qF (((((((W.setCell ⟨w.heap.size,0,none⟩ v0).setCell ⟨w.heap.size,1,none⟩ v1).setCell ⟨w.heap.size,2,none⟩ v2).setCell ⟨w.heap.size,3,none⟩ v3).setCell ⟨w.heap.size,4,none⟩ v4).setCell ⟨w.heap.size,5,none⟩ v5).setCell ⟨w.heap.size,6,none⟩ v6) er k p:=by
 have z:=hL.z;exact((((((h.one z).one z.set).one z.set.set).one z.set.set.set).one z.set.set.set.set).one z.set.set.set.set.set).one z.set.set.set.set.set.set
theorem zi.one{W:World}{b:Nat}{v x:Value}{l:List zh}{i:Nat}(h:zi W v l)(hn:v.ownBlock≠some b):zi (W.setCell ⟨b,i,none⟩ x) v l :=
 ⟨h.form,fun j hj=>by
  obtain⟨g,cap,e,hg,c0,c1⟩:=h.cells j hj;have hne:g≠b:=fun e'=>hn (by rw[e,e'];rfl);exact ⟨g,cap,e,by simp [World.setCell];exact hg,(yj hne).trans c0,(yj hne).trans c1⟩⟩
theorem zi.all7{W:World}{b:Nat}{v v0 v1 v2 v3 v4 v5 v6:Value}{l:List zh}(h:zi W v l)(hn:v.ownBlock≠some b):zi (((((((W.setCell ⟨b,0,none⟩ v0).setCell ⟨b,1,none⟩ v1).setCell ⟨b,2,none⟩ v2).setCell ⟨b,3,none⟩ v3).setCell ⟨b,4,none⟩ v4).setCell ⟨b,5,none⟩ v5).setCell ⟨b,6,none⟩ v6) v l :=
 ((((((h.one hn).one hn).one hn).one hn).one hn).one hn).one hn
end
section
open Go.RowKit Go.Shelf Sv
attribute [local go_sem] Oper.semAt_some
theorem zoT(s:ByteArray)(w:World) :
  CallsIn Fence.wide 3 Tryz.prog 24 #[.string s] w fun e w'=>e=.returned (.func (.func 49) #[] #[.pointer (some ⟨w.heap.size,0,none⟩)])/\w'=w.alloc (.cells #[.string s] 9):=by
 refine callsIn_of_wp Tryz.func24 rfl trivial ?_ rfl;simp only[Tryz.ntmps24,List.size_toArray,List.length_cons,List.length_nil,Nat.reduceAdd,Nat.reduceSub,Array.replicate_succ,Array.replicate_zero,List.push_toArray,List.append_toArray,List.nil_append,List.cons_append]
 gi_wp2
 go_ret;exact⟨rfl,rfl⟩
theorem zil{s:ByteArray}{k:Nat}(h:s.size<=k):∀f,qK s f k=[]
 |0=>rfl
 |f+1=>by rw[qK,if_pos h]
theorem zox{s:ByteArray}{k:Nat}(h:k<s.size)(f:Nat):qK s (f+1) k=(if (zg (s.extract k s.size) 10).1.size=0 then [] else [(k,(zg (s.extract k s.size) 10).1)])++qK s f (k+(zg (s.extract k s.size) 10).1.size+1):=by
 rw[qK,if_neg (by omega)]
theorem zdy(s:ByteArray):∀(f k:Nat),(qK s f k).length<=f
 |0,_=>by simp[qK]
 |f+1,k=>by
  rw[qK];split
  ·simp
  ·have:=zdy s f (k+(zg (s.extract k s.size) 10).1.size+1);rw[List.length_append];split<;>simp<;>omega
def Kp1(bt:Nat)(W W':World):Prop:=W'.cell? ⟨bt,0,none⟩=W.cell? ⟨bt,0,none⟩/\W'.cell? ⟨2,0,none⟩=W.cell? ⟨2,0,none⟩
theorem zfK(s:ByteArray)(m:Int)(W:World)(hs:s.size<=100000)(hm:W.cell? ⟨2,0,none⟩=some (.int .i64 m)) :
  zC 50 #[.string s,.string ⟨#[10]⟩] W fun e w'=>∃b,e=.returned (.tuple #[.string (zg s 10).1,.string (zg s 10).2,.bool b])/\∃n,w'=W.drewN n :=
 (Tryz.strings_Cut s ⟨#[10]⟩ m W (by omega) hm).mono fun e w' ⟨he,n,hn⟩=>⟨_,he,n,hn⟩
theorem zhD(l bt:Nat)(s:ByteArray)(hs:s.size<=20000)(J Jx:List Pc->World->Prop)
  (hJd:∀pre W n,J pre W->J pre (W.drewN n))
  (hY:∀ pre x W,J pre W->pre.length<(qK s s.size 0).length->YieldAt Fence.wide (3 - 1) Tryz.prog l #[.int .i64 x.1.1,.string x.1.2] W fun e W' =>
   (e=.returned (.bool true)/\J (pre++[x]) W'/\Kp1 bt W W')\/(e=.returned (.bool false)/\Jx (pre++[x]) W'))
  (W:World) (h0:W.cell? ⟨bt,0,none⟩=some (.string s)) (n:Int) (hn0:W.cell? ⟨2,0,none⟩=some (.int .i64 n)) (hJ:J [] W) :
  CallsIn Fence.wide 3 Tryz.prog 49 #[.func (.yield l) #[] #[],.pointer (some ⟨bt,0,none⟩)] W fun e W'=>(∃v,e=.returned v)/\((∃ys,zW ys=qK s s.size 0/\J ys W')\/(∃pre,zW pre <+: qK s s.size 0/\Jx pre W')):=by
 have HY:=zH hY;have HJD:=zH hJd;clear hY hJd;refine callsIn_of_wp Tryz.func49 rfl trivial ?_ rfl;simp only[Tryz.ntmps49,List.size_toArray,List.length_cons,List.length_nil,Nat.reduceAdd,Nat.reduceSub,Array.replicate_succ,Array.replicate_zero,List.push_toArray,List.append_toArray,List.nil_append,List.cons_append]
 gi_wp2
 gi_loopw [3] (fun p wr=>∃(pre:List Pc) (k f:Nat),p=.int .i64 k/\k<=s.size+1/\s.size<=k+f/\zW pre++qK s f k=qK s s.size 0/\wr.cell? ⟨bt,0,none⟩=some (.string s)/\wr.cell? ⟨2,0,none⟩=some (.int .i64 n)/\J pre wr)
  (fun p _=>s.size+1-(intOf p).toNat)
 case atStart=>exact⟨[],0,s.size,rfl,Nat.zero_le _,by omega,rfl,h0,hn0,hJ⟩
 case round =>
  obtain⟨pre,k,f,rfl,hk,hf,hcut,c0,hn,hJs⟩:=hrel;have HJ:=zH hJs;have HC:=zH hcut;clear hJs hcut;have HN:=zH hn;clear hn
  by_cases hlt:k<s.size
  ·obtain⟨f',rfl⟩:∃f',f=f'+1:=⟨f-1,by omega⟩;have hx:(s.extract k s.size).size=s.size-k:=by rw[ByteArray.size_extract];omega
   have hsz:=(Za (s.extract k s.size) 10).1;have hcut:=HC.out;rw[zox hlt] at hcut;have HCall:=zH (zfK (s.extract k s.size) n wr (by omega) HN.out);have i0:(0:Int)<=(k:Int):=by omega
   have i1:(k:Int)<=(s.size:Int):=by omega
   have hsl:=fun W'=>run_slice_string (P:=Tryz.prog) W' 9 s .i64 .i64 (k:Int) (s.size:Int) Tryz.underlying9 i0 i1 (Int.le_refl _);simp only[Int.toNat_natCast] at hsl;generalize (zg (s.extract k s.size) 10).1=ln at *;generalize (zg (s.extract k s.size) 10).2=rs at *;have hl2:ln.size<=100000:=by omega
   have hk2:k<=100000:=by omega
   have HX:=zH hcut;clear hcut HC
   gi_wp2_with fail
   refine⟨trivial,?_⟩;refine(callsIn_wide.2 HCall.out).mono ?_;rintro e w1 ⟨b,rfl,nq,rfl⟩;have e0:(wr.drewN nq).cell? ⟨bt,0,none⟩=some (.string s):=c0;have HN1:Hid ((wr.drewN nq).cell? ⟨2,0,none⟩=some (.int .i64 n)):=HN.out;have HJ1:Hid (J pre (wr.drewN nq)):=HJD.out _ _ nq HJ.out;clear HCall hsl i0 i1 c0 HN HJ
   by_cases hz:ln.size=0
   ·have HX2:Hid (zW pre++qK s f' (k+0+1)=qK s s.size 0):=by have h:=HX.out;rw[if_pos hz,hz] at h;exact h
    obtain rfl:=Yz hz;clear HX hz hl2 hsz
    gi_wp2
    refine⟨(fun f h=>by cases h),?_⟩
    gi_wp2
    go_roundw
    case rel=>exact⟨pre,k+1,f',by go_num,by omega,by omega,HX2.out,e0,HN1.out,HJ1.out⟩
    case measure=>simp[intOf];omega
   ·have he1:ln.toList.isEmpty=false:=Q4 (by omega);have he2:(ln.toList==[])=false:=by rw[beq_eq_false_iff_ne];intro h;rw[h] at he1;cases he1
    have HX2:Hid (zW (pre++[⟨(k,ln),hk2,hl2⟩])++qK s f' (k+ln.size+1)=qK s s.size 0):=by
     have h:=HX.out;rw[if_neg hz] at h;show _=_;rw[zW,List.map_append,List.append_assoc];exact h
    have hlen:pre.length<(qK s s.size 0).length:=by
     have h:=congrArg List.length HX2.out;rw[List.length_append,zW,List.length_map,List.length_append,List.length_cons] at h;omega
    clear HX;obtain⟨fn,tmps,assign,body,hy,hR⟩:=HY.out pre ⟨(k,ln),hk2,hl2⟩ (wr.drewN nq) HJ1.out hlen;dsimp only at hy;have HLEN:=zH hlen;clear hlen
    gi_wp2
    refine hR.mono ?_;rintro e W3 (⟨rfl,hJ3,hk3⟩|⟨rfl,hJx3⟩)
    ·have d0:W3.cell? ⟨bt,0,none⟩=some (.string s):=hk3.1.trans e0;have d2:Hid (W3.cell? ⟨2,0,none⟩=some (.int .i64 n)):=hk3.2.trans HN1.out;have HJ3:=zH hJ3;clear hJ3 hk3
     gi_wp2
     go_roundw
     case rel=>exact⟨pre++[⟨(k,ln),hk2,hl2⟩],k+ln.size+1,f',by go_num,by omega,by omega,HX2.out,d0,d2.out,HJ3.out⟩
     case measure=>simp[intOf];omega
    ·gi_wp2
     refine bodyPost_ret (results_none rfl _ _ _) rfl ?_;exact⟨⟨_,rfl⟩,.inr ⟨_,⟨_,HX2.out⟩,hJx3⟩⟩
  ·have hcut:=HC.out;rw[zil (by omega),List.append_nil] at hcut;have HX:=zH hcut;clear hcut HC
   gi_wp2
   refine bodyPost_end (results_none rfl _ _ _) rfl ?_;exact⟨⟨_,rfl⟩,.inl ⟨pre,HX.out,HJ.out⟩⟩
theorem znq(W:World)(n:Nat):W.grownBy (W.drewN n) none:=⟨rfl,rfl,rfl,Nat.le_refl _,fun _ _ _=>rfl⟩
theorem zmz(bt:Nat)(s:ByteArray)(hs:s.size<=20000)(w:World)(hbt:bt<w.heap.size)(h1:2<w.heap.size)(c0:w.cell? ⟨bt,0,none⟩=some (.string s))(n:Int)(c2:w.cell? ⟨2,0,none⟩=some (.int .i64 n)) :
  SeqStopsK Fence.wide 3 Tryz.prog 49 #[.pointer (some ⟨bt,0,none⟩)] zcR (Kp1 bt) (fun ys=>zW ys=qK s s.size 0) (fun pre=>zW pre <+: qK s s.size 0) (qK s s.size 0).length w:=fun l J Jx W hW hJ _ hY h0 =>
 zhD l bt s hs J Jx (fun pre W n h=>hJ pre W _ none h (znq W n) (fun r e=>by cases e)) hY W ((hW.cell (p:=⟨bt,0,none⟩) hbt).trans c0) n ((hW.cell (p:=⟨2,0,none⟩) h1).trans c2) h0
theorem zaf{bt:Nat}{A B C:World}(h:Kp1 bt A B)(k:Kp1 bt B C):Kp1 bt A C:=⟨k.1.trans h.1,k.2.trans h.2⟩
theorem znj{bt:Nat}{w:World}(hbt:bt<w.heap.size)(h1:2<w.heap.size)(W:World)(l:Nat)(o o':Obj)(hl:w.heap.size<=l)(_:W.heap[l]?=some o)(_:o.isCells=false)(_:o.isWalk=false):Kp1 bt W (W.putObj l o') :=
 ⟨Xe (by omega),Xe (by omega)⟩
theorem JF{bt B:Nat}{W W':World}(h:Below B W W')(h1:bt<B)(h3:2<B):Kp1 bt W W':=⟨h.cell (p:=⟨bt,0,none⟩) h1,h.cell (p:=⟨2,0,none⟩) h3⟩
theorem zeo{bt b i:Nat}{W W':World}{v:Value}(h:Kp1 bt W W')(h1:bt≠b)(h3:2≠b):Kp1 bt W (W'.setCell ⟨b,i,none⟩ v):=⟨(yj h1).trans h.1,(yj h3).trans h.2⟩
end
section
open Go.RowKit Go.Shelf Sv
theorem zkz(s:ByteArray)(w:World)(hs:s.size<=100000)(hw:Lw w)(hk:qI (zg s 32).1=0) :
  zC 25 #[.string s] w (Y0 w (.error (3,none))):=by
 have k0:=Blk.new w 38 z7;have hb0:zB w (w.alloc (.cells z7 38)):=(Below.refl _ w).alloc zN _;have HC:=zH (Ze s 32 (w.alloc (.cells z7 38)) hs (hw.below hb0).lb);have HW:=zH (hw.below hb0);have HK:Hid (∀W,Zq W->zC 51 #[.string (zg s 32).1] W fun e w'=>e=.returned (.int .i64 0)/\w'=W):=fun W h=>by have:=XE (zg s 32).1 W h;rw[hk] at this;exact this
 have hs2:=(Za s 32).2;generalize (zg s 32).1=s1 at *;generalize (zg s 32).2=s2 at *;have hs2':s2.size<=100000:=by omega
 clear hk hs hs2;go_enter Tryz.func25,Tryz.ntmps25;go_wp2_with fail;generalize w.alloc (.cells z7 38)=W0 at *;refine HC.out.mono ?_;rintro e wC ⟨b,rfl,hb⟩;have HKC:=zH (HK.out wC (HW.out.below hb).wd);have k1:=k0.below hb k0.lt;have hB:zB w wC:=zT hb0 hb;have hlt:=k1.lt;have HW1:=zH (HW.out.below hb);clear HC HK k0 hb0 hb HW;go_wp2_with fail;refine HKC.out.mono ?_;rintro e w2 ⟨rfl,rfl⟩;clear HKC;have h1:LS w (w2.alloc (.cells #[.int .i64 0,.string ⟨#[]⟩,.int .i64 0,.int .i64 0,.int .i64 0,.string ⟨#[]⟩,.slice none 0 0] 38)) w2.heap.size #[.int .i64 0,.string ⟨#[]⟩,.int .i64 0,.int .i64 0,.int .i64 0,.string ⟨#[]⟩,.slice none 0 0]:=⟨k1.alloc _,Blk.new _ _ _,hlt,zL hB⟩;clear k1 hB;go_upto_region 3 with fail;generalize w2.alloc (.cells #[.int .i64 0,.string ⟨#[]⟩,.int .i64 0,.int .i64 0,.int .i64 0,.string ⟨#[]⟩,.slice none 0 0] 38)=W3 at *;obtain⟨zc0,zf0,zc1,zf1,zc2,zf2,zc3,zf3,zc4,zf4,zc5,zf5,zc6,zf6⟩:=zcf h1.z;obtain⟨xc0,xf0,xc1,xf1,xc2,xf2,xc3,xf3,xc4,xf4,xc5,xf5,xc6,xf6⟩:=zcf h1.x;have HZ:Hid (Blk (((((((W3.setCell ⟨w.heap.size,0,none⟩ (.int .i64 0)).setCell ⟨w.heap.size,1,none⟩ (.string ⟨#[]⟩)).setCell ⟨w.heap.size,2,none⟩ (.int .i64 0)).setCell ⟨w.heap.size,3,none⟩ (.int .i64 0)).setCell ⟨w.heap.size,4,none⟩ (.int .i64 0)).setCell ⟨w.heap.size,5,none⟩ (.string ⟨#[]⟩)).setCell ⟨w.heap.size,6,none⟩ (.slice none 0 0)) w.heap.size 38 #[.int .i64 0,.string ⟨#[]⟩,.int .i64 0,.int .i64 0,.int .i64 0,.string ⟨#[]⟩,.slice none 0 0]):=by
  have h:=h1.z;exact(((((((h.set (i:=0) (v:=.int .i64 0)).set (i:=1) (v:=.string ⟨#[]⟩)).set (i:=2) (v:=.int .i64 0)).set (i:=3) (v:=.int .i64 0)).set (i:=4) (v:=.int .i64 0)).set (i:=5) (v:=.string ⟨#[]⟩)).set (i:=6) (v:=.slice none 0 0))
 have HB:Hid (zB w (((((((W3.setCell ⟨w.heap.size,0,none⟩ (.int .i64 0)).setCell ⟨w.heap.size,1,none⟩ (.string ⟨#[]⟩)).setCell ⟨w.heap.size,2,none⟩ (.int .i64 0)).setCell ⟨w.heap.size,3,none⟩ (.int .i64 0)).setCell ⟨w.heap.size,4,none⟩ (.int .i64 0)).setCell ⟨w.heap.size,5,none⟩ (.string ⟨#[]⟩)).setCell ⟨w.heap.size,6,none⟩ (.slice none 0 0))):=(((((((h1.B.setCell (p:=⟨w.heap.size,0,none⟩) zN _).setCell (p:=⟨w.heap.size,1,none⟩) zN _).setCell (p:=⟨w.heap.size,2,none⟩) zN _).setCell (p:=⟨w.heap.size,3,none⟩) zN _).setCell (p:=⟨w.heap.size,4,none⟩) zN _).setCell (p:=⟨w.heap.size,5,none⟩) zN _).setCell (p:=⟨w.heap.size,6,none⟩) zN _);clear h1;go_wp2;generalize (((((((W3.setCell ⟨w.heap.size,0,none⟩ (.int .i64 0)).setCell ⟨w.heap.size,1,none⟩ (.string ⟨#[]⟩)).setCell ⟨w.heap.size,2,none⟩ (.int .i64 0)).setCell ⟨w.heap.size,3,none⟩ (.int .i64 0)).setCell ⟨w.heap.size,4,none⟩ (.int .i64 0)).setCell ⟨w.heap.size,5,none⟩ (.string ⟨#[]⟩)).setCell ⟨w.heap.size,6,none⟩ (.slice none 0 0))=WF at *;have r0:_=some (Value.int .i64 0):=HZ.out.cell 0;have r1:_=some (Value.string ⟨#[]⟩):=HZ.out.cell 1;have r2:_=some (Value.int .i64 0):=HZ.out.cell 2;have r3:_=some (Value.int .i64 0):=HZ.out.cell 3;have r4:_=some (Value.int .i64 0):=HZ.out.cell 4;have r5:_=some (Value.string ⟨#[]⟩):=HZ.out.cell 5;have r6:_=some (Value.slice none 0 0):=HZ.out.cell 6;refine bodyPost_ret (v:=.tuple #[.agg #[.int .i64 0,.string ⟨#[]⟩,.int .i64 0,.int .i64 0,.int .i64 0,.string ⟨#[]⟩,.slice none 0 0],.iface 64 (.int .i64 3)]) (by simp[results,Tryz.f25,go_sem,r0,r1,r2,r3,r4,r5,r6]) rfl ?_;exact⟨_,rfl,rfl,HB.out⟩
theorem zgV(s:ByteArray)(w:World)(hs:s.size<=100000)(hw:Lw w)(hk:qI (zg s 32).1=4) :
  zC 25 #[.string s] w (Y0 w (xI 4 (zg (zg s 32).2 32).1 [] ⟨#[]⟩ (zg (zg s 32).2 32).2)):=by
 have k0:=Blk.new w 38 z7;have hb0:zB w (w.alloc (.cells z7 38)):=(Below.refl _ w).alloc zN _;have HC:=zH (Ze s 32 (w.alloc (.cells z7 38)) hs (hw.below hb0).lb);have HW:=zH (hw.below hb0);have HK:Hid (∀W,Zq W->zC 51 #[.string (zg s 32).1] W fun e w'=>e=.returned (.int .i64 4)/\w'=W):=fun W h=>by have:=XE (zg s 32).1 W h;rw[hk] at this;exact this
 have hs2:=(Za s 32).2;generalize (zg s 32).1=s1 at *;generalize (zg s 32).2=s2 at *;have hs2':s2.size<=100000:=by omega
 have HW0:=zH hw;clear hk hs hs2 hw;go_enter Tryz.func25,Tryz.ntmps25;go_wp2_with fail;generalize w.alloc (.cells z7 38)=W0 at *;refine HC.out.mono ?_;rintro e wC ⟨b,rfl,hb⟩;have HKC:=zH (HK.out wC (HW.out.below hb).wd);have k1:=k0.below hb k0.lt;have hB:zB w wC:=zT hb0 hb;have hlt:=k1.lt;have HW1:=zH (HW.out.below hb);clear HC HK k0 hb0 hb HW;go_wp2_with fail;refine HKC.out.mono ?_;rintro e w2 ⟨rfl,rfl⟩;clear HKC;have h1:LS w (w2.alloc (.cells #[.int .i64 4,.string ⟨#[]⟩,.int .i64 0,.int .i64 0,.int .i64 0,.string ⟨#[]⟩,.slice none 0 0] 38)) w2.heap.size #[.int .i64 4,.string ⟨#[]⟩,.int .i64 0,.int .i64 0,.int .i64 0,.string ⟨#[]⟩,.slice none 0 0]:=⟨k1.alloc _,Blk.new _ _ _,hlt,zL hB⟩;clear k1 hB;go_upto_region 3 with fail;generalize w2.alloc (.cells #[.int .i64 4,.string ⟨#[]⟩,.int .i64 0,.int .i64 0,.int .i64 0,.string ⟨#[]⟩,.slice none 0 0] 38)=W3 at *;generalize w2.heap.size=b1 at *;clear HW1;obtain⟨zc0,zf0,zc1,zf1,zc2,zf2,zc3,zf3,zc4,zf4,zc5,zf5,zc6,zf6⟩:=zcf h1.z;obtain⟨xc0,xf0,xc1,xf1,xc2,xf2,xc3,xf3,xc4,xf4,xc5,xf5,xc6,xf6⟩:=zcf h1.x;go_wp2_with fail;clear zc0 zf0 zc1 zf1 zc2 zf2 zc3 zf3 zc4 zf4 zc5 zf5 zc6 zf6 xc0 xf0 xc1 xf1 xc2 xf2 xc3 xf3 xc4 xf4 xc5 xf5 xc6 xf6;have HC:=zH (Ze s2 32 W3 (by omega) (HW0.out.below h1.B).lb);have hsz:=Za s2 32;generalize (zg s2 32).1=n1 at *;generalize (zg s2 32).2=n2 at *;obtain⟨hsz1,hsz2⟩:=hsz;refine HC.out.mono ?_;rintro e w4 ⟨bb4,rfl,hb4⟩;have h4:=h1.step hb4;clear HC hb4;have h5:LS w (w4.setCell ⟨b1,1,none⟩ (.string n1)) b1 #[.int .i64 4,.string n1,.int .i64 0,.int .i64 0,.int .i64 0,.string ⟨#[]⟩,.slice none 0 0]:=(h4.set 1 (.string n1));obtain⟨xc0,xf0,xc1,xf1,xc2,xf2,xc3,xf3,xc4,xf4,xc5,xf5,xc6,xf6⟩:=zcf h4.x;have H5:=zH h5;clear h5;go_upto_region 7 with fail;have h5:=H5.out;clear h4 H5 xc0 xf0 xc1 xf1 xc2 xf2 xc3 xf3 xc4 xf4 xc5 xf5 xc6 xf6;generalize (w4.setCell ⟨b1,1,none⟩ (.string n1))=W5 at *;obtain⟨xc0,xf0,xc1,xf1,xc2,xf2,xc3,xf3,xc4,xf4,xc5,xf5,xc6,xf6⟩:=zcf h5.x;go_wp2_with fail;clear xc0 xf0 xc1 xf1 xc2 xf2 xc3 xf3 xc4 xf4 xc5 xf5 xc6 xf6;have HP:Hid (zC 53 #[.agg #[.int .i64 4,.string n1,.int .i64 0,.int .i64 0,.int .i64 0,.string ⟨#[]⟩,.slice none 0 0]] W5 fun e w'=>e=.returned (.bool false)/\w'=W5.alloc (.cells #[.int .i64 4,.string n1,.int .i64 0,.int .i64 0,.int .i64 0,.string ⟨#[]⟩,.slice none 0 0] 38)):=ye ⟨4,n1,0,0,0,⟨#[]⟩,[]⟩ (.slice none 0 0) W5;refine HP.out.mono ?_;rintro e w6 ⟨rfl,hw6⟩;have hb6:zB W5 w6:=by rw[hw6];exact zF.alloc zN _
 have h6:=h5.step hb6;clear HP hw6 hb6 h5;go_wp2_with fail;have HR:=zH (zfc n2 w6 (by omega) (HW0.out.below h6.B).lb);refine HR.out.mono ?_;rintro e w7 ⟨ra,rn,rc,er,rfl,hres,hown,hb7⟩;have h7:=h6.step hb7;have hwn:=h6.B.size;have hxl:=h6.x.lt;have hzl:=h6.z.lt;have HNX:Hid ((Value.slice ra rn rc).ownBlock≠some b1):=fun h=>by have:=hown _ h;omega
 have HNZ:Hid ((Value.slice ra rn rc).ownBlock≠some w.heap.size):=fun h=>by have:=hown _ h;omega
 have hown2:Hid (∀g,(Value.slice ra rn rc).ownBlock=some g->w.heap.size<=g):=fun g hg=>Nat.le_trans hwn (hown g hg);clear HR hb7 hown hwn hxl hzl;cases hx:Yy n2 with
 |error e2 =>
  obtain⟨k2,p2⟩:=e2;rw[hx] at hres;obtain⟨hsl,herr⟩:=hres;cases hsl;obtain⟨et,ev,rfl⟩:=herr.form;have hS:LS w (w7.setCell ⟨b1,6,none⟩ (.slice none 0 0)) b1 #[.int .i64 4,.string n1,.int .i64 0,.int .i64 0,.int .i64 0,.string ⟨#[]⟩,.slice none 0 0]:=(h7.set 6 (.slice none 0 0));have HERR:=zH herr;clear herr;obtain⟨xc0,xf0,xc1,xf1,xc2,xf2,xc3,xf3,xc4,xf4,xc5,xf5,xc6,xf6⟩:=zcf h7.x;have HS:=zH hS;clear hS;go_upto_region 20 with fail;have hS:=HS.out;have HER2:Hid (qF (w7.setCell ⟨b1,6,none⟩ (.slice none 0 0)) (.iface et ev) k2 p2):=HERR.out.setx h7;clear h7 xc0 xf0 xc1 xf1 xc2 xf2 xc3 xf3 xc4 xf4 xc5 xf5 xc6 xf6;generalize (w7.setCell ⟨b1,6,none⟩ (.slice none 0 0))=W9 at *;obtain⟨zc0,zf0,zc1,zf1,zc2,zf2,zc3,zf3,zc4,zf4,zc5,zf5,zc6,zf6⟩:=zcf hS.z;have HE:Hid (qF (((((((W9.setCell ⟨w.heap.size,0,none⟩ (.int .i64 0)).setCell ⟨w.heap.size,1,none⟩ (.string ⟨#[]⟩)).setCell ⟨w.heap.size,2,none⟩ (.int .i64 0)).setCell ⟨w.heap.size,3,none⟩ (.int .i64 0)).setCell ⟨w.heap.size,4,none⟩ (.int .i64 0)).setCell ⟨w.heap.size,5,none⟩ (.string ⟨#[]⟩)).setCell ⟨w.heap.size,6,none⟩ (.slice none 0 0)) (.iface et ev) k2 p2):=HER2.out.setz hS;have HZ:Hid (Blk (((((((W9.setCell ⟨w.heap.size,0,none⟩ (.int .i64 0)).setCell ⟨w.heap.size,1,none⟩ (.string ⟨#[]⟩)).setCell ⟨w.heap.size,2,none⟩ (.int .i64 0)).setCell ⟨w.heap.size,3,none⟩ (.int .i64 0)).setCell ⟨w.heap.size,4,none⟩ (.int .i64 0)).setCell ⟨w.heap.size,5,none⟩ (.string ⟨#[]⟩)).setCell ⟨w.heap.size,6,none⟩ (.slice none 0 0)) w.heap.size 38 #[.int .i64 0,.string ⟨#[]⟩,.int .i64 0,.int .i64 0,.int .i64 0,.string ⟨#[]⟩,.slice none 0 0]):=by
   have h:=hS.z;exact(((((((h.set (i:=0) (v:=.int .i64 0)).set (i:=1) (v:=.string ⟨#[]⟩)).set (i:=2) (v:=.int .i64 0)).set (i:=3) (v:=.int .i64 0)).set (i:=4) (v:=.int .i64 0)).set (i:=5) (v:=.string ⟨#[]⟩)).set (i:=6) (v:=.slice none 0 0))
  have HB:Hid (zB w (((((((W9.setCell ⟨w.heap.size,0,none⟩ (.int .i64 0)).setCell ⟨w.heap.size,1,none⟩ (.string ⟨#[]⟩)).setCell ⟨w.heap.size,2,none⟩ (.int .i64 0)).setCell ⟨w.heap.size,3,none⟩ (.int .i64 0)).setCell ⟨w.heap.size,4,none⟩ (.int .i64 0)).setCell ⟨w.heap.size,5,none⟩ (.string ⟨#[]⟩)).setCell ⟨w.heap.size,6,none⟩ (.slice none 0 0))):=(((((((hS.B.setCell (p:=⟨w.heap.size,0,none⟩) zN _).setCell (p:=⟨w.heap.size,1,none⟩) zN _).setCell (p:=⟨w.heap.size,2,none⟩) zN _).setCell (p:=⟨w.heap.size,3,none⟩) zN _).setCell (p:=⟨w.heap.size,4,none⟩) zN _).setCell (p:=⟨w.heap.size,5,none⟩) zN _).setCell (p:=⟨w.heap.size,6,none⟩) zN _);clear hS;go_wp2;generalize (((((((W9.setCell ⟨w.heap.size,0,none⟩ (.int .i64 0)).setCell ⟨w.heap.size,1,none⟩ (.string ⟨#[]⟩)).setCell ⟨w.heap.size,2,none⟩ (.int .i64 0)).setCell ⟨w.heap.size,3,none⟩ (.int .i64 0)).setCell ⟨w.heap.size,4,none⟩ (.int .i64 0)).setCell ⟨w.heap.size,5,none⟩ (.string ⟨#[]⟩)).setCell ⟨w.heap.size,6,none⟩ (.slice none 0 0))=WF at *;have r0:_=some (Value.int .i64 0):=HZ.out.cell 0;have r1:_=some (Value.string ⟨#[]⟩):=HZ.out.cell 1;have r2:_=some (Value.int .i64 0):=HZ.out.cell 2;have r3:_=some (Value.int .i64 0):=HZ.out.cell 3;have r4:_=some (Value.int .i64 0):=HZ.out.cell 4;have r5:_=some (Value.string ⟨#[]⟩):=HZ.out.cell 5;have r6:_=some (Value.slice none 0 0):=HZ.out.cell 6;refine bodyPost_ret (v:=.tuple #[.agg #[.int .i64 0,.string ⟨#[]⟩,.int .i64 0,.int .i64 0,.int .i64 0,.string ⟨#[]⟩,.slice none 0 0],.iface et ev]) (by simp[results,Tryz.f25,go_sem,r0,r1,r2,r3,r4,r5,r6]) rfl ?_;have ht:xI 4 n1 [] ⟨#[]⟩ n2=.error (k2,p2):=by unfold xI;rw[hx]
  rw[ht];exact⟨_,rfl,HE.out,HB.out⟩
 |ok l =>
  rw[hx] at hres;obtain⟨rfl,hsp,hrg⟩:=hres;have hS:LS w (w7.setCell ⟨b1,6,none⟩ (.slice ra rn rc)) b1 #[.int .i64 4,.string n1,.int .i64 0,.int .i64 0,.int .i64 0,.string ⟨#[]⟩,.slice ra rn rc]:=(h7.set 6 (.slice ra rn rc));obtain⟨xc0,xf0,xc1,xf1,xc2,xf2,xc3,xf3,xc4,xf4,xc5,xf5,xc6,xf6⟩:=zcf h7.x;have HS:=zH hS;have HSP:Hid (zi (w7.setCell ⟨b1,6,none⟩ (.slice ra rn rc)) (.slice ra rn rc) l):=hsp.one HNX.out;have HRG:=zH hrg;clear hS hsp hrg;go_upto_region 21 with fail;have hS:=HS.out;clear h7 xc0 xf0 xc1 xf1 xc2 xf2 xc3 xf3 xc4 xf4 xc5 xf5 xc6 xf6;generalize (w7.setCell ⟨b1,6,none⟩ (.slice ra rn rc))=W9 at *;obtain⟨zc0,zf0,zc1,zf1,zc2,zf2,zc3,zf3,zc4,zf4,zc5,zf5,zc6,zf6⟩:=zcf hS.z;obtain⟨xc0,xf0,xc1,xf1,xc2,xf2,xc3,xf3,xc4,xf4,xc5,xf5,xc6,xf6⟩:=zcf hS.x;have HSP2:Hid (zi (((((((W9.setCell ⟨w.heap.size,0,none⟩ (.int .i64 4)).setCell ⟨w.heap.size,1,none⟩ (.string n1)).setCell ⟨w.heap.size,2,none⟩ (.int .i64 0)).setCell ⟨w.heap.size,3,none⟩ (.int .i64 0)).setCell ⟨w.heap.size,4,none⟩ (.int .i64 0)).setCell ⟨w.heap.size,5,none⟩ (.string ⟨#[]⟩)).setCell ⟨w.heap.size,6,none⟩ (.slice ra rn rc)) (.slice ra rn rc) l):=HSP.out.all7 HNZ.out;have hbz:=hS.ne;have HZ:Hid (Blk (((((((W9.setCell ⟨w.heap.size,0,none⟩ (.int .i64 4)).setCell ⟨w.heap.size,1,none⟩ (.string n1)).setCell ⟨w.heap.size,2,none⟩ (.int .i64 0)).setCell ⟨w.heap.size,3,none⟩ (.int .i64 0)).setCell ⟨w.heap.size,4,none⟩ (.int .i64 0)).setCell ⟨w.heap.size,5,none⟩ (.string ⟨#[]⟩)).setCell ⟨w.heap.size,6,none⟩ (.slice ra rn rc)) w.heap.size 38 #[.int .i64 4,.string n1,.int .i64 0,.int .i64 0,.int .i64 0,.string ⟨#[]⟩,.slice ra rn rc]):=by
   have h:=hS.z;exact(((((((h.set (i:=0) (v:=.int .i64 4)).set (i:=1) (v:=.string n1)).set (i:=2) (v:=.int .i64 0)).set (i:=3) (v:=.int .i64 0)).set (i:=4) (v:=.int .i64 0)).set (i:=5) (v:=.string ⟨#[]⟩)).set (i:=6) (v:=.slice ra rn rc))
  have HB:Hid (zB w (((((((W9.setCell ⟨w.heap.size,0,none⟩ (.int .i64 4)).setCell ⟨w.heap.size,1,none⟩ (.string n1)).setCell ⟨w.heap.size,2,none⟩ (.int .i64 0)).setCell ⟨w.heap.size,3,none⟩ (.int .i64 0)).setCell ⟨w.heap.size,4,none⟩ (.int .i64 0)).setCell ⟨w.heap.size,5,none⟩ (.string ⟨#[]⟩)).setCell ⟨w.heap.size,6,none⟩ (.slice ra rn rc))):=(((((((hS.B.setCell (p:=⟨w.heap.size,0,none⟩) zN _).setCell (p:=⟨w.heap.size,1,none⟩) zN _).setCell (p:=⟨w.heap.size,2,none⟩) zN _).setCell (p:=⟨w.heap.size,3,none⟩) zN _).setCell (p:=⟨w.heap.size,4,none⟩) zN _).setCell (p:=⟨w.heap.size,5,none⟩) zN _).setCell (p:=⟨w.heap.size,6,none⟩) zN _);clear hS;go_wp2;generalize (((((((W9.setCell ⟨w.heap.size,0,none⟩ (.int .i64 4)).setCell ⟨w.heap.size,1,none⟩ (.string n1)).setCell ⟨w.heap.size,2,none⟩ (.int .i64 0)).setCell ⟨w.heap.size,3,none⟩ (.int .i64 0)).setCell ⟨w.heap.size,4,none⟩ (.int .i64 0)).setCell ⟨w.heap.size,5,none⟩ (.string ⟨#[]⟩)).setCell ⟨w.heap.size,6,none⟩ (.slice ra rn rc))=WF at *;have r0:_=some (Value.int .i64 4):=HZ.out.cell 0;have r1:_=some (Value.string n1):=HZ.out.cell 1;have r2:_=some (Value.int .i64 0):=HZ.out.cell 2;have r3:_=some (Value.int .i64 0):=HZ.out.cell 3;have r4:_=some (Value.int .i64 0):=HZ.out.cell 4;have r5:_=some (Value.string ⟨#[]⟩):=HZ.out.cell 5;have r6:_=some (Value.slice ra rn rc):=HZ.out.cell 6;refine bodyPost_ret (v:=.tuple #[.agg #[.int .i64 4,.string n1,.int .i64 0,.int .i64 0,.int .i64 0,.string ⟨#[]⟩,.slice ra rn rc],.nilIface]) (by simp[results,Tryz.f25,go_sem,r0,r1,r2,r3,r4,r5,r6]) rfl ?_;have ht:xI 4 n1 [] ⟨#[]⟩ n2=.ok ⟨4,n1,0,0,0,⟨#[]⟩,l⟩:=by unfold xI;rw[hx];rfl
  rw[ht];exact⟨_,rfl,HSP2.out,HRG.out,hown2.out,HB.out⟩
end
end Go.Proofs.YtapobpgbcbplbaaGreatDoor
