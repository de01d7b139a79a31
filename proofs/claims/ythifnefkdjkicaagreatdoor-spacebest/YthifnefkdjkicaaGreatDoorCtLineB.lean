import Derived.Test.YthifnefkdjkicaaGreatDoorErAt
set_option maxHeartbeats 4000000
set_option maxRecDepth 100000
namespace Go.Proofs.YthifnefkdjkicaaGreatDoor
section
open Go.RowKit Go.Shelf Sv
structure Lw(w:World):Prop where
 lb:Lb w
 wd:Z9 w
theorem Lw.below{w w':World}(h:Lw w)(hb:zB w w'):Lw w':=⟨h.lb.below hb,h.wd.below hb (by have:=h.lb.big;omega)⟩
theorem Qc(s:ByteArray)(c:UInt8)(W:World)(hs:s.size<=100000)(hw:Lb W) :
  zC 73 #[s,.string ⟨#[c]⟩] W fun e w'=>∃b,e=.returned (.tuple #[.string (zb s c).1,.string (zb s c).2,.bool b])/\zB W w':=by
 obtain⟨m,hm⟩:=hw.ml;refine(Tryz.strings_Cut s ⟨#[c]⟩ m W (by omega) hm).mono fun e w' ⟨he,n,hn⟩=>⟨_,he,?_⟩;subst hn;exact⟨rfl,rfl,rfl,Nat.le_refl _,fun _ _=>rfl⟩
theorem zhD(s:ByteArray)(w:World)(hs:1000<s.size) :
  zR 77 #[s] w (.tuple #[.agg #[.slice none 0 0],.iface 42 (.int .i64 4)]):=by
 have hl:(1000:Int)<(s.size:Int):=by omega
 generalize hn:(s.size:Int)=n at *;clear hs;go_enter Tryz.func77,Tryz.ntmps77;go_wp2;have k0:=((Blk.new w 95 #[.slice none 0 0]).alloc (.cells #[.iface 42 (.int .i64 4)] 33));have k1:=(Blk.new (w.alloc (.cells #[.slice none 0 0] 95)) 33 #[.iface 42 (.int .i64 4)]);rw[zA0] at k1;have hB:zB w ((w.alloc (.cells #[.slice none 0 0] 95)).alloc (.cells #[.iface 42 (.int .i64 4)] 33)):=((Below.refl _ w).alloc zN _).alloc (by simp only[zA0];omega) _;generalize (w.alloc (.cells #[.slice none 0 0] 95)).alloc (.cells #[.iface 42 (.int .i64 4)] 33)=WF at *;have r0:=k0.cell 0;have r3:=k1.cell 0;refine bodyPost_ret (v:=.tuple #[.agg #[.slice none 0 0],.iface 42 (.int .i64 4)]) (by simp[results,Tryz.f77,go_sem,r0,r3]) rfl ?_;exact⟨rfl,hB⟩
def yb(w:World)(er:Value)(k:Int):Option Nat->Prop
 |none=>er=.iface 42 (.int .i64 k)
 |some q=>∃N,er=.iface 100 (.pointer (some ⟨N,0,none⟩))/\Blk w N 102 #[k,q]
theorem yb.below{w w':World}{er:Value}{k:Int}{p:Option Nat}(h:yb w er k p)(hb:zB w w'):yb w' er k p:=by
 cases p with
 |none=>exact h
 |some q =>obtain⟨N,h1,h2⟩:=h;exact⟨N,h1,h2.below hb h2.lt⟩
theorem yb.form{w:World}{er:Value}{k:Int}{p:Option Nat}(h:yb w er k p):∃t v,er=.iface t v:=by
 cases p with
 |none=>exact⟨_,_,h⟩
 |some q=>obtain⟨N,h1,_⟩:=h;exact⟨_,_,h1⟩
def zmB(r:Except (Int × Option Nat) (List zf))(w':World)(v er:Value):Prop :=
 match r with
 |.ok l=>er=.nilIface/\zk w' v l/\Rg l
 |.error (k,p)=>v=.slice none 0 0/\yb w' er k p
theorem zew(s:ByteArray)(w:World)(hs:s.size<=100000)(hw:Lb w) :
  zC 77 #[s] w fun e w'=>∃a n c er,e=.returned (.tuple #[.agg #[.slice a n c],er])/\zmB (xq s) w' (.slice a n c) er/\(∀g,(Value.slice a n c).ownBlock=some g->w.heap.size<=g)/\zB w w':=by
 unfold xq
 by_cases h:1000<s.size
 ·rw[zA2 h];exact(zhD s w h).mono fun e w' ⟨he,hb⟩=>⟨none,0,0,_,he,⟨rfl,rfl⟩,(fun g hg=>by simp[Value.ownBlock] at hg),hb⟩
 ·rw[zA1 h];refine(ziu s w (by omega) hw).mono fun e w' h=>?_;unfold XX at h;cases hx:Zi s with
  |ok l =>rw[hx] at h;obtain⟨v',he,h1,h2,h3⟩:=h;obtain⟨a',c',rfl⟩:=h1.form;exact⟨a',_,c',_,he,⟨rfl,h1,zf9 hx⟩,h2,h3⟩
  |error e2 =>obtain⟨k,q⟩:=e2;rw[hx] at h;obtain⟨N,he,h1,h2,h3⟩:=h;exact⟨none,0,0,_,he,⟨rfl,N,rfl,h1⟩,(fun g hg=>by simp[Value.ownBlock] at hg),h3⟩
abbrev z7:Array Value:=#[.int .i64 0,.string ⟨#[]⟩,.int .i64 0,.int .i64 0,.int .i64 0,.string ⟨#[]⟩,.slice none 0 0]
def X3(w:World)(r:Except (Int × Option Nat) Ln)(e:Ending)(w':World):Prop :=
 match r with
 |.ok x=>∃v,e=.returned (.tuple #[.agg #[x.kind,x.name,x.a,x.b,x.c,x.other,v],.nilIface])/\zk w' v x.rng/\Rg x.rng/\(∀g,v.ownBlock=some g->w.heap.size<=g)/\zB w w'
 |.error (k,p)=>∃er,e=.returned (.tuple #[.agg z7,er])/\yb w' er k p/\zB w w'
structure LS(w W:World)(b:Nat)(cs:Array Value):Prop where
 z:Blk W w.heap.size 97 z7
 x:Blk W b 97 cs
 ne:w.heap.size<b
 B:zB w W
theorem LS.step{w W W':World}{b:Nat}{cs:Array Value}(h:LS w W b cs)(hb:zB W W'):LS w W' b cs:=⟨h.z.below hb h.z.lt,h.x.below hb h.x.lt,h.ne,zT h.B hb⟩
theorem LS.set{w W:World}{b:Nat}{cs:Array Value}(h:LS w W b cs)(i:Nat)(v:Value):LS w (W.setCell ⟨b,i,none⟩ v) b (cs.setIfInBounds i v) :=
 ⟨h.z.other (by have:=h.ne;omega),h.x.set,h.ne,h.B.setCell (p:=⟨b,i,none⟩) (Nat.le_of_lt h.ne) _⟩
theorem Blk.ne_type{W:World}{b b':Nat}{t t':TypeId}{cs cs':Array Value}(h:Blk W b t cs)(h':Blk W b' t' cs')(hne:t≠t'):b≠b':=by
 rintro rfl;have:=(show W.heap[b]?=_ from h).symm.trans h';simp only[Option.some.injEq,Obj.cells.injEq] at this;exact hne this.2.1
theorem yb.setx{w W:World}{b:Nat}{cs:Array Value}{er:Value}{k:Int}{p:Option Nat}{i:Nat}{v:Value}(h:yb W er k p)(hL:LS w W b cs):yb (W.setCell ⟨b,i,none⟩ v) er k p:=by
 cases p with
 |none=>exact h
 |some q =>obtain⟨N,h1,h2⟩:=h;exact⟨N,h1,h2.other (h2.ne_type hL.x (by decide))⟩
theorem yb.one{W:World}{b:Nat}{cs:Array Value}{er:Value}{k:Int}{p:Option Nat}{i:Nat}{v:Value}(h:yb W er k p)(hL:Blk W b 97 cs):yb (W.setCell ⟨b,i,none⟩ v) er k p:=by
 cases p with
 |none=>exact h
 |some q =>obtain⟨N,h1,h2⟩:=h;exact⟨N,h1,h2.other (h2.ne_type hL (by decide))⟩
theorem yb.setz{w W:World}{b:Nat}{cs:Array Value}{er:Value}{k:Int}{p:Option Nat}{v0 v1 v2 v3 v4 v5 v6:Value}(h:yb W er k p)(hL:LS w W b cs):yb (((((((W.setCell w.heap.size v0).setCell ⟨w.heap.size,1,none⟩ v1).setCell ⟨w.heap.size,2,none⟩ v2).setCell ⟨w.heap.size,3,none⟩ v3).setCell ⟨w.heap.size,4,none⟩ v4).setCell ⟨w.heap.size,5,none⟩ v5).setCell ⟨w.heap.size,6,none⟩ v6) er k p:=by
 have z:=hL.z;exact((((((h.one z).one z.set).one z.set.set).one z.set.set.set).one z.set.set.set.set).one z.set.set.set.set.set).one z.set.set.set.set.set.set
theorem zk.one{W:World}{b:Nat}{v x:Value}{l:List zf}{i:Nat}(h:zk W v l)(hn:v.ownBlock≠some b):zk (W.setCell ⟨b,i,none⟩ x) v l :=
 ⟨h.form,fun j hj=>by
  obtain⟨g,p,e,hg,c0,c1⟩:=h.cells j hj;have o:g≠b:=fun e'=>hn (by rw[e,e'];rfl);exact ⟨g,p,e,by simp [World.setCell];exact hg,(qq o).trans c0,(qq o).trans c1⟩⟩
theorem zk.all7{W:World}{b:Nat}{v v0 v1 v2 v3 v4 v5 v6:Value}{l:List zf}(h:zk W v l)(hn:v.ownBlock≠some b):zk (((((((W.setCell b v0).setCell ⟨b,1,none⟩ v1).setCell ⟨b,2,none⟩ v2).setCell ⟨b,3,none⟩ v3).setCell ⟨b,4,none⟩ v4).setCell ⟨b,5,none⟩ v5).setCell ⟨b,6,none⟩ v6) v l :=
 ((((((h.one hn).one hn).one hn).one hn).one hn).one hn).one hn
end
section
open Go.RowKit Go.Shelf Sv
attribute [local go_sem] Oper.semAt_some
theorem zje(s:ByteArray)(w:World) :
  CallsIn Fence.wide 3 Tryz.prog 38 #[s] w fun e w'=>e=.returned (.func (.func 72) #[] #[.pointer (some w.heap.size)])/\w'=w.alloc (.cells #[s] 9):=by
 refine callsIn_of_wp Tryz.func38 rfl trivial ?_ rfl;simp only[Tryz.ntmps38,List.size_toArray,List.length_cons,List.length_nil,Nat.reduceAdd,Nat.reduceSub,Array.replicate_succ,Array.replicate_zero,List.push_toArray,List.append_toArray,List.nil_append,List.cons_append]
 gi_wp2
 go_ret;exact⟨rfl,rfl⟩
theorem zbF{s:ByteArray}{k:Nat}(h:s.size<=k):∀f,yc s f k=[]
 |0=>rfl
 |f+1=>by rw[yc,zA2 h]
theorem zdA{s:ByteArray}{k:Nat}(h:k<s.size)(f:Nat):yc s (f+1) k=(if (zb (s.extract k s.size) 10).1.size=0 then [] else [(k,(zb (s.extract k s.size) 10).1)])++yc s f (k+(zb (s.extract k s.size) 10).1.size+1):=by
 rw[yc,zA1 (by omega)]
theorem zcT(s:ByteArray):∀(f k:Nat),(yc s f k).length<=f
 |0,_=>by simp[yc]
 |f+1,k=>by
  rw[yc];split
  ·simp
  ·have:=zcT s f (k+(zb (s.extract k s.size) 10).1.size+1);rw[List.length_append];split<;>simp<;>omega
def Kp1(bt:Nat)(W W':World):Prop:=W'.cell? bt=W.cell? bt/\W'.cell? ⟨4,0,none⟩=W.cell? ⟨4,0,none⟩
theorem zmW(s:ByteArray)(m:Int)(W:World)(hs:s.size<=100000)(hm:W.cell? ⟨4,0,none⟩=some (.int .i64 m)) :
  zC 73 #[s,.string ⟨#[10]⟩] W fun e w'=>∃b,e=.returned (.tuple #[.string (zb s 10).1,.string (zb s 10).2,.bool b])/\∃n,w'=W.drewN n :=
 (Tryz.strings_Cut s ⟨#[10]⟩ m W (by omega) hm).mono fun e w' ⟨he,n,hn⟩=>⟨_,he,n,hn⟩
theorem zhv(l bt:Nat)(s:ByteArray)(hs:s.size<=20000)(J Jx:List Pc->World->Prop)
  (hJd:∀j W n,J j W->J j (W.drewN n))
  (hY:∀ j x W,J j W->j.length<(yc s s.size 0).length->YieldAt Fence.wide (3 - 1) Tryz.prog l #[x.1.1,x.1.2] W fun e W' =>
   (e=.returned (.bool true)/\J (j++[x]) W'/\Kp1 bt W W')\/(e=.returned (.bool false)/\Jx (j++[x]) W'))
  (W:World) (h0:W.cell? bt=some (.string s)) (n:Int) (hn0:W.cell? ⟨4,0,none⟩=some (.int .i64 n)) (hJ:J [] W) :
  CallsIn Fence.wide 3 Tryz.prog 72 #[.func (.yield l) #[] #[],.pointer (some bt)] W fun e W'=>(∃v,e=.returned v)/\((∃ys,zZ ys=yc s s.size 0/\J ys W')\/(∃j,zZ j <+: yc s s.size 0/\Jx j W')):=by
 have HY:=zH hY;have a2:=zH hJd;clear hY hJd;refine callsIn_of_wp Tryz.func72 rfl trivial ?_ rfl;simp only[Tryz.ntmps72,List.size_toArray,List.length_cons,List.length_nil,Nat.reduceAdd,Nat.reduceSub,Array.replicate_succ,Array.replicate_zero,List.push_toArray,List.append_toArray,List.nil_append,List.cons_append]
 gi_wp2
 gi_loopw [3] (fun p wr=>∃(j:List Pc) (k f:Nat),p=.int .i64 k/\k<=s.size+1/\s.size<=k+f/\zZ j++yc s f k=yc s s.size 0/\wr.cell? bt=some (.string s)/\wr.cell? ⟨4,0,none⟩=some (.int .i64 n)/\J j wr)
  (fun p _=>s.size+1-(intOf p).toNat)
 case atStart=>exact⟨[],0,s.size,rfl,Nat.zero_le _,by omega,rfl,h0,hn0,hJ⟩
 case round =>
  obtain⟨j,k,f,rfl,hk,hf,hcut,c0,hn,Y⟩:=hrel;have HJ:=zH Y;have HC:=zH hcut;clear Y hcut;have HN:=zH hn;clear hn
  by_cases hlt:k<s.size
  ·obtain⟨f',rfl⟩:∃f',f=f'+1:=⟨f-1,by omega⟩;have hx:(s.extract k s.size).size=s.size-k:=by rw[ByteArray.size_extract];omega
   have a5:=(qD (s.extract k s.size) 10).1;have hcut:=HC.out;rw[zdA hlt] at hcut;have o:=zH (zmW (s.extract k s.size) n wr (by omega) HN.out);have i0:(0:Int)<=(k:Int):=by omega
   have i1:(k:Int)<=(s.size:Int):=by omega
   have a0:=fun W'=>run_slice_string (P:=Tryz.prog) W' 9 s .i64 .i64 (k:Int) (s.size:Int) Tryz.underlying9 i0 i1 (Int.le_refl _);simp only[Int.toNat_natCast] at a0;generalize (zb (s.extract k s.size) 10).1=ln at *;generalize (zb (s.extract k s.size) 10).2=rs at *;have y:ln.size<=100000:=by omega
   have M:k<=100000:=by omega
   have HX:=zH hcut;clear hcut HC
   gi_wp2_with fail
   refine⟨trivial,?_⟩;refine(callsIn_wide.2 o.out).mono ?_;rintro e w1 ⟨b,rfl,nq,rfl⟩;have e0:(wr.drewN nq).cell? bt=some (.string s):=c0;have V:Hid ((wr.drewN nq).cell? ⟨4,0,none⟩=some (.int .i64 n)):=HN.out;have U:Hid (J j (wr.drewN nq)):=a2.out _ _ nq HJ.out;clear o a0 i0 i1 c0 HN HJ
   by_cases hz:ln.size=0
   ·have u:Hid (zZ j++yc s f' (k+0+1)=yc s s.size 0):=by have h:=HX.out;rw[zA2 hz,hz] at h;exact h
    obtain rfl:=Qs hz;clear HX hz y a5
    gi_wp2
    refine⟨(fun f h=>by cases h),?_⟩
    gi_wp2
    go_roundw
    case rel=>exact⟨j,k+1,f',by go_num,by omega,by omega,u.out,e0,V.out,U.out⟩
    case measure=>simp[intOf];omega
   ·have Z:ln.toList.isEmpty=false:=Qk (by omega);have a7:(ln.toList==[])=false:=by rw[beq_eq_false_iff_ne];intro h;rw[h] at Z;cases Z
    have u:Hid (zZ (j++[⟨(k,ln),M,y⟩])++yc s f' (k+ln.size+1)=yc s s.size 0):=by
     have h:=HX.out;rw[zA1 hz] at h;show _=_;rw[zZ,List.map_append,List.append_assoc];exact h
    have q:j.length<(yc s s.size 0).length:=by
     have h:=congrArg List.length u.out;rw[List.length_append,zZ,List.length_map,List.length_append,List.length_cons] at h;omega
    clear HX;obtain⟨fn,a6,C,a4,hy,hR⟩:=HY.out j ⟨(k,ln),M,y⟩ (wr.drewN nq) U.out q;dsimp only at hy;have a3:=zH q;clear q
    gi_wp2
    refine hR.mono ?_;rintro e W3 (⟨rfl,X,R⟩|⟨rfl,K⟩)
    ·have d0:W3.cell? bt=some (.string s):=R.1.trans e0;have d2:Hid (W3.cell? ⟨4,0,none⟩=some (.int .i64 n)):=R.2.trans V.out;have a1:=zH X;clear X R
     gi_wp2
     go_roundw
     case rel=>exact⟨j++[⟨(k,ln),M,y⟩],k+ln.size+1,f',by go_num,by omega,by omega,u.out,d0,d2.out,a1.out⟩
     case measure=>simp[intOf];omega
    ·gi_wp2
     refine bodyPost_ret (results_none rfl _ _ _) rfl ?_;exact⟨⟨_,rfl⟩,.inr ⟨_,⟨_,u.out⟩,K⟩⟩
  ·have hcut:=HC.out;rw[zbF (by omega),List.append_nil] at hcut;have HX:=zH hcut;clear hcut HC
   gi_wp2
   refine bodyPost_end (results_none rfl _ _ _) rfl ?_;exact⟨⟨_,rfl⟩,.inl ⟨j,HX.out,HJ.out⟩⟩
theorem znW(W:World)(n:Nat):W.grownBy (W.drewN n) none:=⟨rfl,rfl,rfl,Nat.le_refl _,fun _ _ _=>rfl⟩
theorem zjR(bt:Nat)(s:ByteArray)(hs:s.size<=20000)(w:World)(hbt:bt<w.heap.size)(h1:4<w.heap.size)(c0:w.cell? bt=some (.string s))(n:Int)(c2:w.cell? ⟨4,0,none⟩=some (.int .i64 n)) :
  SeqStopsK Fence.wide 3 Tryz.prog 72 #[.pointer (some bt)] zdq (Kp1 bt) (fun ys=>zZ ys=yc s s.size 0) (fun j=>zZ j <+: yc s s.size 0) (yc s s.size 0).length w:=fun l J Jx W hW hJ _ hY h0 =>
 zhv l bt s hs J Jx (fun j W n h=>hJ j W _ none h (znW W n) (fun r e=>by cases e)) hY W ((hW.cell (p:=bt) hbt).trans c0) n ((hW.cell (p:=⟨4,0,none⟩) h1).trans c2) h0
theorem zbA{bt:Nat}{A B C:World}(h:Kp1 bt A B)(k:Kp1 bt B C):Kp1 bt A C:=⟨k.1.trans h.1,k.2.trans h.2⟩
theorem zlh{bt:Nat}{w:World}(hbt:bt<w.heap.size)(h1:4<w.heap.size)(W:World)(l:Nat)(o o':Obj)(hl:w.heap.size<=l)(_:W.heap[l]?=some o)(_:o.isCells=false)(_:o.isWalk=false):Kp1 bt W (W.putObj l o') :=
 ⟨X5 (by omega),X5 (by omega)⟩
theorem zby{bt B:Nat}{W W':World}(h:Below B W W')(h1:bt<B)(h3:4<B):Kp1 bt W W':=⟨h.cell (p:=bt) h1,h.cell (p:=⟨4,0,none⟩) h3⟩
theorem zcW{bt b i:Nat}{W W':World}{v:Value}(h:Kp1 bt W W')(h1:bt≠b)(h3:4≠b):Kp1 bt W (W'.setCell ⟨b,i,none⟩ v):=⟨(qq h1).trans h.1,(qq h3).trans h.2⟩
end
section
open Go.RowKit Go.Shelf Sv
theorem zoK(s:ByteArray)(w:World)(hs:s.size<=100000)(hw:Lw w)(hk:zO (zb s 32).1=0) :
  zC 39 #[s] w (X3 w (.error (3,none))):=by
 have k0:=Blk.new w 97 z7;have j:zB w (w.alloc (.cells z7 97)):=(Below.refl _ w).alloc zN _;have HC:=zH (Qc s 32 (w.alloc (.cells z7 97)) hs (hw.below j).lb);have HW:=zH (hw.below j);have HK:Hid (∀W,Z9 W->zC 74 #[.string (zb s 32).1] W fun e w'=>e=.returned (.int .i64 0)/\w'=W):=fun W h=>by have:=Jy (zb s 32).1 W h;rw[hk] at this;exact this
 have u:=(qD s 32).2;generalize (zb s 32).1=s1 at *;generalize (zb s 32).2=s2 at *;have hs2':s2.size<=100000:=by omega
 clear hk hs u;go_enter Tryz.func39,Tryz.ntmps39;go_wp2_with fail;generalize w.alloc (.cells z7 97)=W0 at *;refine HC.out.mono ?_;rintro e wC ⟨b,rfl,hb⟩;have o:=zH (HK.out wC (HW.out.below hb).wd);have k1:=k0.below hb k0.lt;have hB:zB w wC:=zT j hb;have q:=k1.lt;have y:=zH (HW.out.below hb);clear HC HK k0 j hb HW;go_wp2_with fail;refine o.out.mono ?_;rintro e w2 ⟨rfl,rfl⟩;clear o;have h1:LS w (w2.alloc (.cells #[(0:Int),.string ⟨#[]⟩,(0:Int),(0:Int),(0:Int),.string ⟨#[]⟩,.slice none 0 0] 97)) w2.heap.size #[(0:Int),.string ⟨#[]⟩,(0:Int),(0:Int),(0:Int),.string ⟨#[]⟩,.slice none 0 0]:=⟨k1.alloc _,Blk.new _ _ _,q,zL hB⟩;clear k1 hB;go_upto_region 3 with fail;generalize w2.alloc (.cells #[(0:Int),.string ⟨#[]⟩,(0:Int),(0:Int),(0:Int),.string ⟨#[]⟩,.slice none 0 0] 97)=W3 at *;obtain⟨a4,ab,a5,ac,a6,ad,a7,ae,a8,af,a9,ag,aa,ah⟩:=zcf h1.z;obtain⟨C,X,J,Y,K,Z,M,a0,R,a1,U,a2,V,a3⟩:=zcf h1.x;have HZ:Hid (Blk (((((((W3.setCell w.heap.size (.int .i64 0)).setCell ⟨w.heap.size,1,none⟩ (.string ⟨#[]⟩)).setCell ⟨w.heap.size,2,none⟩ (.int .i64 0)).setCell ⟨w.heap.size,3,none⟩ (.int .i64 0)).setCell ⟨w.heap.size,4,none⟩ (.int .i64 0)).setCell ⟨w.heap.size,5,none⟩ (.string ⟨#[]⟩)).setCell ⟨w.heap.size,6,none⟩ (.slice none 0 0)) w.heap.size 97 #[(0:Int),.string ⟨#[]⟩,(0:Int),(0:Int),(0:Int),.string ⟨#[]⟩,.slice none 0 0]):=by
  have h:=h1.z;exact(((((((h.set (i:=0) (v:=.int .i64 0)).set (i:=1) (v:=.string ⟨#[]⟩)).set (i:=2) (v:=.int .i64 0)).set (i:=3) (v:=.int .i64 0)).set (i:=4) (v:=.int .i64 0)).set (i:=5) (v:=.string ⟨#[]⟩)).set (i:=6) (v:=.slice none 0 0))
 have HB:Hid (zB w (((((((W3.setCell w.heap.size (.int .i64 0)).setCell ⟨w.heap.size,1,none⟩ (.string ⟨#[]⟩)).setCell ⟨w.heap.size,2,none⟩ (.int .i64 0)).setCell ⟨w.heap.size,3,none⟩ (.int .i64 0)).setCell ⟨w.heap.size,4,none⟩ (.int .i64 0)).setCell ⟨w.heap.size,5,none⟩ (.string ⟨#[]⟩)).setCell ⟨w.heap.size,6,none⟩ (.slice none 0 0))):=(((((((h1.B.setCell (p:=w.heap.size) zN _).setCell (p:=⟨w.heap.size,1,none⟩) zN _).setCell (p:=⟨w.heap.size,2,none⟩) zN _).setCell (p:=⟨w.heap.size,3,none⟩) zN _).setCell (p:=⟨w.heap.size,4,none⟩) zN _).setCell (p:=⟨w.heap.size,5,none⟩) zN _).setCell (p:=⟨w.heap.size,6,none⟩) zN _);clear h1;go_wp2;generalize (((((((W3.setCell w.heap.size (.int .i64 0)).setCell ⟨w.heap.size,1,none⟩ (.string ⟨#[]⟩)).setCell ⟨w.heap.size,2,none⟩ (.int .i64 0)).setCell ⟨w.heap.size,3,none⟩ (.int .i64 0)).setCell ⟨w.heap.size,4,none⟩ (.int .i64 0)).setCell ⟨w.heap.size,5,none⟩ (.string ⟨#[]⟩)).setCell ⟨w.heap.size,6,none⟩ (.slice none 0 0))=WF at *;have r0:_=some (Value.int .i64 0):=HZ.out.cell 0;have r1:_=some (Value.string ⟨#[]⟩):=HZ.out.cell 1;have r2:_=some (Value.int .i64 0):=HZ.out.cell 2;have r3:_=some (Value.int .i64 0):=HZ.out.cell 3;have r4:_=some (Value.int .i64 0):=HZ.out.cell 4;have r5:_=some (Value.string ⟨#[]⟩):=HZ.out.cell 5;have r6:_=some (Value.slice none 0 0):=HZ.out.cell 6;refine bodyPost_ret (v:=.tuple #[.agg #[(0:Int),.string ⟨#[]⟩,(0:Int),(0:Int),(0:Int),.string ⟨#[]⟩,.slice none 0 0],.iface 42 (.int .i64 3)]) (by simp[results,Tryz.f39,go_sem,r0,r1,r2,r3,r4,r5,r6]) rfl ?_;exact⟨_,rfl,rfl,HB.out⟩
theorem zpl(s:ByteArray)(w:World)(hs:s.size<=100000)(hw:Lw w)(hk:zO (zb s 32).1=4) :
  zC 39 #[s] w (X3 w (xm 4 (zb (zb s 32).2 32).1 [] ⟨#[]⟩ (zb (zb s 32).2 32).2)):=by
 have k0:=Blk.new w 97 z7;have a3:zB w (w.alloc (.cells z7 97)):=(Below.refl _ w).alloc zN _;have HC:=zH (Qc s 32 (w.alloc (.cells z7 97)) hs (hw.below a3).lb);have HW:=zH (hw.below a3);have HK:Hid (∀W,Z9 W->zC 74 #[.string (zb s 32).1] W fun e w'=>e=.returned (.int .i64 4)/\w'=W):=fun W h=>by have:=Jy (zb s 32).1 W h;rw[hk] at this;exact this
 have aD:=(qD s 32).2;generalize (zb s 32).1=s1 at *;generalize (zb s 32).2=s2 at *;have hs2':s2.size<=100000:=by omega
 have an:=zH hw;clear hk hs aD hw;go_enter Tryz.func39,Tryz.ntmps39;go_wp2_with fail;generalize w.alloc (.cells z7 97)=W0 at *;refine HC.out.mono ?_;rintro e wC ⟨b,rfl,hb⟩;have am:=zH (HK.out wC (HW.out.below hb).wd);have k1:=k0.below hb k0.lt;have hB:zB w wC:=zT a3 hb;have aC:=k1.lt;have aB:=zH (HW.out.below hb);clear HC HK k0 a3 hb HW;go_wp2_with fail;refine am.out.mono ?_;rintro e w2 ⟨rfl,rfl⟩;clear am;have h1:LS w (w2.alloc (.cells #[(4:Int),.string ⟨#[]⟩,(0:Int),(0:Int),(0:Int),.string ⟨#[]⟩,.slice none 0 0] 97)) w2.heap.size #[(4:Int),.string ⟨#[]⟩,(0:Int),(0:Int),(0:Int),.string ⟨#[]⟩,.slice none 0 0]:=⟨k1.alloc _,Blk.new _ _ _,aC,zL hB⟩;clear k1 hB;go_upto_region 3 with fail;generalize w2.alloc (.cells #[(4:Int),.string ⟨#[]⟩,(0:Int),(0:Int),(0:Int),.string ⟨#[]⟩,.slice none 0 0] 97)=W3 at *;generalize w2.heap.size=b1 at *;clear aB;obtain⟨a7,ae,a8,af,a9,ag,aa,ah,ab,ai,ac,aj,ad,ak⟩:=zcf h1.z;obtain⟨j,K,o,M,q,R,u,U,y,V,C,X,J,Y⟩:=zcf h1.x;go_wp2_with fail;clear a7 ae a8 af a9 ag aa ah ab ai ac aj ad ak j K o M q R u U y V C X J Y;have HC:=zH (Qc s2 32 W3 (by omega) (an.out.below h1.B).lb);have aF:=qD s2 32;generalize (zb s2 32).1=n1 at *;generalize (zb s2 32).2=n2 at *;obtain⟨aG,aH⟩:=aF;refine HC.out.mono ?_;rintro e w4 ⟨aK,rfl,ao⟩;have h4:=h1.step ao;clear HC ao;have h5:LS w (w4.setCell ⟨b1,1,none⟩ (.string n1)) b1 #[(4:Int),n1,(0:Int),(0:Int),(0:Int),.string ⟨#[]⟩,.slice none 0 0]:=(h4.set 1 (.string n1));obtain⟨j,K,o,M,q,R,u,U,y,V,C,X,J,Y⟩:=zcf h4.x;have H5:=zH h5;clear h5;go_upto_region 7 with fail;have h5:=H5.out;clear h4 H5 j K o M q R u U y V C X J Y;generalize (w4.setCell ⟨b1,1,none⟩ (.string n1))=W5 at *;obtain⟨j,K,o,M,q,R,u,U,y,V,C,X,J,Y⟩:=zcf h5.x;go_wp2_with fail;clear j K o M q R u U y V C X J Y;have HP:Hid (zC 76 #[.agg #[(4:Int),n1,(0:Int),(0:Int),(0:Int),.string ⟨#[]⟩,.slice none 0 0]] W5 fun e w'=>e=.returned (.bool false)/\w'=W5.alloc (.cells #[(4:Int),n1,(0:Int),(0:Int),(0:Int),.string ⟨#[]⟩,.slice none 0 0] 97)):=yw ⟨4,n1,0,0,0,⟨#[]⟩,[]⟩ (.slice none 0 0) W5;refine HP.out.mono ?_;rintro e w6 ⟨rfl,av⟩;have ap:zB W5 w6:=by rw[av];exact zF.alloc zN _
 have h6:=h5.step ap;clear HP av ap h5;go_wp2_with fail;have HR:=zH (zew n2 w6 (by omega) (an.out.below h6.B).lb);refine HR.out.mono ?_;rintro e w7 ⟨ra,rn,rc,er,rfl,a0,Z,aq⟩;have h7:=h6.step aq;have aw:=h6.B.size;have aI:=h6.x.lt;have aJ:=h6.z.lt;have ax:Hid ((Value.slice ra rn rc).ownBlock≠some b1):=fun h=>by have:=Z _ h;omega
 have ay:Hid ((Value.slice ra rn rc).ownBlock≠some w.heap.size):=fun h=>by have:=Z _ h;omega
 have a2:Hid (∀g,(Value.slice ra rn rc).ownBlock=some g->w.heap.size<=g):=fun g hg=>Nat.le_trans aw (Z g hg);clear HR aq Z aw aI aJ;cases hx:xq n2 with
 |error e2 =>
  obtain⟨k2,p2⟩:=e2;rw[hx] at a0;obtain⟨aE,a1⟩:=a0;cases aE;obtain⟨et,ev,rfl⟩:=a1.form;have hS:LS w (w7.setCell ⟨b1,6,none⟩ (.slice none 0 0)) b1 #[(4:Int),n1,(0:Int),(0:Int),(0:Int),.string ⟨#[]⟩,.slice none 0 0]:=(h7.set 6 (.slice none 0 0));have a5:=zH a1;clear a1;obtain⟨j,K,o,M,q,R,u,U,y,V,C,X,J,Y⟩:=zcf h7.x;have HS:=zH hS;clear hS;go_upto_region 20 with fail;have hS:=HS.out;have a4:Hid (yb (w7.setCell ⟨b1,6,none⟩ (.slice none 0 0)) (.iface et ev) k2 p2):=a5.out.setx h7;clear h7 j K o M q R u U y V C X J Y;generalize (w7.setCell ⟨b1,6,none⟩ (.slice none 0 0))=W9 at *;obtain⟨a7,ae,a8,af,a9,ag,aa,ah,ab,ai,ac,aj,ad,ak⟩:=zcf hS.z;have HE:Hid (yb (((((((W9.setCell w.heap.size (.int .i64 0)).setCell ⟨w.heap.size,1,none⟩ (.string ⟨#[]⟩)).setCell ⟨w.heap.size,2,none⟩ (.int .i64 0)).setCell ⟨w.heap.size,3,none⟩ (.int .i64 0)).setCell ⟨w.heap.size,4,none⟩ (.int .i64 0)).setCell ⟨w.heap.size,5,none⟩ (.string ⟨#[]⟩)).setCell ⟨w.heap.size,6,none⟩ (.slice none 0 0)) (.iface et ev) k2 p2):=a4.out.setz hS;have HZ:Hid (Blk (((((((W9.setCell w.heap.size (.int .i64 0)).setCell ⟨w.heap.size,1,none⟩ (.string ⟨#[]⟩)).setCell ⟨w.heap.size,2,none⟩ (.int .i64 0)).setCell ⟨w.heap.size,3,none⟩ (.int .i64 0)).setCell ⟨w.heap.size,4,none⟩ (.int .i64 0)).setCell ⟨w.heap.size,5,none⟩ (.string ⟨#[]⟩)).setCell ⟨w.heap.size,6,none⟩ (.slice none 0 0)) w.heap.size 97 #[(0:Int),.string ⟨#[]⟩,(0:Int),(0:Int),(0:Int),.string ⟨#[]⟩,.slice none 0 0]):=by
   have h:=hS.z;exact(((((((h.set (i:=0) (v:=.int .i64 0)).set (i:=1) (v:=.string ⟨#[]⟩)).set (i:=2) (v:=.int .i64 0)).set (i:=3) (v:=.int .i64 0)).set (i:=4) (v:=.int .i64 0)).set (i:=5) (v:=.string ⟨#[]⟩)).set (i:=6) (v:=.slice none 0 0))
  have HB:Hid (zB w (((((((W9.setCell w.heap.size (.int .i64 0)).setCell ⟨w.heap.size,1,none⟩ (.string ⟨#[]⟩)).setCell ⟨w.heap.size,2,none⟩ (.int .i64 0)).setCell ⟨w.heap.size,3,none⟩ (.int .i64 0)).setCell ⟨w.heap.size,4,none⟩ (.int .i64 0)).setCell ⟨w.heap.size,5,none⟩ (.string ⟨#[]⟩)).setCell ⟨w.heap.size,6,none⟩ (.slice none 0 0))):=(((((((hS.B.setCell (p:=w.heap.size) zN _).setCell (p:=⟨w.heap.size,1,none⟩) zN _).setCell (p:=⟨w.heap.size,2,none⟩) zN _).setCell (p:=⟨w.heap.size,3,none⟩) zN _).setCell (p:=⟨w.heap.size,4,none⟩) zN _).setCell (p:=⟨w.heap.size,5,none⟩) zN _).setCell (p:=⟨w.heap.size,6,none⟩) zN _);clear hS;go_wp2;generalize (((((((W9.setCell w.heap.size (.int .i64 0)).setCell ⟨w.heap.size,1,none⟩ (.string ⟨#[]⟩)).setCell ⟨w.heap.size,2,none⟩ (.int .i64 0)).setCell ⟨w.heap.size,3,none⟩ (.int .i64 0)).setCell ⟨w.heap.size,4,none⟩ (.int .i64 0)).setCell ⟨w.heap.size,5,none⟩ (.string ⟨#[]⟩)).setCell ⟨w.heap.size,6,none⟩ (.slice none 0 0))=WF at *;have r0:_=some (Value.int .i64 0):=HZ.out.cell 0;have r1:_=some (Value.string ⟨#[]⟩):=HZ.out.cell 1;have r2:_=some (Value.int .i64 0):=HZ.out.cell 2;have r3:_=some (Value.int .i64 0):=HZ.out.cell 3;have r4:_=some (Value.int .i64 0):=HZ.out.cell 4;have r5:_=some (Value.string ⟨#[]⟩):=HZ.out.cell 5;have r6:_=some (Value.slice none 0 0):=HZ.out.cell 6;refine bodyPost_ret (v:=.tuple #[.agg #[(0:Int),.string ⟨#[]⟩,(0:Int),(0:Int),(0:Int),.string ⟨#[]⟩,.slice none 0 0],.iface et ev]) (by simp[results,Tryz.f39,go_sem,r0,r1,r2,r3,r4,r5,r6]) rfl ?_;have ht:xm 4 n1 [] ⟨#[]⟩ n2=.error (k2,p2):=by unfold xm;rw[hx]
  rw[ht];exact⟨_,rfl,HE.out,HB.out⟩
 |ok l =>
  rw[hx] at a0;obtain⟨rfl,au,ar⟩:=a0;have hS:LS w (w7.setCell ⟨b1,6,none⟩ (.slice ra rn rc)) b1 #[(4:Int),n1,(0:Int),(0:Int),(0:Int),.string ⟨#[]⟩,.slice ra rn rc]:=(h7.set 6 (.slice ra rn rc));obtain⟨j,K,o,M,q,R,u,U,y,V,C,X,J,Y⟩:=zcf h7.x;have HS:=zH hS;have aA:Hid (zk (w7.setCell ⟨b1,6,none⟩ (.slice ra rn rc)) (.slice ra rn rc) l):=au.one ax.out;have az:=zH ar;clear hS au ar;go_upto_region 21 with fail;have hS:=HS.out;clear h7 j K o M q R u U y V C X J Y;generalize (w7.setCell ⟨b1,6,none⟩ (.slice ra rn rc))=W9 at *;obtain⟨a7,ae,a8,af,a9,ag,aa,ah,ab,ai,ac,aj,ad,ak⟩:=zcf hS.z;obtain⟨j,K,o,M,q,R,u,U,y,V,C,X,J,Y⟩:=zcf hS.x;have a6:Hid (zk (((((((W9.setCell w.heap.size (.int .i64 4)).setCell ⟨w.heap.size,1,none⟩ (.string n1)).setCell ⟨w.heap.size,2,none⟩ (.int .i64 0)).setCell ⟨w.heap.size,3,none⟩ (.int .i64 0)).setCell ⟨w.heap.size,4,none⟩ (.int .i64 0)).setCell ⟨w.heap.size,5,none⟩ (.string ⟨#[]⟩)).setCell ⟨w.heap.size,6,none⟩ (.slice ra rn rc)) (.slice ra rn rc) l):=aA.out.all7 ay.out;have aL:=hS.ne;have HZ:Hid (Blk (((((((W9.setCell w.heap.size (.int .i64 4)).setCell ⟨w.heap.size,1,none⟩ (.string n1)).setCell ⟨w.heap.size,2,none⟩ (.int .i64 0)).setCell ⟨w.heap.size,3,none⟩ (.int .i64 0)).setCell ⟨w.heap.size,4,none⟩ (.int .i64 0)).setCell ⟨w.heap.size,5,none⟩ (.string ⟨#[]⟩)).setCell ⟨w.heap.size,6,none⟩ (.slice ra rn rc)) w.heap.size 97 #[(4:Int),n1,(0:Int),(0:Int),(0:Int),.string ⟨#[]⟩,.slice ra rn rc]):=by
   have h:=hS.z;exact(((((((h.set (i:=0) (v:=.int .i64 4)).set (i:=1) (v:=.string n1)).set (i:=2) (v:=.int .i64 0)).set (i:=3) (v:=.int .i64 0)).set (i:=4) (v:=.int .i64 0)).set (i:=5) (v:=.string ⟨#[]⟩)).set (i:=6) (v:=.slice ra rn rc))
  have HB:Hid (zB w (((((((W9.setCell w.heap.size (.int .i64 4)).setCell ⟨w.heap.size,1,none⟩ (.string n1)).setCell ⟨w.heap.size,2,none⟩ (.int .i64 0)).setCell ⟨w.heap.size,3,none⟩ (.int .i64 0)).setCell ⟨w.heap.size,4,none⟩ (.int .i64 0)).setCell ⟨w.heap.size,5,none⟩ (.string ⟨#[]⟩)).setCell ⟨w.heap.size,6,none⟩ (.slice ra rn rc))):=(((((((hS.B.setCell (p:=w.heap.size) zN _).setCell (p:=⟨w.heap.size,1,none⟩) zN _).setCell (p:=⟨w.heap.size,2,none⟩) zN _).setCell (p:=⟨w.heap.size,3,none⟩) zN _).setCell (p:=⟨w.heap.size,4,none⟩) zN _).setCell (p:=⟨w.heap.size,5,none⟩) zN _).setCell (p:=⟨w.heap.size,6,none⟩) zN _);clear hS;go_wp2;generalize (((((((W9.setCell w.heap.size (.int .i64 4)).setCell ⟨w.heap.size,1,none⟩ (.string n1)).setCell ⟨w.heap.size,2,none⟩ (.int .i64 0)).setCell ⟨w.heap.size,3,none⟩ (.int .i64 0)).setCell ⟨w.heap.size,4,none⟩ (.int .i64 0)).setCell ⟨w.heap.size,5,none⟩ (.string ⟨#[]⟩)).setCell ⟨w.heap.size,6,none⟩ (.slice ra rn rc))=WF at *;have r0:_=some (Value.int .i64 4):=HZ.out.cell 0;have r1:_=some (Value.string n1):=HZ.out.cell 1;have r2:_=some (Value.int .i64 0):=HZ.out.cell 2;have r3:_=some (Value.int .i64 0):=HZ.out.cell 3;have r4:_=some (Value.int .i64 0):=HZ.out.cell 4;have r5:_=some (Value.string ⟨#[]⟩):=HZ.out.cell 5;have r6:_=some (Value.slice ra rn rc):=HZ.out.cell 6;refine bodyPost_ret (v:=.tuple #[.agg #[(4:Int),n1,(0:Int),(0:Int),(0:Int),.string ⟨#[]⟩,.slice ra rn rc],.nilIface]) (by simp[results,Tryz.f39,go_sem,r0,r1,r2,r3,r4,r5,r6]) rfl ?_;have ht:xm 4 n1 [] ⟨#[]⟩ n2=.ok ⟨4,n1,0,0,0,⟨#[]⟩,l⟩:=by unfold xm;rw[hx];rfl
  rw[ht];exact⟨_,rfl,a6.out,az.out,a2.out,HB.out⟩
end
end Go.Proofs.YthifnefkdjkicaaGreatDoor
