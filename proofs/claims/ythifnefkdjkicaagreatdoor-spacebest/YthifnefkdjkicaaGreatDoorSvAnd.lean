import Derived.Test.YthifnefkdjkicaaGreatDoorSvCuts
set_option maxHeartbeats 8000000
set_option maxRecDepth 100000
namespace Go.Proofs.YthifnefkdjkicaaGreatDoor
section
open Go.RowKit Go.Shelf Sv
attribute [local go_sem] Oper.semAt_some
abbrev z3:Array Value:=#[.int .i64 0,.int .i64 0,.int .i64 0]
theorem zp4{ns:List Nat}(h:ns.length<3)(n:Nat):xu (ns++[n])=(xu ns).setIfInBounds ns.length (.int .i64 n):=by
 match ns,h with
 |[],_=>rfl
 |[a],_=>rfl
 |[a,b],_=>rfl
theorem znd(s:ByteArray)(w:World)(hs:s.size<=100000)(hw:Lb w)(hc:s.data.toList.count 46=2) :
  CallsIn Fence.wide 4 Tryz.prog 75 #[s] w fun e w'=>e=.returned (Qq (qH (zq s ⟨#[46]⟩ s.size 0)))/\zB w w':=by
 have HC:Hid (∀W,CallsIn Fence.wide 3 Tryz.prog 100 #[s,.string ⟨#[46]⟩] W fun e w'=>e=.returned (.int .i64 2)/\w'=W):=fun W=>callsIn_wide.2 (by have:=Tryz.strings_Count_one s 46 W;unfold Lib.countByte at this;rw[hc] at this;exact this);have HP:Hid (∀W,CallsIn Fence.wide 3 Tryz.prog 111 #[s,.string ⟨#[46]⟩] W fun e w'=>e=.returned (.func (.func 155) #[] #[.pointer (some W.heap.size),.pointer (some ⟨W.heap.size+1,0,none⟩)])/\w'=(W.alloc (.cells #[s] 9)).alloc (.cells #[.string ⟨#[46]⟩] 9)):=fun W=>zbZ s ⟨#[46]⟩ W;have hN:(zq s ⟨#[46]⟩ s.size 0).length=3:=by rw[zbW s 46 s.size 0 (by omega) (Nat.zero_le _),List.drop_zero,hc]
 have HL:=zH hw;have av:=hw.big;clear hc hw;refine callsIn_of_wp_marks Tryz.func75 rfl trivial ?_ rfl;simp only[Tryz.ntmps75,List.size_toArray,List.length_cons,List.length_nil,Nat.reduceAdd,Nat.reduceSub,Array.replicate_succ,Array.replicate_zero,List.push_toArray,List.append_toArray,List.nil_append,List.cons_append]
 gi_wp2_with (first
  |(refine⟨trivial,?_⟩;gi_at_call 100;refine(HC.out _).mono ?_;rintro e w' ⟨rfl,rfl⟩)
  | (refine ⟨trivial,?_⟩;gi_at_call 111;refine (HP.out _).mono ?_;rintro e w' ⟨rfl,rfl⟩))
 clear HC HP;have k0:=(((((Blk.new w 92 z3).alloc (.cells #[.nilIface] 33)).alloc (.cells z3 92)).alloc (.cells #[(0:Int)] 3)).alloc (.cells #[s] 9)).alloc (.cells #[.string ⟨#[46]⟩] 9);have k1:=((((Blk.new (w.alloc (.cells z3 92)) 33 #[.nilIface]).alloc (.cells z3 92)).alloc (.cells #[(0:Int)] 3)).alloc (.cells #[s] 9)).alloc (.cells #[.string ⟨#[46]⟩] 9);have k2:=(((Blk.new ((w.alloc (.cells z3 92)).alloc (.cells #[.nilIface] 33)) 92 z3).alloc (.cells #[(0:Int)] 3)).alloc (.cells #[s] 9)).alloc (.cells #[.string ⟨#[46]⟩] 9);have k3:=((Blk.new (((w.alloc (.cells z3 92)).alloc (.cells #[.nilIface] 33)).alloc (.cells z3 92)) 3 #[(0:Int)]).alloc (.cells #[s] 9)).alloc (.cells #[.string ⟨#[46]⟩] 9);have k4:=(Blk.new ((((w.alloc (.cells z3 92)).alloc (.cells #[.nilIface] 33)).alloc (.cells z3 92)).alloc (.cells #[(0:Int)] 3)) 9 #[s]).alloc (.cells #[.string ⟨#[46]⟩] 9);have k5:=Blk.new (((((w.alloc (.cells z3 92)).alloc (.cells #[.nilIface] 33)).alloc (.cells z3 92)).alloc (.cells #[(0:Int)] 3)).alloc (.cells #[s] 9)) 9 #[.string ⟨#[46]⟩];simp only[zA0] at k1 k2 k3 k4 k5;have X:zB w ((((((w.alloc (.cells z3 92)).alloc (.cells #[.nilIface] 33)).alloc (.cells z3 92)).alloc (.cells #[(0:Int)] 3)).alloc (.cells #[s] 9)).alloc (.cells #[.string ⟨#[46]⟩] 9)):=((((((Below.refl _ w).alloc zN _).alloc (by simp only[zA0];omega) _).alloc (by simp only[zA0];omega) _).alloc (by simp only[zA0];omega) _).alloc (by simp only[zA0];omega) _).alloc (by simp only[zA0];omega) _;have aw:((((((w.alloc (.cells z3 92)).alloc (.cells #[.nilIface] 33)).alloc (.cells z3 92)).alloc (.cells #[(0:Int)] 3)).alloc (.cells #[s] 9)).alloc (.cells #[.string ⟨#[46]⟩] 9)).heap.size=w.heap.size+1+1+1+1+1+1:=by simp only[zA0]
 obtain⟨W0,a4⟩:∃W0,(((((w.alloc (.cells z3 92)).alloc (.cells #[.nilIface] 33)).alloc (.cells z3 92)).alloc (.cells #[(0:Int)] 3)).alloc (.cells #[s] 9)).alloc (.cells #[.string ⟨#[46]⟩] 9)=W0:=⟨_,rfl⟩;rw[a4] at k0 k1 k2 k3 k4 k5 X aw ⊢;clear a4;obtain⟨n,hn⟩:=(HL.out.below X).ml;have c4:_=some (Value.string s):=k4.cell 0;have c5:_=some (Value.string ⟨#[46]⟩):=k5.cell 0;refine wpIn_rangeFunc_ownF rfl (by omega) (gf:=155) (lb:=#[.pointer (some ⟨w.heap.size+1+1+1+1,0,none⟩),.pointer (some ⟨w.heap.size+1+1+1+1+1,0,none⟩)]) rfl trivial (enters_of Tryz.func155 (by kernel_rfl) rfl)
  (zbb (w.heap.size+1+1+1+1) (w.heap.size+1+1+1+1+1) s ⟨#[46]⟩ hs (by decide) W0 (by omega) (by omega) (by omega) c4 c5 n hn) Kk (zbw (by omega) (by omega) (by omega)) zF (fun _=>rfl)
  (fun q W=>((Blk W w.heap.size 92 z3/\Blk W (w.heap.size+1) 33 #[.nilIface])/\(∃ns,qH (zZ q)=.ok ns/\Blk W (w.heap.size+1+1) 92 (xu ns)/\Blk W (w.heap.size+1+1+1) 3 #[ns.length]))/\(zB w W/\w.heap.size+1+1+1+1+1+1<=W.heap.size))
  (fun c q W=>(c=.ret/\∃k,qH (zZ q)=.error k/\Blk W w.heap.size 92 z3/\Blk W (w.heap.size+1) 33 #[.iface 42 (.int .i64 k)])/\zB w W)
  (OwnFrom.and (Own.from (fun q A B row hs hg hr=>⟨⟨Yg _ _ (fun _:Unit=>z3) () A B row hs.1.1 hg hr,Yg _ _ (fun _:Unit=>#[.nilIface]) () A B row hs.1.2 hg hr⟩,by
   obtain⟨ns,h1,h2,h3⟩:=hs.2;exact ⟨ns,h1,Yg _ _ (fun _:Unit=>xu ns) () A B row h2 hg hr,Yg _ _ (fun _:Unit=>#[ns.length]) () A B row h3 hg hr⟩⟩) _) (OwnFrom.and (ownFrom_below zN (by omega)) (zlf _ _)))
  (fun c=>OwnFrom.and (Own.from (fun q A B row hs hg hr=>⟨hs.1,by
   obtain⟨k,h1,h2,h3⟩:=hs.2;exact ⟨k,h1,Yg _ _ (fun _:Unit=>z3) () A B row h2 hg hr,Yg _ _ (fun _:Unit=>#[.iface 42 (.int .i64 k)]) () A B row h3 hg hr⟩⟩) _) (ownFrom_below zN (by omega)))
  ⟨⟨⟨k0,k1⟩,[],rfl,k2,k3⟩,X,by omega⟩
  (fun x=>{ tmps:=#[.string s,undef,.pointer (some w.heap.size),.pointer (some ⟨w.heap.size+1,0,none⟩),.pointer (some ⟨w.heap.size+1+1,0,none⟩),.pointer (some ⟨w.heap.size+1+1+1,0,none⟩),undef,.string x.1.2,undef,undef,.string s,.int .i64 2,.bool false,undef,undef,.string s,.func (.func 155) #[] #[.pointer (some ⟨w.heap.size+1+1+1+1,0,none⟩),.pointer (some ⟨w.heap.size+1+1+1+1+1,0,none⟩)],.int .i64 x.1.1,.string x.1.2,undef,undef,undef,undef,undef,undef,undef,undef,undef,undef,undef,undef,undef,undef,undef],defers:=[] }) ?assign ?body ?done ?stop
 case assign =>
  intro l x W K hK
  gi_wp2
  exact hK
 case body =>
  rintro l q x W ⟨⟨⟨j0,j1⟩,ns,j,j2,j3⟩,hB,Z⟩ hlen;have a9:=zbO j;rw[List.length_map] at a9;have U:ns.length<3:=by omega
  clear a9;have HP:=zH (zkD x.1.2 W x.2.2 (HL.out.below hB));have aa:=zfB j x.1;have R:Hid (qH (zZ (q++[x]))=match yg x.1.2.data.toList with
   |.error k=>.error k
   | .ok n=>.ok (ns++[n])):=by rw [zZ,List.map_append];exact aa
  clear aa;cases hp:yg x.1.2.data.toList with
  |error k =>
   rw[hp] at HP R;have C:Hid (zR 112 #[x.1.2] W (.tuple #[(0:Int),.iface 42 (.int .i64 k)])):=HP.out;clear hp HP
   gi_wp2_with fail
   refine⟨trivial,?_⟩;refine(CallsIn.inRound l (callsIn_wide.2 C.out)).mono ?_;rintro e W' ⟨rfl,hb⟩;have m0:=j0.below hb j0.lt;have m1:=j1.below hb j1.lt;have d0:W'.cell? w.heap.size=some (.int .i64 0):=m0.cell 0;have d1:W'.cell? ⟨w.heap.size,1,none⟩=some (.int .i64 0):=m0.cell 1;have d2:W'.cell? ⟨w.heap.size,2,none⟩=some (.int .i64 0):=m0.cell 2;have e0:=m0.frozen 0;have e1:=m0.frozen 1;have e2:=m0.frozen 2;have d3:W'.cell? ⟨w.heap.size+1,0,none⟩=some .nilIface:=m1.cell 0;have e3:=m1.frozen 0;have J:zB w W':=zT hB hb;have M:=x9 hb;have HX:Hid (KeepsOthers W ((((W'.setCell w.heap.size (.int .i64 0)).setCell ⟨w.heap.size,1,none⟩ (.int .i64 0)).setCell ⟨w.heap.size,2,none⟩ (.int .i64 0)).setCell ⟨w.heap.size+1,0,none⟩ (.iface 42 (.int .i64 k)))):=(((M.trans (KeepsOthers.setCell _ _ _)).trans (KeepsOthers.setCell _ _ _)).trans (KeepsOthers.setCell _ _ _)).trans (KeepsOthers.setCell _ _ _);have ac:Hid (zB w ((((W'.setCell w.heap.size (.int .i64 0)).setCell ⟨w.heap.size,1,none⟩ (.int .i64 0)).setCell ⟨w.heap.size,2,none⟩ (.int .i64 0)).setCell ⟨w.heap.size+1,0,none⟩ (.iface 42 (.int .i64 k)))):=(((J.setCell (p:=w.heap.size) zN _).setCell (p:=⟨w.heap.size,1,none⟩) zN _).setCell (p:=⟨w.heap.size,2,none⟩) zN _).setCell (p:=⟨w.heap.size+1,0,none⟩) (Nat.le_succ _) _;have ae:Hid (Blk ((((W'.setCell w.heap.size (.int .i64 0)).setCell ⟨w.heap.size,1,none⟩ (.int .i64 0)).setCell ⟨w.heap.size,2,none⟩ (.int .i64 0)).setCell ⟨w.heap.size+1,0,none⟩ (.iface 42 (.int .i64 k))) w.heap.size 92 z3):=(((m0.set (i:=0) (v:=.int .i64 0)).set (i:=1) (v:=.int .i64 0)).set (i:=2) (v:=.int .i64 0)).other (by omega);have af:Hid (Blk ((((W'.setCell w.heap.size (.int .i64 0)).setCell ⟨w.heap.size,1,none⟩ (.int .i64 0)).setCell ⟨w.heap.size,2,none⟩ (.int .i64 0)).setCell ⟨w.heap.size+1,0,none⟩ (.iface 42 (.int .i64 k))) (w.heap.size+1) 33 #[.iface 42 (.int .i64 k)]):=(((m1.other (by omega)).other (by omega)).other (by omega)).set (i:=0);clear j0 j1 j2 j3 hb hB J M m0 m1 C
   gi_wp2
   exact⟨HX.out,⟨rfl,k,R.out,ae.out,af.out⟩,ac.out⟩
  |ok n =>
   rw[hp] at HP R;have C:Hid (zR 112 #[x.1.2] W (.tuple #[n,.nilIface])):=HP.out;clear hp HP
   gi_wp2_with fail
   refine⟨trivial,?_⟩;refine(CallsIn.inRound l (callsIn_wide.2 C.out)).mono ?_;rintro e W' ⟨rfl,hb⟩;have m0:=j0.below hb j0.lt;have m1:=j1.below hb j1.lt;have m2:=j2.below hb j2.lt;have m3:=j3.below hb j3.lt;have d3:W'.cell? ⟨w.heap.size+1+1+1,0,none⟩=some (.int .i64 ns.length):=m3.cell 0;have e3:=m3.frozen 0;have g3:(W'.setCell ⟨w.heap.size+1+1,ns.length,none⟩ (.int .i64 n)).cell? ⟨w.heap.size+1+1+1,0,none⟩=some (.int .i64 ns.length):=(m3.other (by omega)).cell 0;have g4:(W'.setCell ⟨w.heap.size+1+1,ns.length,none⟩ (.int .i64 n)).frozen? ⟨w.heap.size+1+1+1,0,none⟩=false:=(m3.other (by omega)).frozen 0;obtain⟨y,hy⟩:∃y,(xu ns)[ns.length]?=some (.int .i64 y):=by
    match ns,U with
    |[],_=>exact⟨_,rfl⟩
    |[a],_=>exact⟨_,rfl⟩
    |[a,b],_=>exact⟨_,rfl⟩
   have d2:W'.cell? ⟨w.heap.size+1+1,ns.length,none⟩=some (.int .i64 y):=(m2.cell ns.length).trans hy;have e2:=m2.frozen ns.length;have J:zB w W':=zT hB hb;have M:=x9 hb;have a1:KeepsOthers W ((W'.setCell ⟨w.heap.size+1+1,ns.length,none⟩ (.int .i64 n)).setCell ⟨w.heap.size+1+1+1,0,none⟩ (.int .i64 ((ns.length:Int)+1))):=(M.trans (KeepsOthers.setCell _ _ _)).trans (KeepsOthers.setCell _ _ _);have a7:zB w ((W'.setCell ⟨w.heap.size+1+1,ns.length,none⟩ (.int .i64 n)).setCell ⟨w.heap.size+1+1+1,0,none⟩ (.int .i64 ((ns.length:Int)+1))):=(J.setCell (p:=⟨w.heap.size+1+1,ns.length,none⟩) (by show w.heap.size<=w.heap.size+1+1;omega) _).setCell (p:=⟨w.heap.size+1+1+1,0,none⟩) (by show w.heap.size<=w.heap.size+1+1+1;omega) _;have n0:Blk ((W'.setCell ⟨w.heap.size+1+1,ns.length,none⟩ (.int .i64 n)).setCell ⟨w.heap.size+1+1+1,0,none⟩ (.int .i64 ((ns.length:Int)+1))) w.heap.size 92 z3:=(m0.other (by omega)).other (by omega);have n1:Blk ((W'.setCell ⟨w.heap.size+1+1,ns.length,none⟩ (.int .i64 n)).setCell ⟨w.heap.size+1+1+1,0,none⟩ (.int .i64 ((ns.length:Int)+1))) (w.heap.size+1) 33 #[.nilIface]:=(m1.other (by omega)).other (by omega);have n2:Blk ((W'.setCell ⟨w.heap.size+1+1,ns.length,none⟩ (.int .i64 n)).setCell ⟨w.heap.size+1+1+1,0,none⟩ (.int .i64 ((ns.length:Int)+1))) (w.heap.size+1+1) 92 (xu (ns++[n])):=by rw[zp4 U];exact(m2.set (i:=ns.length)).other (by omega)
   have n3:Blk ((W'.setCell ⟨w.heap.size+1+1,ns.length,none⟩ (.int .i64 n)).setCell ⟨w.heap.size+1+1+1,0,none⟩ (.int .i64 ((ns.length:Int)+1))) (w.heap.size+1+1+1) 3 #[.int .i64 (((ns++[n]).length:Nat):Int)]:=by
    have:=(m3.other (b':=w.heap.size+1+1) (i:=ns.length) (v:=.int .i64 n) (by omega)).set (i:=0) (v:=.int .i64 ((ns.length:Int)+1));rw[show (((ns++[n]).length:Nat):Int)=(ns.length:Int)+1 by simp];exact this
   have kp:Kp2 (w.heap.size+1+1+1+1) (w.heap.size+1+1+1+1+1) W ((W'.setCell ⟨w.heap.size+1+1,ns.length,none⟩ (.int .i64 n)).setCell ⟨w.heap.size+1+1+1,0,none⟩ (.int .i64 ((ns.length:Int)+1))):=by
    exact Xy (Xy (zbH hb (by omega) (by omega) (by omega)) (by omega) (by omega) (by omega)) (by omega) (by omega) (by omega)
   have a8:=Nat.le_trans Z a1.size;have ak:=zH a1;have am:=zH kp;have an:=zH n0;have ao:=zH n1;have ap:=zH n2;have aq:=zH n3;have ar:=zH a7;have au:=zH a8;clear j0 j1 j2 j3 hb hB J M m0 m1 m2 m3 C j hlen Z a1 kp n0 n1 n2 n3 a7 hy a8
   gi_wp2
   exact⟨ak.out,am.out,⟨⟨an.out,ao.out⟩,ns++[n],R.out,ap.out,aq.out⟩,ar.out,au.out⟩
 case done =>
  rintro D ys W hD ab ⟨⟨⟨j0,j1⟩,ns,j,j2,j3⟩,hB,Z⟩ hK;rw[ab] at j;have U:ns.length=3:=by rw[zbO j,hN]
  obtain⟨a,b,c,rfl⟩:∃a b c,ns=[a,b,c]:=by
   match ns,U with
   |[a,b,c],_=>exact⟨a,b,c,rfl⟩
  have ag:=zH j;clear j ab;have d0:_=some (Value.int .i64 0):=j0.cell 0;have d1:_=some (Value.int .i64 0):=j0.cell 1;have d2:_=some (Value.int .i64 0):=j0.cell 2;have e0:=j0.frozen 0;have e1:=j0.frozen 1;have e2:=j0.frozen 2;have d3:_=some Value.nilIface:=j1.cell 0;have e3:=j1.frozen 0;have g0:_=some (Value.int .i64 a):=j2.cell 0;have g1:_=some (Value.int .i64 b):=j2.cell 1;have g2:_=some (Value.int .i64 c):=j2.cell 2;obtain⟨WF,u⟩:∃WF,(((W.setCell w.heap.size (.int .i64 a)).setCell ⟨w.heap.size,1,none⟩ (.int .i64 b)).setCell ⟨w.heap.size,2,none⟩ (.int .i64 c)).setCell ⟨w.heap.size+1,0,none⟩ .nilIface=WF:=⟨_,rfl⟩;have a5:zB w WF:=by rw[<-u];exact(((hB.setCell (p:=w.heap.size) zN _).setCell (p:=⟨w.heap.size,1,none⟩) zN _).setCell (p:=⟨w.heap.size,2,none⟩) zN _).setCell (p:=⟨w.heap.size+1,0,none⟩) (Nat.le_succ _) _
  have a6:WF.heap[D]?=some (.deferred (some [])):=by rw[<-u];exact((((KeepsOthers.setCell _ _ _).trans (KeepsOthers.setCell _ _ _)).trans (KeepsOthers.setCell _ _ _)).trans (KeepsOthers.setCell _ _ _)).same D _ hK rfl
  have p0:Blk WF w.heap.size 92 (xu [a,b,c]):=by rw[<-u];exact(((j0.set (i:=0) (v:=.int .i64 a)).set (i:=1) (v:=.int .i64 b)).set (i:=2) (v:=.int .i64 c)).other (by omega)
  have p1:Blk WF (w.heap.size+1) 33 #[.nilIface]:=by rw[<-u];exact(((j1.other (by omega)).other (by omega)).other (by omega)).set (i:=0)
  have q0:=p0.put (l:=D) (o':=.deferred none) (by omega);have q1:=p1.put (l:=D) (o':=.deferred none) (by omega);have V:=zH q0;have ah:=zH q1;have ai:=zH a5;have a3:=zH a6;have aj:=zH u;clear j0 j1 j2 j3 hK a5 a6 p0 p1 q0 q1 hB u
  gi_wp2
  rw[aj.out];refine⟨by simp,.inl ⟨_,_,rfl,run_takeDeferred a3.out,?_⟩⟩;have r0:=V.out.cell 0;have r1:=V.out.cell 1;have r2:=V.out.cell 2;have r3:=ah.out.cell 0;refine⟨Qq (.ok [a,b,c]),?_,by rw[ag.out],ai.out.trans (belowK_b (w:=w) zN WF D _ _ (by omega) a3.out rfl rfl)⟩;simp[results,Tryz.f75,go_sem,r0,r1,r2,r3,Qq,xu]
 case stop =>
  rintro D c q W hD a0 ⟨⟨rfl,k,hk,j0,j1⟩,hB⟩ hK;obtain⟨a2,o⟩:=a0;have Y:=zcC (r:=a2) hk;rw[o] at Y;have ad:=zH Y;clear Y hk o;have q0:=j0.put (l:=D) (o':=.deferred none) (by omega);have q1:=j1.put (l:=D) (o':=.deferred none) (by omega);have r0:=q0.cell 0;have r1:=q0.cell 1;have r2:=q0.cell 2;have r3:=q1.cell 0
  gi_wp2
  refine⟨by simp,.inl ⟨_,_,rfl,run_takeDeferred hK,?_⟩⟩;refine⟨Qq (.error k),?_,by rw[ad.out],hB.trans (belowK_b (w:=w) zN W D _ _ (by omega) hK rfl rfl)⟩;simp[results,Tryz.f75,go_sem,r0,r1,r2,r3,Qq]
end
section
open Go.RowKit Sv
theorem zkJ{l:List zf}{k e:Nat}(hk:k<l.length)(h:e<(sp l k).1):xk e (l.drop k)=(e,(sp l k).1) :: xk (sp l k).2 (l.drop (k+1)):=by
 rw[List.drop_eq_getElem_cons hk,xk,<-QT l k hk,zA2 h]
theorem zka{l:List zf}{k e:Nat}(hk:k<l.length)(h:¬e<(sp l k).1):xk e (l.drop k)=xk (sp l k).2 (l.drop (k+1)):=by
 rw[List.drop_eq_getElem_cons hk,xk,<-QT l k hk,zA1 h]
theorem zlj{l:List zf}{k e:Nat}(hk:k<l.length)(h:qR e (l.drop k)):e<=(sp l k).1/\(sp l k).1<(sp l k).2/\(sp l k).2<=ALL/\qR (sp l k).2 (l.drop (k+1)):=by
 rw[List.drop_eq_getElem_cons hk,<-QT l k hk] at h;exact⟨h.1,h.2.1,h.2.2.1,h.2.2.2.mono (Nat.le_succ _)⟩
theorem KC(l:List zf)(hl:Rg l)(v:Value)(w:World)(hv:zk w v l) :
  zC 159 #[.agg #[v]] w (Yd w (nt l)):=by
 obtain⟨i0,ag,ak,am,an⟩:=info_parts zeG;obtain⟨a,a6,rfl⟩:=hv.form;have ay:=Yf hl;have ah:=Yf (xK hl);have HL:=zH hl;have HV:=zH hv;clear hl hv;go_enter Tryz.func159,Tryz.ntmps159;go_wp2_with fail;obtain⟨W0,Y⟩:∃W0,(w.alloc (.cells #[.slice a l.length a6] 95)).alloc (.cells #[.slice none 0 0] 95)=W0:=⟨_,rfl⟩;have a7:zB w W0:=by rw[<-Y];exact((Below.refl _ w).alloc zN _).alloc (by simp) _
 have ai:W0.heap.size=w.heap.size+2:=by rw[<-Y];simp
 have ad:W0.cell? ⟨w.heap.size+1,0,none⟩=some (.slice none 0 0):=by rw[<-Y];have:=Ym (w.alloc (.cells #[.slice a l.length a6] 95)) (.slice none 0 0) 95;rw[zA0] at this;exact this
 have af:W0.frozen? ⟨w.heap.size+1,0,none⟩=false:=by rw[<-Y];simp
 have ar:Hid (zk W0 (.slice a l.length a6) l):=HV.out.below a7 zN;have a9:=zH a7;have aa:=zH ad;have ab:=zH af;rw[Y];clear a7 ad af Y HV;go_loopw [3,4,10] (fun gV eV kV wr=>∃(k e:Nat) (q:List zf),k<=l.length/\kV=.int .i64 k/\eV=.int .i64 e/\e<=ALL/\qR e (l.drop k)/\q++xk e (l.drop k)=nt l/\wr.ownsRow (w.heap.size+2) 232 2 gV q.length (qV q)/\Below (w.heap.size+2) W0 wr) (fun _ _ kV _=>l.length-(intOf kV).toNat)
 case atStart=>exact⟨0,0,[],Nat.zero_le _,rfl,rfl,Nat.zero_le _,HL.out,rfl,World.ownsRow_nil _ _ _ _,Below.refl _ _⟩
 case round =>
  obtain⟨k,e,q,hk,rfl,rfl,he,a1,j,K,a8⟩:=hrel;obtain⟨ra,rc,rfl⟩:=zbE K;have az:q.length<=(nt l).length:=by rw[<-j];simp
  have a2:=a8.size;rw[ai] at a2;have J:=zH K;have U:=zH a8;have HC:=zH a1;have HR:=zH j;clear K a8 a1 j
  by_cases hlt:k<l.length
  ·obtain⟨g,au,e1,hg,c0,c1⟩:=(ar.out.below U.out (Nat.le_of_eq ai)).cells k hlt;simp at e1;obtain⟨rfl,rfl⟩:=e1;obtain⟨d1,d2,d3,d4⟩:=zlj hlt HC.out;have HD:=zH d4;clear d4
   by_cases hgap:e<(sp l k).1
   ·have j:=HR.out;rw[zkJ hlt hgap,List.append_cons] at j;have V:(q++[(e,(sp l k).1)]).length<=(nt l).length:=by rw[<-j];simp
    simp at V;have a0:=zH j;clear j HR;generalize (sp l k).1=A at *;generalize (sp l k).2=T at *;go_wp2_with (at_builtin;refine wpList_append_own_at _ rfl _ _ 93 rfl (w.heap.size+2) 232 i0 (.agg #[(0:Int),(0:Int)]) 2 16 Tryz.underlying93 ag ak am an rfl (by decide) _ _ _ rfl ((J.out.alloc _).alloc _) ⟨wr.heap.size+1,0,none⟩ 1 1 [.int .i64 e,.int .i64 A] rfl rfl ?c1 ?c2 ?c3 ?c4 ?c5 ?_)
    case c1=>have:=KS (wr.alloc (.cells #[A,T] 232)) (.int .i64 e) (.int .i64 A) 232;rw[zA0] at this;exact this
    case c2=>intro u hu;simp at hu;rcases hu with rfl|rfl<;>rfl
    case c3=>unfold maxLen;omega
    case c4=>omega
    case c5=>show (w.heap.size+2)<=(World.alloc _ _).heap.size;simp;omega
    intro v7 w7 o y _ M;have X:Below (w.heap.size+2) W0 w7:=(((U.out.alloc a2 _).alloc (by simp;omega) _).grown y (by simp;omega) (fun k hk=>(J.out.lt k hk).1));have ct:w7.cell? ⟨wr.heap.size,1,none⟩=some (.int .i64 T):=by
     rw[Z3 y (by simp;omega) (Xt J.out zN)];have:=(KZ wr (.int .i64 A) (.int .i64 T) 232).2;have b1:=((Below.refl _ (wr.alloc (.cells #[A,T] 232))).alloc zN (.cells #[e,A] 232)).cell (p:=⟨wr.heap.size,1,none⟩) (by simp);exact b1.trans this
    have e7:(q++[(e,A)]).length=q.length+1:=by simp
    have es:qV (q++[(e,A)])=qV q++[.int .i64 e,.int .i64 A]:=by rw[Jb];rfl
    rw[<-es,<-e7] at o;have ap:=zH o;have ao:=zH X;clear o y M X e7 es;go_wp2;go_roundw
    case rel=>exact⟨k+1,T,q++[(e,A)],by omega,rfl,rfl,d3,HD.out,a0.out,ap.out,ao.out⟩
    case measure=>simp[intOf];omega
   ·have j:=HR.out;rw[zka hlt hgap] at j;have a0:=zH j;clear j HR;generalize (sp l k).1=A at *;generalize (sp l k).2=T at *;go_wp2;go_roundw
    case rel=>exact⟨k+1,T,q,by omega,rfl,rfl,d3,HD.out,a0.out,J.out.alloc _,U.out.alloc a2 _⟩
    case measure=>simp[intOf];omega
  ·obtain rfl:k=l.length:=by omega
   have j:=HR.out;rw[List.drop_length,xk] at j;have ae:=(U.out.cell (p:=⟨w.heap.size+1,0,none⟩) (by show w.heap.size+1<_;omega)).trans aa.out;have ax:=(U.out.frozen (p:=⟨w.heap.size+1,0,none⟩) (by show w.heap.size+1<_;omega)).trans ab.out
   by_cases R:e<ALL
   ·rw[zA2 R] at j;have V:(q++[(e,ALL)]).length<=(nt l).length:=by rw[<-j];simp
    simp at V;have a0:=zH j;have hend':(e:Int)<1000000000:=by unfold ALL at R;omega
    clear j HR;go_wp2_with (at_builtin;refine wpList_append_own_at _ rfl _ _ 93 rfl (w.heap.size+2) 232 i0 (.agg #[(0:Int),(0:Int)]) 2 16 Tryz.underlying93 ag ak am an rfl (by decide) _ _ _ rfl (J.out.alloc _) wr.heap.size 1 1 [.int .i64 e,.int .i64 1000000000] rfl rfl (KS _ _ _ _) ?c2 ?c3 ?c4 ?c5 ?_)
    case c2=>intro u hu;simp at hu;rcases hu with rfl|rfl<;>rfl
    case c3=>unfold maxLen;omega
    case c4=>omega
    case c5=>show (w.heap.size+2)<=(World.alloc _ _).heap.size;simp;omega
    intro v7 w7 o y _ M;have X:Below (w.heap.size+2) W0 w7:=((U.out.alloc a2 _).grown y (by simp;omega) (fun k hk=>(J.out.lt k hk).1));have aw:=(X.cell (p:=⟨w.heap.size+1,0,none⟩) (by show w.heap.size+1<_;omega)).trans aa.out;have aB:=(X.frozen (p:=⟨w.heap.size+1,0,none⟩) (by show w.heap.size+1<_;omega)).trans ab.out;have e7:(q++[(e,ALL)]).length=q.length+1:=by simp
    have es:qV (q++[(e,ALL)])=qV q++[.int .i64 e,.int .i64 1000000000]:=by rw[Jb];rfl
    rw[<-es,<-e7,a0.out] at o;have av:=Xb o;obtain⟨va,vc,rfl⟩:=zbE o;have aj:zB w (w7.setCell ⟨w.heap.size+1,0,none⟩ (.slice va (nt l).length vc)):=(a9.out.trans (X.mono (Nat.le_add_right _ 2))).setCell (p:=⟨w.heap.size+1,0,none⟩) (by show w.heap.size<=w.heap.size+1;omega) _;have C:(w7.setCell ⟨w.heap.size+1,0,none⟩ (.slice va (nt l).length vc)).ownsRow (w.heap.size+2) 232 2 (.slice va (nt l).length vc) (nt l).length (qV (nt l)):=by
     have aA:Below (w.heap.size+2) w7 w7:=Below.refl _ _;exact KE o (by omega)
    have ac:=Xb C;have a4:=zH ac;have a3:Hid (∀g,(Value.slice va (nt l).length vc).ownBlock=some g->w.heap.size<=g):=fun g hg=>by have:=(C.lt g hg).1;omega
    have a5:=zH aj;clear o y M X e7 es av C ac aj ae ax;go_wp2;have Z:(w7.setCell ⟨w.heap.size+1,0,none⟩ (.slice va (nt l).length vc)).cell? ⟨w.heap.size+1,0,none⟩=some (.slice va (nt l).length vc):=World.cell?_setCell_same' _ _ _ (by rw[aw];rfl);refine bodyPost_ret (v:=.agg #[.slice va (nt l).length vc]) (by simp[results,Tryz.results159,go_sem,Z]) rfl ?_;exact⟨_,rfl,a4.out,a3.out,a5.out⟩
   ·rw[zA1 R,List.append_nil] at j;have hend':¬(e:Int)<1000000000:=by unfold ALL at R;omega
    have K:=J.out;have C:(wr.setCell ⟨w.heap.size+1,0,none⟩ (.slice ra q.length rc)).ownsRow (w.heap.size+2) 232 2 (.slice ra q.length rc) q.length (qV q):=KE K (by omega);have a3:Hid (∀g,(Value.slice ra q.length rc).ownBlock=some g->w.heap.size<=g):=fun g hg=>by have:=(C.lt g hg).1;omega
    have a4:Hid (zk (wr.setCell ⟨w.heap.size+1,0,none⟩ (.slice ra q.length rc)) (.slice ra q.length rc) (nt l)):=j▸Xb C;have a5:=zH ((a9.out.trans (U.out.mono (Nat.le_add_right _ 2))).setCell (p:=⟨w.heap.size+1,0,none⟩) (by show w.heap.size<=w.heap.size+1;omega) (.slice ra q.length rc));have Z:(wr.setCell ⟨w.heap.size+1,0,none⟩ (.slice ra q.length rc)).cell? ⟨w.heap.size+1,0,none⟩=some (.slice ra q.length rc):=World.cell?_setCell_same' _ _ _ (by rw[ae];rfl);have aq:=zH Z;clear K C Z j;go_wp2;have Z:=aq.out;refine bodyPost_ret (v:=.agg #[.slice ra q.length rc]) (by simp[results,Tryz.results159,go_sem,Z]) rfl ?_;exact⟨_,rfl,a4.out,a3.out,a5.out⟩
end
section
open Go.RowKit Sv
theorem zer{l m:List zf}{i j:Nat}(hi:i<l.length)(hj:j<m.length):yp (l.drop i) (m.drop j)=(if max (sp l i).1 (sp m j).1<min (sp l i).2 (sp m j).2 then [(max (sp l i).1 (sp m j).1,min (sp l i).2 (sp m j).2)] else [])++(if (sp l i).2<(sp m j).2 then yp (l.drop (i+1)) (m.drop j) else yp (l.drop i) (m.drop (j+1))):=by
 rw[List.drop_eq_getElem_cons hi,List.drop_eq_getElem_cons hj,yp,<-QT l i hi,<-QT m j hj]
theorem zda(l m:List zf)(hl:Rg l)(hm:Rg m)(v u:Value)(w:World)(hv:zk w v l)(hu:zk w u m) :
  zC 158 #[.agg #[v],.agg #[u]] w (Yd w (nd l m)):=by
 obtain⟨i0,aC,aH,aI,aJ⟩:=info_parts zeG;obtain⟨a,a9,rfl⟩:=hv.form;obtain⟨b,aa,rfl⟩:=hu.form;have aS:=Yf hl;have aD:=Yf hm;have aE:=Yf (Qg hl hm);have HL:=zH hl;have HM:=zH hm;have HV:=zH hv;have HU:=zH hu;clear hl hv hm hu;go_enter Tryz.func158,Tryz.ntmps158;go_wp2_with fail;obtain⟨W0,am⟩:∃W0,((w.alloc (.cells #[.slice a l.length a9] 95)).alloc (.cells #[.slice b m.length aa] 95)).alloc (.cells #[.slice none 0 0] 95)=W0:=⟨_,rfl⟩;have X:ze3 w W0 (.slice a l.length a9) (.slice b m.length aa) (.slice none 0 0):=am▸zaM w _ _ _ _ _ _;have ae:=X.below;have ar:=X.size;have aG:=X.c0;have aF:=X.c1;have az:=X.c2;have aA:=X.f2;clear X;have aN:Hid (zk W0 (.slice a l.length a9) l):=HV.out.below ae zN;have aM:Hid (zk W0 (.slice b m.length aa) m):=HU.out.below ae zN;have aw:=zH ae;have ax:=zH az;have ay:=zH aA;have aL:=zH aG;have aK:=zH aF;rw[am];clear ae az aA am HV HU aG aF;go_loopw [5,6,7] (fun bV iV jV wr=>∃(i j:Nat) (q:List zf),i<=l.length/\j<=m.length/\iV=.int .i64 i/\jV=.int .i64 j/\q++yp (l.drop i) (m.drop j)=nd l m/\wr.ownsRow (w.heap.size+3) 232 2 bV q.length (qV q)/\Below (w.heap.size+3) W0 wr) (fun _ iV jV _=>(l.length-(intOf iV).toNat)+(m.length-(intOf jV).toNat))
 case atStart=>exact⟨0,0,[],Nat.zero_le _,Nat.zero_le _,rfl,rfl,rfl,World.ownsRow_nil _ _ _ _,Below.refl _ _⟩
 case round =>
  obtain⟨i,j,q,hi,hj,rfl,rfl,o,a6,ac⟩:=hrel;obtain⟨ra,rc,rfl⟩:=zbE a6;have aV:q.length<=(nd l m).length:=by rw[<-o];simp
  have au:=ac.size;rw[ar] at au;have aU:=(ac.cell (p:=w.heap.size) (by show w.heap.size<_;omega)).trans aL.out;have aT:=(ac.cell (p:=⟨w.heap.size+1,0,none⟩) (by show w.heap.size+1<_;omega)).trans aK.out;have V:=zH a6;have Y:=zH ac;have HR:=zH o;clear a6 ac o
  by_cases hlt:i<l.length
  ·by_cases hjt:j<m.length
   ·obtain⟨g,aO,e1,hg,c0,c1⟩:=(aN.out.below Y.out (Nat.le_of_eq ar)).cells i hlt;simp at e1;obtain⟨rfl,rfl⟩:=e1;obtain⟨g2,aP,e2,aB,d0,d1⟩:=(aM.out.below Y.out (Nat.le_of_eq ar)).cells j hjt;simp at e2;obtain⟨rfl,rfl⟩:=e2;have aR:i*2<i*2+1:=Nat.lt_succ_self _;have SC:Hid (∀W,zB wr W->(W.cell? w.heap.size=some (.slice (some ⟨g,0,none⟩) l.length a9)/\W.cell? ⟨w.heap.size+1,0,none⟩=some (.slice (some g2) m.length aa)/\W.cell? ⟨g,i*2,none⟩=some (.int .i64 ((sp l i).1:Int))/\W.cell? ⟨g,i*2+1,none⟩=some (.int .i64 ((sp l i).2:Int))/\W.cell? ⟨g2,j*2,none⟩=some (.int .i64 ((sp m j).1:Int))/\W.cell? ⟨g2,j*2+1,none⟩=some (.int .i64 ((sp m j).2:Int)))):=fun W hb =>
     ⟨(hb.cell (p:=w.heap.size) (by show w.heap.size<_;omega)).trans aU,(hb.cell (p:=⟨w.heap.size+1,0,none⟩) (by show w.heap.size+1<_;omega)).trans aT,(hb.cell (p:=⟨g,i*2,none⟩) hg).trans c0,(hb.cell (p:=⟨g,i*2+1,none⟩) hg).trans c1,(hb.cell (p:=⟨g2,j*2,none⟩) aB).trans d0,(hb.cell (p:=⟨g2,j*2+1,none⟩) aB).trans d1⟩
    go_wp2_with fail;go_region_held3 (fun w'=>w'.cell? w.heap.size=some (.slice (some ⟨g,0,none⟩) l.length a9)/\w'.cell? ⟨w.heap.size+1,0,none⟩=some (.slice (some g2) m.length aa)/\w'.cell? ⟨g,i*2,none⟩=some (.int .i64 ((sp l i).1:Int))/\w'.cell? ⟨g,i*2+1,none⟩=some (.int .i64 ((sp l i).2:Int))/\w'.cell? ⟨g2,j*2,none⟩=some (.int .i64 ((sp m j).1:Int))/\w'.cell? ⟨g2,j*2+1,none⟩=some (.int .i64 ((sp m j).2:Int))) ((refine SC.out _ ?_;repeat' (first|exact Below.refl _ _|refine Below.drew ?_|refine Below.alloc ?_ (by simp) _|refine Below.alloc ?_ (by simp;omega) _|refine Below.setCell (p:=_) ?_ (by simp) _))) (first|fail)
    ·have h2:=zd0 wr (.int .i64 ((sp l i).1:Int)) (.int .i64 ((sp l i).2:Int)) (.int .i64 ((sp m j).1:Int)) (.int .i64 ((sp m j).2:Int)) 232 232;generalize ((wr.alloc (.cells #[.int .i64 ((sp l i).1:Int),.int .i64 ((sp l i).2:Int)] 232)).alloc (.cells #[.int .i64 ((sp m j).1:Int),.int .i64 ((sp m j).2:Int)] 232)).drew=W1 at *;have o:=HR.out;rw[zer hlt hjt] at o;generalize (sp l i).1=A at *;generalize (sp l i).2=T at *;generalize (sp m j).1=C at *;generalize (sp m j).2=D at *;have s0:=h2.s0;have s1:=h2.s1;have t0:=h2.t0;have t1:=h2.t1;have a0:=zH o;clear c0 c1 d0 d1 o HR;go_wp2_with fail;go_quiet (fail);have h3:=h2.drewN nq;generalize W1.drewN nq=W2 at *;have M:=zH (zd2 V.out h3.below zN);have a4:=h3.below;have av:=a4.size;have aq:=h3.ls;have a5:=h3.lt;have an:=h3.hs;have ao:=h3.ht;have a2:Hid (Below (w.heap.size+3) W0 W2):=Y.out.trans (a4.mono au);have u1:=h3.s1;have u3:=h3.t1;clear a4 s0 s1 t0 t1 h2 h3 Y SC
     by_cases ad:max A C<min T D
     ·have hmx':max (A:Int) (C:Int)<min (T:Int) (D:Int):=by omega
      have o:=a0.out;rw[zA2 ad] at o;have a3:(q++[(max A C,min T D)]).length<=(nd l m).length:=by rw[<-o,<-List.append_assoc];simp
      simp at a3;have eM:((max A C:Nat):Int)=max (A:Int) (C:Int):=by omega
      have eN:((min T D:Nat):Int)=min (T:Int) (D:Int):=by omega
      have af:=zH eM;have ag:=zH eN;have y:=zH o;clear o a0 eM eN;go_wp2_with (at_builtin;refine wpList_append_own_at _ rfl _ _ 93 rfl (w.heap.size+3) 232 i0 (.agg #[(0:Int),(0:Int)]) 2 16 Tryz.underlying93 aC aH aI aJ rfl (by decide) _ _ _ rfl (M.out.alloc _) W2.heap.size 1 1 [.int .i64 (max (A:Int) (C:Int)),.int .i64 (min (T:Int) (D:Int))] rfl rfl (KS _ _ _ _) ?c2 ?c3 ?c4 ?c5 ?_)
      case c2=>intro u hu;simp at hu;rcases hu with rfl|rfl<;>rfl
      case c3=>unfold maxLen;omega
      case c4=>omega
      case c5=>show w.heap.size+3<=(World.alloc _ _).heap.size;rw[zA0];omega
      intro v7 w7 R J _ Z;have ab:Below (w.heap.size+3) W0 w7:=((a2.out.alloc (by omega) _).grown J (by rw[zA0];omega) (fun k hk=>(M.out.lt k hk).1));have x1:w7.cell? ⟨wr.heap.size,1,none⟩=some (.int .i64 T):=by
       rw[Z3 J (by rw[zA0];omega) (Xt V.out an)];exact(((Below.refl W2.heap.size W2).alloc zN _).cell (p:=⟨wr.heap.size,1,none⟩) aq).trans u1
      have x3:w7.cell? ⟨wr.heap.size+1,1,none⟩=some (.int .i64 D):=by
       rw[Z3 J (by rw[zA0];omega) (Xt V.out ao)];exact(((Below.refl W2.heap.size W2).alloc zN _).cell (p:=⟨wr.heap.size+1,1,none⟩) a5).trans u3
      have e7:(q++[(max A C,min T D)]).length=q.length+1:=by simp
      have es:qV (q++[(max A C,min T D)])=qV q++[.int .i64 (max (A:Int) (C:Int)),.int .i64 (min (T:Int) (D:Int))]:=by rw[Jb,<-af.out,<-ag.out];rfl
      rw[<-es,<-e7] at R;have a8:=zH R;have a7:=zH ab;clear R J Z ab e7 es u1 u3
      by_cases hTD:T<D
      ·have o:=y.out;rw[zA2 hTD,<-List.append_assoc] at o;have K:=zH o;clear o y;go_wp2;go_roundw
       case rel=>exact⟨i+1,j,q++[(max A C,min T D)],by omega,by omega,rfl,rfl,K.out,a8.out,a7.out⟩
       case measure=>simp[intOf];omega
      ·have o:=y.out;rw[zA1 hTD,<-List.append_assoc] at o;have K:=zH o;clear o y;go_wp2;go_roundw
       case rel=>exact⟨i,j+1,q++[(max A C,min T D)],by omega,by omega,rfl,rfl,K.out,a8.out,a7.out⟩
       case measure=>simp[intOf];omega
     ·have hmx':¬max (A:Int) (C:Int)<min (T:Int) (D:Int):=by omega
      have o:=a0.out;rw[zA1 ad,List.nil_append] at o;have y:=zH o;clear o a0
      by_cases hTD:T<D
      ·have o:=y.out;rw[zA2 hTD] at o;have K:=zH o;clear o y;go_wp2;go_roundw
       case rel=>exact⟨i+1,j,q,by omega,by omega,rfl,rfl,K.out,M.out,a2.out⟩
       case measure=>simp[intOf];omega
      ·have o:=y.out;rw[zA1 hTD] at o;have K:=zH o;clear o y;go_wp2;go_roundw
       case rel=>exact⟨i,j+1,q,by omega,by omega,rfl,rfl,K.out,M.out,a2.out⟩
       case measure=>simp[intOf];omega
    ·have h2:=ziG wr (.int .i64 ((sp l i).1:Int)) (.int .i64 ((sp l i).2:Int)) (.int .i64 ((sp m j).1:Int)) (.int .i64 ((sp m j).2:Int)) 232 232;generalize ((wr.alloc (.cells #[.int .i64 ((sp m j).1:Int),.int .i64 ((sp m j).2:Int)] 232)).alloc (.cells #[.int .i64 ((sp l i).1:Int),.int .i64 ((sp l i).2:Int)] 232)).drew=W1 at *;have o:=HR.out;rw[zer hlt hjt] at o;generalize (sp l i).1=A at *;generalize (sp l i).2=T at *;generalize (sp m j).1=C at *;generalize (sp m j).2=D at *;have s0:=h2.s0;have s1:=h2.s1;have t0:=h2.t0;have t1:=h2.t1;have a0:=zH o;clear c0 c1 d0 d1 o HR;go_wp2_with fail;go_quiet (fail);have h3:=h2.drewN nq;generalize W1.drewN nq=W2 at *;have M:=zH (zd2 V.out h3.below zN);have a4:=h3.below;have av:=a4.size;have aq:=h3.ls;have a5:=h3.lt;have an:=h3.hs;have ao:=h3.ht;have a2:Hid (Below (w.heap.size+3) W0 W2):=Y.out.trans (a4.mono au);have u1:=h3.s1;have u3:=h3.t1;clear a4 s0 s1 t0 t1 h2 h3 Y SC
     by_cases ad:max A C<min T D
     ·have hmx':max (A:Int) (C:Int)<min (T:Int) (D:Int):=by omega
      have o:=a0.out;rw[zA2 ad] at o;have a3:(q++[(max A C,min T D)]).length<=(nd l m).length:=by rw[<-o,<-List.append_assoc];simp
      simp at a3;have eM:((max A C:Nat):Int)=max (A:Int) (C:Int):=by omega
      have eN:((min T D:Nat):Int)=min (T:Int) (D:Int):=by omega
      have af:=zH eM;have ag:=zH eN;have y:=zH o;clear o a0 eM eN;go_wp2_with (at_builtin;refine wpList_append_own_at _ rfl _ _ 93 rfl (w.heap.size+3) 232 i0 (.agg #[(0:Int),(0:Int)]) 2 16 Tryz.underlying93 aC aH aI aJ rfl (by decide) _ _ _ rfl (M.out.alloc _) W2.heap.size 1 1 [.int .i64 (max (A:Int) (C:Int)),.int .i64 (min (T:Int) (D:Int))] rfl rfl (KS _ _ _ _) ?c2 ?c3 ?c4 ?c5 ?_)
      case c2=>intro u hu;simp at hu;rcases hu with rfl|rfl<;>rfl
      case c3=>unfold maxLen;omega
      case c4=>omega
      case c5=>show w.heap.size+3<=(World.alloc _ _).heap.size;rw[zA0];omega
      intro v7 w7 R J _ Z;have ab:Below (w.heap.size+3) W0 w7:=((a2.out.alloc (by omega) _).grown J (by rw[zA0];omega) (fun k hk=>(M.out.lt k hk).1));have x1:w7.cell? ⟨wr.heap.size+1,1,none⟩=some (.int .i64 T):=by
       rw[Z3 J (by rw[zA0];omega) (Xt V.out an)];exact(((Below.refl W2.heap.size W2).alloc zN _).cell (p:=⟨wr.heap.size+1,1,none⟩) aq).trans u1
      have x3:w7.cell? ⟨wr.heap.size,1,none⟩=some (.int .i64 D):=by
       rw[Z3 J (by rw[zA0];omega) (Xt V.out ao)];exact(((Below.refl W2.heap.size W2).alloc zN _).cell (p:=⟨wr.heap.size,1,none⟩) a5).trans u3
      have e7:(q++[(max A C,min T D)]).length=q.length+1:=by simp
      have es:qV (q++[(max A C,min T D)])=qV q++[.int .i64 (max (A:Int) (C:Int)),.int .i64 (min (T:Int) (D:Int))]:=by rw[Jb,<-af.out,<-ag.out];rfl
      rw[<-es,<-e7] at R;have a8:=zH R;have a7:=zH ab;clear R J Z ab e7 es u1 u3
      by_cases hTD:T<D
      ·have o:=y.out;rw[zA2 hTD,<-List.append_assoc] at o;have K:=zH o;clear o y;go_wp2;go_roundw
       case rel=>exact⟨i+1,j,q++[(max A C,min T D)],by omega,by omega,rfl,rfl,K.out,a8.out,a7.out⟩
       case measure=>simp[intOf];omega
      ·have o:=y.out;rw[zA1 hTD,<-List.append_assoc] at o;have K:=zH o;clear o y;go_wp2;go_roundw
       case rel=>exact⟨i,j+1,q++[(max A C,min T D)],by omega,by omega,rfl,rfl,K.out,a8.out,a7.out⟩
       case measure=>simp[intOf];omega
     ·have hmx':¬max (A:Int) (C:Int)<min (T:Int) (D:Int):=by omega
      have o:=a0.out;rw[zA1 ad,List.nil_append] at o;have y:=zH o;clear o a0
      by_cases hTD:T<D
      ·have o:=y.out;rw[zA2 hTD] at o;have K:=zH o;clear o y;go_wp2;go_roundw
       case rel=>exact⟨i+1,j,q,by omega,by omega,rfl,rfl,K.out,M.out,a2.out⟩
       case measure=>simp[intOf];omega
      ·have o:=y.out;rw[zA1 hTD] at o;have K:=zH o;clear o y;go_wp2;go_roundw
       case rel=>exact⟨i,j+1,q,by omega,by omega,rfl,rfl,K.out,M.out,a2.out⟩
       case measure=>simp[intOf];omega
   ·obtain rfl:j=m.length:=by omega
    have o:=HR.out;rw[List.drop_length,zht,List.append_nil] at o;have ap:=(Y.out.cell (p:=⟨w.heap.size+1+1,0,none⟩) (by show w.heap.size+1+1<_;omega)).trans ax.out;have aQ:=(Y.out.frozen (p:=⟨w.heap.size+1+1,0,none⟩) (by show w.heap.size+1+1<_;omega)).trans ay.out;have U:(wr.setCell ⟨w.heap.size+1+1,0,none⟩ (.slice ra q.length rc)).ownsRow (w.heap.size+3) 232 2 (.slice ra q.length rc) q.length (qV q):=KE V.out (by omega);have ah:Hid (∀g,(Value.slice ra q.length rc).ownBlock=some g->w.heap.size<=g):=fun g hg=>by have:=(U.lt g hg).1;omega
    have aj:Hid (zk (wr.setCell ⟨w.heap.size+1+1,0,none⟩ (.slice ra q.length rc)) (.slice ra q.length rc) (nd l m)):=o▸Xb U;have ak:=zH ((aw.out.trans (Y.out.mono (Nat.le_add_right _ 3))).setCell (p:=⟨w.heap.size+1+1,0,none⟩) (by show w.heap.size<=w.heap.size+1+1;omega) (.slice ra q.length rc));have a1:(wr.setCell ⟨w.heap.size+1+1,0,none⟩ (.slice ra q.length rc)).cell? ⟨w.heap.size+1+1,0,none⟩=some (.slice ra q.length rc):=World.cell?_setCell_same' _ _ _ (by rw[ap];rfl);have ai:=zH a1;clear U a1 o;go_wp2;have a1:=ai.out;refine bodyPost_ret (v:=.agg #[.slice ra q.length rc]) (by simp[results,Tryz.results158,go_sem,a1]) rfl ?_;exact⟨_,rfl,aj.out,ah.out,ak.out⟩
  ·obtain rfl:i=l.length:=by omega
   have o:=HR.out;rw[List.drop_length,yp,List.append_nil] at o;have ap:=(Y.out.cell (p:=⟨w.heap.size+1+1,0,none⟩) (by show w.heap.size+1+1<_;omega)).trans ax.out;have aQ:=(Y.out.frozen (p:=⟨w.heap.size+1+1,0,none⟩) (by show w.heap.size+1+1<_;omega)).trans ay.out;have U:(wr.setCell ⟨w.heap.size+1+1,0,none⟩ (.slice ra q.length rc)).ownsRow (w.heap.size+3) 232 2 (.slice ra q.length rc) q.length (qV q):=KE V.out (by omega);have ah:Hid (∀g,(Value.slice ra q.length rc).ownBlock=some g->w.heap.size<=g):=fun g hg=>by have:=(U.lt g hg).1;omega
   have aj:Hid (zk (wr.setCell ⟨w.heap.size+1+1,0,none⟩ (.slice ra q.length rc)) (.slice ra q.length rc) (nd l m)):=o▸Xb U;have ak:=zH ((aw.out.trans (Y.out.mono (Nat.le_add_right _ 3))).setCell (p:=⟨w.heap.size+1+1,0,none⟩) (by show w.heap.size<=w.heap.size+1+1;omega) (.slice ra q.length rc));have a1:(wr.setCell ⟨w.heap.size+1+1,0,none⟩ (.slice ra q.length rc)).cell? ⟨w.heap.size+1+1,0,none⟩=some (.slice ra q.length rc):=World.cell?_setCell_same' _ _ _ (by rw[ap];rfl);have ai:=zH a1;clear U a1 o;go_wp2;have a1:=ai.out;refine bodyPost_ret (v:=.agg #[.slice ra q.length rc]) (by simp[results,Tryz.results158,go_sem,a1]) rfl ?_;exact⟨_,rfl,aj.out,ah.out,ak.out⟩
end
end Go.Proofs.YthifnefkdjkicaaGreatDoor
