import Derived.Test.YthifnefkdjkicaaGreatDoorArMade
namespace Go.Proofs.YthifnefkdjkicaaGreatDoor
set_option maxHeartbeats 4000000
set_option maxRecDepth 100000
namespace Bd
open Go.RowKit Go.Maps
theorem zfb:∀(ns:List Nd) (k:Nat) (n:Nd),k<ns.length->(((zA ns).set (k*3) (.int .i64 n.v)).set (k*3+1) (.int .i64 n.l)).set (k*3+2) (.int .i64 n.h)=zA (ns.set k n)
 |[],k,n,h=>by simp at h
 |m :: ns,0,n,_=>by simp[zA]
 |m :: ns,k+1,n,h=>by
  have ih:=zfb ns k n (by simpa using h);have e2:∀(j:Nat) (xs:List Value) (u:Value),(Value.int .i64 m.v :: .int .i64 m.l :: .int .i64 m.h :: xs).set (j+3) u=Value.int .i64 m.v :: .int .i64 m.l :: .int .i64 m.h :: xs.set j u:=fun j xs u=>rfl;show ((((Value.int .i64 m.v :: .int .i64 m.l :: .int .i64 m.h :: zA ns):List Value).set ((k+1)*3) _).set ((k+1)*3+1) _).set ((k+1)*3+2) _=(Value.int .i64 m.v :: .int .i64 m.l :: .int .i64 m.h :: zA (ns.set k n));rw[show (k+1)*3=k*3+3 by omega,show k*3+3+1=(k*3+1)+3 by omega,show k*3+3+2=(k*3+2)+3 by omega,e2,e2,e2,ih]
section
variable {B b bm g m cap k:Nat} {w w':World} {v:Value} {ns:List Nd} {L L':List (Nd × Int)} {room next:Int}
theorem zP.setNode(h:zP B w b bm (.slice (some g) m cap) ns L room next)(hk:k<ns.length)(n:Nd) :
  zP B (((w.setCell ⟨g,k*3,none⟩ (.int .i64 n.v)).setCell ⟨g,k*3+1,none⟩ (.int .i64 n.l)).setCell ⟨g,k*3+2,none⟩ (.int .i64 n.h)) b bm (.slice (some g) m cap) (ns.set k n) L room next:=by
 obtain⟨D,hD,hR⟩:=h.hmap;have o:b≠g:=fun e=>h.d1 (by rw[e];rfl);have u:bm≠g:=fun e=>h.d3 (by rw[e];rfl);have hm:m=ns.length:=by
  rcases h.row.2 with ⟨h1,-⟩|⟨_,_,_,h1,-⟩<;>cases h1;rfl
 have hK:zc (fun j=>j=g) w (((w.setCell ⟨g,k*3,none⟩ (.int .i64 n.v)).setCell ⟨g,k*3+1,none⟩ (.int .i64 n.l)).setCell ⟨g,k*3+2,none⟩ (.int .i64 n.h)) :=
  ((zc.setCell (S:=fun j=>j=g) w ⟨g,k*3,none⟩ _ rfl).trans (zc.setCell (S:=fun j=>j=g) _ ⟨g,k*3+1,none⟩ _ rfl)).trans (zc.setCell (S:=fun j=>j=g) _ ⟨g,k*3+2,none⟩ _ rfl)
 have p:=h.row;rw[hm] at p;have q:=(((p.stored (k*3) (.int .i64 n.v)).1.stored (k*3+1) (.int .i64 n.l)).1.stored (k*3+2) (.int .i64 n.h)).1;rw[zfb ns k n hk] at q;refine⟨Nat.lt_of_lt_of_le h.lt hK.size,(hK.cell (a:=b) h.lt o).trans h.croom,(hK.cell (a:=⟨b,1,none⟩) h.lt o).trans h.cnodes,(hK.cell (a:=⟨b,2,none⟩) h.lt o).trans h.cmap,(hK.cell (a:=⟨b,3,none⟩) h.lt o).trans h.cnext,fun i=>(hK.frozen (a:=⟨b,i,none⟩) h.lt o).trans (h.froz i),?_,⟨D,Z6 hD hK u,hR⟩,h.d1,h.d2,h.d3,h.B1,h.B2⟩;rw[List.length_set,hm];exact q
theorem zP.setMap{D':DataW Unit}(h:zP B w b bm v ns L room next)(hk:zc (fun j=>j=bm) w w')(hD:w'.ownsMap Tryz.prog 250 (plainElem Tryz.prog 3) bm L'.length D')(hR:Rep Nd.Ok Nd.lit (fun x:Int=>.lit (.int .i64 x)) D' L'):zP B w' b bm v ns L' room next:=by
 have hb:b≠bm:=fun e=>h.d2 e.symm;exact ⟨Nat.lt_of_lt_of_le h.lt hk.size,(hk.cell (a:=b) h.lt hb).trans h.croom,(hk.cell (a:=⟨b,1,none⟩) h.lt hb).trans h.cnodes,(hk.cell (a:=⟨b,2,none⟩) h.lt hb).trans h.cmap,(hk.cell (a:=⟨b,3,none⟩) h.lt hb).trans h.cnext,fun i=>(hk.frozen (a:=⟨b,i,none⟩) h.lt hb).trans (h.froz i),
  YV h.row hk (fun k hv e=>h.d3 (e ▸ hv)),⟨D',hD,hR⟩,h.d1,h.d2,h.d3,h.B1,h.B2⟩
def zoL(B:Nat)(w:World)(b bm:Nat)(v:Value)(ns:List Nd)(L:List (Nd × Int))(room:Int)(i:Nat)(n:Nd)(e:Ending)(w':World):Prop :=
 ∃(k:Nat) (v':Value),e=.returned (.tuple #[.int .i64 (2+(k:Int)),.nilIface])/\k<=ns.length/\(∀j,i<=j->j<k->(nd ns j).v<24)/\(k<ns.length->¬(nd ns k).v<24) /\
  zP B w' b bm v' ((if k=ns.length then ns++[⟨24,0,0⟩] else ns).set k n) (L++[(n,2+(k:Int))]) room (2+(k:Int))/\zc (Own b bm v) w w'/\(v'.ownBlock=v.ownBlock\/∃g,v'.ownBlock=some g/\w.heap.size<=g)
theorem zmQ(hA:zP B w b bm v ns L room next)(hl:ns.length<=100000)(n:Nd)(hn:n.Ok)(hf:Fit ns n)(hnin:n∉L.map Prod.fst)(hroom:(L.length:Int)<room)(hLl:L.length<=100000)(i:Nat)(hnext:next=2+(i:Int))(hil:i<=ns.length)(hB:B<=w.heap.size) :
  zC 209 #[.pointer (some b),n.val] w (zoL B w b bm v ns L room i n):=by
 have hl':ns.length<=1000000:=by omega
 obtain⟨x,lo,hi⟩:=n;obtain⟨h0,h1,h2,h3,h4,h5⟩:=hf;simp only at h0 h1 h2 h3 h4 h5;have aU:=below_new w (.cells #[x,lo,hi] 250);have HL:=zH (Jh hA (.cells #[x,lo,hi] 250) lo hn.2.1 hl');have HH:=zH (Jh hA (.cells #[x,lo,hi] 250) hi hn.2.2 hl');have TL:=zH (Ju hA (.cells #[x,lo,hi] 250) lo hn.2.1 hl');have TH:=zH (Ju hA (.cells #[x,lo,hi] 250) hi hn.2.2 hl');have a7:=hA.kept (zc.alloc (fun _=>False) w (.cells #[x,lo,hi] 250)) (fun _ _ h=>h);obtain⟨D,hD,hR⟩:=a7.hmap;have ay:Hid (∀W:World,zc (fun _=>False) (w.alloc (.cells #[x,lo,hi] 250)) W->(Instr.lookup 179 (.map (some bm)) (.agg #[x,lo,hi]) true).run Tryz.prog W=.ok (.tuple #[(0:Int),false]) W):=fun W hW=>zkM (a:=⟨x,lo,hi⟩) (Z6 hD hW (fun h=>h)) hR hn hnin;have cm:=a7.cmap;obtain⟨c0,c1,c2,-⟩:=xr w (.int .i64 x) (.int .i64 lo) (.int .i64 hi) 250;rw[h2] at HL;rw[h3] at HH;clear h2 h3 hD hR;unfold Nd.val;generalize za ns lo=tl at *;generalize za ns hi=th at *;have d1:decide (tl<=x)=false:=decide_eq_false (by omega);have d2:decide (th<=x)=false:=decide_eq_false (by omega);go_enter Tryz.func209,Tryz.ntmps209;go_wp2_with fail;refine HL.out.mono ?_;rintro e w1 ⟨rfl,rfl⟩;go_wp2_with fail;refine HH.out.mono ?_;rintro e w1 ⟨rfl,rfl⟩;clear HL HH;go_wp2_with fail;go_quiet (first|(go_at_call 98;with_reducible exact TL.out _)|(go_at_call 98;with_reducible exact TH.out _));clear TL TH;go_wp2_with fail;have hk:=Qx (fun _=>False) (w.alloc (.cells #[x,lo,hi] 250)) nq;have aS:=aU.trans (yV w.heap.size _ nq);have aI:((w.alloc (.cells #[x,lo,hi] 250)).drewN nq).cell? ⟨b,2,none⟩=some (.map (some bm)):=cm;have af:((w.alloc (.cells #[x,lo,hi] 250)).drewN nq).cell? w.heap.size=some (.int .i64 x):=c0;have ah:((w.alloc (.cells #[x,lo,hi] 250)).drewN nq).cell? ⟨w.heap.size,1,none⟩=some (.int .i64 lo):=c1;have aj:((w.alloc (.cells #[x,lo,hi] 250)).drewN nq).cell? ⟨w.heap.size,2,none⟩=some (.int .i64 hi):=c2;have aq:=ay.out _ hk.drew;have am:=a7.kept hk (fun _ _ h=>h);have ac:=zH hnin;have b4:=zH hn;have a9:=zH hA;clear hk ay aU cm c0 c1 c2 d1 d2 h4 h5 hA a7 hnin hn;generalize (w.alloc (.cells #[x,lo,hi] 250)).drewN nq=W at *;go_region_held3 (fun w'=>w'.cell? ⟨b,2,none⟩=some (.map (some bm))/\w'.cell? w.heap.size=some (.int .i64 x)/\w'.cell? ⟨w.heap.size,1,none⟩=some (.int .i64 lo)/\w'.cell? ⟨w.heap.size,2,none⟩=some (.int .i64 hi)) (exact⟨aI,af,ah,aj⟩) (first|fail);clear aq;have an:=am.kept (Qx (fun _=>False) W 1) (fun _ _ h=>h);have ba:W.drew.cell? b=some (.int .i64 room):=am.croom;have ab:Hid (∀m,zC 93 #[.pointer (some b)] (W.drew.drewN m) fun e w'=>e=.returned (.int .i64 L.length)/\∃m',w'=W.drew.drewN m'):=fun m=>(JI (an.kept (Qx (fun _=>False) _ m) (fun _ _ h=>h))).mono fun _ _ ⟨h1,h2⟩=>⟨h1,m,h2.symm⟩;have aT:=aS.drew;have aB:W.drew.cell? w.heap.size=some (.int .i64 x):=af;have aE:W.drew.cell? ⟨w.heap.size,1,none⟩=some (.int .i64 lo):=ah;have aH:W.drew.cell? ⟨w.heap.size,2,none⟩=some (.int .i64 hi):=aj;have a8:=zH an;clear am an aI af ah aj aS;have e0:W.drewN 1=W.drew:=rfl;rw[e0] at a8;clear e0;generalize W.drew=W3 at *;obtain⟨len,Z⟩:∃len,len=L.length:=⟨_,rfl⟩;rw[<-Z] at ab hroom;have aa:=zH Z;clear Z;go_wp2_with fail;go_quiet (first|(go_at_call 93;with_reducible exact ab.out _));go_wp2_with fail;have aN:=a8.out.kept (Qx (fun _=>False) _ nq) (fun _ _ h=>h);have ao:=aT.trans (yV w.heap.size _ nq);have ad:(W3.drewN nq).cell? w.heap.size=some (.int .i64 x):=aB;have aC:(W3.drewN nq).cell? ⟨w.heap.size,1,none⟩=some (.int .i64 lo):=aE;have aF:(W3.drewN nq).cell? ⟨w.heap.size,2,none⟩=some (.int .i64 hi):=aH;clear aB aE aH a8 ab aT ba;generalize W3.drewN nq=W4 at *;have bj:=ao.size;have hs4':=World.block_lt_of_cell? W4 w.heap.size ad;refine(zoh aN hl i hnext hil (by omega)).mono ?_;rintro e w5 ⟨k,v',rfl,hk,a6,J,a4,a5,ar⟩;have q:¬Own b bm v w.heap.size:=by
  have bc:=a9.out.lt;obtain⟨D,hD,-⟩:=a9.out.hmap;have bg:=hD.lt;rintro (h|h|h)
  ·omega
  ·omega
  ·have:=(a9.out.row.lt _ h).2;omega
 have aA:=(a5.cell (a:=w.heap.size) hs4' q).trans ad;have aD:=(a5.cell (a:=⟨w.heap.size,1,none⟩) hs4' q).trans aC;have aG:=(a5.cell (a:=⟨w.heap.size,2,none⟩) hs4' q).trans aF;obtain⟨p,u⟩:∃p,p=(if k=ns.length then ns++[(⟨24,0,0⟩:Nd)] else ns):=⟨_,rfl⟩;rw[<-u] at a4;have aW:k<p.length:=by rw[u];split<;>(try simp)<;>omega
 have bi:p.length<=100001:=by rw[u];split<;>(try simp)<;>omega
 obtain⟨a',U,bd,bb⟩:=a4.form;obtain⟨g',rfl,be,bh⟩:=bb (by omega);subst bd;have o:zP B w5.drew b bm (.slice (some g') p.length U) p L room (2+(k:Int)):=a4.kept (zc.refl (fun _=>False) w5).drew (fun _ _ h=>h);have bf:b≠g':=fun e=>a4.d1 (by rw[e];rfl);have au:w.heap.size≠g':=by
  rcases ar with h|⟨g2,h,aV⟩
  ·intro e;exact q (.inr (.inr (by rw[<-h,e];rfl)))
  ·have h':g'=g2:=Option.some.inj h;have bk:w.heap.size<W4.heap.size:=hs4';omega
 obtain⟨n1,n2,n3⟩:=Yx p k aW;have s0:=o.row.cellAt (k*3) (by omega);have s1:=o.row.cellAt (k*3+1) (by omega);have s2:=o.row.cellAt (k*3+2) (by omega);rw[n1] at s0;rw[n2] at s1;rw[n3] at s2;have t0:=o.row.frozenAt (k*3);have t1:=o.row.frozenAt (k*3+1);have t2:=o.row.frozenAt (k*3+2);have cn:=o.cnodes;have y:w5.drew.cell? w.heap.size=some (.int .i64 x):=aA;have M:w5.drew.cell? ⟨w.heap.size,1,none⟩=some (.int .i64 lo):=aD;have R:w5.drew.cell? ⟨w.heap.size,2,none⟩=some (.int .i64 hi):=aG;have X:=o.setNode aW ⟨x,lo,hi⟩;have K:zc (fun j=>j=g') w5.drew (((w5.drew.setCell ⟨g',k*3,none⟩ (.int .i64 x)).setCell ⟨g',k*3+1,none⟩ (.int .i64 lo)).setCell ⟨g',k*3+2,none⟩ (.int .i64 hi)) :=
  ((zc.setCell (S:=fun j=>j=g') w5.drew ⟨g',k*3,none⟩ _ rfl).trans (zc.setCell (S:=fun j=>j=g') _ ⟨g',k*3+1,none⟩ _ rfl)).trans (zc.setCell (S:=fun j=>j=g') _ ⟨g',k*3+2,none⟩ _ rfl)
 have ap:=o.lt;have C:=World.block_lt_of_cell? w5.drew w.heap.size y;have ae:=(K.cell (a:=w.heap.size) C au).trans y;have ag:=(K.cell (a:=⟨w.heap.size,1,none⟩) C au).trans M;have ai:=(K.cell (a:=⟨w.heap.size,2,none⟩) C au).trans R;have aJ:=X.cnodes;have e2:2+(k:Int)-2=(k:Int):=by omega
 have bn:(0:Int)<=(k:Int):=by omega
 have bo:(k:Int)<(p.length:Int):=by omega
 have s0':w5.cell? ⟨g',k*3,none⟩=some (.int .i64 (nd p k).v):=s0;have s1':(w5.setCell ⟨g',k*3,none⟩ (.int .i64 x)).cell? ⟨g',k*3+1,none⟩=some (.int .i64 (nd p k).l):=by
  rw[World.cell?_setCell_other _ _ _ _ (by simp)];exact s1
 have s2':((w5.setCell ⟨g',k*3,none⟩ (.int .i64 x)).setCell ⟨g',k*3+1,none⟩ (.int .i64 lo)).cell? ⟨g',k*3+2,none⟩=some (.int .i64 (nd p k).h):=by
  rw[World.cell?_setCell_other _ _ _ _ (by simp),World.cell?_setCell_other _ _ _ _ (by simp)];exact s2
 have t0':w5.frozen? ⟨g',k*3,none⟩=false:=t0;have t1':(w5.setCell ⟨g',k*3,none⟩ (.int .i64 x)).frozen? ⟨g',k*3+1,none⟩=false:=by rw[World.frozen?_setCell];exact t1
 have t2':((w5.setCell ⟨g',k*3,none⟩ (.int .i64 x)).setCell ⟨g',k*3+1,none⟩ (.int .i64 lo)).frozen? ⟨g',k*3+2,none⟩=false:=by rw[World.frozen?_setCell,World.frozen?_setCell];exact t2
 have ew:IntKind.i64.wrap (k:Int)=(k:Int):=IntWalk.i64_in _ ⟨by omega,by omega⟩;have b2:=zH u;have b3:=zH a6;have aZ:=zH J;have aw:=zH X;have b0:=zH a5;have az:=zH ar;have HK6':=zH K;have ax:=zH ao;clear u a6 J X a5 ar K ao a4 o aN ad aC aF aA aD aG n1 n2 n3;go_wp2_with fail;go_region_held3 (fun w'=>w'.cell? ⟨b,1,none⟩=some (.slice (some g') p.length U)/\w'.cell? w.heap.size=some (.int .i64 x)/\w'.cell? ⟨w.heap.size,1,none⟩=some (.int .i64 lo)/\w'.cell? ⟨w.heap.size,2,none⟩=some (.int .i64 hi)) (first|exact⟨cn,y,M,R⟩|exact⟨aJ,ae,ag,ai⟩) (first|fail);go_wp2_with fail;have X:zP B (((w5.setCell ⟨g',k*3,none⟩ (.int .i64 x)).setCell ⟨g',k*3+1,none⟩ (.int .i64 lo)).setCell ⟨g',k*3+2,none⟩ (.int .i64 hi)).drew b bm (.slice (some g') p.length U) (p.set k ⟨x,lo,hi⟩) L room (2+(k:Int)):=aw.out;have aK:(((w5.setCell ⟨g',k*3,none⟩ (.int .i64 x)).setCell ⟨g',k*3+1,none⟩ (.int .i64 lo)).setCell ⟨g',k*3+2,none⟩ (.int .i64 hi)).drew.cell? w.heap.size=some (.int .i64 x):=ae;have aL:(((w5.setCell ⟨g',k*3,none⟩ (.int .i64 x)).setCell ⟨g',k*3+1,none⟩ (.int .i64 lo)).setCell ⟨g',k*3+2,none⟩ (.int .i64 hi)).drew.cell? ⟨w.heap.size,1,none⟩=some (.int .i64 lo):=ag;have aM:(((w5.setCell ⟨g',k*3,none⟩ (.int .i64 x)).setCell ⟨g',k*3+1,none⟩ (.int .i64 lo)).setCell ⟨g',k*3+2,none⟩ (.int .i64 hi)).drew.cell? ⟨w.heap.size,2,none⟩=some (.int .i64 hi):=ai;have K:Hid (zc (fun j=>j=g') w5 (((w5.setCell ⟨g',k*3,none⟩ (.int .i64 x)).setCell ⟨g',k*3+1,none⟩ (.int .i64 lo)).setCell ⟨g',k*3+2,none⟩ (.int .i64 hi)).drew):=⟨HK6'.out.os,HK6'.out.tape,HK6'.out.output,HK6'.out.size,HK6'.out.block⟩;clear s0 s1 s2 t0 t1 t2 s0' s1' s2' t0' t1' t2' y M R ae ag ai cn aJ aw HK6' ap C;generalize (((w5.setCell ⟨g',k*3,none⟩ (.int .i64 x)).setCell ⟨g',k*3+1,none⟩ (.int .i64 lo)).setCell ⟨g',k*3+2,none⟩ (.int .i64 hi)).drew=W6 at *;have Y:=X.kept (zc.refl (fun _=>False) W6).drew (fun _ _ h=>h);obtain⟨D6,aO,aQ⟩:=Y.hmap;obtain⟨W7,D7,aX,aP,aR,a1⟩:=zie aO aQ (by have:=aa.out;omega) b4.out ac.out (x:=2+(k:Int)) ⟨by omega,by omega⟩;have ak:=Y.setMap a1 aP aR;have b5:W6.drew.cell? ⟨b,2,none⟩=some (.map (some bm)):=X.cmap;have V:W6.drew.cell? w.heap.size=some (.int .i64 x):=aK;have a2:W6.drew.cell? ⟨w.heap.size,1,none⟩=some (.int .i64 lo):=aL;have a3:W6.drew.cell? ⟨w.heap.size,2,none⟩=some (.int .i64 hi):=aM;have a0:=World.block_lt_of_cell? W6.drew w.heap.size V;have av:w.heap.size≠bm:=fun e=>q (.inr (.inl e));have b7:=(a1.cell (a:=w.heap.size) a0 av).trans V;have b8:=(a1.cell (a:=⟨w.heap.size,1,none⟩) a0 av).trans a2;have b9:=(a1.cell (a:=⟨w.heap.size,2,none⟩) a0 av).trans a3;have b6:=ak.cmap;have aY:=zH ak;have b1:=zH a1;clear X Y aO aQ aP aR ak a1 aK aL aM;go_region_held3 (fun w'=>w'.cell? ⟨b,2,none⟩=some (.map (some bm))/\w'.cell? w.heap.size=some (.int .i64 x)/\w'.cell? ⟨w.heap.size,1,none⟩=some (.int .i64 lo)/\w'.cell? ⟨w.heap.size,2,none⟩=some (.int .i64 hi)) (first|exact⟨b5,V,a2,a3⟩|exact⟨b6,b7,b8,b9⟩) (first|fail);go_wp2;go_ret2;have bl:=ax.out.size;refine⟨k,_,rfl,hk,b3.out,fun h=>by have:=aZ.out h;omega,by rw[<-b2.out];exact aY.out,?_,?_⟩
 ·refine((((zc.of_below ax.out _).trans b0.out).andThen K.out (fun j hj bc=>?_)).drew).andThen b1.out (fun j hj _=>.inr (.inl hj));subst hj;rcases az.out with h|⟨g2,h,aV⟩
  ·exact .inr (.inr (by rw[<-h];rfl))
  ·have h':j=g2:=Option.some.inj h;omega
 ·rcases az.out with h|⟨g2,h,aV⟩
  ·exact .inl h
  ·exact .inr ⟨g2,h,by omega⟩
end
end Bd
namespace Bd
open Go.RowKit Go.Maps
def yG(m:List Bool):List Value:=m.map Value.bool
theorem zeJ(m:List Bool)(i:Nat)(h:i<m.length):(yG m)[i]?=some (.bool (mk m i)):=by rw[zdW m i h];simp[yG,h]
theorem zk1(m:List Bool)(i:Nat):(yG m).set i (.bool true)=yG (m.set i true):=by simp[yG,List.map_set]
theorem zbz{ns:List Nd}{h:Int}{m:List Bool}(hc:za ns h=24\/mk m (h-2).toNat=true)(d:Nat):zY d ns h m=m:=by
 cases d with
 |zero=>rfl
 |succ d=>unfold zY;rw[zA2 hc]
theorem zbn{B e size n:Nat}{w w':World}{v:Value}{xs:List Value}(h:w.ownsRow B e size v n xs)(hb:zB w w'):w'.ownsRow B e size v n xs :=
 YV (S:=fun _=>False) h (zc.of_below hb _) (fun _ _ h=>h)
section
variable {B b bm g cap:Nat} {v:Value} {ns:List Nd} {L:List (Nd × Int)} {room next:Int}
theorem zeW(hl:ns.length<=100000)(h:Int)(m:List Bool)(w:World)(hA:zP B w b bm v ns L room next)(hrow:w.ownsRow B 4 1 (.slice (some g) ns.length cap) ns.length (yG m))(hi:I64 h)(ht:za ns h=24) :
  zC 180 #[.pointer (some b),h,.slice (some g) ns.length cap] w fun e w'=>e=.returned (.tuple #[])/\w'.ownsRow B 4 1 (.slice (some g) ns.length cap) ns.length (yG m)/\zc (fun k=>k=g) w w':=by
 have HG:=zH (XV hA h hi (by omega));have q:zt ns h=⟨0,0,0⟩:=by unfold zt;rw[zA2 ht]
 rw[q,ht] at HG;have j:=zH hrow;clear hA q ht hrow;have e1:decide ((24:Int)≠24)=false:=by decide
 rw[e1] at HG;unfold Nd.val at HG;go_enter Tryz.func180,Tryz.ntmps180;go_wp2_with fail;refine HG.out.mono ?_;rintro e w1 ⟨rfl,o⟩;go_wp2;refine bodyPost_ret (v:=.tuple #[]) (by simp[results,Tryz.results180,go_sem]) rfl ?_;have p:=o.trans ((below_new w1 (.cells #[(0:Int),(0:Int),(0:Int)] 250)).mono o.size);exact⟨rfl,zbn j.out p,zc.of_below p _⟩
def J0(B b bm g cap:Nat)(v:Value)(ns:List Nd)(L:List (Nd × Int))(room next:Int)(d:Nat):Prop :=
 ∀(h:Int) (m:List Bool) (w:World),zP B w b bm v ns L room next->m.length=ns.length->w.ownsRow B 4 1 (.slice (some g) ns.length cap) ns.length (yG m)->I64 h->24<=za ns h+d ->
  zC 180 #[.pointer (some b),h,.slice (some g) ns.length cap] w fun e w'=>e=.returned (.tuple #[])/\w'.ownsRow B 4 1 (.slice (some g) ns.length cap) ns.length (yG (zY d ns h m))/\zc (fun k=>k=g) w w'
theorem zgt(hr:qd ns)(hl:ns.length<=100000)(hg:¬Own b bm v g)(d:Nat)(ih:J0 B b bm g cap v ns L room next d):J0 B b bm g cap v ns L room next (d+1):=by
 intro h m w hA a7 j hi hd
 by_cases ht:za ns h=24
 ·rw[zbz (.inl ht) (d+1)];exact zeW hl h m w hA j hi ht
 have HG:=zH (XV hA h hi (by omega));obtain⟨am,an⟩:=hi;obtain⟨b1,b2,b3⟩:=Qz ht;have o:(nd ns (h-2).toNat).v<24:=by have:=(qx hr h).2;omega
 obtain⟨i,e2⟩:∃i:Nat,h-2=(i:Int):=⟨(h-2).toNat,by omega⟩;have e1:(h-2).toNat=i:=by omega
 have a6:zt ns h=nd ns i:=by unfold zt;rw[zA1 ht,e1]
 rw[e1] at b2 b3 o;rw[a6,decide_eq_true ht] at HG;unfold Nd.val at HG;have J:=hr.ok i b2;have Y:24<=za ns (nd ns i).l+d:=by have:=(hr.l i b2 o).1;omega
 have X:24<=za ns (nd ns i).h+d:=by have:=(hr.h i b2 o).1;omega
 have ak:g<w.heap.size:=(j.lt g rfl).2;have aj:B<=g:=(j.lt g rfl).1;have p:Hid (mk m i=true->zY (d+1) ns h m=m):=fun hm=>zbz (.inr (by rw[e1];exact hm)) (d+1);have M:Hid (mk m i=false->zY (d+1) ns h m=zY d ns (nd ns i).h (zY d ns (nd ns i).l (m.set i true))):=fun hm=>by
  show zY (d+1) ns h m=_;rw[zY,e1,zA1 (by rw[hm];simp[ht])]
 generalize nd ns i=n at *;obtain⟨nv,nl,nh⟩:=n;simp only at HG M Y X J o b3;have IL:Hid (∀ (m:List Bool) (W:World),zP B W b bm v ns L room next->m.length=ns.length->W.ownsRow B 4 1 (.slice (some g) ns.length cap) ns.length (yG m) ->
   zC 180 #[.pointer (some b),nl,.slice (some g) ns.length cap] W fun e w'=>e=.returned (.tuple #[])/\w'.ownsRow B 4 1 (.slice (some g) ns.length cap) ns.length (yG (zY d ns nl m))/\zc (fun k=>k=g) W w'):=fun m W h1 h2 h3=>ih nl m W h1 h2 h3 J.2.1 Y
 have IH:Hid (∀ (m:List Bool) (W:World),zP B W b bm v ns L room next->m.length=ns.length->W.ownsRow B 4 1 (.slice (some g) ns.length cap) ns.length (yG m) ->
   zC 180 #[.pointer (some b),nh,.slice (some g) ns.length cap] W fun e w'=>e=.returned (.tuple #[])/\w'.ownsRow B 4 1 (.slice (some g) ns.length cap) ns.length (yG (zY d ns nh m))/\zc (fun k=>k=g) W w'):=fun m W h1 h2 h3=>ih nh m W h1 h2 h3 J.2.2 X
 have HA:=zH hA;have HR:=zH j;have u:=zH hg;have R:=zH a7;have ao:(i:Int)<(ns.length:Int):=by omega
 clear ht a6 e1 b3 Y X J ih hA j hg hr hd a7;go_enter Tryz.func180,Tryz.ntmps180;go_wp2_with fail;refine HG.out.mono ?_;rintro e w1 ⟨rfl,V⟩;clear HG;have a5:=below_new w1 (.cells #[nv,nl,nh] 250);obtain⟨c0,c1,c2,-⟩:=xr w1 (.int .i64 nv) (.int .i64 nl) (.int .i64 nh) 250;have y:=zT V a5;have K:=zbn HR.out y;have a3:=HA.out.kept (zc.of_below y (fun _=>False)) (fun _ _ h=>h);have ap:=V.size;have cm:=K.cellAt i (by omega);rw[zeJ m i (by rw[R.out];exact b2)] at cm;have fm:=K.frozenAt i;have lN:w1.heap.size<(w1.alloc (.cells #[nv,nl,nh] 250)).heap.size:=by simp
 have a1:=zH y;have a2:=zH K;have a9:=zH a3;clear V a5 K a3 HA HR y
 by_cases hm:mk m i=true
 ·rw[hm] at cm;have HE:=zH (p.out hm);clear hm;go_wp2;refine bodyPost_ret (v:=.tuple #[]) (by simp[results,Tryz.results180,go_sem]) rfl ?_;rw[HE.out];exact⟨rfl,a2.out,zc.of_below a1.out _⟩
 ·have hm':mk m i=false:=by simpa using hm
  rw[hm'] at cm;have HE:=zH (M.out hm');clear hm hm' p M;have a0:=(a2.out.stored i (.bool true)).1;rw[zk1] at a0;have q:zc (fun k=>k=g) (w1.alloc (.cells #[nv,nl,nh] 250)) ((w1.alloc (.cells #[nv,nl,nh] 250)).setCell ⟨g,i,none⟩ (.bool true)):=zc.setCell _ _ _ rfl;have Z:w1.heap.size≠g:=by omega
  have ah:=(q.cell (a:=⟨w1.heap.size,1,none⟩) lN Z).trans c1;have ad:=(q.cell (a:=⟨w1.heap.size,2,none⟩) lN Z).trans c2;have U:=a9.out.kept q (fun k hk e=>u.out (e▸hk));have a4:=(zc.of_below a1.out (fun k=>k=g)).trans q;have ag:=Nat.lt_of_lt_of_le lN q.size;have I1:=zH (IL.out _ _ U (by rw[List.length_set];exact R.out) a0);have ab:=zH a4;have aa:=zH U;clear a0 q U a4 IL c0 c1 c2;go_wp2_with fail;refine I1.out.mono ?_;rintro e w4 ⟨rfl,a8,C⟩;have ai:=(C.cell (a:=⟨w1.heap.size,2,none⟩) ag Z).trans ad;have I2:=zH (IH.out _ _ (aa.out.kept C (fun k hk e=>u.out (e▸hk))) (by rw[Z5,List.length_set];exact R.out) a8);have ac:=zH (ab.out.trans C);clear I1 a8 C IH;go_wp2_with fail;refine I2.out.mono ?_;rintro e w5 ⟨rfl,af,ae⟩;go_wp2;refine bodyPost_end (v:=.tuple #[]) (by simp[results,Tryz.results180,go_sem]) rfl ?_;rw[HE.out];exact⟨rfl,af,ac.out.trans ae⟩
theorem zdI(hr:qd ns)(hl:ns.length<=100000)(hg:¬Own b bm v g):∀d,J0 B b bm g cap v ns L room next d
 |0=>fun h m w hA o j hi hd=>by
  have ht:za ns h=24:=by have:=(qx hr h).2;omega
  rw[zbz (.inl ht) 0];exact zeW hl h m w hA j hi ht
 |d+1=>zgt hr hl hg d (zdI hr hl hg d)
end
end Bd
namespace Bd
open Go.RowKit Go.Maps
def qt(ns:List Nd)(fs:List Int):List Bool:=fs.foldl (fun m h=>zY 24 ns h m) (List.replicate ns.length false)
theorem zbY(ns:List Nd)(fs:List Int):(qt ns fs).length=ns.length:=by
 unfold qt;have:∀(fs:List Int) (m:List Bool),(fs.foldl (fun m h=>zY 24 ns h m) m).length=m.length:=by
  intro fs
  induction fs with
  |nil=>intro m;rfl
  |cons f fs ih=>intro m;rw[List.foldl_cons,ih,Z5]
 rw[this];simp
theorem zlO(ns:List Nd)(fs:List Int)(k:Nat)(h:k<fs.length):qt ns (fs.take (k+1))=zY 24 ns fs[k] (qt ns (fs.take k)):=by
 unfold qt;rw[List.take_succ_eq_append_getElem h,List.foldl_append];rfl
theorem ownsRow_base{w:World}{B B' e size n:Nat}{v:Value}{xs:List Value}(h:w.ownsRow B e size v n xs)(hB:B'<=B):w.ownsRow B' e size v n xs:=by
 refine⟨h.1,?_⟩;rcases h.2 with h1|⟨g,cap,j,h1,h2,h3⟩
 ·exact .inl h1
 ·exact .inr ⟨g,cap,j,h1,Nat.le_trans hB h2,h3⟩
theorem zk3:(Tryz.prog.info? 4).map (fun i=>(i.zero,i.size,i.bytes))=some (some (.bool false),1,1):=by kernel_rfl
theorem zkU(n:Nat):(madeCells #[Value.bool false] n).toList=yG (List.replicate n false):=by rw[toList_madeCells_one];simp[yG]
structure ZC(w:World)(bf:Nat)(fs:List Int):Prop where
 lt:bf<w.heap.size
 cells:∀i (h:i<fs.length),w.cell? ⟨bf,i,none⟩=some (.int .i64 fs[i])
 ok:∀x∈fs,I64 x
theorem ZC.kept{S:Nat->Prop}{w w':World}{bf:Nat}{fs:List Int}(h:ZC w bf fs)(hk:zc S w w')(hn:¬S bf):ZC w' bf fs :=
 ⟨Nat.lt_of_lt_of_le h.lt hk.size,fun i hi=>(hk.cell (a:=⟨bf,i,none⟩) h.lt hn).trans (h.cells i hi),h.ok⟩
section
variable {B b bm:Nat} {v:Value} {ns:List Nd} {L:List (Nd × Int)} {room next:Int} {w:World}
theorem ziq(hr:qd ns)(hl:ns.length<=100000)(hA:zP B w b bm v ns L room next)(bf:Nat){cp:Nat}(fs:List Int)(hF:ZC w bf fs)(hfl:fs.length<=1000)(hB:B<=w.heap.size) :
  zC 139 #[.pointer (some b),.slice (some bf) fs.length cp] w fun e w'=>e=.returned (.slice (some w.heap.size) ns.length ns.length)/\w'.ownsRow B 4 1 (.slice (some w.heap.size) ns.length ns.length) ns.length (yG (qt ns fs))/\zB w w':=by
 obtain⟨a,cap,rfl,-⟩:=hA.form;have hg:¬Own b bm (.slice a ns.length cap) w.heap.size:=by
  obtain⟨D,hD,-⟩:=hA.hmap;have Y:=hD.lt;have C:=hA.lt;rintro (h|h|h)
  ·omega
  ·omega
  ·have:=(hA.row.lt _ h).2;omega
 have cn:=hA.cnodes;obtain⟨i0,hi,U,V,X⟩:=info_parts zk3;have HA:=zH hA;have HF:=zH hF;have HG:=zH hg;have HR:=zH hr;clear hA hF hg hr;go_enter Tryz.func139,Tryz.ntmps139;go_wp2_with (at_make;refine wpList_make_full _ rfl _ _ 244 rfl w.heap.size 4 i0 (.bool false) 1 Tryz.underlying244 hi U V .i64 .i64 _ _ ns.length rfl rfl ?c1 ?c2 ?c3 ?c4 ?c5 ?_)
 case c1=>rfl
 case c2=>rfl
 case c3=>rw[X];omega
 case c4=>unfold maxLen;omega
 case c5=>omega
 intro w1 u q;rw[zkU] at u;have y:zB w w1:=zF.grown q zN (fun k hk=>by cases hk);clear q;go_wp2_with fail;go_loopw [7,16] (fun _ i wr=>∃k:Nat,k<=fs.length/\i=.int .i64 k/\wr.ownsRow w.heap.size 4 1 (.slice (some w.heap.size) ns.length ns.length) ns.length (yG (qt ns (fs.take k)))/\zB w wr)
  (fun _ i _=>fs.length-(intOf i).toNat)
 case atStart=>exact⟨0,Nat.zero_le _,rfl,u,y⟩
 case round =>
  obtain⟨k,hk,rfl,o,j⟩:=hrel;clear u y
  by_cases C:k<fs.length
  ·have ck:=(j.cell (p:=⟨bf,k,none⟩) HF.out.lt).trans (HF.out.cells k C);have HC:Hid (zC 180 #[.pointer (some b),.int .i64 fs[k],.slice (some w.heap.size) ns.length ns.length] wr fun e w'=>e=.returned (.tuple #[])/\w'.ownsRow w.heap.size 4 1 (.slice (some w.heap.size) ns.length ns.length) ns.length (yG (qt ns (fs.take (k+1))))/\zc (fun k=>k=w.heap.size) wr w'):=by
    have hr':=HR.out;have:=zdI (B:=B) (L:=L) (room:=room) (next:=next) hr' hl HG.out 24 fs[k] (qt ns (fs.take k)) wr (HA.out.kept (zc.of_below j (fun _=>False)) (fun _ _ h=>h)) (zbY _ _) (ownsRow_base o hB) (HF.out.ok _ (List.getElem_mem C)) (by have:=(qx hr' fs[k]).1;omega);rw[<-zlO ns fs k C] at this;refine this.mono ?_;rintro e w' ⟨h1,h2,h3⟩;refine⟨h1,⟨h2.1,?_⟩,h3⟩;rcases h2.2 with h4|⟨g,cp,K,h4,h5⟩
    ·exact .inl h4
    ·refine .inr ⟨g,cp,K,h4,?_,h5.2⟩;cases h4;exact Nat.le_refl _
   have HB:=zH j;clear o j;generalize fs[k]=x at *;go_wp2_with fail;refine HC.out.mono ?_;rintro e w2 ⟨rfl,R,J⟩;have M:=HB.out.trans (J.below HB.out.size (fun i hi=>by omega));clear HC J;go_wp2;go_roundw
   case rel=>exact⟨k+1,by omega,by go_num,R,M⟩
   case measure=>simp[intOf];omega
  ·obtain rfl:k=fs.length:=by omega
   rw[List.take_length] at o;go_wp2;go_ret;exact⟨rfl,ownsRow_base o hB,j⟩
end
end Bd
namespace Bd
open Go.RowKit Go.Maps
def zm(l:List Int):List Value:=l.map (Value.int .i64)
theorem Qe(l:List Int):(zm l).length=l.length:=by simp[zm]
theorem QN(l:List Int)(i:Nat)(h:i<l.length):(zm l)[i]?=some (.int .i64 l[i]):=by simp[zm,h]
theorem Z0:(Tryz.prog.info? 3).map (fun i=>(i.zero,i.size,i.bytes))=some (some (.int .i64 0),1,8):=by kernel_rfl
end Bd
namespace Bd
open Go.RowKit Go.Maps
def zbX(L:List (Nd × Int))(n:Nd):List (Nd × Int):=L.filter fun q=>decide (q.1≠n)
theorem zpV{P:Program}{ops:Array Oper}{o:Oper}{a:Act}{w w':World}{K:Act->World->Prop}{Q:Exit->Act->World->Prop}{E:Prop}
  (hg:o.guard=none) (m x:Operand) (t k:TypeId) (hop:o.op=Op.call { callee:=Callee.builtin Builtin.delete,args:=#[m,x],argTypes:=#[t,k] })
  {b:Nat} {key:Value} (hm:a.eval m=.map (some b)) (hx:a.eval x=key) (hrun:∀ty,(Builtin.delete_ #[t,k] ty #[.map (some b),key]).run P w=.ok (.tuple #[]) w')
  (hK:K (a.put o.dst (.tuple #[])) w'):if Region.wanted o (yielded ops a.tmps)=true then Oper.wp P o a w K Q else E:=by
 have hw:Region.wanted o (yielded ops a.tmps)=true:=by simp[Region.wanted,hg]
 rw[zA2 hw];unfold Oper.wp;simp[execOp,hop,resolve,invoke,builtin,hm,hx,hrun,Result.andThen];exact hK
section
variable {B b bm:Nat} {v:Value} {ns:List Nd} {L:List (Nd × Int)} {room next:Int} {w:World}
theorem zoA{D:DataW Unit}(hD:w.ownsMap Tryz.prog 250 (plainElem Tryz.prog 3) bm L.length D)(hR:Rep Nd.Ok Nd.lit (fun x:Int=>.lit (.int .i64 x)) D L){p:Nd × Int}(hp:p∈L) :
  ∃w' D',(∀ty,(Builtin.delete_ #[179,250] ty #[.map (some bm),.agg #[p.1.v,p.1.l,p.1.h]]).run Tryz.prog w=.ok (.tuple #[]) w')/\w'.ownsMap Tryz.prog 250 (plainElem Tryz.prog 3) bm (L.filter fun q=>decide (q.1≠p.1)).length D'/\Rep Nd.Ok Nd.lit (fun x:Int=>.lit (.int .i64 x)) D' (L.filter fun q=>decide (q.1≠p.1))/\zc (fun k=>k=bm) w w':=by
 obtain⟨w',o,h1,h2⟩:=hD.drop YI Tryz.underlying179 (Q6 p.1 (hR.oks p hp)) 0;have hR':=hR.del (fun _ _=>K4) hp;refine⟨w',_,?_,hR'.size▸Qh h1,hR',zc.of_grown h2.grown (fun i h=>by cases h;rfl)⟩;intro ty;obtain⟨u,j,h3,h4⟩:=hD.drop YI Tryz.underlying179 (Q6 p.1 (hR.oks p hp)) ty;have e:u=w':=by
  have:=o.symm.trans ((show (Builtin.delete_ #[179,250] 0 #[.map (some bm),p.1.val]).run Tryz.prog w=(Builtin.delete_ #[179,250] ty #[.map (some bm),p.1.val]).run Tryz.prog w from rfl).trans j);injection this with _ e;exact e.symm
 rw[<-e];exact j
theorem zlF(hA:zP B w b bm v ns L room next)(hl:ns.length<=100000)(h:Int)(hi:I64 h)(ht:za ns h=24) :
  zR 140 #[.pointer (some b),h] w (.tuple #[]):=by
 have HG:=zH (XV hA h hi (by omega));have o:zt ns h=⟨0,0,0⟩:=by unfold zt;rw[zA2 ht]
 rw[o,ht] at HG;clear hA o ht;have e1:decide ((24:Int)≠24)=false:=by decide
 rw[e1] at HG;unfold Nd.val at HG;go_enter Tryz.func140,Tryz.ntmps140;go_wp2_with fail;refine HG.out.mono ?_;rintro e w1 ⟨rfl,j⟩;go_wp2;refine bodyPost_end (v:=.tuple #[]) (by simp[results,Tryz.results140,go_sem]) rfl ?_;exact⟨rfl,j.trans ((below_new w1 (.cells #[(0:Int),(0:Int),(0:Int)] 250)).mono j.size)⟩
theorem znZ(hA:zP B w b bm v ns L room next)(hl:ns.length<=100000)(k:Nat)(hk:k<ns.length)(hv:(nd ns k).v≠24)(hin:(nd ns k,2+(k:Int))∈L) :
  zC 140 #[.pointer (some b),.int .i64 (2+(k:Int))] w fun e w'=>e=.returned (.tuple #[])/\zP B w' b bm v (ns.set k ⟨24,0,0⟩) (zbX L (nd ns k)) room next/\zc (Own b bm v) w w':=by
 have ht:za ns (2+(k:Int))≠24:=by rw[Ya hk];exact hv
 have HG:=zH (XV hA (2+(k:Int)) ⟨by omega,by omega⟩ (by omega));have a4:zt ns (2+(k:Int))=nd ns k:=by unfold zt;rw[zA1 ht,show (2+(k:Int)-2).toNat=k by omega]
 rw[a4,decide_eq_true ht] at HG;unfold Nd.val at HG;obtain⟨a,cap,rfl,ad⟩:=hA.form;obtain⟨g,rfl,ag,ai⟩:=ad (by omega);have HA:=zH hA;have U:=zH hin;obtain⟨n,a6⟩:∃n,n=nd ns k:=⟨_,rfl⟩;rw[<-a6] at HG U ⊢;have e2:2+(k:Int)-2=(k:Int):=by omega
 have ib:(k:Int)<(ns.length:Int):=by omega
 clear ht a4 hA hin hv a6;obtain⟨nv,nl,nh⟩:=n;simp only at HG;go_enter Tryz.func140,Tryz.ntmps140;go_wp2_with fail;refine HG.out.mono ?_;rintro e w1 ⟨rfl,K⟩;clear HG;have ae:=K.size;have a3:=below_new w1 (.cells #[nv,nl,nh] 250);obtain⟨c0,c1,c2,-⟩:=xr w1 (.int .i64 nv) (.int .i64 nl) (.int .i64 nh) 250;have M:=zT K a3;have C:=HA.out.kept (zc.of_below M (fun _=>False)) (fun _ _ h=>h);have p:∀j,w.heap.size<=j->¬Own b bm (.slice (some g) ns.length cap) j:=by
  have aj:=HA.out.lt;obtain⟨D,hD,-⟩:=HA.out.hmap;have ah:=hD.lt;rintro j hj (h|h|h)
  ·omega
  ·omega
  ·have:=(HA.out.row.lt _ h).2;omega
 have lN:w1.heap.size<(w1.alloc (.cells #[nv,nl,nh] 250)).heap.size:=by simp
 go_wp2_with fail;generalize w1.alloc (.cells #[nv,nl,nh] 250)=W2 at *;have q:zP B W2.drew b bm (.slice (some g) ns.length cap) ns L room next:=C.kept (zc.refl (fun _=>False) W2).drew (fun _ _ h=>h);obtain⟨D,hD,hR⟩:=q.hmap;obtain⟨W3,D3,y,a1,a2,u⟩:=zoA hD hR U.out;simp only at y;have J:=q.setMap u a1 a2;have cm:W2.drew.cell? ⟨b,2,none⟩=some (.map (some bm)):=C.cmap;have X:W2.drew.cell? w1.heap.size=some (.int .i64 nv):=c0;have Y:W2.drew.cell? ⟨w1.heap.size,1,none⟩=some (.int .i64 nl):=c1;have Z:W2.drew.cell? ⟨w1.heap.size,2,none⟩=some (.int .i64 nh):=c2;have R:w1.heap.size≠bm:=fun e=>p w1.heap.size ae (.inr (.inl e));have a9:=(u.cell (a:=w1.heap.size) lN R).trans X;have aa:=(u.cell (a:=⟨w1.heap.size,1,none⟩) lN R).trans Y;have ab:=(u.cell (a:=⟨w1.heap.size,2,none⟩) lN R).trans Z;have ac:=J.cmap;have o:=zH J;have V:=zH (((zc.of_below M (Own b bm (.slice (some g) ns.length cap))).drew).andThen u (fun j hj _=>.inr (.inl hj)));clear C q hD hR a1 a2 u J c0 c1 c2 a3 K M;go_region_held3 (fun w'=>w'.cell? ⟨b,2,none⟩=some (.map (some bm))/\w'.cell? w1.heap.size=some (.int .i64 nv)/\w'.cell? ⟨w1.heap.size,1,none⟩=some (.int .i64 nl)/\w'.cell? ⟨w1.heap.size,2,none⟩=some (.int .i64 nh)) (first|exact⟨cm,X,Y,Z⟩|exact⟨ac,a9,aa,ab⟩)
  (first|(refine zpV rfl _ _ 179 250 rfl rfl rfl y ?_))
 have af:=o.out.cnodes;obtain⟨n1,n2,n3⟩:=Yx ns k hk;have s0:=o.out.row.cellAt (k*3) (by omega);have s1:=o.out.row.cellAt (k*3+1) (by omega);have s2:=o.out.row.cellAt (k*3+2) (by omega);rw[n1] at s0;rw[n2] at s1;rw[n3] at s2;have t0:=o.out.row.frozenAt (k*3);have t1:=o.out.row.frozenAt (k*3+1);have t2:=o.out.row.frozenAt (k*3+2);have s1':(W3.setCell ⟨g,k*3,none⟩ (.int .i64 24)).cell? ⟨g,k*3+1,none⟩=some (.int .i64 (nd ns k).l):=by
  rw[World.cell?_setCell_other _ _ _ _ (by simp)];exact s1
 have s2':((W3.setCell ⟨g,k*3,none⟩ (.int .i64 24)).setCell ⟨g,k*3+1,none⟩ (.int .i64 0)).cell? ⟨g,k*3+2,none⟩=some (.int .i64 (nd ns k).h):=by
  rw[World.cell?_setCell_other _ _ _ _ (by simp),World.cell?_setCell_other _ _ _ _ (by simp)];exact s2
 have t1':(W3.setCell ⟨g,k*3,none⟩ (.int .i64 24)).frozen? ⟨g,k*3+1,none⟩=false:=by rw[World.frozen?_setCell];exact t1
 have t2':((W3.setCell ⟨g,k*3,none⟩ (.int .i64 24)).setCell ⟨g,k*3+1,none⟩ (.int .i64 0)).frozen? ⟨g,k*3+2,none⟩=false:=by rw[World.frozen?_setCell,World.frozen?_setCell];exact t2
 have a0:=o.out.setNode hk ⟨24,0,0⟩;have a5:zc (Own b bm (.slice (some g) ns.length cap)) W3 (((W3.setCell ⟨g,k*3,none⟩ (.int .i64 24)).setCell ⟨g,k*3+1,none⟩ (.int .i64 0)).setCell ⟨g,k*3+2,none⟩ (.int .i64 0)) :=
  ((zc.setCell (S:=Own b bm (.slice (some g) ns.length cap)) W3 ⟨g,k*3,none⟩ _ (.inr (.inr rfl))).trans (zc.setCell _ ⟨g,k*3+1,none⟩ _ (.inr (.inr rfl)))).trans (zc.setCell _ ⟨g,k*3+2,none⟩ _ (.inr (.inr rfl)))
 have ew:IntKind.i64.wrap (k:Int)=(k:Int):=IntWalk.i64_in _ ⟨by omega,by omega⟩;have a7:=zH a0;have a8:=zH (V.out.trans a5);clear a0 a5 n1 n2 n3 s1 s2 t1 t2 o V;go_wp2;refine bodyPost_end (v:=.tuple #[]) (by simp[results,Tryz.results140,go_sem]) rfl ?_;exact⟨rfl,a7.out,a8.out⟩
end
end Bd
namespace Bd
open Go.RowKit Go.Maps
structure ZQ(ns:List Nd)(L:List (Nd × Int)):Prop where
 mem:∀p∈L,∃i:Nat,i<ns.length/\(nd ns i).v<24/\p=(nd ns i,2+(i:Int))
 all:∀i,i<ns.length->(nd ns i).v<24->(nd ns i,2+(i:Int))∈L
 nodup:(L.map Prod.fst).Nodup
 free:∀i,i<ns.length->¬(nd ns i).v<24->nd ns i=⟨24,0,0⟩
theorem JK{a b:List Nd}(hl:a.length=b.length)(h:∀i,i<a.length->nd a i=nd b i):a=b:=by
 apply List.ext_getElem hl;intro i h1 h2;have:=h i h1
 rwa [ZY a i h1,ZY b i h2] at this
theorem ze7(ns:List Nd)(k:Nat)(n:Nd)(i:Nat)(h:k<ns.length):nd (ns.set k n) i=if i=k then n else nd ns i:=by
 unfold nd;simp only[List.getD_eq_getElem?_getD,List.getElem?_set]
 by_cases e:k=i
 ·subst e;simp[h]
 ·rw[zA1 e,zA1 (fun h=>e h.symm)]
def Zx(ns:List Nd)(M:List Bool)(k:Nat):List Nd:=(List.range ns.length).map fun i=>if i<k/\mk M i=false then ⟨24,0,0⟩ else nd ns i
theorem xp(ns:List Nd)(M:List Bool)(k:Nat):(Zx ns M k).length=ns.length:=by simp[Zx]
theorem QZ(ns:List Nd)(M:List Bool)(k i:Nat)(h:i<ns.length):nd (Zx ns M k) i=if i<k/\mk M i=false then ⟨24,0,0⟩ else nd ns i:=by
 rw[ZY _ i (by rw[xp];exact h)];simp[Zx]
theorem zjv(ns:List Nd)(M:List Bool):Zx ns M 0=ns :=
 JK (xp _ _ _) (fun i h=>by rw[QZ ns M 0 i (by rwa [xp] at h),zA1 (by omega)])
theorem zp6(ns:List Nd)(M:List Bool):Zx ns M ns.length=qy ns M :=
 JK (by rw [xp,Zv]) (fun i h=>by
  rw[xp] at h;rw[QZ ns M _ i h,QE ns M i h]
  by_cases e:mk M i=true
  ·rw[zA2 e,zA1 (by simp[e])]
  ·rw [zA1 e,zA2 ⟨h,by simpa using e⟩])
theorem zdJ{ns:List Nd}{M:List Bool}{k:Nat}(_hk:k<ns.length)(h:mk M k=true\/nd ns k=⟨24,0,0⟩):Zx ns M (k+1)=Zx ns M k :=
 JK (by rw [xp,xp]) (fun i hi=>by
  rw[xp] at hi;rw[QZ ns M _ i hi,QZ ns M _ i hi]
  by_cases e:i=k
  ·subst e;rw[zA1 (show ¬(i<i/\mk M i=false) by omega)];rcases h with h|h
   ·rw[zA1 (by simp[h])]
   ·rw[h];split<;>rfl
  ·by_cases e2:i<k/\mk M i=false
   ·rw[zA2 e2,zA2 ⟨by omega,e2.2⟩]
   ·rw [zA1 e2,zA1 (fun h=>e2 ⟨by omega,h.2⟩)])
theorem zic{ns:List Nd}{M:List Bool}{k:Nat}(hk:k<ns.length)(h:mk M k=false):(Zx ns M k).set k ⟨24,0,0⟩=Zx ns M (k+1) :=
 JK (by rw [List.length_set,xp,xp]) (fun i hi=>by
  rw[List.length_set,xp] at hi;rw[ze7 _ _ _ _ (by rw[xp];exact hk),QZ ns M _ i hi,QZ ns M _ i hi]
  by_cases e:i=k
  ·subst e;rw[zA2 rfl,zA2 ⟨by omega,h⟩]
  ·rw[zA1 e]
   by_cases e2:i<k/\mk M i=false
   ·rw[zA2 e2,zA2 ⟨by omega,e2.2⟩]
   ·rw [zA1 e2,zA1 (fun h=>e2 ⟨by omega,h.2⟩)])
def LTo(L:List (Nd × Int))(M:List Bool)(k:Nat):List (Nd × Int):=L.filter fun p=>decide (k<=(p.2-2).toNat)||mk M (p.2-2).toNat
theorem zpU(L:List (Nd × Int))(M:List Bool):LTo L M 0=L:=by
 unfold LTo;rw[List.filter_eq_self];intro p _;simp
theorem zeu{ns:List Nd}{L:List (Nd × Int)}{M:List Bool}{k:Nat}(hB:ZQ ns L)(hk:k<ns.length)(h:mk M k=true\/¬(nd ns k).v<24):LTo L M (k+1)=LTo L M k:=by
 unfold LTo;apply List.filter_congr;intro p hp;obtain⟨i,hi,hv,rfl⟩:=hB.mem p hp;have e:(2+(i:Int)-2).toNat=i:=by omega
 simp only[e]
 by_cases e2:i=k
 ·subst e2;rcases h with h|h
  ·simp[h]
  ·exact absurd hv h
 ·congr 1;exact decide_eq_decide.2 (by omega)
theorem zgf{ns:List Nd}{L:List (Nd × Int)}{M:List Bool}{k:Nat}(hB:ZQ ns L)(hk:k<ns.length)(h:mk M k=false)(hv:(nd ns k).v<24):zbX (LTo L M k) (nd ns k)=LTo L M (k+1):=by
 unfold zbX LTo;rw[List.filter_filter];apply List.filter_congr;intro p hp;have q:=hB.all k hk hv;obtain⟨i,hi,C,rfl⟩:=hB.mem p hp;have e:(2+(i:Int)-2).toNat=i:=by omega
 simp only[e]
 by_cases e2:i=k
 ·subst e2;simp[h]
 ·have u:nd ns i≠nd ns k:=by
   intro he;obtain⟨x,hx,o⟩:=List.getElem_of_mem hp;obtain⟨y,hy,j⟩:=List.getElem_of_mem q;have:=(List.getElem_inj (h₀:=by simpa using hx) (h₁:=by simpa using hy) hB.nodup).1 (by simp[o,j,he]);subst this;rw[o] at j;have:=congrArg Prod.snd j;simp at this;omega
  rw[decide_eq_true u,Bool.true_and];congr 1;exact decide_eq_decide.2 (by omega)
theorem zhW{ns:List Nd}{L:List (Nd × Int)}{M:List Bool}{k:Nat}(hB:ZQ ns L)(hk:k<ns.length)(hv:(nd ns k).v<24):(nd ns k,2+(k:Int))∈LTo L M k:=by
 unfold LTo;rw[List.mem_filter];exact⟨hB.all k hk hv,by simp;omega⟩
section
variable {B b bm:Nat} {v:Value} {ns:List Nd} {L:List (Nd × Int)} {room next:Int} {w:World}
theorem zlm(hr:qd ns)(hbk:ZQ ns L)(hl:ns.length<=100000)(hA:zP B w b bm v ns L room next)(bf:Nat){cp:Nat}(fs:List Int)(hF:ZC w bf fs)(hfl:fs.length<=1000)(hB:B<=w.heap.size)(hLl:L.length<=100000) :
  zC 96 #[.pointer (some b),.slice (some bf) fs.length cp] w fun e w'=>e=.returned (.int .i64 ((L.length:Int)-((LTo L (qt ns fs) ns.length).length:Int)))/\zP B w' b bm v (qy ns (qt ns fs)) (LTo L (qt ns fs) ns.length) room 2/\zc (Own b bm v) w w':=by
 have HC:=zH (ziq (cp:=cp) hr hl hA bf fs hF hfl hB);have a4:=zbY ns fs;generalize qt ns fs=M at *;have a8:=zH a4;have hg:¬Own b bm v w.heap.size:=by
  obtain⟨D,hD,-⟩:=hA.hmap;have ad:=hD.lt;have o:=hA.lt;rintro (h|h|h)
  ·omega
  ·omega
  ·have:=(hA.row.lt _ h).2;omega
 have p:=zH (JI hA);have HA:=zH hA;have HG:=zH hg;have J:=zH hbk;have HR:=zH hr;clear hA hF hr a4 hg hbk;go_enter Tryz.func96,Tryz.ntmps96;go_wp2_with fail;refine p.out.mono ?_;rintro e w0 ⟨rfl,rfl⟩;clear p;go_wp2_with fail;refine HC.out.mono ?_;rintro e w1 ⟨rfl,a5,a0⟩;clear HC;have a2:=HA.out.kept (zc.of_below a0 (fun _=>False)) (fun _ _ h=>h);have a3:=zc.of_below a0 (Own b bm v);go_wp2_with fail;go_loopw [6,7,14] (fun _ _ i wr=>∃k:Nat,k<=ns.length/\i=.int .i64 k/\zP B wr b bm v (Zx ns M k) (LTo L M k) room next/\wr.ownsRow B 4 1 (.slice (some w.heap.size) ns.length ns.length) ns.length (yG M)/\zc (Own b bm v) w wr)
  (fun _ _ i _=>ns.length-(intOf i).toNat)
 case atStart=>exact⟨0,Nat.zero_le _,rfl,by rw[zjv,zpU];exact a2,a5,a3⟩
 case round =>
  obtain⟨k,hk,rfl,u,U,R⟩:=hrel;clear a2 a3 a5 a0
  by_cases o:k<ns.length
  ·have cm:=U.cellAt k (by omega);rw[zeJ M k (by rw[a8.out];exact o)] at cm;have ib:(k:Int)<(ns.length:Int):=by omega
   by_cases hm:mk M k=true
   ·rw[hm] at cm;have E1:=zH (zdJ o (.inl hm));have E2:=zH (zeu J.out o (.inl hm));have y:=zH u;have X:=zH R;have HM:=zH U;clear hm u R U;go_wp2;go_roundw
    case rel=>exact⟨k+1,by omega,by go_num,by rw[E1.out,E2.out];exact y.out,HM.out,X.out⟩
    case measure=>simp[intOf];omega
   ·have hm':mk M k=false:=by simpa using hm
    rw[hm'] at cm;have V:nd (Zx ns M k) k=nd ns k:=by rw[QZ ns M k k o,zA1 (by omega)]
    have y:=zH u;have X:=zH R;have HM:=zH U;clear u R U
    by_cases hv:(nd ns k).v<24
    ·have HD:=zH (znZ y.out (by rw[xp];exact hl) k (by rw[xp];exact o) (by rw[V];omega) (by rw[V];exact zhW J.out o hv));rw[V,zic o hm',zgf J.out o hm' hv] at HD;clear hm hm' V hv;go_wp2_with fail;refine HD.out.mono ?_;rintro e w2 ⟨rfl,C,Z⟩;have a1:=YV HM.out Z (fun j hj h2=>by have a9:w.heap.size=j:=Option.some.inj hj;exact HG.out (a9▸h2));have K:=X.out.trans Z;clear HD Z y;go_wp2;go_roundw
     case rel=>exact⟨k+1,by omega,by go_num,C,a1,K⟩
     case measure=>simp[intOf];omega
    ·have E1:=zH (zdJ (M:=M) o (.inr (J.out.free k o hv)));have E2:=zH (zeu (M:=M) J.out o (.inr hv));have HD:=zH (zlF y.out (by rw[xp];exact hl) (2+(k:Int)) ⟨by omega,by omega⟩ (by rw[Ya (by rw[xp];exact o),V,J.out.free k o hv]));clear hm hm' V hv;go_wp2_with fail;refine HD.out.mono ?_;rintro e w2 ⟨rfl,Y⟩;have a1:=zbn HM.out Y;have K:=X.out.trans (zc.of_below Y _);have C:=y.out.kept (zc.of_below Y (fun _=>False)) (fun _ _ h=>h);clear HD Y y;go_wp2;go_roundw
     case rel=>exact⟨k+1,by omega,by go_num,by rw[E1.out,E2.out];exact C,a1,K⟩
     case measure=>simp[intOf];omega
  ·obtain rfl:k=ns.length:=by omega
   rw[zp6] at u;have C:=u.setNext 2;have p:=zH (JI C);have ab:=u.cnext;have ac:=u.froz 3;have a6:=zH C;have K:=R.trans (zc.setCell (S:=Own b bm v) wr ⟨b,3,none⟩ (.int .i64 2) (.inl rfl));have aa:(LTo L M ns.length).length<=L.length:=List.length_filter_le _ _;have a7:=zH K;obtain⟨q,hq⟩:∃q,q=(LTo L M ns.length).length:=⟨_,rfl⟩;rw[<-hq] at p aa;have HQ:=zH hq;clear hq;clear u C R K U;go_wp2_with fail;refine p.out.mono ?_;rintro e w3 ⟨rfl,rfl⟩;go_wp2;go_ret;exact⟨by rw[<-HQ.out];rfl,a6.out,a7.out⟩
end
end Bd
end Go.Proofs.YthifnefkdjkicaaGreatDoor
