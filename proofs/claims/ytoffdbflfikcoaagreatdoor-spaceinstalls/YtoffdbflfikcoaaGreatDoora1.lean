import Derived.Test.YtoffdbflfikcoaaGreatDoora0
open Go.Proofs.Tryz Go.RowKit
namespace Go.Proofs.YtoffdbflfikcoaaGreatDoor
set_option maxHeartbeats 4000000
set_option maxRecDepth 100000
namespace Bd
open Go.Maps
theorem zd0:∀(ns:List Nd) (k:Nat) (n:Nd),k<ns.length->(((zw ns).set (k*3) (.int .i64 n.v)).set (k*3+1) (.int .i64 n.l)).set (k*3+2) (.int .i64 n.h)=zw (ns.set k n)
 |[],k,n,h=>by simp at h
 |m :: ns,0,n,_=>by simp[zw]
 |m :: ns,k+1,n,h=>by
  have ih:=zd0 ns k n (by simpa using h);have e2:∀(j:Nat) (xs:List Value) (u:Value),(Value.int .i64 m.v :: .int .i64 m.l :: .int .i64 m.h :: xs).set (j+3) u=Value.int .i64 m.v :: .int .i64 m.l :: .int .i64 m.h :: xs.set j u:=fun j xs u=>rfl;show ((((Value.int .i64 m.v :: .int .i64 m.l :: .int .i64 m.h :: zw ns):List Value).set ((k+1)*3) _).set ((k+1)*3+1) _).set ((k+1)*3+2) _=(Value.int .i64 m.v :: .int .i64 m.l :: .int .i64 m.h :: zw (ns.set k n));rw[show (k+1)*3=k*3+3 by omega,show k*3+3+1=(k*3+1)+3 by omega,show k*3+3+2=(k*3+2)+3 by omega,e2,e2,e2,ih]
section
variable {B b bm g m cap k:Nat} {w w':World} {v:Value} {ns:List Nd} {L L':List (Nd × Int)} {room next:Int}
theorem zM.setNode(h:zM B w b bm (.slice (some g) m cap) ns L room next)(hk:k<ns.length)(n:Nd) :
  zM B (((w.setCell ⟨g,k*3,none⟩ (.int .i64 n.v)).setCell ⟨g,k*3+1,none⟩ (.int .i64 n.l)).setCell ⟨g,k*3+2,none⟩ (.int .i64 n.h)) b bm (.slice (some g) m cap) (ns.set k n) L room next:=by
 obtain⟨D,hD,hR⟩:=h.hmap;have o:b≠g:=fun e=>h.d1 (by rw[e];rfl);have u:bm≠g:=fun e=>h.d3 (by rw[e];rfl);have hm:m=ns.length:=by
  rcases h.row.2 with ⟨h1,-⟩|⟨_,_,_,h1,-⟩<;>cases h1;rfl
 have hK:zc (fun j=>j=g) w (((w.setCell ⟨g,k*3,none⟩ (.int .i64 n.v)).setCell ⟨g,k*3+1,none⟩ (.int .i64 n.l)).setCell ⟨g,k*3+2,none⟩ (.int .i64 n.h)) :=
  ((zc.setCell (S:=fun j=>j=g) w ⟨g,k*3,none⟩ _ rfl).trans (zc.setCell (S:=fun j=>j=g) _ ⟨g,k*3+1,none⟩ _ rfl)).trans (zc.setCell (S:=fun j=>j=g) _ ⟨g,k*3+2,none⟩ _ rfl)
 have p:=h.row;rw[hm] at p;have q:=(((p.stored (k*3) (.int .i64 n.v)).1.stored (k*3+1) (.int .i64 n.l)).1.stored (k*3+2) (.int .i64 n.h)).1;rw[zd0 ns k n hk] at q;refine⟨zc6 h.lt hK.size,(hK.cell (a:=b) h.lt o).trans h.croom,(hK.cell (a:=⟨b,1,none⟩) h.lt o).trans h.cnodes,(hK.cell (a:=⟨b,2,none⟩) h.lt o).trans h.cmap,(hK.cell (a:=⟨b,3,none⟩) h.lt o).trans h.cnext,fun i=>(hK.frozen (a:=⟨b,i,none⟩) h.lt o).trans (h.froz i),?_,⟨D,Ql hD hK u,hR⟩,h.d1,h.d2,h.d3,h.B1,h.B2⟩;rw[zr3,hm];exact q
theorem zM.setMap{D':DataW Unit}(h:zM B w b bm v ns L room next)(hk:zc (fun j=>j=bm) w w')(hD:w'.ownsMap prog 200 (plainElem prog 3) bm L'.length D')(hR:Rep Nd.Ok Nd.lit (fun x:Int=>.lit (.int .i64 x)) D' L'):zM B w' b bm v ns L' room next:=by
 have hb:b≠bm:=fun e=>h.d2 e.symm;exact ⟨zc6 h.lt hk.size,(hk.cell (a:=b) h.lt hb).trans h.croom,(hk.cell (a:=⟨b,1,none⟩) h.lt hb).trans h.cnodes,(hk.cell (a:=⟨b,2,none⟩) h.lt hb).trans h.cmap,(hk.cell (a:=⟨b,3,none⟩) h.lt hb).trans h.cnext,fun i=>(hk.frozen (a:=⟨b,i,none⟩) h.lt hb).trans (h.froz i),
  Y4 h.row hk (fun k hv e=>h.d3 (e ▸ hv)),⟨D',hD,hR⟩,h.d1,h.d2,h.d3,h.B1,h.B2⟩
def zpf(B:Nat)(w:World)(b bm:Nat)(v:Value)(ns:List Nd)(L:List (Nd × Int))(room:Int)(i:Nat)(n:Nd)(e:Ending)(w':World):Prop :=
 ∃(k:Nat) (v':Value),e=.returned (.tuple #[.int .i64 (2+(k:Int)),.nilIface])/\k<=ns.length/\(∀j,i<=j->j<k->(nd ns j).v<24)/\(k<ns.length->¬(nd ns k).v<24) /\
  zM B w' b bm v' ((if k=ns.length then ns++[⟨24,0,0⟩] else ns).set k n) (L++[(n,2+(k:Int))]) room (2+(k:Int))/\zc (Own b bm v) w w'/\(v'.ownBlock=v.ownBlock\/∃g,v'.ownBlock=some g/\w.heap.size<=g)
theorem zpb(hA:zM B w b bm v ns L room next)(hl:ns.length<=100000)(n:Nd)(hn:n.Ok)(hf:Fit ns n)(hnin:n∉L.map Prod.fst)(hroom:(L.length:Int)<room)(hLl:L.length<=100000)(i:Nat)(hnext:next=2+(i:Int))(hil:i<=ns.length)(hB:B<=w.heap.size) :
  zC 233 #[.pointer (some b),n.val] w (zpf B w b bm v ns L room i n):=by
 have hl':ns.length<=1000000:=by omega
 obtain⟨x,lo,hi⟩:=n;obtain⟨h0,h1,h2,h3,h4,h5⟩:=hf;simp only at h0 h1 h2 h3 h4 h5;have aV:=below_new w (.cells #[x,lo,hi] 200);have HL:=zH (KP hA (.cells #[x,lo,hi] 200) lo hn.2.1 hl');have HH:=zH (KP hA (.cells #[x,lo,hi] 200) hi hn.2.2 hl');have TL:=zH (K5 hA (.cells #[x,lo,hi] 200) lo hn.2.1 hl');have TH:=zH (K5 hA (.cells #[x,lo,hi] 200) hi hn.2.2 hl');have a7:=hA.kept (zc.alloc (fun _=>False) w (.cells #[x,lo,hi] 200)) (fun _ _ h=>h);obtain⟨D,hD,hR⟩:=a7.hmap;have az:Hid (∀W:World,zc (fun _=>False) (w.alloc (.cells #[x,lo,hi] 200)) W->(Instr.lookup 191 (.map (some bm)) (.agg #[x,lo,hi]) true).run prog W=.ok (.tuple #[(0:Int),false]) W):=fun W hW=>zmt (a:=⟨x,lo,hi⟩) (Ql hD hW (fun h=>h)) hR hn hnin;have cm:=a7.cmap;obtain⟨c0,c1,c2,-⟩:=xA w (.int .i64 x) (.int .i64 lo) (.int .i64 hi) 200;rw[h2] at HL;rw[h3] at HH;clear h2 h3 hD hR;unfold Nd.val;generalize za ns lo=tl at *;generalize za ns hi=th at *;have d1:decide (tl<=x)=false:=zf5 (by omega);have d2:decide (th<=x)=false:=zf5 (by omega);go_enter func233,ntmps233;go_wp2_with fail;refine HL.out.mono ?_;rintro e w1 ⟨rfl,rfl⟩;go_wp2_with fail;refine HH.out.mono ?_;rintro e w1 ⟨rfl,rfl⟩;clear HL HH;go_wp2_with fail;go_quiet (first|(go_at_call 60;with_reducible exact TL.out _)|(go_at_call 60;with_reducible exact TH.out _));clear TL TH;go_wp2_with fail;have hk:=QV (fun _=>False) (w.alloc (.cells #[x,lo,hi] 200)) nq;have aT:=aV.trans (xp w.heap.size _ nq);have aJ:((w.alloc (.cells #[x,lo,hi] 200)).drewN nq).cell? ⟨b,2,none⟩=some (.map (some bm)):=cm;have af:((w.alloc (.cells #[x,lo,hi] 200)).drewN nq).cell? w.heap.size=some (.int .i64 x):=c0;have ah:((w.alloc (.cells #[x,lo,hi] 200)).drewN nq).cell? ⟨w.heap.size,1,none⟩=some (.int .i64 lo):=c1;have aj:((w.alloc (.cells #[x,lo,hi] 200)).drewN nq).cell? ⟨w.heap.size,2,none⟩=some (.int .i64 hi):=c2;have ar:=az.out _ hk.drew;have am:=a7.kept hk (fun _ _ h=>h);have ac:=zH hnin;have b5:=zH hn;have a9:=zH hA;clear hk az aV cm c0 c1 c2 d1 d2 h4 h5 hA a7 hnin hn;generalize (w.alloc (.cells #[x,lo,hi] 200)).drewN nq=W at *;go_region_held3 (fun w'=>w'.cell? ⟨b,2,none⟩=some (.map (some bm))/\w'.cell? w.heap.size=some (.int .i64 x)/\w'.cell? ⟨w.heap.size,1,none⟩=some (.int .i64 lo)/\w'.cell? ⟨w.heap.size,2,none⟩=some (.int .i64 hi)) (exact⟨aJ,af,ah,aj⟩) (first|fail);clear ar;have an:=am.kept (QV (fun _=>False) W 1) (fun _ _ h=>h);have bb:W.drew.cell? b=some (.int .i64 room):=am.croom;have ab:Hid (∀m,zC 99 #[.pointer (some b)] (W.drew.drewN m) fun e w'=>e=.returned (.int .i64 L.length)/\∃m',w'=W.drew.drewN m'):=fun m=>(KC (an.kept (QV (fun _=>False) _ m) (fun _ _ h=>h))).mono fun _ _ ⟨h1,h2⟩=>⟨h1,m,h2.symm⟩;have aU:=aT.drew;have aC:W.drew.cell? w.heap.size=some (.int .i64 x):=af;have aF:W.drew.cell? ⟨w.heap.size,1,none⟩=some (.int .i64 lo):=ah;have aI:W.drew.cell? ⟨w.heap.size,2,none⟩=some (.int .i64 hi):=aj;have a8:=zH an;clear am an aJ af ah aj aT;have e0:W.drewN 1=W.drew:=rfl;rw[e0] at a8;clear e0;generalize W.drew=W3 at *;obtain⟨len,Z⟩:∃len,len=L.length:=⟨_,rfl⟩;rw[<-Z] at ab hroom;have aa:=zH Z;clear Z;go_wp2_with fail;go_quiet (first|(go_at_call 99;with_reducible exact ab.out _));go_wp2_with fail;have aO:=a8.out.kept (QV (fun _=>False) _ nq) (fun _ _ h=>h);have ao:=aU.trans (xp w.heap.size _ nq);have ad:(W3.drewN nq).cell? w.heap.size=some (.int .i64 x):=aC;have aD:(W3.drewN nq).cell? ⟨w.heap.size,1,none⟩=some (.int .i64 lo):=aF;have aG:(W3.drewN nq).cell? ⟨w.heap.size,2,none⟩=some (.int .i64 hi):=aI;clear aC aF aI a8 ab aU bb;generalize W3.drewN nq=W4 at *;have bk:=ao.size;have hs4':=zsS W4 w.heap.size ad;refine(zjG aO hl i hnext hil (by omega)).mono ?_;rintro e w5 ⟨k,v',rfl,hk,a6,J,a4,a5,au⟩;have q:¬Own b bm v w.heap.size:=by
  have bd:=a9.out.lt;obtain⟨D,hD,-⟩:=a9.out.hmap;have bh:=hD.lt;rintro (h|h|h)
  ·omega
  ·omega
  ·have:=(a9.out.row.lt _ h).2;omega
 have aB:=(a5.cell (a:=w) hs4' q).trans ad;have aE:=(a5.cell (a:=⟨w.heap.size,1,none⟩) hs4' q).trans aD;have aH:=(a5.cell (a:=⟨w.heap.size,2,none⟩) hs4' q).trans aG;obtain⟨p,u⟩:∃p,p=(if k=ns.length then ns++[(⟨24,0,0⟩:Nd)] else ns):=⟨_,rfl⟩;rw[<-u] at a4;have aX:k<p.length:=by rw[u];split<;>(try simp)<;>omega
 have bj:p.length<=100001:=by rw[u];split<;>(try simp)<;>omega
 obtain⟨a',U,be,bc⟩:=a4.form;obtain⟨g',rfl,bf,bi⟩:=bc (by omega);subst be;have o:zM B w5.drew b bm (.slice (some g') p.length U) p L room (2+(k:Int)):=a4.kept (zc.refl (fun _=>False) w5).drew (fun _ _ h=>h);have bg:b≠g':=fun e=>a4.d1 (by rw[e];rfl);have av:w.heap.size≠g':=by
  rcases au with h|⟨g2,h,aW⟩
  ·intro e;exact q (.inr (.inr (by rw[<-h,e];rfl)))
  ·have h':g'=g2:=zru h;have bl:w.heap.size<W4.heap.size:=hs4';omega
 obtain⟨n1,n2,n3⟩:=Yf p k aX;have s0:=o.row.cellAt (k*3) (by omega);have s1:=o.row.cellAt (k*3+1) (by omega);have s2:=o.row.cellAt (k*3+2) (by omega);rw[n1] at s0;rw[n2] at s1;rw[n3] at s2;have t0:=o.row.frozenAt (k*3);have t1:=o.row.frozenAt (k*3+1);have t2:=o.row.frozenAt (k*3+2);have cn:=o.cnodes;have y:w5.drew.cell? w.heap.size=some (.int .i64 x):=aB;have M:w5.drew.cell? ⟨w.heap.size,1,none⟩=some (.int .i64 lo):=aE;have R:w5.drew.cell? ⟨w.heap.size,2,none⟩=some (.int .i64 hi):=aH;have X:=o.setNode aX ⟨x,lo,hi⟩;have K:zc (fun j=>j=g') w5.drew (((w5.drew.setCell ⟨g',k*3,none⟩ (.int .i64 x)).setCell ⟨g',k*3+1,none⟩ (.int .i64 lo)).setCell ⟨g',k*3+2,none⟩ (.int .i64 hi)) :=
  ((zc.setCell (S:=fun j=>j=g') w5.drew ⟨g',k*3,none⟩ _ rfl).trans (zc.setCell (S:=fun j=>j=g') _ ⟨g',k*3+1,none⟩ _ rfl)).trans (zc.setCell (S:=fun j=>j=g') _ ⟨g',k*3+2,none⟩ _ rfl)
 have aq:=o.lt;have C:=zsS w5.drew w.heap.size y;have ae:=(K.cell (a:=w) C av).trans y;have ag:=(K.cell (a:=⟨w.heap.size,1,none⟩) C av).trans M;have ai:=(K.cell (a:=⟨w.heap.size,2,none⟩) C av).trans R;have aK:=X.cnodes;have e2:2+(k:Int)-2=(k:Int):=by omega
 have bo:(0:Int)<=(k:Int):=by omega
 have bp:(k:Int)<(p.length:Int):=by omega
 have s0':w5.cell? ⟨g',k*3,none⟩=some (.int .i64 (nd p k).v):=s0;have s1':(w5.setCell ⟨g',k*3,none⟩ (.int .i64 x)).cell? ⟨g',k*3+1,none⟩=some (.int .i64 (nd p k).l):=by
  rw[zrc _ _ _ _ (by simp)];exact s1
 have s2':((w5.setCell ⟨g',k*3,none⟩ (.int .i64 x)).setCell ⟨g',k*3+1,none⟩ (.int .i64 lo)).cell? ⟨g',k*3+2,none⟩=some (.int .i64 (nd p k).h):=by
  rw[zrc _ _ _ _ (by simp),zrc _ _ _ _ (by simp)];exact s2
 have t0':w5.frozen? ⟨g',k*3,none⟩=false:=t0;have t1':(w5.setCell ⟨g',k*3,none⟩ (.int .i64 x)).frozen? ⟨g',k*3+1,none⟩=false:=by rw[zrE];exact t1
 have t2':((w5.setCell ⟨g',k*3,none⟩ (.int .i64 x)).setCell ⟨g',k*3+1,none⟩ (.int .i64 lo)).frozen? ⟨g',k*3+2,none⟩=false:=by rw[zrE,zrE];exact t2
 have ew:IntKind.i64.wrap (k:Int)=(k:Int):=IntWalk.i64_in _ ⟨by omega,by omega⟩;have b3:=zH u;have b4:=zH a6;have b0:=zH J;have ax:=zH X;have b1:=zH a5;have aA:=zH au;have HK6':=zH K;have ay:=zH ao;clear u a6 J X a5 au K ao a4 o aO ad aD aG aB aE aH n1 n2 n3;go_wp2_with fail;go_region_held3 (fun w'=>w'.cell? ⟨b,1,none⟩=some (.slice (some g') p.length U)/\w'.cell? w.heap.size=some (.int .i64 x)/\w'.cell? ⟨w.heap.size,1,none⟩=some (.int .i64 lo)/\w'.cell? ⟨w.heap.size,2,none⟩=some (.int .i64 hi)) (first|exact⟨cn,y,M,R⟩|exact⟨aK,ae,ag,ai⟩) (first|fail);go_wp2_with fail;have X:zM B (((w5.setCell ⟨g',k*3,none⟩ (.int .i64 x)).setCell ⟨g',k*3+1,none⟩ (.int .i64 lo)).setCell ⟨g',k*3+2,none⟩ (.int .i64 hi)).drew b bm (.slice (some g') p.length U) (p.set k ⟨x,lo,hi⟩) L room (2+(k:Int)):=ax.out;have aL:(((w5.setCell ⟨g',k*3,none⟩ (.int .i64 x)).setCell ⟨g',k*3+1,none⟩ (.int .i64 lo)).setCell ⟨g',k*3+2,none⟩ (.int .i64 hi)).drew.cell? w.heap.size=some (.int .i64 x):=ae;have aM:(((w5.setCell ⟨g',k*3,none⟩ (.int .i64 x)).setCell ⟨g',k*3+1,none⟩ (.int .i64 lo)).setCell ⟨g',k*3+2,none⟩ (.int .i64 hi)).drew.cell? ⟨w.heap.size,1,none⟩=some (.int .i64 lo):=ag;have aN:(((w5.setCell ⟨g',k*3,none⟩ (.int .i64 x)).setCell ⟨g',k*3+1,none⟩ (.int .i64 lo)).setCell ⟨g',k*3+2,none⟩ (.int .i64 hi)).drew.cell? ⟨w.heap.size,2,none⟩=some (.int .i64 hi):=ai;have K:Hid (zc (fun j=>j=g') w5 (((w5.setCell ⟨g',k*3,none⟩ (.int .i64 x)).setCell ⟨g',k*3+1,none⟩ (.int .i64 lo)).setCell ⟨g',k*3+2,none⟩ (.int .i64 hi)).drew):=⟨HK6'.out.os,HK6'.out.tape,HK6'.out.output,HK6'.out.size,HK6'.out.block⟩;clear s0 s1 s2 t0 t1 t2 s0' s1' s2' t0' t1' t2' y M R ae ag ai cn aK ax HK6' aq C;generalize (((w5.setCell ⟨g',k*3,none⟩ (.int .i64 x)).setCell ⟨g',k*3+1,none⟩ (.int .i64 lo)).setCell ⟨g',k*3+2,none⟩ (.int .i64 hi)).drew=W6 at *;have Y:=X.kept (zc.refl (fun _=>False) W6).drew (fun _ _ h=>h);obtain⟨D6,aP,aR⟩:=Y.hmap;obtain⟨W7,D7,aY,aQ,aS,a1⟩:=zhQ aP aR (by have:=aa.out;omega) b5.out ac.out (x:=2+(k:Int)) ⟨by omega,by omega⟩;have ak:=Y.setMap a1 aQ aS;have b6:W6.drew.cell? ⟨b,2,none⟩=some (.map (some bm)):=X.cmap;have V:W6.drew.cell? w.heap.size=some (.int .i64 x):=aL;have a2:W6.drew.cell? ⟨w.heap.size,1,none⟩=some (.int .i64 lo):=aM;have a3:W6.drew.cell? ⟨w.heap.size,2,none⟩=some (.int .i64 hi):=aN;have a0:=zsS W6.drew w.heap.size V;have aw:w.heap.size≠bm:=fun e=>q (.inr (.inl e));have b8:=(a1.cell (a:=w) a0 aw).trans V;have b9:=(a1.cell (a:=⟨w.heap.size,1,none⟩) a0 aw).trans a2;have ba:=(a1.cell (a:=⟨w.heap.size,2,none⟩) a0 aw).trans a3;have b7:=ak.cmap;have aZ:=zH ak;have b2:=zH a1;clear X Y aP aR aQ aS ak a1 aL aM aN;go_region_held3 (fun w'=>w'.cell? ⟨b,2,none⟩=some (.map (some bm))/\w'.cell? w.heap.size=some (.int .i64 x)/\w'.cell? ⟨w.heap.size,1,none⟩=some (.int .i64 lo)/\w'.cell? ⟨w.heap.size,2,none⟩=some (.int .i64 hi)) (first|exact⟨b6,V,a2,a3⟩|exact⟨b7,b8,b9,ba⟩) (first|fail);go_wp2;go_ret2;have bn:=ay.out.size;refine⟨k,_,rfl,hk,b4.out,fun h=>by have:=b0.out h;omega,by rw[<-b3.out];exact aZ.out,?_,?_⟩
 ·refine((((zc.of_below ay.out _).trans b1.out).andThen K.out (fun j hj bd=>?_)).drew).andThen b2.out (fun j hj _=>.inr (.inl hj));subst hj;rcases aA.out with h|⟨g2,h,aW⟩
  ·exact .inr (.inr (by rw[<-h];rfl))
  ·have h':j=g2:=zru h;omega
 ·rcases aA.out with h|⟨g2,h,aW⟩
  ·exact .inl h
  ·exact .inr ⟨g2,h,by omega⟩
end
end Bd
namespace Bd
open Go.Maps
def yT(m:List Bool):List Value:=m.map Value.bool
theorem zek(m:List Bool)(i:Nat)(h:i<m.length):(yT m)[i]?=some (.bool (mk m i)):=by rw[zgC m i h];simp[yT,h]
theorem zlZ(m:List Bool)(i:Nat):(yT m).set i (.bool true)=yT (m.set i true):=by simp[yT,List.map_set]
theorem zcu{ns:List Nd}{h:Int}{m:List Bool}(hc:za ns h=24\/mk m (h-2).toNat=true)(d:Nat):zS d ns h m=m:=by
 cases d with
 |zero=>rfl
 |succ d=>unfold zS;rw[zc3 hc]
theorem zaF{B e size n:Nat}{w w':World}{v:Value}{xs:List Value}(h:w.ownsRow B e size v n xs)(hb:zB w w'):w'.ownsRow B e size v n xs :=
 Y4 (S:=fun _=>False) h (zc.of_below hb _) (fun _ _ h=>h)
section
variable {B b bm g cap:Nat} {v:Value} {ns:List Nd} {L:List (Nd × Int)} {room next:Int}
theorem zgn(hl:ns.length<=100000)(h:Int)(m:List Bool)(w:World)(hA:zM B w b bm v ns L room next)(hrow:w.ownsRow B 4 1 (.slice (some g) ns.length cap) ns.length (yT m))(hi:I64 h)(ht:za ns h=24) :
  zC 205 #[.pointer (some b),h,.slice (some g) ns.length cap] w fun e w'=>e=.returned (.tuple #[])/\w'.ownsRow B 4 1 (.slice (some g) ns.length cap) ns.length (yT m)/\zc (fun k=>k=g) w w':=by
 have HG:=zH (X7 hA h hi (by omega));have q:zo ns h=⟨0,0,0⟩:=by unfold zo;rw[zc3 ht]
 rw[q,ht] at HG;have j:=zH hrow;clear hA q ht hrow;have e1:decide ((24:Int)≠24)=false:=by decide
 rw[e1] at HG;unfold Nd.val at HG;go_enter func205,ntmps205;go_wp2_with fail;refine HG.out.mono ?_;rintro e w1 ⟨rfl,o⟩;go_wp2;refine zc4 (v:=.tuple #[]) (by simp[results,results205,go_sem]) rfl ?_;have p:=o.trans ((below_new w1 (.cells #[(0:Int),(0:Int),(0:Int)] 200)).mono o.size);exact⟨rfl,zaF j.out p,zc.of_below p _⟩
def zbV(B b bm g cap:Nat)(v:Value)(ns:List Nd)(L:List (Nd × Int))(room next:Int)(d:Nat):Prop :=
 ∀(h:Int) (m:List Bool) (w:World),zM B w b bm v ns L room next->m.length=ns.length->w.ownsRow B 4 1 (.slice (some g) ns.length cap) ns.length (yT m)->I64 h->24<=za ns h+d ->
  zC 205 #[.pointer (some b),h,.slice (some g) ns.length cap] w fun e w'=>e=.returned (.tuple #[])/\w'.ownsRow B 4 1 (.slice (some g) ns.length cap) ns.length (yT (zS d ns h m))/\zc (fun k=>k=g) w w'
theorem ziW(hr:zZ ns)(hl:ns.length<=100000)(hg:¬Own b bm v g)(d:Nat)(ih:zbV B b bm g cap v ns L room next d):zbV B b bm g cap v ns L room next (d+1):=by
 intro h m w hA a7 j hi hd
 by_cases ht:za ns h=24
 ·rw[zcu (.inl ht) (d+1)];exact zgn hl h m w hA j hi ht
 have HG:=zH (X7 hA h hi (by omega));obtain⟨am,an⟩:=hi;obtain⟨b1,b2,b3⟩:=QY ht;have o:(nd ns (h-2).toNat).v<24:=by have:=(qe hr h).2;omega
 obtain⟨i,e2⟩:∃i:Nat,h-2=(i:Int):=⟨(h-2).toNat,by omega⟩;have e1:(h-2).toNat=i:=by omega
 have a6:zo ns h=nd ns i:=by unfold zo;rw[zc2 ht,e1]
 rw[e1] at b2 b3 o;rw[a6,zq9 ht] at HG;unfold Nd.val at HG;have J:=hr.ok i b2;have Y:24<=za ns (nd ns i).l+d:=by have:=(hr.l i b2 o).1;omega
 have X:24<=za ns (nd ns i).h+d:=by have:=(hr.h i b2 o).1;omega
 have ak:g<w.heap.size:=(j.lt g rfl).2;have aj:B<=g:=(j.lt g rfl).1;have p:Hid (mk m i=true->zS (d+1) ns h m=m):=fun hm=>zcu (.inr (by rw[e1];exact hm)) (d+1);have M:Hid (mk m i=false->zS (d+1) ns h m=zS d ns (nd ns i).h (zS d ns (nd ns i).l (m.set i true))):=fun hm=>by
  show zS (d+1) ns h m=_;rw[zS,e1,zc2 (by rw[hm];simp[ht])]
 generalize nd ns i=n at *;obtain⟨nv,nl,nh⟩:=n;simp only at HG M Y X J o b3;have IL:Hid (∀ (m:List Bool) (W:World),zM B W b bm v ns L room next->m.length=ns.length->W.ownsRow B 4 1 (.slice (some g) ns.length cap) ns.length (yT m) ->
   zC 205 #[.pointer (some b),nl,.slice (some g) ns.length cap] W fun e w'=>e=.returned (.tuple #[])/\w'.ownsRow B 4 1 (.slice (some g) ns.length cap) ns.length (yT (zS d ns nl m))/\zc (fun k=>k=g) W w'):=fun m W h1 h2 h3=>ih nl m W h1 h2 h3 J.2.1 Y
 have IH:Hid (∀ (m:List Bool) (W:World),zM B W b bm v ns L room next->m.length=ns.length->W.ownsRow B 4 1 (.slice (some g) ns.length cap) ns.length (yT m) ->
   zC 205 #[.pointer (some b),nh,.slice (some g) ns.length cap] W fun e w'=>e=.returned (.tuple #[])/\w'.ownsRow B 4 1 (.slice (some g) ns.length cap) ns.length (yT (zS d ns nh m))/\zc (fun k=>k=g) W w'):=fun m W h1 h2 h3=>ih nh m W h1 h2 h3 J.2.2 X
 have HA:=zH hA;have HR:=zH j;have u:=zH hg;have R:=zH a7;have ao:(i:Int)<(ns.length:Int):=by omega
 clear ht a6 e1 b3 Y X J ih hA j hg hr hd a7;go_enter func205,ntmps205;go_wp2_with fail;refine HG.out.mono ?_;rintro e w1 ⟨rfl,V⟩;clear HG;have a5:=below_new w1 (.cells #[nv,nl,nh] 200);obtain⟨c0,c1,c2,-⟩:=xA w1 (.int .i64 nv) (.int .i64 nl) (.int .i64 nh) 200;have y:=zT V a5;have K:=zaF HR.out y;have a3:=HA.out.kept (zc.of_below y (fun _=>False)) (fun _ _ h=>h);have aq:=V.size;have cm:=K.cellAt i (by omega);rw[zek m i (by rw[R.out];exact b2)] at cm;have fm:=K.frozenAt i;have lN:w1.heap.size<(w1.alloc (.cells #[nv,nl,nh] 200)).heap.size:=by simp
 have a1:=zH y;have a2:=zH K;have a9:=zH a3;clear V a5 K a3 HA HR y
 by_cases hm:mk m i=true
 ·rw[hm] at cm;have HE:=zH (p.out hm);clear hm;go_wp2;refine zc4 (v:=.tuple #[]) (by simp[results,results205,go_sem]) rfl ?_;rw[HE.out];exact⟨rfl,a2.out,zc.of_below a1.out _⟩
 ·have hm':mk m i=false:=by simpa using hm
  rw[hm'] at cm;have HE:=zH (M.out hm');clear hm hm' p M;have a0:=(a2.out.stored i (.bool true)).1;rw[zlZ] at a0;have q:zc (fun k=>k=g) (w1.alloc (.cells #[nv,nl,nh] 200)) ((w1.alloc (.cells #[nv,nl,nh] 200)).setCell ⟨g,i,none⟩ (.bool true)):=zc.setCell _ _ _ rfl;have Z:w1.heap.size≠g:=by omega
  have ah:=(q.cell (a:=⟨w1.heap.size,1,none⟩) lN Z).trans c1;have ad:=(q.cell (a:=⟨w1.heap.size,2,none⟩) lN Z).trans c2;have U:=a9.out.kept q (fun k hk e=>u.out (e▸hk));have a4:=(zc.of_below a1.out (fun k=>k=g)).trans q;have ag:=zc6 lN q.size;have I1:=zH (IL.out _ _ U (by rw[zr3];exact R.out) a0);have ab:=zH a4;have aa:=zH U;clear a0 q U a4 IL c0 c1 c2;go_wp2_with fail;refine I1.out.mono ?_;rintro e w4 ⟨rfl,a8,C⟩;have ai:=(C.cell (a:=⟨w1.heap.size,2,none⟩) ag Z).trans ad;have I2:=zH (IH.out _ _ (aa.out.kept C (fun k hk e=>u.out (e▸hk))) (by rw[Qh,zr3];exact R.out) a8);have ac:=zH (ab.out.trans C);clear I1 a8 C IH;go_wp2_with fail;refine I2.out.mono ?_;rintro e w5 ⟨rfl,af,ae⟩;go_wp2;refine zuC (v:=.tuple #[]) (by simp[results,results205,go_sem]) rfl ?_;rw[HE.out];exact⟨rfl,af,ac.out.trans ae⟩
theorem zda(hr:zZ ns)(hl:ns.length<=100000)(hg:¬Own b bm v g):∀d,zbV B b bm g cap v ns L room next d
 |0=>fun h m w hA o j hi hd=>by
  have ht:za ns h=24:=by have:=(qe hr h).2;omega
  rw[zcu (.inl ht) 0];exact zgn hl h m w hA j hi ht
 |d+1=>ziW hr hl hg d (zda hr hl hg d)
end
end Bd
namespace Bd
open Go.Maps
def qs(ns:List Nd)(fs:List Int):List Bool:=fs.foldl (fun m h=>zS 24 ns h m) (List.replicate ns.length false)
theorem zcn(ns:List Nd)(fs:List Int):(qs ns fs).length=ns.length:=by
 unfold qs;have:∀(fs:List Int) (m:List Bool),(fs.foldl (fun m h=>zS 24 ns h m) m).length=m.length:=by
  intro fs
  induction fs with
  |nil=>intro m;rfl
  |cons f fs ih=>intro m;rw[List.foldl_cons,ih,Qh]
 rw[this];simp
theorem zhZ(ns:List Nd)(fs:List Int)(k:Nat)(h:k<fs.length):qs ns (fs.take (k+1))=zS 24 ns fs[k] (qs ns (fs.take k)):=by
 unfold qs;rw[zry h,ztJ];rfl
theorem ownsRow_base{w:World}{B B' e size n:Nat}{v:Value}{xs:List Value}(h:w.ownsRow B e size v n xs)(hB:B'<=B):w.ownsRow B' e size v n xs:=by
 refine⟨h.1,?_⟩;rcases h.2 with h1|⟨g,cap,j,h1,h2,h3⟩
 ·exact .inl h1
 ·exact .inr ⟨g,cap,j,h1,zf1 hB h2,h3⟩
theorem zo7:(prog.info? 4).map (fun i=>(i.zero,i.size,i.bytes))=some (some (.bool false),1,1):=by kernel_rfl
theorem zqh(n:Nat):(madeCells #[Value.bool false] n).toList=yT (List.replicate n false):=by rw[toList_madeCells_one];simp[yT]
structure Zp(w:World)(bf:Nat)(fs:List Int):Prop where
 lt:bf<w.heap.size
 cells:∀i (h:i<fs.length),w.cell? ⟨bf,i,none⟩=some (.int .i64 fs[i])
 ok:∀x∈fs,I64 x
theorem Zp.kept{S:Nat->Prop}{w w':World}{bf:Nat}{fs:List Int}(h:Zp w bf fs)(hk:zc S w w')(hn:¬S bf):Zp w' bf fs :=
 ⟨zc6 h.lt hk.size,fun i hi=>(hk.cell (a:=⟨bf,i,none⟩) h.lt hn).trans (h.cells i hi),h.ok⟩
section
variable {B b bm:Nat} {v:Value} {ns:List Nd} {L:List (Nd × Int)} {room next:Int} {w:World}
theorem zmV(hr:zZ ns)(hl:ns.length<=100000)(hA:zM B w b bm v ns L room next)(bf:Nat){cp:Nat}(fs:List Int)(hF:Zp w bf fs)(hfl:fs.length<=1000)(hB:B<=w.heap.size) :
  zC 156 #[.pointer (some b),.slice (some bf) fs.length cp] w fun e w'=>e=.returned (.slice (some w) ns.length ns.length)/\w'.ownsRow B 4 1 (.slice (some w) ns.length ns.length) ns.length (yT (qs ns fs))/\zB w w':=by
 obtain⟨a,cap,rfl,-⟩:=hA.form;have hg:¬Own b bm (.slice a ns.length cap) w.heap.size:=by
  obtain⟨D,hD,-⟩:=hA.hmap;have Y:=hD.lt;have C:=hA.lt;rintro (h|h|h)
  ·omega
  ·omega
  ·have:=(hA.row.lt _ h).2;omega
 have cn:=hA.cnodes;obtain⟨i0,hi,U,V,X⟩:=info_parts zo7;have HA:=zH hA;have HF:=zH hF;have HG:=zH hg;have HR:=zH hr;clear hA hF hg hr;go_enter func156,ntmps156;go_wp2_with (at_make;refine wpList_make_full _ rfl _ _ 266 rfl w.heap.size 4 i0 (.bool false) 1 underlying266 hi U V .i64 .i64 _ _ ns.length rfl rfl ?c1 ?c2 ?c3 ?c4 ?c5 ?_)
 case c1=>rfl
 case c2=>rfl
 case c3=>rw[X];omega
 case c4=>unfold maxLen;omega
 case c5=>omega
 intro w1 u q;rw[zqh] at u;have y:zB w w1:=zF.grown q zN (fun k hk=>by cases hk);clear q;go_wp2_with fail;go_loopw [7,16] (fun _ i wr=>∃k:Nat,k<=fs.length/\i=.int .i64 k/\wr.ownsRow w 4 1 (.slice (some w) ns.length ns.length) ns.length (yT (qs ns (fs.take k)))/\zB w wr)
  (fun _ i _=>fs.length-(intOf i).toNat)
 case atStart=>exact⟨0,zf6 _,rfl,u,y⟩
 case round =>
  obtain⟨k,hk,rfl,o,j⟩:=hrel;clear u y
  by_cases C:k<fs.length
  ·have ck:=(j.cell (p:=⟨bf,k,none⟩) HF.out.lt).trans (HF.out.cells k C);have HC:Hid (zC 205 #[.pointer (some b),.int .i64 fs[k],.slice (some w) ns.length ns.length] wr fun e w'=>e=.returned (.tuple #[])/\w'.ownsRow w 4 1 (.slice (some w) ns.length ns.length) ns.length (yT (qs ns (fs.take (k+1))))/\zc (fun k=>k=w.heap.size) wr w'):=by
    have hr':=HR.out;have:=zda (B:=B) (L:=L) (room:=room) (next:=next) hr' hl HG.out 24 fs[k] (qs ns (fs.take k)) wr (HA.out.kept (zc.of_below j (fun _=>False)) (fun _ _ h=>h)) (zcn _ _) (ownsRow_base o hB) (HF.out.ok _ (zr0 C)) (by have:=(qe hr' fs[k]).1;omega);rw[<-zhZ ns fs k C] at this;refine this.mono ?_;rintro e w' ⟨h1,h2,h3⟩;refine⟨h1,⟨h2.1,?_⟩,h3⟩;rcases h2.2 with h4|⟨g,cp,K,h4,h5⟩
    ·exact .inl h4
    ·refine .inr ⟨g,cp,K,h4,?_,h5.2⟩;cases h4;exact zri _
   have HB:=zH j;clear o j;generalize fs[k]=x at *;go_wp2_with fail;refine HC.out.mono ?_;rintro e w2 ⟨rfl,R,J⟩;have M:=HB.out.trans (J.below HB.out.size (fun i hi=>by omega));clear HC J;go_wp2;go_roundw
   case rel=>exact⟨k+1,by omega,by go_num,R,M⟩
   case measure=>simp[intOf];omega
  ·obtain rfl:k=fs.length:=by omega
   rw[zrC] at o;go_wp2;go_ret;exact⟨rfl,ownsRow_base o hB,j⟩
end
end Bd
namespace Bd
open Go.Maps
def icells(l:List Int):List Value:=l.map (Value.int .i64)
theorem Qm(l:List Int):(icells l).length=l.length:=by simp[icells]
theorem QQ(l:List Int)(i:Nat)(h:i<l.length):(icells l)[i]?=some (.int .i64 l[i]):=by simp[icells,h]
theorem ZO:(prog.info? 3).map (fun i=>(i.zero,i.size,i.bytes))=some (some (.int .i64 0),1,8):=by kernel_rfl
end Bd
namespace Bd
open Go.Maps
def zax(L:List (Nd × Int))(n:Nd):List (Nd × Int):=L.filter fun q=>decide (q.1≠n)
theorem zls{P:Program}{ops:Array Oper}{o:Oper}{a:Act}{w w':World}{K:Act->World->Prop}{Q:Exit->Act->World->Prop}{E:Prop}
  (hg:o.guard=none) (m x:Operand) (t k:TypeId) (hop:o.op=Op.call { callee:=Callee.builtin Builtin.delete,args:=#[m,x],argTypes:=#[t,k] })
  {b:Nat} {key:Value} (hm:a.eval m=.map (some b)) (hx:a.eval x=key) (hrun:∀ty,(Builtin.delete_ #[t,k] ty #[.map (some b),key]).run P w=.ok (.tuple #[]) w')
  (hK:K (a.put o.dst (.tuple #[])) w'):if Region.wanted o (yielded ops a.tmps)=true then Oper.wp P o a w K Q else E:=by
 have hw:Region.wanted o (yielded ops a.tmps)=true:=by simp[Region.wanted,hg]
 rw[zc3 hw];unfold Oper.wp;simp[execOp,hop,resolve,invoke,builtin,hm,hx,hrun,Result.andThen];exact hK
section
variable {B b bm:Nat} {v:Value} {ns:List Nd} {L:List (Nd × Int)} {room next:Int} {w:World}
theorem zg4{D:DataW Unit}(hD:w.ownsMap prog 200 (plainElem prog 3) bm L.length D)(hR:Rep Nd.Ok Nd.lit (fun x:Int=>.lit (.int .i64 x)) D L){p:Nd × Int}(hp:p∈L) :
  ∃w' D',(∀ty,(Builtin.delete_ #[191,200] ty #[.map (some bm),.agg #[p.1.v,p.1.l,p.1.h]]).run prog w=.ok (.tuple #[]) w')/\w'.ownsMap prog 200 (plainElem prog 3) bm (L.filter fun q=>decide (q.1≠p.1)).length D'/\Rep Nd.Ok Nd.lit (fun x:Int=>.lit (.int .i64 x)) D' (L.filter fun q=>decide (q.1≠p.1))/\zc (fun k=>k=bm) w w':=by
 obtain⟨w',o,h1,h2⟩:=hD.drop Y3 ztg (Yk p.1 (hR.oks p hp)) 0;have hR':=hR.del (fun _ _=>K9) hp;refine⟨w',_,?_,hR'.size▸Z1 h1,hR',zc.of_grown h2.grown (fun i h=>by cases h;rfl)⟩;intro ty;obtain⟨u,j,h3,h4⟩:=hD.drop Y3 ztg (Yk p.1 (hR.oks p hp)) ty;have e:u=w':=by
  have:=o.symm.trans ((show (Builtin.delete_ #[191,200] 0 #[.map (some bm),p.1.val]).run prog w=(Builtin.delete_ #[191,200] ty #[.map (some bm),p.1.val]).run prog w from rfl).trans j);injection this with _ e;exact e.symm
 rw[<-e];exact j
theorem zlB(hA:zM B w b bm v ns L room next)(hl:ns.length<=100000)(h:Int)(hi:I64 h)(ht:za ns h=24) :
  zR 157 #[.pointer (some b),h] w (.tuple #[]):=by
 have HG:=zH (X7 hA h hi (by omega));have o:zo ns h=⟨0,0,0⟩:=by unfold zo;rw[zc3 ht]
 rw[o,ht] at HG;clear hA o ht;have e1:decide ((24:Int)≠24)=false:=by decide
 rw[e1] at HG;unfold Nd.val at HG;go_enter func157,ntmps157;go_wp2_with fail;refine HG.out.mono ?_;rintro e w1 ⟨rfl,j⟩;go_wp2;refine zuC (v:=.tuple #[]) (by simp[results,results157,go_sem]) rfl ?_;exact⟨rfl,j.trans ((below_new w1 (.cells #[(0:Int),(0:Int),(0:Int)] 200)).mono j.size)⟩
theorem zqA(hA:zM B w b bm v ns L room next)(hl:ns.length<=100000)(k:Nat)(hk:k<ns.length)(hv:(nd ns k).v≠24)(hin:(nd ns k,2+(k:Int))∈L) :
  zC 157 #[.pointer (some b),.int .i64 (2+(k:Int))] w fun e w'=>e=.returned (.tuple #[])/\zM B w' b bm v (ns.set k ⟨24,0,0⟩) (zax L (nd ns k)) room next/\zc (Own b bm v) w w':=by
 have ht:za ns (2+(k:Int))≠24:=by rw[Yq hk];exact hv
 have HG:=zH (X7 hA (2+(k:Int)) ⟨by omega,by omega⟩ (by omega));have a4:zo ns (2+(k:Int))=nd ns k:=by unfold zo;rw[zc2 ht,show (2+(k:Int)-2).toNat=k by omega]
 rw[a4,zq9 ht] at HG;unfold Nd.val at HG;obtain⟨a,cap,rfl,ad⟩:=hA.form;obtain⟨g,rfl,ag,ai⟩:=ad (by omega);have HA:=zH hA;have U:=zH hin;obtain⟨n,a6⟩:∃n,n=nd ns k:=⟨_,rfl⟩;rw[<-a6] at HG U ⊢;have e2:2+(k:Int)-2=(k:Int):=by omega
 have ib:(k:Int)<(ns.length:Int):=by omega
 clear ht a4 hA hin hv a6;obtain⟨nv,nl,nh⟩:=n;simp only at HG;go_enter func157,ntmps157;go_wp2_with fail;refine HG.out.mono ?_;rintro e w1 ⟨rfl,K⟩;clear HG;have ae:=K.size;have a3:=below_new w1 (.cells #[nv,nl,nh] 200);obtain⟨c0,c1,c2,-⟩:=xA w1 (.int .i64 nv) (.int .i64 nl) (.int .i64 nh) 200;have M:=zT K a3;have C:=HA.out.kept (zc.of_below M (fun _=>False)) (fun _ _ h=>h);have p:∀j,w.heap.size<=j->¬Own b bm (.slice (some g) ns.length cap) j:=by
  have aj:=HA.out.lt;obtain⟨D,hD,-⟩:=HA.out.hmap;have ah:=hD.lt;rintro j hj (h|h|h)
  ·omega
  ·omega
  ·have:=(HA.out.row.lt _ h).2;omega
 have lN:w1.heap.size<(w1.alloc (.cells #[nv,nl,nh] 200)).heap.size:=by simp
 go_wp2_with fail;generalize w1.alloc (.cells #[nv,nl,nh] 200)=W2 at *;have q:zM B W2.drew b bm (.slice (some g) ns.length cap) ns L room next:=C.kept (zc.refl (fun _=>False) W2).drew (fun _ _ h=>h);obtain⟨D,hD,hR⟩:=q.hmap;obtain⟨W3,D3,y,a1,a2,u⟩:=zg4 hD hR U.out;simp only at y;have J:=q.setMap u a1 a2;have cm:W2.drew.cell? ⟨b,2,none⟩=some (.map (some bm)):=C.cmap;have X:W2.drew.cell? w1.heap.size=some (.int .i64 nv):=c0;have Y:W2.drew.cell? ⟨w1.heap.size,1,none⟩=some (.int .i64 nl):=c1;have Z:W2.drew.cell? ⟨w1.heap.size,2,none⟩=some (.int .i64 nh):=c2;have R:w1.heap.size≠bm:=fun e=>p w1.heap.size ae (.inr (.inl e));have a9:=(u.cell (a:=w1) lN R).trans X;have aa:=(u.cell (a:=⟨w1.heap.size,1,none⟩) lN R).trans Y;have ab:=(u.cell (a:=⟨w1.heap.size,2,none⟩) lN R).trans Z;have ac:=J.cmap;have o:=zH J;have V:=zH (((zc.of_below M (Own b bm (.slice (some g) ns.length cap))).drew).andThen u (fun j hj _=>.inr (.inl hj)));clear C q hD hR a1 a2 u J c0 c1 c2 a3 K M;go_region_held3 (fun w'=>w'.cell? ⟨b,2,none⟩=some (.map (some bm))/\w'.cell? w1.heap.size=some (.int .i64 nv)/\w'.cell? ⟨w1.heap.size,1,none⟩=some (.int .i64 nl)/\w'.cell? ⟨w1.heap.size,2,none⟩=some (.int .i64 nh)) (first|exact⟨cm,X,Y,Z⟩|exact⟨ac,a9,aa,ab⟩)
  (first|(refine zls rfl _ _ 191 200 rfl rfl rfl y ?_))
 have af:=o.out.cnodes;obtain⟨n1,n2,n3⟩:=Yf ns k hk;have s0:=o.out.row.cellAt (k*3) (by omega);have s1:=o.out.row.cellAt (k*3+1) (by omega);have s2:=o.out.row.cellAt (k*3+2) (by omega);rw[n1] at s0;rw[n2] at s1;rw[n3] at s2;have t0:=o.out.row.frozenAt (k*3);have t1:=o.out.row.frozenAt (k*3+1);have t2:=o.out.row.frozenAt (k*3+2);have s1':(W3.setCell ⟨g,k*3,none⟩ (.int .i64 24)).cell? ⟨g,k*3+1,none⟩=some (.int .i64 (nd ns k).l):=by
  rw[zrc _ _ _ _ (by simp)];exact s1
 have s2':((W3.setCell ⟨g,k*3,none⟩ (.int .i64 24)).setCell ⟨g,k*3+1,none⟩ (.int .i64 0)).cell? ⟨g,k*3+2,none⟩=some (.int .i64 (nd ns k).h):=by
  rw[zrc _ _ _ _ (by simp),zrc _ _ _ _ (by simp)];exact s2
 have t1':(W3.setCell ⟨g,k*3,none⟩ (.int .i64 24)).frozen? ⟨g,k*3+1,none⟩=false:=by rw[zrE];exact t1
 have t2':((W3.setCell ⟨g,k*3,none⟩ (.int .i64 24)).setCell ⟨g,k*3+1,none⟩ (.int .i64 0)).frozen? ⟨g,k*3+2,none⟩=false:=by rw[zrE,zrE];exact t2
 have a0:=o.out.setNode hk ⟨24,0,0⟩;have a5:zc (Own b bm (.slice (some g) ns.length cap)) W3 (((W3.setCell ⟨g,k*3,none⟩ (.int .i64 24)).setCell ⟨g,k*3+1,none⟩ (.int .i64 0)).setCell ⟨g,k*3+2,none⟩ (.int .i64 0)) :=
  ((zc.setCell (S:=Own b bm (.slice (some g) ns.length cap)) W3 ⟨g,k*3,none⟩ _ (.inr (.inr rfl))).trans (zc.setCell _ ⟨g,k*3+1,none⟩ _ (.inr (.inr rfl)))).trans (zc.setCell _ ⟨g,k*3+2,none⟩ _ (.inr (.inr rfl)))
 have ew:IntKind.i64.wrap (k:Int)=(k:Int):=IntWalk.i64_in _ ⟨by omega,by omega⟩;have a7:=zH a0;have a8:=zH (V.out.trans a5);clear a0 a5 n1 n2 n3 s1 s2 t1 t2 o V;go_wp2;refine zuC (v:=.tuple #[]) (by simp[results,results157,go_sem]) rfl ?_;exact⟨rfl,a7.out,a8.out⟩
end
end Bd
namespace Bd
open Go.Maps
structure Z8(ns:List Nd)(L:List (Nd × Int)):Prop where
 mem:∀p∈L,∃i:Nat,i<ns.length/\(nd ns i).v<24/\p=(nd ns i,2+(i:Int))
 all:∀i,i<ns.length->(nd ns i).v<24->(nd ns i,2+(i:Int))∈L
 nodup:(L.map Prod.fst).Nodup
 free:∀i,i<ns.length->¬(nd ns i).v<24->nd ns i=⟨24,0,0⟩
theorem K6{a b:List Nd}(hl:a.length=b.length)(h:∀i,i<a.length->nd a i=nd b i):a=b:=by
 apply zuR hl;intro i h1 h2;have:=h i h1
 rwa [Qn a i h1,Qn b i h2] at this
theorem zcL(ns:List Nd)(k:Nat)(n:Nd)(i:Nat)(h:k<ns.length):nd (ns.set k n) i=if i=k then n else nd ns i:=by
 unfold nd;simp only[zc0,ztI]
 by_cases e:k=i
 ·subst e;simp[h]
 ·rw[zc2 e,zc2 (fun h=>e h.symm)]
def ZS(ns:List Nd)(M:List Bool)(k:Nat):List Nd:=(List.range ns.length).map fun i=>if i<k/\mk M i=false then ⟨24,0,0⟩ else nd ns i
theorem xx(ns:List Nd)(M:List Bool)(k:Nat):(ZS ns M k).length=ns.length:=by simp[ZS]
theorem Yb(ns:List Nd)(M:List Bool)(k i:Nat)(h:i<ns.length):nd (ZS ns M k) i=if i<k/\mk M i=false then ⟨24,0,0⟩ else nd ns i:=by
 rw[Qn _ i (by rw[xx];exact h)];simp[ZS]
theorem zoc(ns:List Nd)(M:List Bool):ZS ns M 0=ns :=
 K6 (xx _ _ _) (fun i h=>by rw[Yb ns M 0 i (by rwa [xx] at h),zc2 (by omega)])
theorem ziB(ns:List Nd)(M:List Bool):ZS ns M ns.length=qw ns M :=
 K6 (by rw [xx,ZM]) (fun i h=>by
  rw[xx] at h;rw[Yb ns M _ i h,QF ns M i h]
  by_cases e:mk M i=true
  ·rw[zc3 e,zc2 (by simp[e])]
  ·rw [zc2 e,zc3 ⟨h,by simpa using e⟩])
theorem zgE{ns:List Nd}{M:List Bool}{k:Nat}(_hk:k<ns.length)(h:mk M k=true\/nd ns k=⟨24,0,0⟩):ZS ns M (k+1)=ZS ns M k :=
 K6 (by rw [xx,xx]) (fun i hi=>by
  rw[xx] at hi;rw[Yb ns M _ i hi,Yb ns M _ i hi]
  by_cases e:i=k
  ·subst e;rw[zc2 (show ¬(i<i/\mk M i=false) by omega)];rcases h with h|h
   ·rw[zc2 (by simp[h])]
   ·rw[h];split<;>rfl
  ·by_cases e2:i<k/\mk M i=false
   ·rw[zc3 e2,zc3 ⟨by omega,e2.2⟩]
   ·rw [zc2 e2,zc2 (fun h=>e2 ⟨by omega,h.2⟩)])
theorem zhL{ns:List Nd}{M:List Bool}{k:Nat}(hk:k<ns.length)(h:mk M k=false):(ZS ns M k).set k ⟨24,0,0⟩=ZS ns M (k+1) :=
 K6 (by rw [zr3,xx,xx]) (fun i hi=>by
  rw[zr3,xx] at hi;rw[zcL _ _ _ _ (by rw[xx];exact hk),Yb ns M _ i hi,Yb ns M _ i hi]
  by_cases e:i=k
  ·subst e;rw[zc3 rfl,zc3 ⟨by omega,h⟩]
  ·rw[zc2 e]
   by_cases e2:i<k/\mk M i=false
   ·rw[zc3 e2,zc3 ⟨by omega,e2.2⟩]
   ·rw [zc2 e2,zc2 (fun h=>e2 ⟨by omega,h.2⟩)])
def LTo(L:List (Nd × Int))(M:List Bool)(k:Nat):List (Nd × Int):=L.filter fun p=>decide (k<=(p.2-2).toNat)||mk M (p.2-2).toNat
theorem zg6(L:List (Nd × Int))(M:List Bool):LTo L M 0=L:=by
 unfold LTo;rw[zu7];intro p _;simp
theorem zcx{ns:List Nd}{L:List (Nd × Int)}{M:List Bool}{k:Nat}(hB:Z8 ns L)(hk:k<ns.length)(h:mk M k=true\/¬(nd ns k).v<24):LTo L M (k+1)=LTo L M k:=by
 unfold LTo;apply ztt;intro p hp;obtain⟨i,hi,hv,rfl⟩:=hB.mem p hp;have e:(2+(i:Int)-2).toNat=i:=by omega
 simp only[e]
 by_cases e2:i=k
 ·subst e2;rcases h with h|h
  ·simp[h]
  ·exact absurd hv h
 ·congr 1;exact decide_eq_decide.2 (by omega)
theorem zie{ns:List Nd}{L:List (Nd × Int)}{M:List Bool}{k:Nat}(hB:Z8 ns L)(hk:k<ns.length)(h:mk M k=false)(hv:(nd ns k).v<24):zax (LTo L M k) (nd ns k)=LTo L M (k+1):=by
 unfold zax LTo;rw[List.filter_filter];apply ztt;intro p hp;have q:=hB.all k hk hv;obtain⟨i,hi,C,rfl⟩:=hB.mem p hp;have e:(2+(i:Int)-2).toNat=i:=by omega
 simp only[e]
 by_cases e2:i=k
 ·subst e2;simp[h]
 ·have u:nd ns i≠nd ns k:=by
   intro he;obtain⟨x,hx,o⟩:=zrQ hp;obtain⟨y,hy,j⟩:=zrQ q;have:=(List.getElem_inj (h₀:=by simpa using hx) (h₁:=by simpa using hy) hB.nodup).1 (by simp[o,j,he]);subst this;rw[o] at j;have:=zsj Prod.snd j;simp at this;omega
  rw[zq9 u,zuZ];congr 1;exact decide_eq_decide.2 (by omega)
theorem zko{ns:List Nd}{L:List (Nd × Int)}{M:List Bool}{k:Nat}(hB:Z8 ns L)(hk:k<ns.length)(hv:(nd ns k).v<24):(nd ns k,2+(k:Int))∈LTo L M k:=by
 unfold LTo;rw[zr8];exact⟨hB.all k hk hv,by simp;omega⟩
section
variable {B b bm:Nat} {v:Value} {ns:List Nd} {L:List (Nd × Int)} {room next:Int} {w:World}
theorem zkz(hr:zZ ns)(hbk:Z8 ns L)(hl:ns.length<=100000)(hA:zM B w b bm v ns L room next)(bf:Nat){cp:Nat}(fs:List Int)(hF:Zp w bf fs)(hfl:fs.length<=1000)(hB:B<=w.heap.size)(hLl:L.length<=100000) :
  zC 102 #[.pointer (some b),.slice (some bf) fs.length cp] w fun e w'=>e=.returned (.int .i64 ((L.length:Int)-((LTo L (qs ns fs) ns.length).length:Int)))/\zM B w' b bm v (qw ns (qs ns fs)) (LTo L (qs ns fs) ns.length) room 2/\zc (Own b bm v) w w':=by
 have HC:=zH (zmV (cp:=cp) hr hl hA bf fs hF hfl hB);have a4:=zcn ns fs;generalize qs ns fs=M at *;have a8:=zH a4;have hg:¬Own b bm v w.heap.size:=by
  obtain⟨D,hD,-⟩:=hA.hmap;have ad:=hD.lt;have o:=hA.lt;rintro (h|h|h)
  ·omega
  ·omega
  ·have:=(hA.row.lt _ h).2;omega
 have p:=zH (KC hA);have HA:=zH hA;have HG:=zH hg;have J:=zH hbk;have HR:=zH hr;clear hA hF hr a4 hg hbk;go_enter func102,ntmps102;go_wp2_with fail;refine p.out.mono ?_;rintro e w0 ⟨rfl,rfl⟩;clear p;go_wp2_with fail;refine HC.out.mono ?_;rintro e w1 ⟨rfl,a5,a0⟩;clear HC;have a2:=HA.out.kept (zc.of_below a0 (fun _=>False)) (fun _ _ h=>h);have a3:=zc.of_below a0 (Own b bm v);go_wp2_with fail;go_loopw [6,7,14] (fun _ _ i wr=>∃k:Nat,k<=ns.length/\i=.int .i64 k/\zM B wr b bm v (ZS ns M k) (LTo L M k) room next/\wr.ownsRow B 4 1 (.slice (some w) ns.length ns.length) ns.length (yT M)/\zc (Own b bm v) w wr)
  (fun _ _ i _=>ns.length-(intOf i).toNat)
 case atStart=>exact⟨0,zf6 _,rfl,by rw[zoc,zg6];exact a2,a5,a3⟩
 case round =>
  obtain⟨k,hk,rfl,u,U,R⟩:=hrel;clear a2 a3 a5 a0
  by_cases o:k<ns.length
  ·have cm:=U.cellAt k (by omega);rw[zek M k (by rw[a8.out];exact o)] at cm;have ib:(k:Int)<(ns.length:Int):=by omega
   by_cases hm:mk M k=true
   ·rw[hm] at cm;have E1:=zH (zgE o (.inl hm));have E2:=zH (zcx J.out o (.inl hm));have y:=zH u;have X:=zH R;have HM:=zH U;clear hm u R U;go_wp2;go_roundw
    case rel=>exact⟨k+1,by omega,by go_num,by rw[E1.out,E2.out];exact y.out,HM.out,X.out⟩
    case measure=>simp[intOf];omega
   ·have hm':mk M k=false:=by simpa using hm
    rw[hm'] at cm;have V:nd (ZS ns M k) k=nd ns k:=by rw[Yb ns M k k o,zc2 (by omega)]
    have y:=zH u;have X:=zH R;have HM:=zH U;clear u R U
    by_cases hv:(nd ns k).v<24
    ·have HD:=zH (zqA y.out (by rw[xx];exact hl) k (by rw[xx];exact o) (by rw[V];omega) (by rw[V];exact zko J.out o hv));rw[V,zhL o hm',zie J.out o hm' hv] at HD;clear hm hm' V hv;go_wp2_with fail;refine HD.out.mono ?_;rintro e w2 ⟨rfl,C,Z⟩;have a1:=Y4 HM.out Z (fun j hj h2=>by have a9:w.heap.size=j:=zru hj;exact HG.out (a9▸h2));have K:=X.out.trans Z;clear HD Z y;go_wp2;go_roundw
     case rel=>exact⟨k+1,by omega,by go_num,C,a1,K⟩
     case measure=>simp[intOf];omega
    ·have E1:=zH (zgE (M:=M) o (.inr (J.out.free k o hv)));have E2:=zH (zcx (M:=M) J.out o (.inr hv));have HD:=zH (zlB y.out (by rw[xx];exact hl) (2+(k:Int)) ⟨by omega,by omega⟩ (by rw[Yq (by rw[xx];exact o),V,J.out.free k o hv]));clear hm hm' V hv;go_wp2_with fail;refine HD.out.mono ?_;rintro e w2 ⟨rfl,Y⟩;have a1:=zaF HM.out Y;have K:=X.out.trans (zc.of_below Y _);have C:=y.out.kept (zc.of_below Y (fun _=>False)) (fun _ _ h=>h);clear HD Y y;go_wp2;go_roundw
     case rel=>exact⟨k+1,by omega,by go_num,by rw[E1.out,E2.out];exact C,a1,K⟩
     case measure=>simp[intOf];omega
  ·obtain rfl:k=ns.length:=by omega
   rw[ziB] at u;have C:=u.setNext 2;have p:=zH (KC C);have ab:=u.cnext;have ac:=u.froz 3;have a6:=zH C;have K:=R.trans (zc.setCell (S:=Own b bm v) wr ⟨b,3,none⟩ (.int .i64 2) (.inl rfl));have aa:(LTo L M ns.length).length<=L.length:=zsi _ _;have a7:=zH K;obtain⟨q,hq⟩:∃q,q=(LTo L M ns.length).length:=⟨_,rfl⟩;rw[<-hq] at p aa;have HQ:=zH hq;clear hq;clear u C R K U;go_wp2_with fail;refine p.out.mono ?_;rintro e w3 ⟨rfl,rfl⟩;go_wp2;go_ret;exact⟨by rw[<-HQ.out];rfl,a6.out,a7.out⟩
end
end Bd
