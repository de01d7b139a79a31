import Derived.Test.YtoffdbflfikcoaaGreatDoorb3
import Derived.Test.YtoffdbflfikcoaaGreatDoorb1
open Go.Proofs.Tryz Go.RowKit
namespace Go.Proofs.YtoffdbflfikcoaaGreatDoor
set_option maxHeartbeats 4000000
set_option maxRecDepth 100000
section
open Go.Deep Go.Shelf Sv
theorem zqV:∀(ls:List Ln) (i:Nat) (its:List It) (k:Int) (j:Nat),qh ls i its=.error (k,j)->k≠0:=by
 intro ls
 induction ls with
 |nil=>intro i its k j h;cases h
 |cons x r ih =>
  intro i its k j h;unfold qh at h;split at h
  ·rename_i hz;cases h;exact hz
  ·split at h
   ·split at h
    ·cases h;decide
    ·split at h
     ·cases h;decide
     ·exact ih _ _ _ _ h
   ·exact ih _ _ _ _ h
theorem zaN{ls:List Ln}{q:Int}{o:Option Nat}(h:qA ls=.error (q,o)):q≠0:=by
 unfold qA at h;split at h
 ·cases h;decide
 ·split at h
  ·rename_i e he;obtain⟨e1,e2⟩:=e;cases h;exact zqV _ _ _ _ _ he
  ·split at h
   ·cases h;decide
   ·cases h
def zfp(w:World)(r:Except (Int × Option Nat) (List Ln × List It))(e:Ending)(w':World):Prop :=
 ∃(v:Value) (k p:Int),e=.returned (.tuple #[v,.agg #[k,p]])/\zB w w'/\match r with
  |.ok (ls,_)=>RLs w' v ls/\k=0/\p=-1
  |.error (q,o)=>v=.slice none 0 0/\k=q/\p=Yn o
theorem zq3(s:ByteArray)(w:World)(h:20000<s.size):zC 15 #[s] w (zfp w (.error (4,none))):=by
 have h':(20000:Int)<(s.size:Int):=by omega
 have p:=zH (Xm 4 (w.alloc (.cells #[(0:Int),(0:Int)] 55)));have kf:=Blk.new w 55 #[(0:Int),(0:Int)];have u:zB w (w.alloc (.cells #[(0:Int),(0:Int)] 55)):=(zf0 _ w).alloc zN _;clear h;go_enter func15,ntmps15;go_wp2_with fail;refine p.out.mono ?_;rintro e w1 ⟨rfl,o⟩;have j:=kf.below o kf.lt;have q:=zT u o;have q0:_=some (Value.int .i64 0):=j.cell 0;have q1:_=some (Value.int .i64 0):=j.cell 1;have q2:=j.frozen 0;have q3:=j.frozen 1;obtain⟨⟨p0,p1⟩,p2,p3,p4⟩:=Zq j q zN 4 (-1);have P2:=zH p2;have P3:=zH p3;have P4:=zH p4;clear p2 p3 p4;clear kf j u o p q;go_wp2;exact zc4 (v:=.tuple #[.slice none 0 0,.agg #[(4:Int),.int .i64 (-1)]]) (by simp[results,results15,go_sem,P2.out,P3.out]) rfl ⟨_,_,_,rfl,P4.out,rfl,rfl,rfl⟩
theorem zqT{L:List (Nat × ByteArray)}{k:Nat}(hk:k<L.length):(((L.map (·.2)).map Value.string).toArray)[k]?=some (.string (px L k).2):=by
 rw[QA L k hk];simp[hk]
def zpa(L:List (Nat × ByteArray))(W0:World)(lV sV aV kV:Value)(wz:World):Prop:=∃(k a:Nat) (acc:List (Nat × Ln)) (vs:List Value),k<=L.length/\kV=.int .i64 k/\aV=.int .i64 a/\a<=30000/\(k<L.length->a=(px L k).1)/\acc.length<=k/\plF ((L.take k).filter (fun x=>decide (x.2.size≠0))) []=.ok acc/\RPS W0 wz lV sV (acc.map Prod.snd) vs (acc.map Prod.fst)
theorem zoo(s:ByteArray)(w:World)(hw:Lb w)(hF:yA w)(ad:Addr)(cap:Nat)(hK:xe w ad cap):zC 15 #[s] w (zfp w (yR s)):=by
 by_cases hs:20000<s.size
 ·have e:yR s=.error (4,none):=by unfold yR;rw[zc3 hs]
  rw[e];exact zq3 s w hs
 obtain⟨R,hR⟩:∃R,yR s=R:=⟨_,rfl⟩;rw[hR];have aG:=hR;unfold yR at aG;rw[zc2 hs,zor s s.size 0 (by omega) (zf6 _)] at aG;have aY:=zac s ⟨#[10]⟩;have bg:=zH (zaD s ⟨#[10]⟩ (by decide) (w.alloc (.cells #[(0:Int),(0:Int)] 55)) (by omega) (hw.below ((zf0 _ w).alloc zN _)));generalize zq s ⟨#[10]⟩ s.size 0=L at *;have az:=zH aY;have HR:=zH aG;have HW:=zH hw;have aM:=zH hF;have bz:=zH hK;have hs':¬(20000:Int)<(s.size:Int):=by omega
 have bJ:=aY.len;have kf:=Blk.new w 55 #[(0:Int),(0:Int)];have bl:zB w (w.alloc (.cells #[(0:Int),(0:Int)] 55)):=(zf0 _ w).alloc zN _;clear hR aG aY hw hF hK;obtain⟨i0,b0,b5,b6,b7⟩:=info_parts zqz;obtain⟨i1,ai,b2,b3,b4⟩:=info_parts ZO;go_enter func15,ntmps15;go_wp2_with fail;refine bg.out.mono ?_;rintro e W0 ⟨rfl,ao,aT⟩;have U:Hid (Blk W0 w.heap.size 55 #[(0:Int),(0:Int)]):=kf.below aT kf.lt;have aD:=zH ao;have ay:Hid (zB w W0):=zT bl aT;clear kf bl ao aT bg;rw[zc1] at aD;simp only[zc1];go_wp2_with fail;go_loopw [4,5,6,19] (fun lV sV aV kV wz=>zpa L W0 lV sV aV kV wz) (fun _ _ _ kV _=>L.length-(intOf kV).toNat)
 case atStart=>exact⟨0,0,[],[],zf6 _,rfl,rfl,by omega,fun _=>az.out.first.symm,zri _,rfl,RPS.start _⟩
 case round =>
  obtain⟨k,a,ag,vs,hk,rfl,rfl,ha,aS,ah,ae,V⟩:=hrel;obtain⟨ls,aH⟩:∃ls,ag.map Prod.snd=ls:=⟨_,rfl⟩;obtain⟨ss,aI⟩:∃ss,ag.map Prod.fst=ss:=⟨_,rfl⟩;have bN:ls.length<=k:=by rw[<-aH,zrs];exact ah
  have bM:ss.length<=k:=by rw[<-aI,zrs];exact ah
  rw[aH,aI] at V;have ak:=zH aH;have aE:=zH aI;clear aH aI;obtain⟨aJ,aK,rfl,-⟩:=(zx V.lrow).form;obtain⟨bH,bI,rfl,-⟩:=(zx V.srow).form
  by_cases hlt:k<L.length
  ·have ax:=az.out.room k hlt;have J:=az.out.next k;have ea:=aS hlt;have bt:=zmX hlt ae;have cp:wr.cell? ⟨w.heap.size+1,k,none⟩=some (.string (px L k).2):=((aD.out.below V.B aD.out.lt).cell k).trans (zqT hlt);have hm:(⟨#[10]⟩:ByteArray).size=1:=rfl;rw[hm] at J;have a6:=zH bt;have Z:=zH V;clear bt ae V aS hm;obtain⟨pl,ae⟩:∃pl,(px L k).1=pl:=⟨_,rfl⟩;obtain⟨pc,ao⟩:∃pc,(px L k).2=pc:=⟨_,rfl⟩;rw[ae,ao] at ax J a6;rw[ae] at ea;rw[ao] at cp;clear ae ao;subst ea;have bp:=zH J;clear J
   by_cases h0:pc.size=0
   ·obtain rfl:=Qu h0;have aP:Hid (plF ((L.take (k+1)).filter (fun x=>decide (x.2.size≠0))) []=.ok ag):=by have h:=a6.out;rw[zc3 (show (⟨#[]⟩:ByteArray).size=0 from rfl)] at h;exact h
    clear a6 h0;clear b0 b5 b6 b7 ai b2 b3 b4;go_wp2;go_roundw
    case rel=>exact⟨k+1,a+1,ag,vs,by omega,by go_num,by go_num,by omega,fun h=>(bp.out h).symm,by omega,aP.out,by rw[ak.out,aE.out];exact Z.out⟩
    case measure=>simp[intOf];omega
   ·have bm:pc.toList.isEmpty=false:=Qr (by omega);have bK:(pc.toList==[])=false:=by rw[zf2];intro h;rw[h] at bm;cases bm
    have aF:=zT ay.out Z.out.B;have b8:=zH (znM pc wr (by omega) (HW.out.below aF) (aM.out.below aF) ad cap (bz.out.below aF));rw[zc2 h0] at a6;clear aF;go_wp2_with fail;refine b8.out.mono ?_;rintro e w1 ⟨x,ra,rc,q,p,rfl,bo,bs,av,a7,bq⟩;have aw:=Z.out.step a7;have hA:zB w1 ((w1.alloc (.cells #[x.kind,x.name,x.a,x.b,x.c,x.other,.slice ra (tp x.rng).length rc] 94)).alloc (.cells #[q,p] 55)):=((zf0 _ w1).alloc zN _).alloc (by simp) _;have kl:=(Blk.new w1 94 #[x.kind,x.name,x.a,x.b,x.c,x.other,.slice ra (tp x.rng).length rc]).alloc (.cells #[q,p] 55);have kq:=Blk.new (w1.alloc (.cells #[x.kind,x.name,x.a,x.b,x.c,x.other,.slice ra (tp x.rng).length rc] 94)) 55 #[q,p];rw[zc1] at kq;have C:=zH (aw.step hA);have ba:=zH (bo.below hA zN);have be:=zH bs;have aA:=zH av;have aB:=zH bq;have Y:=zH kl;have aO:=zH kq;have bQ:=a7.size;clear aw hA kl kq bo bs av bq a7 b8 cp;go_upto_region 11 with fail;generalize (w1.alloc (.cells #[x.kind,x.name,x.a,x.b,x.c,x.other,.slice ra (tp x.rng).length rc] 94)).alloc (.cells #[q,p] 55)=W2 at *;have k0:_=some (Value.int .i64 q):=aO.out.cell 0;have k1:_=some (Value.int .i64 p):=aO.out.cell 1;cases hlf:Z5 pc with
    |error e =>
     obtain⟨q',o⟩:=e;have aj:=zcz hlf;have h1:=aB.out;have h2:=a6.out;rw[hlf] at h1 h2;obtain⟨rfl,rfl,rfl⟩:=h1;have af:Hid (R=.error (q,some a)):=by show _=_;rw[<-HR.out,zjQ h2]
     have br:(q==0)=false:=by rw[zf2];exact aj
     have j:Blk W2 w.heap.size 55 #[(0:Int),(0:Int)]:=U.out.below C.out.B U.out.lt;have X:zB w W2:=zT ay.out C.out.B;have q0:_=some (Value.int .i64 0):=j.cell 0;have q1:_=some (Value.int .i64 0):=j.cell 1;have q2:=j.frozen 0;have q3:=j.frozen 1;obtain⟨⟨p0,p1⟩,p2,p3,p4⟩:=Zq j X zN q (a:Int);have P2:=zH p2;have P3:=zH p3;have P4:=zH p4;clear p2 p3 p4;clear hlf h2 aj a6 HR aB Z;go_wp2_with fail;go_region;go_wp2;exact zc4 (v:=.tuple #[.slice none 0 0,.agg #[q,a]]) (by simp[results,results15,go_sem,P2.out,P3.out]) rfl (by rw[af.out];exact⟨_,_,_,rfl,P4.out.drew,rfl,rfl,rfl⟩)
    |ok y =>
     have h1:=aB.out;have h2:=a6.out;rw[hlf] at h1 h2;obtain⟨rfl,rfl,rfl⟩:=h1;have aP:Hid (plF ((L.take (k+1)).filter (fun x=>decide (x.2.size≠0))) []=.ok (ag++[(a,x)])):=h2;have d0:_=some (Value.int .i64 x.kind):=Y.out.cell 0;have d1:_=some (Value.string x.name):=Y.out.cell 1;have d2:_=some (Value.int .i64 x.a):=Y.out.cell 2;have d3:_=some (Value.int .i64 x.b):=Y.out.cell 3;have d4:_=some (Value.int .i64 x.c):=Y.out.cell 4;have d5:_=some (Value.string x.other):=Y.out.cell 5;have d6:_=some (Value.slice ra (tp x.rng).length rc):=Y.out.cell 6;have au:=zH C.out.lrow;have bO:=C.out.B.size;have b1:=Z.out.B.size;have b9:=zH Z.out.lrow;have bh:=zH Z.out.srow;clear hlf h2 a6 aB Z k1 aO Y;have aU:zB W2 (W2.alloc (.cells #[x.kind,x.name,x.a,x.b,x.c,x.other,.slice ra (tp x.rng).length rc] 94)):=zF.alloc zN _;have bb:=zH (C.out.step aU);have ar:=zH (ba.out.below aU zN);clear aU;go_wp2_with (at_builtin;refine wpList_append_own_at _ rfl _ _ 23 rfl W0.heap.size 94 i0 (.agg #[(0:Int),.string ⟨#[]⟩,(0:Int),(0:Int),(0:Int),.string ⟨#[]⟩,.slice none 0 0]) 7 88 underlying23 b0 b5 b6 b7 rfl (by decide) _ _ _ rfl (au.out.alloc _) W2.heap.size 1 1 [.int .i64 x.kind,.string x.name,.int .i64 x.a,.int .i64 x.b,.int .i64 x.c,.string x.other,.slice ra (tp x.rng).length rc] rfl rfl ?c1 ?c2 ?c3 ?c4 ?c5 ?_)
     case c1=>exact zdl _ _ _ _ _ _ _ _ _
     case c2=>intro u hu;simp at hu;rcases hu with rfl|rfl|rfl|rfl|rfl|rfl|rfl<;>rfl
     case c3=>unfold maxLen;omega
     case c4=>omega
     case c5=>simp;omega
     intro v4 w4 ab K _ a9;have bn:0<x.rng.length->∀g,(Value.slice ra (tp x.rng).length rc).ownBlock=some g->W0.heap.size<=g/\some g≠(Value.slice aJ ls.length aK).ownBlock/\some g≠(Value.slice bH ss.length bI).ownBlock:=fun _ g hg=>⟨zf1 b1 (aA.out g hg),fun e=>by have h1:=aA.out g hg;have h2:=(b9.out.lt g e.symm).2;omega,fun e=>by have h1:=aA.out g hg;have h2:=(bh.out.lt g e.symm).2;omega⟩;have an:=bb.out.appL ar.out be.out bn ab K (by rw[zc1];exact a9);obtain⟨bR,bS,rfl,-⟩:=(zx an.lrow).form;have bA:=zH an;have a0:=zH an.srow;have bP:=an.B.size;have bk:zB w4 (w4.alloc (.cells #[a] 3)):=zF.alloc zN _;have bc:=zH (an.step bk);clear ab K a9 bn an bk au bb C ba ar be aA b9 bh d0 d1 d2 d3 d4 d5 d6;go_wp2_with (at_builtin;refine wpList_append_own_at _ rfl _ _ 47 rfl W0.heap.size 3 i1 (.int .i64 0) 1 8 zrq ai b2 b3 b4 rfl (by decide) _ _ _ rfl (a0.out.alloc _) w4.heap.size 1 1 [.int .i64 a] rfl rfl ?a1 ?a2 ?a3 ?a4 ?a5 ?_)
     case a1=>exact yI _ _ _
     case a2=>exact yq _
     case a3=>unfold maxLen;omega
     case a4=>omega
     case a5=>simp;omega
     intro v6 w6 ac M _ aa;have bB:=zH (bc.out.appS (k:=a) ac M (by rw[zc1];exact aa));clear ac M aa bc bA a0;go_wp2;go_roundw
     case rel=>exact⟨k+1,a+pc.size+1,ag++[(a,x)],vs++[.slice ra (tp x.rng).length rc],by omega,by go_num,by go_num,by omega,fun h=>(bp.out h).symm,by simp;omega,aP.out,by have h:=bB.out;rw[show (ls++[x]).length=ls.length+1 by simp] at h;rw[zrv,zrv,ak.out,aE.out];exact h⟩
     case measure=>simp[intOf];omega
  ·obtain rfl:k=L.length:=by omega
   have a8:plF (L.filter (fun x=>decide (x.2.size≠0))) []=.ok ag:=by have h:=ae;rw[zrC] at h;exact h
   have bi:=zT ay.out V.B;have aL:=zH (zqo ls (.slice aJ ls.length aK) wr V.rls (by omega) (aM.out.below bi));have aN:=zH a8;have aC:=zH V;clear ae a8 bi V az aD aS hlt ah b0 b5 b6 b7 ai b2 b3 b4;obtain⟨NK,aQ⟩:∃NK,QD (qA ls)=NK:=⟨_,rfl⟩;rw[aQ] at aL;go_wp2_with fail;refine aL.out.mono ?_;rintro e w1 ⟨rfl,a7⟩;have hA:zB w1 (w1.alloc (.cells #[NK.1,NK.2] 55)):=zF.alloc zN _;have kq:=Blk.new w1 55 #[NK.1,NK.2];have C:=zH ((aC.out.step a7).step hA);have am:=zH aQ;have aX:w.heap.size≠w1.heap.size:=by have h1:=U.out.lt;have h2:=aC.out.B.size;have h3:=a7.size;omega
   have aW:w.heap.size<=w1.heap.size:=by have h1:=U.out.lt;have h2:=aC.out.B.size;have h3:=a7.size;omega
   clear hA a7 aL aC aQ;go_upto_region 17 with fail;generalize w1.alloc (.cells #[NK.1,NK.2] 55)=W2 at *;generalize w1.heap.size=bf at *;have j:Blk W2 w.heap.size 55 #[(0:Int),(0:Int)]:=U.out.below C.out.B U.out.lt;have X:zB w W2:=zT ay.out C.out.B;have k0:_=some (Value.int .i64 NK.1):=kq.cell 0;have k1:_=some (Value.int .i64 NK.2):=kq.cell 1;cases hn:qA ls with
   |ok its =>have h1:=am.out;have h2:=HR.out;rw[aN.out] at h2;simp only[ak.out,hn] at h2;rw[hn] at h1;obtain rfl:(0,-1)=NK:=h1;have af:Hid (R=.ok (ls,its)):=h2.symm;have aZ:=aM.out.below X;have g0:=aZ.c0;have g1:=aZ.c1;have q0:_=some (Value.int .i64 0):=j.cell 0;have q1:_=some (Value.int .i64 0):=j.cell 1;have q2:=j.frozen 0;have q3:=j.frozen 1;obtain⟨⟨p0,p1⟩,p2,p3,p4⟩:=Zq j X zN 0 (-1);have P2:=zH p2;have P3:=zH p3;have P4:=zH p4;clear p2 p3 p4;have bC:Hid (RLs ((W2.setCell w (.int .i64 0)).setCell ⟨w.heap.size,1,none⟩ (.int .i64 (-1))) (.slice aJ ls.length aK) ls):=C.out.rlsSet U.out.lt;clear h2 hn aZ kq j U am C X;go_wp2_with fail;go_region;go_wp2;exact zc4 (v:=.tuple #[.slice aJ ls.length aK,.agg #[(0:Int),.int .i64 (-1)]]) (by simp[results,results15,go_sem,P2.out,P3.out]) rfl (by rw[af.out];exact⟨_,_,_,rfl,P4.out.drew,bC.out.below zF.drew zN,rfl,rfl⟩)
   |error e =>
    obtain⟨q,o⟩:=e;have aj:=zaN hn;cases o with
    |none =>
     have h1:=am.out;have h2:=HR.out;rw[aN.out] at h2;simp only[ak.out,hn] at h2;rw[hn] at h1;obtain rfl:(q,-1)=NK:=h1;have af:Hid (R=.error (q,none)):=h2.symm;have br:(q==0)=false:=by rw[zf2];exact aj
     simp only at k0 k1;have q0:_=some (Value.int .i64 0):=j.cell 0;have q1:_=some (Value.int .i64 0):=j.cell 1;have q2:=j.frozen 0;have q3:=j.frozen 1;obtain⟨⟨p0,p1⟩,p2,p3,p4⟩:=Zq j X zN q (-1);have P2:=zH p2;have P3:=zH p3;have P4:=zH p4;clear p2 p3 p4;clear h2 hn kq j U am C X aj;go_wp2_with fail;go_region;go_wp2;exact zc4 (v:=.tuple #[.slice none 0 0,.agg #[q,.int .i64 (-1)]]) (by simp[results,results15,go_sem,P2.out,P3.out]) rfl (by rw[af.out];exact⟨_,_,_,rfl,P4.out.drew,rfl,rfl,rfl⟩)
    |some i =>
     have bL:=zdy hn;have h1:=am.out;have h2:=HR.out;rw[aN.out] at h2;simp only[ak.out,aE.out,hn] at h2;rw[hn] at h1;obtain rfl:(q,(i:Int))=NK:=h1;have br:(q==0)=false:=by rw[zf2];exact aj
     have bG:ss.length=ls.length:=by rw[<-ak.out,<-aE.out,zrs,zrs]
     have bF:i<ss.length:=by omega
     obtain⟨g,bD,e1,hg,hc⟩:=(zx C.out.srow).cells (by omega);simp at e1;obtain⟨rfl,rfl⟩:=e1;obtain⟨Pi,aR⟩:∃Pi,ss.getD i 0=Pi:=⟨_,rfl⟩;have ci:W2.cell? ⟨g,i,none⟩=some (.int .i64 Pi):=hc i _ (by rw[<-aR];simp[icells,bF]);rw[aR] at h2;have af:Hid (R=.error (q,some Pi)):=h2.symm;simp only at k0 k1;have bE:=kq.frozen 1;have bv:Blk (W2.setCell ⟨bf,1,none⟩ (.int .i64 Pi)) bf 55 #[q,.int .i64 Pi]:=kq.set (i:=1);have bu:Blk (W2.setCell ⟨bf,1,none⟩ (.int .i64 Pi)) w.heap.size 55 #[(0:Int),(0:Int)]:=j.other aX;have bj:zB w (W2.setCell ⟨bf,1,none⟩ (.int .i64 Pi)):=X.setCell aW _;have bd:=zH bv;have aq:=zH bu;have bw:=zH bj;clear h2 hn kq j U am C X aj aR hc bv bu bj bG;go_upto_region 20 with fail;generalize W2.setCell ⟨bf,1,none⟩ (.int .i64 Pi)=W3 at *;clear k0 k1 ci bE;have k0:_=some (Value.int .i64 q):=bd.out.cell 0;have k1:_=some (Value.int .i64 Pi):=bd.out.cell 1;have q0:_=some (Value.int .i64 0):=aq.out.cell 0;have q1:_=some (Value.int .i64 0):=aq.out.cell 1;have q2:=aq.out.frozen 0;have q3:=aq.out.frozen 1;obtain⟨⟨p0,p1⟩,p2,p3,p4⟩:=Zq aq.out bw.out zN q (Pi:Int);have P2:=zH p2;have P3:=zH p3;have P4:=zH p4;clear p2 p3 p4;go_region;go_wp2;exact zc4 (v:=.tuple #[.slice none 0 0,.agg #[q,.int .i64 Pi]]) (by simp[results,results15,go_sem,P2.out,P3.out]) rfl (by rw[af.out];exact⟨_,_,_,rfl,P4.out.drew,rfl,rfl,rfl⟩)
end
section
open Go.Deep Sv
noncomputable def ZN(s:ByteArray):Option (List Ln × List It):=if 1500<s.size then none else match yR s with
 |.error _=>none
 |.ok r=>some r
theorem zhM{s:ByteArray}{ls:List Ln}{its:List It}(h:ZN s=some (ls,its)):qA ls=.ok its:=by
 unfold ZN at h;split at h
 ·cases h
 ·split at h
  ·cases h
  ·rename_i r hr;cases h;exact zoX hr
def zkm(w:World)(r:Option (List Ln × List It))(e:Ending)(w':World):Prop :=
 match r with
 |none=>e=.returned (.tuple #[.pointer none,.slice none 0 0,false])/\zB w w'
 |some (ls,its)=>∃bc v,e=.returned (.tuple #[.pointer (some ⟨bc,0,none⟩),v,true])/\Zj w' bc ls its/\RLs w' v ls/\zB w w'
theorem zi3:∀(l:List (Nat × ByteArray)) (acc:List (Nat × Ln)) (q:Int) (i:Nat),plF l acc=.error (q,i)->q≠0:=by
 intro l
 induction l with
 |nil=>intro acc q i h;cases h
 |cons x r ih =>
  intro acc q i h;unfold plF at h;split at h
  ·rename_i e he;obtain⟨e1,e2⟩:=e;cases h;exact zcz he
  ·exact ih _ _ _ h
theorem zhN{s:ByteArray}{q:Int}{o:Option Nat}(h:yR s=.error (q,o)):q≠0:=by
 unfold yR at h;split at h
 ·cases h;decide
 ·split at h
  ·rename_i e he;obtain⟨e1,e2⟩:=e;cases h;exact zi3 _ _ _ _ he
  ·split at h
   ·rename_i he;cases h;exact zaN he
   ·rename_i he;cases h;exact zaN he
   ·cases h
theorem ze4(s:ByteArray)(w:World)(hw:Lw w)(hF:yA w)(ad:Addr)(cap:Nat)(hK:xe w ad cap):zC 4 #[s] w (zkm w (ZN s)):=by
 by_cases hs:1500<s.size
 ·have hf:ZN s=none:=by unfold ZN;rw[zc3 hs]
  have a1:(1500:Int)<(s.size:Int):=by omega
  rw[hf];clear hs hf hw hF hK;go_enter func4,ntmps4;go_wp2;refine zc4 (v:=.tuple #[.pointer none,.slice none 0 0,false]) (by simp[results,Tryz.f4,go_sem]) rfl ?_;exact⟨rfl,zf0 _ _⟩
 ·have a1:¬(1500:Int)<(s.size:Int):=by omega
  have j:=zoo s w hw.lb hF ad cap hK;have C:∀W,zB w W->zC 16 #[s] W (JW W (yR s)):=fun W hb=>zkO s W (hw.below hb);cases hx:yR s with
  |error e =>
   obtain⟨q,o⟩:=e;have hf:ZN s=none:=by unfold ZN;rw[zc2 hs,hx]
   have hq:=zhN hx;have Z:(q==0)=false:=by rw[zf2];exact hq
   rw[hx] at j;rw[hf];have HQ:=zH j;clear j C hw hF hK hx hf hs hq;generalize M:Yn o=PO at *;have X:=zH M;clear M;go_enter func4,ntmps4;go_wp2_with fail;refine HQ.out.mono ?_;rintro e w1 ⟨v,k,p,rfl,y,hv,hk,hp⟩;rw[hv,hk,hp,X.out];clear hv hk hp;have hA:zB w1 (w1.alloc (.cells #[q,PO] 55)):=zF.alloc zN _;have kf:=Blk.new w1 55 #[q,PO];have u:Hid (zB w (w1.alloc (.cells #[q,PO] 55))):=zT y hA;clear hA y HQ;go_upto_region 4 with fail;generalize w1.alloc (.cells #[q,PO] 55)=W1 at *;generalize w1.heap.size=bf at *;have c0:_=some (Value.int .i64 q):=kf.cell 0;clear kf;go_wp2;refine zc4 (v:=.tuple #[.pointer none,.slice none 0 0,false]) (by simp[results,Tryz.f4,go_sem]) rfl ?_;exact⟨rfl,u.out⟩
  |ok r =>
   obtain⟨ls,its⟩:=r;have hf:ZN s=some (ls,its):=by unfold ZN;rw[zc2 hs,hx]
   rw[hx] at j C;rw[hf];have HQ:=zH j;have HP:=zH C;clear j C hw hF hK hx hf hs;go_enter func4,ntmps4;go_wp2_with fail;refine HQ.out.mono ?_;rintro e w1 ⟨v,k,p,rfl,y,hv,hk,hp⟩;rw[hk,hp];clear hk hp;have hA:zB w1 (w1.alloc (.cells #[(0:Int),.int .i64 (-1)] 55)):=zF.alloc zN _;have kf:=Blk.new w1 55 #[(0:Int),.int .i64 (-1)];have u:Hid (zB w (w1.alloc (.cells #[(0:Int),.int .i64 (-1)] 55))):=zT y hA;have K:=zH (hv.below hA zN);obtain⟨va,vc,rfl⟩:∃va vc,v=.slice va ls.length vc:=by obtain⟨vs,_,h2⟩:=hv;obtain⟨a,c,e,_⟩:=h2.form;exact⟨a,c,e⟩
   clear hA y HQ hv;go_upto_region 4 with fail;generalize w1.alloc (.cells #[(0:Int),.int .i64 (-1)] 55)=W1 at *;generalize w1.heap.size=bf at *;have c0:_=some (Value.int .i64 0):=kf.cell 0;clear kf;go_wp2_with fail;refine(HP.out _ u.out).mono ?_;rintro e w2 ⟨bc,vs,rfl,R,-,J⟩;have U:Hid (zB w w2):=zT u.out J;have Y:=zH (K.out.below J zN);have V:=zH R.cat;clear R J HP u K c0;go_wp2;refine zc4 (v:=.tuple #[.pointer (some bc),.slice va ls.length vc,true]) (by simp[results,Tryz.f4,go_sem]) rfl ?_;exact⟨bc,_,rfl,V.out,Y.out,U.out⟩
end
namespace Bd
open Go.Deep Sv
theorem zg9(ls:List Ln)(its:List It)(v:Value)(m:Nat)(w:World)(h:RLs w v ls)(hN:qA ls=.ok its) :
  zC 5 #[v,m] w fun e w'=>∃ca cc,e=.returned (.tuple #[.slice ca (ofL its ls).length cc,its.length,.bool (decide ((ofL its ls).length<=200)&&decide (its.length<=m))])/\xX w' ca ((ofL its ls).map Prod.snd)/\zB w w':=by
 obtain⟨y,p,X⟩:=J9 hN;obtain⟨o,C⟩:=zo6 hN;obtain⟨va,vc,rfl⟩:∃va vc,v=.slice va ls.length vc:=by obtain⟨vs,_,h2⟩:=h;obtain⟨a,c,e,_⟩:=h2.form;exact⟨a,c,e⟩
 have U:=zH (zqp ls its _ w h p y C o);have R:Hid (∀W,zB w W->zC 18 #[.slice va ls.length vc] W fun e w'=>∃a c,e=.returned (.slice a its.length c)/\zB W w'):=fun W hW=>(ze1 ls _ W (h.below hW zN) (by omega)).mono fun e w' ⟨v',h1,h2,h3⟩=>by
  rw[C] at h2;obtain⟨a,c,e1,-⟩:=(zx h2).form;exact⟨a,c,by rw[h1,e1],h3⟩
 clear h hN X o C;generalize ofL its ls=P at *;generalize its.length=n at *;go_enter func5,ntmps5;go_wp2_with fail;refine U.out.mono ?_;rintro e w2 ⟨cv,fv,rfl,j,q⟩;obtain⟨ca,cc,rfl⟩:∃a c,cv=.slice a P.length c:=by obtain⟨cs,h1,_⟩:=j.crow;obtain⟨a,c,e,_⟩:=(zx h1).form;exact⟨a,c,by simpa using e⟩
 have V:xX w2 ca (P.map Prod.snd):=by
  obtain⟨cs,h1,h2,_⟩:=j.crow;exact yh.cls (B:=0) (cap:=cc) h2 (by simpa using ownsRow_base h1 (zf6 _))
 have K:=zH V;have J:=zH q;have M:=zH (R.out w2 q);clear j q V U R;go_wp2_with fail;refine M.out.mono ?_;rintro e w3 ⟨ia,ic,rfl,u⟩;have HF:Hid (xX w3 ca (P.map Prod.snd)/\zB w w3):=⟨K.out.below u,zT J.out u⟩;clear u M K J
 by_cases hp:P.length<=200
 ·rw[zq9 hp]
  by_cases hm:n<=m
  ·have Y:(n:Int)<=(m:Int):=by omega
   go_wp2;refine zc4 (v:=.tuple #[.slice ca P.length cc,n,true]) (by simp[results,Tryz.f5,go_sem]) rfl ?_;exact⟨ca,cc,by simp[hp,hm],HF.out.1,HF.out.2⟩
  ·have Y:¬(n:Int)<=(m:Int):=by omega
   go_wp2;refine zc4 (v:=.tuple #[.slice ca P.length cc,n,false]) (by simp[results,Tryz.f5,go_sem]) rfl ?_;exact⟨ca,cc,by simp[hp,hm],HF.out.1,HF.out.2⟩
 ·rw[zf5 hp];go_wp2;refine zc4 (v:=.tuple #[.slice ca P.length cc,n,false]) (by simp[results,Tryz.f5,go_sem]) rfl ?_;exact⟨ca,cc,by simp[hp],HF.out.1,HF.out.2⟩
end Bd
namespace Bd
def ZF(k v i:Nat)(f:Nat->Bool):Nat->Bool:=fun j=>if v<=j/\j<v+k then i.testBit (v+k-1-j) else f j
theorem zop{k v i:Nat}(f:Nat->Bool)(hi:i<2^k):ZF (k+1) v i f=ZF k (v+1) i (turn f v false):=funext fun j=>by
 unfold ZF
 by_cases e:j=v
 ·subst e;rw[zc3 (by omega),zc2 (by omega),xL,show j+(k+1)-1-j=k by omega];exact zug hi
 ·by_cases h:v<=j/\j<v+(k+1)
  ·rw[zc3 h,zc3 (by omega)];congr 1;omega
  ·rw[zc2 h,zc2 (by omega),yl _ _ e]
theorem zoF{k v i:Nat}(f:Nat->Bool)(hi:i<2^k):ZF (k+1) v (2^k+i) f=ZF k (v+1) i (turn f v true):=funext fun j=>by
 unfold ZF
 by_cases e:j=v
 ·subst e;rw[zc3 (by omega),zc2 (by omega),xL,show j+(k+1)-1-j=k by omega,Nat.testBit_two_pow_add_eq,zug hi];rfl
 ·by_cases h:v<=j/\j<v+(k+1)
  ·rw[zc3 h,zc3 (by omega),Nat.testBit_two_pow_add_gt (by omega)];congr 1;omega
  ·rw[zc2 h,zc2 (by omega),yl _ _ e]
theorem J4(g:Fn'):∀(k v:Nat) (f:Nat->Bool),qE k v g f=((List.range (2^k)).filter fun i=>g (ZF k v i f)).length
 |0,v,f=>by
  have e:ZF 0 v 0 f=f:=funext fun j=>zc2 (by omega);unfold qE;show _=([0].filter fun i=>g (ZF 0 v i f)).length;rw[zsp,e];cases g f<;>rfl
 |k+1,v,f=>by
  unfold qE;rw[J4 g k (v+1) (turn f v false),J4 g k (v+1) (turn f v true),show 2^(k+1)=2^k+2^k by rw[zsU];omega,List.range_add,zsg,zf4,List.filter_map,zrs];congr 1
  ·refine zsj _ (ztt fun i hi=>?_);rw[zop f (zsa.1 hi)]
  ·refine zsj _ (ztt fun i hi=>?_);show _=g (ZF (k+1) v (2^k+i) f);rw[zoF f (zsa.1 hi)]
theorem ziO(N:Nat):(List.range N).map (fun i=>N-1-i)=(List.range N).reverse:=by
 apply zuR
 ·simp
 ·intro i h1 h2;simp
theorem zon{vars:Nat}{K:List (List Int)}(h12:vars<=12)(hl:xq vars K):(qM vars K (2^vars)).length=QT vars K:=by
 have e:qM vars K (2^vars)=(((List.range (2^vars)).map fun i=>2^vars-1-i).map (xD vars)).filter fun x=>xG x K:=by unfold qM;rw[List.map_map];rfl
 rw[e,ziO,List.filter_map,zrs,List.filter_reverse,List.length_reverse];unfold QT;rw[J4];refine zsj _ (ztt fun i hi=>?_);show xG (xD vars i) K=_;rw[<-zco (show vars<=24 by omega) hl];refine zaf hl fun j hj=>?_;show (xD vars i).testBit j=ZF vars 0 i _ j;unfold ZF;rw[za7 _ hj,zc3 (by omega),zrI]
end Bd
namespace Bd
open Go.Deep Sv
theorem zl7:(prog.info? 9).map (fun i=>(i.zero,i.size,i.bytes))=some (some (.string ⟨#[]⟩),1,16):=by kernel_rfl
theorem zlG(n:Nat):Lib.itoa (n:Int)=Lib.decDigits n:=by unfold Lib.itoa;rw[zc2 (by omega),zrh]
theorem zma(g c:Nat)(s:ByteArray)(w:World)(h:w.cell? g=some (.string s)):zC 29 #[.slice (some g) 1 c,.string ⟨#[32]⟩] w fun e w'=>e=.returned s/\w=w':=by
 go_enter func29,ntmps29;go_wp2;go_ret;exact⟨rfl,rfl⟩
theorem zi2(w:World)(x:ByteArray)(t:TypeId):∀(j:Nat) (u:Value),[Value.string x][j]?=some u->(w.alloc (.cells #[x] t)).cell? ((w.heap.size:Addr).add j)=some u:=by
 intro j u hj;have:j=0:=by have:=(zrJ.1 hj).1;simp at this;omega
 subst this;rw[add_plain,(Blk.new w t #[x]).cell];exact hj
theorem zqk(n:Nat)(hn:n<=100000000)(bs cp:Nat)(w:World)(hw:Lb w)(h0:w.cell? bs=some (.int .i64 n)) :
  zR 11 #[.slice (some bs) 1 cp] w (.string ⟨(Lib.decDigits n).toArray⟩):=by
 obtain⟨i0,U,Y,Z,a0⟩:=info_parts zl7;have HI:=zks (n:Int) (by omega) w hw;rw[zlG] at HI;have y:=zH HI;clear HI hw;generalize (⟨(Lib.decDigits n).toArray⟩:ByteArray)=R at *;go_enter func11,ntmps11;go_wp2_with fail;go_loopw [3,8] (fun v i wr=>(i=.int .i64 0/\v=.slice none 0 0/\wr=w)\/(i=.int .i64 1/\wr.ownsRow w 9 1 v 1 [.string R]/\zB w wr)) (fun _ i _=>1-(intOf i).toNat)
 case atStart=>exact Or.inl ⟨rfl,rfl,rfl⟩
 case round =>
  rcases hrel with ⟨rfl,rfl,rfl⟩|⟨rfl,o,hb⟩
  ·go_wp2_with fail;refine y.out.mono ?_;rintro e w2 ⟨rfl,C⟩;have V:=C.size;have K:=zH C;clear C y h0;go_wp2_with (at_builtin;refine wpList_append_own_at _ rfl _ _ 84 rfl wr.heap.size 9 i0 (.string ⟨#[]⟩) 1 16 underlying84 U Y Z a0 rfl (by decide) _ _ _ rfl (zrp _ _ _ _) w2.heap.size 1 1 [.string R] rfl rfl ?e1 ?e2 ?e3 ?e4 ?e5 ?_)
   case e1=>exact zi2 _ _ _
   case e2=>exact fun u hu=>by rw[zra] at hu;subst hu;rfl
   case e3=>unfold maxLen;omega
   case e4=>omega
   case e5=>simp;omega
   intro v8 w8 p j _ q;have J:Hid (w8.ownsRow wr 9 1 v8 1 [.string R]):=(show w8.ownsRow wr 9 1 v8 1 [.string R] by simpa using p);have M:Hid (zB wr w8):=(K.out.alloc V _).grown j (by simp;omega) (fun k hk=>by cases hk);obtain⟨a3,a4,rfl,-⟩:=row_form J.out;clear p j q;go_wp2;go_roundw
   case rel=>exact Or.inr ⟨by go_num,J.out,M.out⟩
   case measure=>simp[intOf]
  ·obtain⟨va,vc,rfl,-⟩:=row_form o;have X:∃g,va=some ⟨g,0,none⟩/\wr.cell? ⟨g,0,none⟩=some (.string R):=by
    rcases o.2 with ⟨e,e0⟩|⟨g,a1,a2,e,-⟩
    ·omega
    ·injection e with e1 e2 e3;subst e1;exact⟨g,rfl,o.cellAt 0 (by omega)⟩
   obtain⟨g,rfl,hg⟩:=X;have HJ:=zH (zma g vc R wr hg);have HB:=zH hb;clear o hb y hg;go_wp2_with fail;refine HJ.out.mono ?_;rintro e w3 ⟨rfl,rfl⟩;go_wp2;go_ret;exact⟨rfl,HB.out⟩
end Bd
section
open Go.Deep Sv
def nmA:ByteArray:=⟨#[97]⟩
def Zx:List It:=[⟨nmA,2,0,0⟩,⟨nmA,1,0,0⟩]
end
namespace Bd
open Go.Deep Sv
def zbo(w:World)(m:Nat)(q e:Value)(wx:World):Prop:=∃qb a n c,q=.pointer (some ⟨qb,0,none⟩)/\e=.nilIface/\qb<wx.heap.size/\wx.cell? ⟨qb,0,none⟩=some (.slice a n c)/\qg wx (.agg #[.slice a n c]) m/\zB w wx
structure zej(W0:World)(p s:Nat)(al:Int)(m:Nat):Prop where
 sc:∀W,zB W0 W->W.cell? p=some (.pointer (some s))/\W.cell? ⟨p,1,none⟩=some (.int .i64 al)
 cn:∀W,zB W0 W->zC 9 #[.pointer (some s),al] W fun e w'=>∃a n c,e=.returned (.tuple #[.agg #[.slice a n c],.nilIface])/\qg w' (.agg #[.slice a n c]) m/\zB W w'
theorem zlK{B p s b vars:Nat}{O:Nat->Prop}{room:Int}{K:List (List Int)}{W0:World}(h:Zo B W0 p s b O vars room (clF K))(h12:vars<=12)(hl:xq vars K):zej W0 p s (clF K).2 (QT vars K) :=
 ⟨fun _ hW=>⟨(h.blk.below hW h.blk.lt).cell 0,(h.blk.below hW h.blk.lt).cell 1⟩,fun _ hW=>zi6 (h.space.new hW) h12 hl⟩
theorem zhX{W0 x1:World}{m n c:Nat}{a:Option Addr}(D1:zB W0 x1)(hn:qg x1 (.agg #[.slice a n c]) m):zbo W0 m (.pointer (some x1)) .nilIface (x1.alloc (.cells #[.slice a n c] 42)) :=
 ⟨x1.heap.size,a,n,c,rfl,rfl,by simp,by simp,hn.new (below_new x1 _),zL D1⟩
theorem zk2{W0 x1:World}{m n c q:Nat}{a:Option Addr}(D1:zB W0 x1)(hq:W0.heap.size<=q)(kz:Blk x1 q 42 #[.slice none 0 0])(hn:qg x1 (.agg #[.slice a n c]) m):zbo W0 m (.pointer (some q)) .nilIface (x1.setCell q (.slice a n c)) :=
 ⟨q,a,n,c,rfl,rfl,by simpa using kz.lt,(kz.set (i:=0) (v:=.slice a n c)).cell 0,hn.kept (zc.setCell (S:=fun j=>j=q) x1 q _ rfl) (fun b' o n' e=>by
  cases e;rw[kz.cell o]
  match o with
  |0=>simp
  | o + 1=>simp),D1.setCell (p:=q) hq _⟩
end Bd
section
open Go.Deep
theorem zgq(xs:List Int)(a1 a2:Option Addr)(c1 c2:Nat)(w:World)(h1:qO w a1 xs)(h2:qO w a2 xs)(hm:xs.length<=9223372036854775807) :
  zR 14 #[.slice a1 xs.length c1,.slice a2 xs.length c2] w (.bool true):=by
 have H1:=zH h1;have H2:=zH h2;clear h1 h2;have C:((xs.length:Int) != (xs.length:Int))=false:=by simp
 go_enter func14,ntmps14;go_wp2_with fail;go_loopw [5] (fun kV wr=>∃k:Nat,k<=xs.length/\kV=.int .i64 k/\zB w wr) (fun kV _=>xs.length-(intOf kV).toNat)
 case atStart=>exact⟨0,zf6 _,rfl,zf0 _ _⟩
 case round =>
  obtain⟨k,hk,rfl,o⟩:=hrel;have j:=zH o;clear o
  by_cases hlt:k<xs.length
  ·obtain⟨u,rfl,R,K⟩:=H1.out.below j.out k hlt;obtain⟨y,rfl,U,M⟩:=H2.out.below j.out k hlt;generalize xs.getD k 0=x at *;have J:(x != x)=false:=by simp
   have p:Hid (∀q,zB w (wr.drewN q)):=fun q=>j.out.trans ⟨rfl,rfl,rfl,zri _,fun _ _=>rfl⟩;go_wp2_with fail;go_quiet (fail);go_wp2;go_roundw
   case rel=>exact⟨k+1,hlt,by go_num,p.out _⟩
   case measure=>simp[intOf];omega
  ·obtain rfl:k=xs.length:=by omega
   go_wp2;go_ret;exact⟨rfl,j.out⟩
end
