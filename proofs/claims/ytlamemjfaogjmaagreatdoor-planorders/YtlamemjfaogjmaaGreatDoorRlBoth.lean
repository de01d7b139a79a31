/- both: a catalog by the program, its lines by the reference. -/
import Derived.Test.YtlamemjfaogjmaaGreatDoorRlLineF
set_option maxHeartbeats 4000000
set_option maxRecDepth 100000
namespace Go.Proofs.YtlamemjfaogjmaaGreatDoor
section
open Go.RowKit Go.Deep Go.Shelf Sv
theorem zhd:(Tryz.prog.info? 59).map (fun i=>(i.zero,i.size,i.bytes))=some (some (.agg #[.int .i64 0,.string ⟨#[]⟩,.int .i64 0,.int .i64 0,.int .i64 0,.string ⟨#[]⟩,.slice none 0 0]),7,88):=by kernel_rfl
theorem ZT(l:List Span):(tp l).length=2*l.length:=by
 induction l with
 |nil=>rfl
 |cons s r ih=>simp only[tp,List.length_cons,ih];omega
def yG(W:World)(ls:List Ln)(vs:List Value):Prop:=vs.length=ls.length/\∀i,i<ls.length->NsAt W (vs.getD i undef) (tp (ls.getD i default).rng)/\Rg (ls.getD i default).rng
theorem yG.below{B:Nat}{w w':World}{l:List Ln}{vs:List Value}(h:yG w l vs)(hb:Below B w w')(hB:w.heap.size<=B):yG w' l vs:=⟨h.1,fun i hi=>⟨(h.2 i hi).1.below hb hB,(h.2 i hi).2⟩⟩
theorem zcS(w:World):yG w [] []:=⟨rfl,fun i h=>by simp at h⟩
theorem NsAt.lt'{w:World}{v:Value}{l:List Span}(h:NsAt w v (tp l))(hl:0<l.length){g:Nat}(hg:v.ownBlock=some g):g<w.heap.size:=by
 obtain⟨g',cap,e,hlt,_⟩:=h.cells 0 (by rw[ZT];omega);rw[e] at hg;simp[Value.ownBlock] at hg;omega
theorem RgN.newR{W:World}{ls:List Ln}{vs:List Value}(h:yG W ls vs){b:Nat}(hb:W.heap.size<=b):RgN ls vs (some b):=fun i hi hl g hg e=>by
 have:=(h.2 i hi).1.lt' hl hg;cases e;omega
theorem NsAt.grown{W W':World}{v:Value}{l:List Span}{row:Option Nat}(h:NsAt W v (tp l))(hg:W.grownBy W' row)(hn:0<l.length->∀g,v.ownBlock=some g->some g≠row):NsAt W' v (tp l) :=
 ⟨h.form,fun i hi=>by
  obtain⟨g,cap,e,hlt,c0⟩:=h.cells i hi;have hne:=hn (by rw[ZT] at hi;omega) g (by rw[e];rfl);exact ⟨g,cap,e,Nat.lt_of_lt_of_le hlt hg.size,(y9 hg hlt hne).trans c0⟩⟩
theorem yG.grown{W W':World}{ls:List Ln}{vs:List Value}{row:Option Nat}(h:yG W ls vs)(hg:W.grownBy W' row)(hn:RgN ls vs row):yG W' ls vs:=⟨h.1,fun i hi=>⟨(h.2 i hi).1.grown hg (hn i hi),(h.2 i hi).2⟩⟩
theorem yG.snoc{w:World}{l:List Ln}{vs:List Value}(h:yG w l vs){x:Ln}{v:Value}(hv:NsAt w v (tp x.rng))(hr:Rg x.rng):yG w (l++[x]) (vs++[v]):=by
 refine⟨by simp[h.1],fun i hi=>?_⟩
 by_cases hl:i<l.length
 ·have e1:(l++[x]).getD i default=l.getD i default:=by simp[List.getD_eq_getElem?_getD,List.getElem?_append_left hl]
  have e2:(vs++[v]).getD i undef=vs.getD i undef:=by simp[List.getD_eq_getElem?_getD,List.getElem?_append_left (show i<vs.length by rw[h.1];exact hl)]
  rw[e1,e2];exact h.2 i hl
 ·obtain rfl:i=l.length:=by simp at hi;omega
  have e1:(l++[x]).getD l.length default=x:=by simp[List.getD_eq_getElem?_getD]
  have e2:(vs++[v]).getD l.length undef=v:=by simp[List.getD_eq_getElem?_getD,<-h.1]
  rw[e1,e2];exact⟨hv,hr⟩
structure RPS(W0 W:World)(lv sv:Value)(ls:List Ln)(vs:List Value)(ss:List Nat):Prop where
 lrow:W.ownsRow W0.heap.size 59 7 lv ls.length (zG ls vs)
 srow:W.ownsRow W0.heap.size 3 1 sv ss.length (zn (ss.map fun (k:Nat)=>(k:Int)))
 rg:yG W ls vs
 nl:RgN ls vs lv.ownBlock
 ns:RgN ls vs sv.ownBlock
 lo:∀k,k<W0.heap.size->RgN ls vs (some k)
 B:zB W0 W
theorem RPS.start(W0:World):RPS W0 W0 (.slice none 0 0) (.slice none 0 0) [] [] []:=⟨World.ownsRow_nil _ _ _ _,World.ownsRow_nil _ _ _ _,zcS _,RgN.nil _,RgN.nil _,fun _ _=>RgN.nil _,Below.refl _ _⟩
theorem RPS.step{W0 W W':World}{lv sv:Value}{ls:List Ln}{vs:List Value}{ss:List Nat}(h:RPS W0 W lv sv ls vs ss)(hb:zB W W'):RPS W0 W' lv sv ls vs ss :=
 ⟨qK h.lrow hb,qK h.srow hb,h.rg.below hb zN,h.nl,h.ns,h.lo,zT h.B hb⟩
theorem RPS.appL{W0 W w':World}{lv lv' sv v:Value}{ls:List Ln}{vs:List Value}{ss:List Nat}{x:Ln}(h:RPS W0 W lv sv ls vs ss)(hv:NsAt W v (tp x.rng))(hrg:Rg x.rng)(hn:0<x.rng.length->∀g,v.ownBlock=some g->W0.heap.size<=g/\some g≠lv.ownBlock/\some g≠sv.ownBlock)
  (hown:w'.ownsRow W0.heap.size 59 7 lv' (ls.length+1) (zG ls vs++yQ x v)) (hg:W.grownBy w' lv.ownBlock) (hloc:lv'.ownBlock=lv.ownBlock\/lv'.ownBlock=some W.heap.size):RPS W0 w' lv' sv (ls++[x]) (vs++[v]) ss:=by
 have hx:0<x.rng.length->∀g,v.ownBlock=some g->some g≠lv.ownBlock:=fun h1 g h2=>(hn h1 g h2).2.1;have rg1:yG w' (ls++[x]) (vs++[v]):=(h.rg.grown hg h.nl).snoc (hv.grown hg hx) hrg;refine⟨?_,QC h.srow hg (Qz h.srow h.lrow (by decide)),rg1,?_,h.ns.snoc h.rg.1 (fun h1 g h2=>(hn h1 g h2).2.2),fun k hk=>(h.lo k hk).snoc h.rg.1 (fun h1 g h2 e=>by have:=(hn h1 g h2).1;cases e;omega),h.B.grown hg h.B.size (fun k hk=>(h.lrow.lt k hk).1)⟩
 ·rw[Xi _ _ _ _ h.rg.1,List.length_append];exact hown
 ·rcases hloc with e|e
  ·rw[e];exact h.nl.snoc h.rg.1 hx
  ·rw[e];refine(RgN.newR h.rg zN).snoc h.rg.1 (fun h1 g h2 e2=>?_);have:=hv.lt' h1 h2;cases e2;omega
theorem RPS.appS{W0 W w':World}{lv sv sv':Value}{ls:List Ln}{vs:List Value}{ss:List Nat}{k:Nat}(h:RPS W0 W lv sv ls vs ss)
  (hown:w'.ownsRow W0.heap.size 3 1 sv' (ss.length+1) (zn (ss.map fun (k:Nat)=>(k:Int))++[.int .i64 k])) (hg:W.grownBy w' sv.ownBlock) (hloc:sv'.ownBlock=sv.ownBlock\/sv'.ownBlock=some W.heap.size):RPS W0 w' lv sv' ls vs (ss++[k]):=by
 refine⟨QC h.lrow hg (Qz h.lrow h.srow (by decide)),?_,h.rg.grown hg h.ns,h.nl,?_,h.lo,h.B.grown hg h.B.size (fun k hk=>(h.srow.lt k hk).1)⟩
 ·rw[List.map_append,List.length_append];have e:zn (List.map (fun (k:Nat)=>(k:Int)) ss++List.map (fun (k:Nat)=>(k:Int)) [k])=zn (ss.map fun (k:Nat)=>(k:Int))++[.int .i64 k]:=by rw[List.map_cons,List.map_nil,xm]
  rw[e];exact hown
 ·rcases hloc with e|e
  ·rw[e];exact h.ns
  ·rw[e];exact RgN.newR h.rg zN
theorem NsAt.one'{W:World}{b:Nat}{v x:Value}{l:List Span}{i:Nat}(h:NsAt W v (tp l))(hn:0<l.length->∀g,v.ownBlock=some g->some g≠some b):NsAt (W.setCell ⟨b,i,none⟩ x) v (tp l) :=
 ⟨h.form,fun j hj=>by
  obtain⟨g,cap,e,hg,c0⟩:=h.cells j hj;have hne:g≠b:=fun e'=>hn (by rw[ZT] at hj;omega) g (by rw[e];rfl) (by rw[e']);exact ⟨g,cap,e,by simp [World.setCell];exact hg,(cell_set_other hne).trans c0⟩⟩
theorem RPS.rlsSet{W0 W:World}{lv sv x y:Value}{ls:List Ln}{vs:List Value}{ss:List Nat}{b i j:Nat}(h:RPS W0 W lv sv ls vs ss)(hb:b<W0.heap.size):RLs ((W.setCell ⟨b,i,none⟩ x).setCell ⟨b,j,none⟩ y) lv ls :=
 ⟨vs,⟨h.rg.1,fun k hk=>⟨((h.rg.2 k hk).1.one' (h.lo b hb k hk)).one' (h.lo b hb k hk),(h.rg.2 k hk).2⟩⟩,zD (xj (xj h.lrow hb) hb)⟩
theorem RPS.rls{W0 W:World}{lv sv:Value}{ls:List Ln}{vs:List Value}{ss:List Nat}(h:RPS W0 W lv sv ls vs ss):RLs W lv ls:=⟨vs,h.rg,zD h.lrow⟩
theorem zaM{L:List (Nat × ByteArray)}{k:Nat}(hk:k<L.length):(L.take (k+1)).filter (fun x=>decide (x.2.size≠0))=(L.take k).filter (fun x=>decide (x.2.size≠0))++(if (px L k).2.size=0 then [] else [px L k]):=by
 rw[List.take_succ_eq_append_getElem hk,List.filter_append,xA L k hk];congr 1;rw[List.filter_cons,List.filter_nil]
 by_cases h:(L[k]).2.size=0
 ·rw[if_neg (by simp[h]),if_pos h]
 ·rw[if_pos (decide_eq_true h),if_neg h]
theorem zcn{L:List (Nat × ByteArray)}{k:Nat}(hk:k<L.length){acc:List (Nat × Ln)}(h:plF ((L.take k).filter (fun x=>decide (x.2.size≠0))) []=.ok acc) :
  plF ((L.take (k+1)).filter (fun x=>decide (x.2.size≠0))) []=if (px L k).2.size=0 then .ok acc else match lineF (px L k).2 with
   |.error e=>.error (e.1,(px L k).1)
   |.ok l=>.ok (acc++[((px L k).1,l)]):=by
 rw[zaM hk,QV,h];simp only
 by_cases h0:(px L k).2.size=0
 ·rw[if_pos h0,if_pos h0];rfl
 ·rw[if_neg h0,if_neg h0,plF];cases lineF (px L k).2 with
  |error e=>rfl
  |ok l=>rfl
theorem zaS{L:List (Nat × ByteArray)}{k:Nat}{e:Int × Nat}(h:plF ((L.take k).filter (fun x=>decide (x.2.size≠0))) []=.error e):plF (L.filter (fun x=>decide (x.2.size≠0))) []=.error e:=by
 conv=>lhs;rw[<-List.take_append_drop k L,List.filter_append,QV,h]
end
section
open Go.RowKit Go.Shelf Sv
theorem KT{k:Nat}{nm:ByteArray}{ns:List Nat}{ot rest:ByteArray}{q:Int}{o:Option Nat}(h:tailF k nm ns ot rest=.error (q,o)):q≠0:=by
 unfold tailF at h;split at h
 ·rename_i e hx;cases h;exact rngF_err hx
 ·cases h
theorem Jo{s:ByteArray}{q:Int}{o:Option Nat}(h:lineF s=.error (q,o)):q≠0:=by
 unfold lineF at h;split at h
 ·cases h;decide
 ·split at h
  ·exact KT h
  ·split at h
   ·rename_i hx;cases h;exact Qt hx
   ·split at h
    ·split at h
     ·cases h
     ·cases h;decide
    ·exact KT h
end
section
open Go.RowKit Go.Deep Go.Shelf Sv
theorem zfK:∀(ls:List Ln) (i:Nat) (its:List It) (k:Int) (j:Nat),zE ls i its=.error (k,j)->k≠0:=by
 intro ls
 induction ls with
 |nil=>intro i its k j h;cases h
 |cons x r ih =>
  intro i its k j h;unfold zE at h;split at h
  ·rename_i hz;cases h;exact hz
  ·split at h
   ·split at h
    ·cases h;decide
    ·split at h
     ·cases h;decide
     ·exact ih _ _ _ _ h
   ·exact ih _ _ _ _ h
theorem YC{ls:List Ln}{q:Int}{o:Option Nat}(h:zk ls=.error (q,o)):q≠0:=by
 unfold zk at h;split at h
 ·cases h;decide
 ·split at h
  ·rename_i e he;obtain⟨e1,e2⟩:=e;cases h;exact zfK _ _ _ _ _ he
  ·split at h
   ·cases h;decide
   ·cases h
def Jh(w:World)(r:Except (Int × Option Nat) (List Ln × List It))(e:Ending)(w':World):Prop :=
 ∃(v:Value) (k p:Int),e=.returned (.tuple #[v,.agg #[.int .i64 k,.int .i64 p]])/\zB w w'/\match r with
  |.ok (ls,_)=>RLs w' v ls/\k=0/\p=-1
  |.error (q,o)=>v=.slice none 0 0/\k=q/\p=placeO o
theorem zgp(s:ByteArray)(w:World)(h:20000<s.size):zC 11 #[.string s] w (Jh w (.error (4,none))):=by
 have h':(20000:Int)<(s.size:Int):=by omega
 have HBR:=zH (xN 4 (w.alloc (.cells #[.int .i64 0,.int .i64 0] 45)));have kf:=Blk.new w 45 #[.int .i64 0,.int .i64 0];have hbf:zB w (w.alloc (.cells #[.int .i64 0,.int .i64 0] 45)):=(Below.refl _ w).alloc zN _;clear h;go_enter Tryz.func11,Tryz.ntmps11;go_wp2_with fail;refine HBR.out.mono ?_;rintro e w1 ⟨rfl,hb1⟩;have kf1:=kf.below hb1 kf.lt;have hB1:=zT hbf hb1;have q0:_=some (Value.int .i64 0):=kf1.cell 0;have q1:_=some (Value.int .i64 0):=kf1.cell 1;have q2:=kf1.frozen 0;have q3:=kf1.frozen 1;obtain⟨⟨p0,p1⟩,p2,p3,p4⟩:=yF kf1 hB1 zN 4 (-1);have P2:=zH p2;have P3:=zH p3;have P4:=zH p4;clear p2 p3 p4;clear kf kf1 hbf hb1 HBR hB1;go_wp2;exact bodyPost_ret (v:=.tuple #[.slice none 0 0,.agg #[.int .i64 4,.int .i64 (-1)]]) (by simp[results,Tryz.results11,go_sem,P2.out,P3.out]) rfl ⟨_,_,_,rfl,P4.out,rfl,rfl,rfl⟩
theorem zhR{L:List (Nat × ByteArray)}{k:Nat}(hk:k<L.length):(((L.map (·.2)).map Value.string).toArray)[k]?=some (.string (px L k).2):=by
 rw[xA L k hk];simp[hk]
def zic(L:List (Nat × ByteArray))(W0:World)(lV sV aV kV:Value)(wz:World):Prop:=∃(k a:Nat) (acc:List (Nat × Ln)) (vs:List Value),k<=L.length/\kV=.int .i64 k/\aV=.int .i64 a/\a<=30000/\(k<L.length->a=(px L k).1)/\acc.length<=k/\plF ((L.take k).filter (fun x=>decide (x.2.size≠0))) []=.ok acc/\RPS W0 wz lV sV (acc.map Prod.snd) vs (acc.map Prod.fst)
theorem zcA(s:ByteArray)(w:World)(hw:Lb w)(hF:FineR w)(ad:Addr)(cap:Nat)(hK:KindsAt w ad cap):zC 11 #[.string s] w (Jh w (qP s)):=by
 by_cases hs:20000<s.size
 ·have e:qP s=.error (4,none):=by unfold qP;rw[if_pos hs]
  rw[e];exact zgp s w hs
 obtain⟨R,hR⟩:∃R,qP s=R:=⟨_,rfl⟩;rw[hR];have hR2:=hR;unfold qP at hR2;rw[if_neg hs,zhV s s.size 0 (by omega) (Nat.zero_le _)] at hR2;have hcu:=Y7 s ⟨#[10]⟩;have HSP:=zH (XA s ⟨#[10]⟩ (by decide) (w.alloc (.cells #[.int .i64 0,.int .i64 0] 45)) (by omega) (hw.below ((Below.refl _ w).alloc zN _)));generalize zg s ⟨#[10]⟩ s.size 0=L at *;have HCU:=zH hcu;have HR:=zH hR2;have HW:=zH hw;have HFN:=zH hF;have HKD:=zH hK;have hs':¬(20000:Int)<(s.size:Int):=by omega
 have hLl:=hcu.len;have kf:=Blk.new w 45 #[.int .i64 0,.int .i64 0];have hbf:zB w (w.alloc (.cells #[.int .i64 0,.int .i64 0] 45)):=(Below.refl _ w).alloc zN _;clear hR hR2 hcu hw hF hK;obtain⟨i0,hin,hz0,hz1,hz2⟩:=info_parts zhd;obtain⟨i1,hin1,hy0,hy1,hy2⟩:=info_parts xM;go_enter Tryz.func11,Tryz.ntmps11;go_wp2_with fail;refine HSP.out.mono ?_;rintro e W0 ⟨rfl,hpc,hb0⟩;have HKF:Hid (Blk W0 w.heap.size 45 #[.int .i64 0,.int .i64 0]):=kf.below hb0 kf.lt;have HPC:=zH hpc;have HB0:Hid (zB w W0):=zT hbf hb0;clear kf hbf hpc hb0 HSP;rw[World.size_alloc] at HPC;simp only[World.size_alloc];go_wp2_with fail;go_loopw [4,5,6,19] (fun lV sV aV kV wz=>zic L W0 lV sV aV kV wz) (fun _ _ _ kV _=>L.length-(intOf kV).toNat)
 case atStart=>exact⟨0,0,[],[],Nat.zero_le _,rfl,rfl,by omega,fun _=>HCU.out.first.symm,Nat.le_refl _,rfl,RPS.start _⟩
 case round =>
  obtain⟨k,a,acc,vs,hk,rfl,rfl,ha,hak,hacl,hpl,hps⟩:=hrel;obtain⟨ls,hls⟩:∃ls,acc.map Prod.snd=ls:=⟨_,rfl⟩;obtain⟨ss,hss⟩:∃ss,acc.map Prod.fst=ss:=⟨_,rfl⟩;have hl2:ls.length<=k:=by rw[<-hls,List.length_map];exact hacl
  have hl1:ss.length<=k:=by rw[<-hss,List.length_map];exact hacl
  rw[hls,hss] at hps;have HLS:=zH hls;have HSS:=zH hss;clear hls hss;obtain⟨lva,lvc,rfl,-⟩:=(zD hps.lrow).form;obtain⟨sva,svc,rfl,-⟩:=(zD hps.srow).form
  by_cases hlt:k<L.length
  ·have hroom:=HCU.out.room k hlt;have hnext:=HCU.out.next k;have ea:=hak hlt;have htk:=zcn hlt hpl;have cp:wr.cell? ⟨w.heap.size+1,k,none⟩=some (.string (px L k).2):=((HPC.out.below hps.B HPC.out.lt).cell k).trans (zhR hlt);have hm:(⟨#[10]⟩:ByteArray).size=1:=rfl;rw[hm] at hnext;have HTK:=zH htk;have HPS:=zH hps;clear htk hpl hps hak hm;obtain⟨pl,hpl⟩:∃pl,(px L k).1=pl:=⟨_,rfl⟩;obtain⟨pc,hpc⟩:∃pc,(px L k).2=pc:=⟨_,rfl⟩;rw[hpl,hpc] at hroom hnext HTK;rw[hpl] at ea;rw[hpc] at cp;clear hpl hpc;subst ea;have hnx:=zH hnext;clear hnext
   by_cases h0:pc.size=0
   ·obtain rfl:=xv h0;have HT2:Hid (plF ((L.take (k+1)).filter (fun x=>decide (x.2.size≠0))) []=.ok acc):=by have h:=HTK.out;rw[if_pos (show (⟨#[]⟩:ByteArray).size=0 from rfl)] at h;exact h
    clear HTK h0;clear hin hz0 hz1 hz2 hin1 hy0 hy1 hy2;go_wp2;go_roundw
    case rel=>exact⟨k+1,a+1,acc,vs,by omega,by go_num,by go_num,by omega,fun h=>(hnx.out h).symm,by omega,HT2.out,by rw[HLS.out,HSS.out];exact HPS.out⟩
    case measure=>simp[intOf];omega
   ·have he1:pc.toList.isEmpty=false:=xr (by omega);have he2:(pc.toList==[])=false:=by rw[beq_eq_false_iff_ne];intro h;rw[h] at he1;cases he1
    have hBw:=zT HB0.out HPS.out.B;have HLP:=zH (rline_any pc wr (by omega) (HW.out.below hBw) (HFN.out.below hBw) ad cap (HKD.out.below hBw));rw[if_neg h0] at HTK;clear hBw;go_wp2_with fail;refine HLP.out.mono ?_;rintro e w1 ⟨x,ra,rc,q,p,rfl,hns,hrg,hnew,hb1,hok⟩;have hps1:=HPS.out.step hb1;have hA:zB w1 ((w1.alloc (.cells #[.int .i64 x.kind,.string x.name,.int .i64 x.a,.int .i64 x.b,.int .i64 x.c,.string x.other,.slice ra (tp x.rng).length rc] 59)).alloc (.cells #[.int .i64 q,.int .i64 p] 45)):=((Below.refl _ w1).alloc zN _).alloc (by simp) _;have kl:=(Blk.new w1 59 #[.int .i64 x.kind,.string x.name,.int .i64 x.a,.int .i64 x.b,.int .i64 x.c,.string x.other,.slice ra (tp x.rng).length rc]).alloc (.cells #[.int .i64 q,.int .i64 p] 45);have kq:=Blk.new (w1.alloc (.cells #[.int .i64 x.kind,.string x.name,.int .i64 x.a,.int .i64 x.b,.int .i64 x.c,.string x.other,.slice ra (tp x.rng).length rc] 59)) 45 #[.int .i64 q,.int .i64 p];rw[World.size_alloc] at kq;have HP2:=zH (hps1.step hA);have HNS:=zH (hns.below hA zN);have HRG:=zH hrg;have HNW:=zH hnew;have HOK:=zH hok;have HKL:=zH kl;have HKQ:=zH kq;have hwr:=hb1.size;clear hps1 hA kl kq hns hrg hnew hok hb1 HLP cp;go_upto_region 11 with fail;generalize (w1.alloc (.cells #[.int .i64 x.kind,.string x.name,.int .i64 x.a,.int .i64 x.b,.int .i64 x.c,.string x.other,.slice ra (tp x.rng).length rc] 59)).alloc (.cells #[.int .i64 q,.int .i64 p] 45)=W2 at *;have k0:_=some (Value.int .i64 q):=HKQ.out.cell 0;have k1:_=some (Value.int .i64 p):=HKQ.out.cell 1;cases hlf:lineF pc with
    |error e =>
     obtain⟨q',o⟩:=e;have hq0:=Jo hlf;have h1:=HOK.out;have h2:=HTK.out;rw[hlf] at h1 h2;obtain⟨rfl,rfl,rfl⟩:=h1;have HRE:Hid (R=.error (q,some a)):=by show _=_;rw[<-HR.out,zaS h2]
     have hq1:(q==0)=false:=by rw[beq_eq_false_iff_ne];exact hq0
     have kf2:Blk W2 w.heap.size 45 #[.int .i64 0,.int .i64 0]:=HKF.out.below HP2.out.B HKF.out.lt;have hB2:zB w W2:=zT HB0.out HP2.out.B;have q0:_=some (Value.int .i64 0):=kf2.cell 0;have q1:_=some (Value.int .i64 0):=kf2.cell 1;have q2:=kf2.frozen 0;have q3:=kf2.frozen 1;obtain⟨⟨p0,p1⟩,p2,p3,p4⟩:=yF kf2 hB2 zN q (a:Int);have P2:=zH p2;have P3:=zH p3;have P4:=zH p4;clear p2 p3 p4;clear hlf h2 hq0 HTK HR HOK HPS;go_wp2_with fail;go_region;go_wp2;exact bodyPost_ret (v:=.tuple #[.slice none 0 0,.agg #[.int .i64 q,.int .i64 a]]) (by simp[results,Tryz.results11,go_sem,P2.out,P3.out]) rfl (by rw[HRE.out];exact⟨_,_,_,rfl,P4.out.drew,rfl,rfl,rfl⟩)
    |ok y =>
     have h1:=HOK.out;have h2:=HTK.out;rw[hlf] at h1 h2;obtain⟨rfl,rfl,rfl⟩:=h1;have HT2:Hid (plF ((L.take (k+1)).filter (fun x=>decide (x.2.size≠0))) []=.ok (acc++[(a,x)])):=h2;have d0:_=some (Value.int .i64 x.kind):=HKL.out.cell 0;have d1:_=some (Value.string x.name):=HKL.out.cell 1;have d2:_=some (Value.int .i64 x.a):=HKL.out.cell 2;have d3:_=some (Value.int .i64 x.b):=HKL.out.cell 3;have d4:_=some (Value.int .i64 x.c):=HKL.out.cell 4;have d5:_=some (Value.string x.other):=HKL.out.cell 5;have d6:_=some (Value.slice ra (tp x.rng).length rc):=HKL.out.cell 6;have HROW:=zH HP2.out.lrow;have hw2:=HP2.out.B.size;have hwr0:=HPS.out.B.size;have HLT:=zH HPS.out.lrow;have HST:=zH HPS.out.srow;clear hlf h2 HTK HOK HPS k1 HKQ HKL;have hb3:zB W2 (W2.alloc (.cells #[.int .i64 x.kind,.string x.name,.int .i64 x.a,.int .i64 x.b,.int .i64 x.c,.string x.other,.slice ra (tp x.rng).length rc] 59)):=zF.alloc zN _;have HP3:=zH (HP2.out.step hb3);have HNS3:=zH (HNS.out.below hb3 zN);clear hb3;go_wp2_with (at_builtin;refine wpList_append_own_at _ rfl _ _ 24 rfl W0.heap.size 59 i0 (.agg #[.int .i64 0,.string ⟨#[]⟩,.int .i64 0,.int .i64 0,.int .i64 0,.string ⟨#[]⟩,.slice none 0 0]) 7 88 Tryz.underlying24 hin hz0 hz1 hz2 rfl (by decide) _ _ _ rfl (HROW.out.alloc _) ⟨W2.heap.size,0,none⟩ 1 1 [.int .i64 x.kind,.string x.name,.int .i64 x.a,.int .i64 x.b,.int .i64 x.c,.string x.other,.slice ra (tp x.rng).length rc] rfl rfl ?c1 ?c2 ?c3 ?c4 ?c5 ?_)
     case c1=>exact Jr _ _ _ _ _ _ _ _ _
     case c2=>intro u hu;simp at hu;rcases hu with rfl|rfl|rfl|rfl|rfl|rfl|rfl<;>rfl
     case c3=>unfold maxLen;omega
     case c4=>omega
     case c5=>simp;omega
     intro v4 w4 hown4 hgrow4 _ hloc4;have hn4:0<x.rng.length->∀g,(Value.slice ra (tp x.rng).length rc).ownBlock=some g->W0.heap.size<=g/\some g≠(Value.slice lva ls.length lvc).ownBlock/\some g≠(Value.slice sva ss.length svc).ownBlock:=fun _ g hg=>⟨Nat.le_trans hwr0 (HNW.out g hg),fun e=>by have h1:=HNW.out g hg;have h2:=(HLT.out.lt g e.symm).2;omega,fun e=>by have h1:=HNW.out g hg;have h2:=(HST.out.lt g e.symm).2;omega⟩;have hp4:=HP3.out.appL HNS3.out HRG.out hn4 hown4 hgrow4 (by rw[World.size_alloc];exact hloc4);obtain⟨v4a,v4c,rfl,-⟩:=(zD hp4.lrow).form;have HP4:=zH hp4;have HROW4:=zH hp4.srow;have hw4:=hp4.B.size;have hb5:zB w4 (w4.alloc (.cells #[.int .i64 a] 3)):=zF.alloc zN _;have HP5:=zH (hp4.step hb5);clear hown4 hgrow4 hloc4 hn4 hp4 hb5 HROW HP3 HP2 HNS HNS3 HRG HNW HLT HST d0 d1 d2 d3 d4 d5 d6;go_wp2_with (at_builtin;refine wpList_append_own_at _ rfl _ _ 27 rfl W0.heap.size 3 i1 (.int .i64 0) 1 8 Tryz.underlying27 hin1 hy0 hy1 hy2 rfl (by decide) _ _ _ rfl (HROW4.out.alloc _) ⟨w4.heap.size,0,none⟩ 1 1 [.int .i64 a] rfl rfl ?a1 ?a2 ?a3 ?a4 ?a5 ?_)
     case a1=>exact xK _ _ _
     case a2=>exact xx _
     case a3=>unfold maxLen;omega
     case a4=>omega
     case a5=>simp;omega
     intro v6 w6 hown6 hgrow6 _ hloc6;have HP6:=zH (HP5.out.appS (k:=a) hown6 hgrow6 (by rw[World.size_alloc];exact hloc6));clear hown6 hgrow6 hloc6 HP5 HP4 HROW4;go_wp2;go_roundw
     case rel=>exact⟨k+1,a+pc.size+1,acc++[(a,x)],vs++[.slice ra (tp x.rng).length rc],by omega,by go_num,by go_num,by omega,fun h=>(hnx.out h).symm,by simp;omega,HT2.out,by have h:=HP6.out;rw[show (ls++[x]).length=ls.length+1 by simp] at h;rw[List.map_append,List.map_append,HLS.out,HSS.out];exact h⟩
     case measure=>simp[intOf];omega
  ·obtain rfl:k=L.length:=by omega
   have hfull:plF (L.filter (fun x=>decide (x.2.size≠0))) []=.ok acc:=by have h:=hpl;rw[List.take_length] at h;exact h
   have hB0:=zT HB0.out hps.B;have HCC:=zH (zbk ls (.slice lva ls.length lvc) wr hps.rls (by omega) (HFN.out.below hB0));have HFU:=zH hfull;have HP1:=zH hps;clear hpl hfull hB0 hps HCU HPC hak hlt hacl hin hz0 hz1 hz2 hin1 hy0 hy1 hy2;obtain⟨NK,hNK⟩:∃NK,xI (zk ls)=NK:=⟨_,rfl⟩;rw[hNK] at HCC;go_wp2_with fail;refine HCC.out.mono ?_;rintro e w1 ⟨rfl,hb1⟩;have hA:zB w1 (w1.alloc (.cells #[.int .i64 NK.1,.int .i64 NK.2] 45)):=zF.alloc zN _;have kq:=Blk.new w1 45 #[.int .i64 NK.1,.int .i64 NK.2];have HP2:=zH ((HP1.out.step hb1).step hA);have HNK:=zH hNK;have hbne:w.heap.size≠w1.heap.size:=by have h1:=HKF.out.lt;have h2:=HP1.out.B.size;have h3:=hb1.size;omega
   have hble:w.heap.size<=w1.heap.size:=by have h1:=HKF.out.lt;have h2:=HP1.out.B.size;have h3:=hb1.size;omega
   clear hA hb1 HCC HP1 hNK;go_upto_region 17 with fail;generalize w1.alloc (.cells #[.int .i64 NK.1,.int .i64 NK.2] 45)=W2 at *;generalize w1.heap.size=bf at *;have kf2:Blk W2 w.heap.size 45 #[.int .i64 0,.int .i64 0]:=HKF.out.below HP2.out.B HKF.out.lt;have hB2:zB w W2:=zT HB0.out HP2.out.B;have k0:_=some (Value.int .i64 NK.1):=kq.cell 0;have k1:_=some (Value.int .i64 NK.2):=kq.cell 1;cases hn:zk ls with
   |ok its =>have h1:=HNK.out;have h2:=HR.out;rw[HFU.out] at h2;simp only[HLS.out,hn] at h2;rw[hn] at h1;obtain rfl:(0,-1)=NK:=h1;have HRE:Hid (R=.ok (ls,its)):=h2.symm;have hf1:=HFN.out.below hB2;have g0:=hf1.c0;have g1:=hf1.c1;have q0:_=some (Value.int .i64 0):=kf2.cell 0;have q1:_=some (Value.int .i64 0):=kf2.cell 1;have q2:=kf2.frozen 0;have q3:=kf2.frozen 1;obtain⟨⟨p0,p1⟩,p2,p3,p4⟩:=yF kf2 hB2 zN 0 (-1);have P2:=zH p2;have P3:=zH p3;have P4:=zH p4;clear p2 p3 p4;have HRL:Hid (RLs ((W2.setCell ⟨w.heap.size,0,none⟩ (.int .i64 0)).setCell ⟨w.heap.size,1,none⟩ (.int .i64 (-1))) (.slice lva ls.length lvc) ls):=HP2.out.rlsSet HKF.out.lt;clear h2 hn hf1 kq kf2 HKF HNK HP2 hB2;go_wp2_with fail;go_region;go_wp2;exact bodyPost_ret (v:=.tuple #[.slice lva ls.length lvc,.agg #[.int .i64 0,.int .i64 (-1)]]) (by simp[results,Tryz.results11,go_sem,P2.out,P3.out]) rfl (by rw[HRE.out];exact⟨_,_,_,rfl,P4.out.drew,HRL.out.below zF.drew zN,rfl,rfl⟩)
   |error e =>
    obtain⟨q,o⟩:=e;have hq0:=YC hn;cases o with
    |none =>
     have h1:=HNK.out;have h2:=HR.out;rw[HFU.out] at h2;simp only[HLS.out,hn] at h2;rw[hn] at h1;obtain rfl:(q,-1)=NK:=h1;have HRE:Hid (R=.error (q,none)):=h2.symm;have hq1:(q==0)=false:=by rw[beq_eq_false_iff_ne];exact hq0
     simp only at k0 k1;have q0:_=some (Value.int .i64 0):=kf2.cell 0;have q1:_=some (Value.int .i64 0):=kf2.cell 1;have q2:=kf2.frozen 0;have q3:=kf2.frozen 1;obtain⟨⟨p0,p1⟩,p2,p3,p4⟩:=yF kf2 hB2 zN q (-1);have P2:=zH p2;have P3:=zH p3;have P4:=zH p4;clear p2 p3 p4;clear h2 hn kq kf2 HKF HNK HP2 hB2 hq0;go_wp2_with fail;go_region;go_wp2;exact bodyPost_ret (v:=.tuple #[.slice none 0 0,.agg #[.int .i64 q,.int .i64 (-1)]]) (by simp[results,Tryz.results11,go_sem,P2.out,P3.out]) rfl (by rw[HRE.out];exact⟨_,_,_,rfl,P4.out.drew,rfl,rfl,rfl⟩)
    |some i =>
     have hil:=zar hn;have h1:=HNK.out;have h2:=HR.out;rw[HFU.out] at h2;simp only[HLS.out,HSS.out,hn] at h2;rw[hn] at h1;obtain rfl:(q,(i:Int))=NK:=h1;have hq1:(q==0)=false:=by rw[beq_eq_false_iff_ne];exact hq0
     have hsl:ss.length=ls.length:=by rw[<-HLS.out,<-HSS.out,List.length_map,List.length_map]
     have his:i<ss.length:=by omega
     obtain⟨g,cap',e1,hg,hc⟩:=(zD HP2.out.srow).cells (by omega);simp at e1;obtain⟨rfl,rfl⟩:=e1;obtain⟨Pi,hPi⟩:∃Pi,ss.getD i 0=Pi:=⟨_,rfl⟩;have ci:W2.cell? ⟨g,i,none⟩=some (.int .i64 Pi):=hc i _ (by rw[<-hPi];simp[zn,his]);rw[hPi] at h2;have HRE:Hid (R=.error (q,some Pi)):=h2.symm;simp only at k0 k1;have fz1:=kq.frozen 1;have kq3:Blk (W2.setCell ⟨bf,1,none⟩ (.int .i64 Pi)) bf 45 #[.int .i64 q,.int .i64 Pi]:=kq.set (i:=1);have kf3:Blk (W2.setCell ⟨bf,1,none⟩ (.int .i64 Pi)) w.heap.size 45 #[.int .i64 0,.int .i64 0]:=kf2.other hbne;have hB3:zB w (W2.setCell ⟨bf,1,none⟩ (.int .i64 Pi)):=hB2.setCell hble _;have HQ3:=zH kq3;have HF3:=zH kf3;have HB3:=zH hB3;clear h2 hn kq kf2 HKF HNK HP2 hB2 hq0 hPi hc kq3 kf3 hB3 hsl;go_upto_region 20 with fail;generalize W2.setCell ⟨bf,1,none⟩ (.int .i64 Pi)=W3 at *;clear k0 k1 ci fz1;have k0:_=some (Value.int .i64 q):=HQ3.out.cell 0;have k1:_=some (Value.int .i64 Pi):=HQ3.out.cell 1;have q0:_=some (Value.int .i64 0):=HF3.out.cell 0;have q1:_=some (Value.int .i64 0):=HF3.out.cell 1;have q2:=HF3.out.frozen 0;have q3:=HF3.out.frozen 1;obtain⟨⟨p0,p1⟩,p2,p3,p4⟩:=yF HF3.out HB3.out zN q (Pi:Int);have P2:=zH p2;have P3:=zH p3;have P4:=zH p4;clear p2 p3 p4;go_region;go_wp2;exact bodyPost_ret (v:=.tuple #[.slice none 0 0,.agg #[.int .i64 q,.int .i64 Pi]]) (by simp[results,Tryz.results11,go_sem,P2.out,P3.out]) rfl (by rw[HRE.out];exact⟨_,_,_,rfl,P4.out.drew,rfl,rfl,rfl⟩)
end
section
open Go.RowKit Go.Deep Sv
noncomputable def yT(s:ByteArray):Option (List Ln × List It):=if 1500<s.size then none else match qP s with
 |.error _=>none
 |.ok r=>some r
theorem zd4{s:ByteArray}{ls:List Ln}{its:List It}(h:yT s=some (ls,its)):zk ls=.ok its:=by
 unfold yT at h;split at h
 ·cases h
 ·split at h
  ·cases h
  ·rename_i r hr;cases h;exact zdK hr
def zdO(w:World)(r:Option (List Ln × List It))(e:Ending)(w':World):Prop :=
 match r with
 |none=>e=.returned (.tuple #[.pointer none,.slice none 0 0,.bool false])/\zB w w'
 |some (ls,its)=>∃bc v,e=.returned (.tuple #[.pointer (some ⟨bc,0,none⟩),v,.bool true])/\zV w' bc ls its/\RLs w' v ls/\zB w w'
theorem zh0:∀(l:List (Nat × ByteArray)) (acc:List (Nat × Ln)) (q:Int) (i:Nat),plF l acc=.error (q,i)->q≠0:=by
 intro l
 induction l with
 |nil=>intro acc q i h;cases h
 |cons x r ih =>
  intro acc q i h;unfold plF at h;split at h
  ·rename_i e he;obtain⟨e1,e2⟩:=e;cases h;exact Jo he
  ·exact ih _ _ _ h
theorem zbF{s:ByteArray}{q:Int}{o:Option Nat}(h:qP s=.error (q,o)):q≠0:=by
 unfold qP at h;split at h
 ·cases h;decide
 ·split at h
  ·rename_i e he;obtain⟨e1,e2⟩:=e;cases h;exact zh0 _ _ _ _ he
  ·split at h
   ·rename_i he;cases h;exact YC he
   ·rename_i he;cases h;exact YC he
   ·cases h
theorem KC(s:ByteArray)(w:World)(hw:Lw w)(hF:FineR w)(ad:Addr)(cap:Nat)(hK:KindsAt w ad cap):zC 4 #[.string s] w (zdO w (yT s)):=by
 by_cases hs:1500<s.size
 ·have hf:yT s=none:=by unfold yT;rw[if_pos hs]
  have a1:(1500:Int)<(s.size:Int):=by omega
  rw[hf];clear hs hf hw hF hK;go_enter Tryz.func4,Tryz.ntmps4;go_wp2;refine bodyPost_ret (v:=.tuple #[.pointer none,.slice none 0 0,.bool false]) (by simp[results,Tryz.f4,go_sem]) rfl ?_;exact⟨rfl,Below.refl _ _⟩
 ·have a1:¬(1500:Int)<(s.size:Int):=by omega
  have HQ0:=zcA s w hw.lb hF ad cap hK;have HP0:∀W,zB w W->zC 12 #[.string s] W (QI W (qP s)):=fun W hb=>zfc s W (hw.below hb);cases hx:qP s with
  |error e =>
   obtain⟨q,o⟩:=e;have hf:yT s=none:=by unfold yT;rw[if_neg hs,hx]
   have hq:=zbF hx;have hq1:(q==0)=false:=by rw[beq_eq_false_iff_ne];exact hq
   rw[hx] at HQ0;rw[hf];have HQ:=zH HQ0;clear HQ0 HP0 hw hF hK hx hf hs hq;generalize hPO:placeO o=PO at *;have HPO:=zH hPO;clear hPO;go_enter Tryz.func4,Tryz.ntmps4;go_wp2_with fail;refine HQ.out.mono ?_;rintro e w1 ⟨v,k,p,rfl,hb1,hv,hk,hp⟩;rw[hv,hk,hp,HPO.out];clear hv hk hp;have hA:zB w1 (w1.alloc (.cells #[.int .i64 q,.int .i64 PO] 45)):=zF.alloc zN _;have kf:=Blk.new w1 45 #[.int .i64 q,.int .i64 PO];have HB1:Hid (zB w (w1.alloc (.cells #[.int .i64 q,.int .i64 PO] 45))):=zT hb1 hA;clear hA hb1 HQ;go_upto_region 4 with fail;generalize w1.alloc (.cells #[.int .i64 q,.int .i64 PO] 45)=W1 at *;generalize w1.heap.size=bf at *;have c0:_=some (Value.int .i64 q):=kf.cell 0;clear kf;go_wp2;refine bodyPost_ret (v:=.tuple #[.pointer none,.slice none 0 0,.bool false]) (by simp[results,Tryz.f4,go_sem]) rfl ?_;exact⟨rfl,HB1.out⟩
  |ok r =>
   obtain⟨ls,its⟩:=r;have hf:yT s=some (ls,its):=by unfold yT;rw[if_neg hs,hx]
   rw[hx] at HQ0 HP0;rw[hf];have HQ:=zH HQ0;have HP:=zH HP0;clear HQ0 HP0 hw hF hK hx hf hs;go_enter Tryz.func4,Tryz.ntmps4;go_wp2_with fail;refine HQ.out.mono ?_;rintro e w1 ⟨v,k,p,rfl,hb1,hv,hk,hp⟩;rw[hk,hp];clear hk hp;have hA:zB w1 (w1.alloc (.cells #[.int .i64 0,.int .i64 (-1)] 45)):=zF.alloc zN _;have kf:=Blk.new w1 45 #[.int .i64 0,.int .i64 (-1)];have HB1:Hid (zB w (w1.alloc (.cells #[.int .i64 0,.int .i64 (-1)] 45))):=zT hb1 hA;have HV1:=zH (hv.below hA zN);obtain⟨va,vc,rfl⟩:∃va vc,v=.slice va ls.length vc:=by obtain⟨vs,_,h2⟩:=hv;obtain⟨a,c,e,_⟩:=h2.form;exact⟨a,c,e⟩
   clear hA hb1 HQ hv;go_upto_region 4 with fail;generalize w1.alloc (.cells #[.int .i64 0,.int .i64 (-1)] 45)=W1 at *;generalize w1.heap.size=bf at *;have c0:_=some (Value.int .i64 0):=kf.cell 0;clear kf;go_wp2_with fail;refine(HP.out _ HB1.out).mono ?_;rintro e w2 ⟨bc,vs,rfl,hcv,-,hb2⟩;have HB2:Hid (zB w w2):=zT HB1.out hb2;have HV2:=zH (HV1.out.below hb2 zN);have HC2:=zH hcv.cat;clear hcv hb2 HP HB1 HV1 c0;go_wp2;refine bodyPost_ret (v:=.tuple #[.pointer (some ⟨bc,0,none⟩),.slice va ls.length vc,.bool true]) (by simp[results,Tryz.f4,go_sem]) rfl ?_;exact⟨bc,_,rfl,HC2.out,HV2.out,HB2.out⟩
end
end Go.Proofs.YtlamemjfaogjmaaGreatDoor
