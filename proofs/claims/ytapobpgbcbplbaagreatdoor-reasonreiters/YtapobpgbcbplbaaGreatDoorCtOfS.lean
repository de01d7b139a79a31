/- Of: its clauses, plain; the state between two rounds. -/
import Derived.Test.YtapobpgbcbplbaaGreatDoorCtGet
set_option maxHeartbeats 4000000
set_option maxRecDepth 100000
namespace Go.Proofs.YtapobpgbcbplbaaGreatDoor
section
open Go.RowKit Go.Deep Sv
theorem zki(a b:Int)(W:World):(Instr.field 132 (.agg #[.int .i64 a,.int .i64 b]) 0).run Tryz.prog W=.ok (.int .i64 a) W/\(Instr.field 132 (.agg #[.int .i64 a,.int .i64 b]) 1).run Tryz.prog W=.ok (.int .i64 b) W:=by
 constructor<;>kernel_rfl
theorem zaN(bk:Nat)(ls:List Ln)(its:List It)(name:ByteArray)(rng:List zh)(hr:Rg rng)(v:Value)(w:World)(h:ya w bk ls its)(hl:its.length<=100000)(hn:name.size<=100000)(hv:zi w v rng) :
  zC 32 #[.pointer (some ⟨bk,0,none⟩),.string name,.agg #[v]] w fun e w'=>∃v',e=.returned v'/\w'.ownsRow w.heap.size 3 1 v' (qS its name rng).length (zn ((qS its name rng).map fun (k:Nat)=>(k:Int)))/\zB w w':=by
 obtain⟨va,vc,rfl⟩:=hv.form;obtain⟨lv,iv,bm,h1,h2,h3,h4⟩:=h;obtain⟨ia,ic,rfl,-⟩:=h3.form;obtain⟨i0,hin,hz0,hz1,hz2⟩:=info_parts Zm;have HHAS:Hid (∀W i,zB w W->zC 60 #[.agg #[.slice va rng.length vc],.agg #[.int .i64 (its.getD i default).a,.int .i64 (its.getD i default).b,.int .i64 (its.getD i default).c]] W fun e w'=>(e=.returned (.bool true)/\xF rng (its.getD i default)\/e=.returned (.bool false)/\¬xF rng (its.getD i default))/\zB W w'):=fun W i hW=>(zce rng hr va vc (its.getD i default) W (hv.below hW zN)).mono fun e w' ⟨he,hb⟩=>by
  refine⟨?_,hb⟩
  by_cases hh:xF rng (its.getD i default)
  ·exact Or.inl ⟨by rw[he];congr 2;exact @decide_eq_true _ (Classical.propDecidable _) hh,hh⟩
  ·exact Or.inr ⟨by rw[he];congr 2;exact @decide_eq_false _ (Classical.propDecidable _) hh,hh⟩
 have hbx:zB w (w.alloc (.cells #[.slice va rng.length vc] 36)):=(Below.refl _ w).alloc zN _;have kr:=Blk.new w 36 #[.slice va rng.length vc];have k1:=h1.below hbx h1.lt;have h5:=h4.below hbx zN;have hlook:=fun (n:Nat)=>((h5.block (w':=(w.alloc (.cells #[.slice va rng.length vc] 36)).drewN n) rfl).look hn).2;clear h5;have HI:=zH (show yJ (w.alloc (.cells #[.slice va rng.length vc] 36)) (.slice ia its.length ic) its from h3.below hbx zN);have HBX:=zH hbx;have HST:=zH (zgd its name rng);have HEN:=zH (zjJ its name rng);have HSU:Hid (∀i,(q8 its name).1<=i->amP its name rng (i+1)=amP its name rng i++(@ite _ (xF rng (its.getD i default)) (Classical.propDecidable _) [i] [])):=fun i hi=>zkM its name rng hi;have HLE:=zH (fun i=>znX its name rng i);have hbd:=zaI its name;have hrow:(yf its name).getD (0,0)=q8 its name:=rfl;simp only[hrow,Qg] at hlook;obtain⟨la,lc,rfl,-⟩:∃la lc,lv=.slice la ls.length lc/\True:=by obtain⟨vs,_,h2⟩:=h2;obtain⟨x,y,e,_⟩:=h2.form;exact⟨x,y,e,trivial⟩
 clear hrow h1 h2 h3 h4 hbx hv hr hn;generalize amP its name rng=am at *;generalize qS its name rng=amF at *;obtain⟨lo,hlo⟩:∃lo,(q8 its name).1=lo:=⟨_,rfl⟩;obtain⟨hi,hhi⟩:∃hi,(q8 its name).2=hi:=⟨_,rfl⟩;rw[hlo,hhi] at hbd;simp only[hlo,hhi] at hlook;rw[hlo] at HST HSU;rw[hhi] at HEN;clear hlo hhi;obtain⟨hb1,hb2⟩:=hbd;go_enter Tryz.func32,Tryz.ntmps32;go_upto_region 4 with fail;generalize w.alloc (.cells #[.slice va rng.length vc] 36)=W0 at *;have d2:_=some (Value.map (some bm)):=k1.cell 2;have hlookD:=hlook 1;rw[show W0.drewN 1=W0.drew from rfl] at hlookD;clear hlook;obtain⟨hf0,hf1⟩:=zki (lo:Int) (hi:Int) W0.drew;go_big_region;clear d2 hlookD hf0 hf1;have hbq:zB W0 W0.drew:=⟨rfl,rfl,rfl,Nat.le_refl _,fun _ _=>rfl⟩;have kr1:=kr.below hbq kr.lt;have k2:=k1.below hbq k1.lt;have HI1:=zH (show yJ W0.drew (.slice ia its.length ic) its from HI.out.below hbq zN);have HBQ:Hid (zB w W0.drew):=zT HBX.out hbq;clear hbq kr k1 HI HBX;generalize W0.drew=W1 at *;go_wp2_with fail;go_loopw [7,8] (fun oV iV wr=>∃(i:Nat),lo<=i/\i<=hi/\iV=.int .i64 i/\wr.ownsRow W1.heap.size 3 1 oV (am i).length (zn ((am i).map fun (k:Nat)=>(k:Int)))/\zB w wr/\zB W1 wr) (fun _ iV _=>hi-(intOf iV).toNat)
 case atStart=>exact⟨lo,Nat.le_refl _,hb1,rfl,by rw[HST.out];exact World.ownsRow_nil _ _ _ _,HBQ.out,Below.refl _ _⟩
 case round =>
  obtain⟨i,hil,hih,rfl,hrow,hbw,hbr⟩:=hrel;obtain⟨oa,oc,rfl,-⟩:=(zD hrow).form
  by_cases hlt:i<hi
  ·obtain⟨g,cap',e,hg,c0,c1,c2,c3⟩:=(show yJ wr _ its from HI1.out.below hbr zN).at i (by omega);simp at e;obtain⟨rfl,rfl⟩:=e;have hii0:(0:Int)<=(i:Int):=by omega
   have hii1:(i:Int)<(its.length:Int):=by omega
   have hale:=HLE.out i;have HSUi:=zH (HSU.out i hil);have HHi:=zH (fun W hW=>HHAS.out W i hW);have HROW:=zH hrow;have HBW:=zH hbw;have HBR:=zH hbr;have kr3:=kr1.below hbr kr1.lt;have k3:=k2.below hbr k2.lt;have hxl:=kr3.lt;have hbl:=k3.lt;generalize its.getD i default=x at *;have SC:Hid (∀W,zB wr W->W.cell? ⟨w.heap.size,0,none⟩=some (.slice va rng.length vc)/\W.cell? ⟨bk,1,none⟩=some (.slice (some ⟨g,0,none⟩) its.length ic)/\W.cell? ⟨g,i*4+1,none⟩=some (.int .i64 x.a)/\W.cell? ⟨g,i*4+2,none⟩=some (.int .i64 x.b)/\W.cell? ⟨g,i*4+3,none⟩=some (.int .i64 x.c)):=fun W h=>⟨(kr3.below h hxl).cell 0,(k3.below h hbl).cell 1,(h.cell (p:=⟨g,i*4+1,none⟩) hg).trans c1,(h.cell (p:=⟨g,i*4+2,none⟩) hg).trans c2,(h.cell (p:=⟨g,i*4+3,none⟩) hg).trans c3⟩;have D0:zB wr wr.drew:=zF.drew;have E0:zB w wr.drew:=hbw.drew;clear hrow hbw hbr kr3 k3 c0 c1 c2 c3 HHAS HSU;go_upto_region 7 with fail
   by_cases hh:xF rng x
   ·have HQ:Hid (∀W,zB w W->zR 60 #[.agg #[.slice va rng.length vc],.agg #[.int .i64 x.a,.int .i64 x.b,.int .i64 x.c]] W (.bool true)):=fun W hW=>(HHi.out W hW).mono fun e w' ⟨h,hb⟩=>⟨by rcases h with h|h;exact h.1;exact absurd hh h.2,hb⟩;have HA:Hid (am (i+1)=am i++[i]):=by show _=_;rw[HSUi.out,if_pos hh]
    clear HHi HSUi hh;go_region_held3 (fun W=>W.cell? ⟨w.heap.size,0,none⟩=some (.slice va rng.length vc)/\W.cell? ⟨bk,1,none⟩=some (.slice (some ⟨g,0,none⟩) its.length ic)/\W.cell? ⟨g,i*4+1,none⟩=some (.int .i64 x.a)/\W.cell? ⟨g,i*4+2,none⟩=some (.int .i64 x.b)/\W.cell? ⟨g,i*4+3,none⟩=some (.int .i64 x.c)) (first|exact SC.out _ D0|exact SC.out _ D1)
     (((with_reducible refine(HQ.out _ E0).mono ?_);rintro e x1 ⟨rfl,hb1'⟩;have D1:zB wr x1:=zT D0 hb1';clear HQ D0 E0 hb1'))
    have hrow2:=zS HROW.out D1;have HBX:Hid (zB w x1):=zT HBW.out D1;have HBY:Hid (zB W1 x1):=zT HBR.out D1;have HROW2:=zH hrow2;have hxs:=HBX.out.size;have hys:=HBY.out.size;clear D1 hrow2 SC HROW HBW HBR;go_wp2_with (at_builtin;refine wpList_append_own_at _ rfl _ _ 24 rfl W1.heap.size 3 i0 (.int .i64 0) 1 8 Tryz.underlying24 hin hz0 hz1 hz2 rfl (by decide) _ _ _ rfl (HROW2.out.alloc _) ⟨x1.heap.size,0,none⟩ 1 1 [.int .i64 i] rfl rfl ?c1 ?c2 ?c3 ?c4 ?c5 ?_)
    case c1=>exact Yg _ _ _
    case c2=>exact QU _
    case c3=>unfold maxLen;omega
    case c4=>omega
    case c5=>simp;omega
    intro v7 w7 hown7 hgrow7 _ hloc7;have HR7:Hid (w7.ownsRow W1.heap.size 3 1 v7 (am (i+1)).length (zn ((am (i+1)).map fun (k:Nat)=>(k:Int)))):=by
     show World.ownsRow _ _ _ _ _ _ _;rw[HA.out,List.map_append,List.map_cons,List.map_nil,QJ,List.length_append];exact hown7
    have HB8:Hid (zB W1 w7):=(zL HBY.out).grown hgrow7 (by simp;omega) (fun k hk=>(HROW2.out.lt k hk).1);have HB7:Hid (zB w w7):=zT HBQ.out HB8.out;clear hown7 hgrow7 hloc7 HROW2 HBX HBY;go_wp2;go_roundw
    case rel=>exact⟨i+1,by omega,hlt,by go_num,HR7.out,HB7.out,HB8.out⟩
    case measure=>simp[intOf];omega
   ·have HQ:Hid (∀W,zB w W->zR 60 #[.agg #[.slice va rng.length vc],.agg #[.int .i64 x.a,.int .i64 x.b,.int .i64 x.c]] W (.bool false)):=fun W hW=>(HHi.out W hW).mono fun e w' ⟨h,hb⟩=>⟨by rcases h with h|h;exact absurd h.2 hh;exact h.1,hb⟩;have HA:Hid (am (i+1)=am i):=by show _=_;rw[HSUi.out,if_neg hh,List.append_nil]
    clear HHi HSUi hh;go_region_held3 (fun W=>W.cell? ⟨w.heap.size,0,none⟩=some (.slice va rng.length vc)/\W.cell? ⟨bk,1,none⟩=some (.slice (some ⟨g,0,none⟩) its.length ic)/\W.cell? ⟨g,i*4+1,none⟩=some (.int .i64 x.a)/\W.cell? ⟨g,i*4+2,none⟩=some (.int .i64 x.b)/\W.cell? ⟨g,i*4+3,none⟩=some (.int .i64 x.c)) (first|exact SC.out _ D0|exact SC.out _ D1)
     (((with_reducible refine(HQ.out _ E0).mono ?_);rintro e x1 ⟨rfl,hb1'⟩;have D1:zB wr x1:=zT D0 hb1';clear HQ D0 E0 hb1'))
    have HR7:Hid (x1.ownsRow W1.heap.size 3 1 (.slice oa (am i).length oc) (am (i+1)).length (zn ((am (i+1)).map fun (k:Nat)=>(k:Int)))):=by
     show World.ownsRow _ _ _ _ _ _ _;rw[HA.out];exact zS HROW.out D1
    have HBX:Hid (zB w x1):=zT HBW.out D1;have HBY:Hid (zB W1 x1):=zT HBR.out D1;clear D1 SC HROW HBW HBR;go_wp2;go_roundw
    case rel=>exact⟨i+1,by omega,hlt,by go_num,HR7.out,HBX.out,HBY.out⟩
    case measure=>simp[intOf];omega
  ·obtain rfl:i=hi:=by omega
   rw[HEN.out] at hrow;have HROW:=zH hrow;have HBW:=zH hbw;clear hrow hbw hbr;go_wp2;go_ret;rw[HEN.out];exact⟨_,rfl,yu HROW.out HBQ.out.size,HBW.out⟩
end
section
open Go.RowKit Go.Deep Sv
def ClN(K:List (List Int))(cs:List Value)(b:Option Nat):Prop:=∀i,i<K.length->0<(K.getD i []).length->∀g,(cs.getD i undef).ownBlock=some g->some g≠b
theorem ClN.nil(b:Option Nat):ClN [] [] b:=fun i h=>by simp at h
theorem ClN.new{W:World}{cs:List Value}{K:List (List Int)}(h:zX 0 W cs K){b:Nat}(hb:W.heap.size<=b):ClN K cs (some b):=fun i hi hl g hg e=>by
 obtain⟨a,cap,h1,_,_,h4⟩:=h.2 i hi;obtain⟨ad,h5,h6,_⟩:=h4 0 hl;rw[List.getD_eq_getElem?_getD,h1,h5] at hg;simp[Value.ownBlock] at hg;cases e;omega
theorem ClN.snoc{K:List (List Int)}{cs:List Value}{b:Option Nat}(h:ClN K cs b)(hv:cs.length=K.length){c:List Int}{v:Value}(hx:0<c.length->∀g,v.ownBlock=some g->some g≠b):ClN (K++[c]) (cs++[v]) b:=by
 intro i hi
 by_cases hl:i<K.length
 ·have e1:(K++[c]).getD i []=K.getD i []:=by simp[List.getD_eq_getElem?_getD,List.getElem?_append_left hl]
  have e2:(cs++[v]).getD i undef=cs.getD i undef:=by simp[List.getD_eq_getElem?_getD,List.getElem?_append_left (show i<cs.length by rw[hv];exact hl)]
  rw[e1,e2];exact h i hl
 ·obtain rfl:i=K.length:=by simp at hi;omega
  have e1:(K++[c]).getD K.length []=c:=by simp[List.getD_eq_getElem?_getD]
  have e2:(cs++[v]).getD K.length undef=v:=by simp[List.getD_eq_getElem?_getD,<-hv]
  rw[e1,e2];exact hx
theorem qp.heapOf{W W':World}{a:Option Addr}{c:List Int}(h:qp 0 W a c)(hs:W.heap.size<=W'.heap.size)(hb:∀ad,a=some ad->ad.block<W.heap.size->W'.heap[ad.block]?=W.heap[ad.block]?):qp 0 W' a c:=fun i hi=>by
 obtain⟨ad,h1,h2,h3,h4⟩:=h i hi;have e:=hb ad h1 h2;refine⟨ad,h1,Nat.lt_of_lt_of_le h2 hs,by rw[e];exact h3,?_⟩;rw[World.cell?_of_block (w:=W) (by rw[xm];exact e)];exact h4
theorem zX.grownN{W W':World}{cs:List Value}{K:List (List Int)}{row:Option Nat}(h:zX 0 W cs K)(hg:W.grownBy W' row)(hn:ClN K cs row):zX 0 W' cs K:=⟨h.1,fun i hi=>by
 obtain⟨a,cap,h1,h2,h3,h4⟩:=h.2 i hi;refine⟨a,cap,h1,h2,h3,?_⟩
 by_cases hl:0<(K.getD i []).length
 ·refine h4.heapOf hg.size (fun ad e hlt=>hg.block _ hlt (hn i hi hl _ ?_));rw[List.getD_eq_getElem?_getD,h1,e];rfl
 ·exact fun j hj=>by omega⟩
def PlA(a:Option Addr):Prop:=∀ad,a=some ad->ad.spot=none
def PlC(cs:List Value):Prop:=∀u∈cs,∀a n c,u=.slice a n c->PlA a
theorem PlC.snoc{cs:List Value}(h:PlC cs){a:Option Addr}(ha:PlA a)(n c:Nat):PlC (cs++[.slice a n c]):=by
 intro u hu;rcases List.mem_append.1 hu with hu|hu
 ·exact h u hu
 ·rw[List.mem_singleton] at hu;subst hu;intro a' n' c' e;cases e;exact ha
structure RS(B:Nat)(W:World)(cv fv:Value)(K:List (List Int))(F:List Int):Prop where
 crow:∃cs,W.ownsRow B 202 1 cv K.length cs/\zX 0 W cs K/\ClN K cs fv.ownBlock/\PlC cs
 frow:W.ownsRow B 3 1 fv F.length (zn F)
theorem RS.nil(B:Nat)(W:World):RS B W (.slice none 0 0) (.slice none 0 0) [] []:=⟨⟨[],World.ownsRow_nil _ _ _ _,zX.nil,ClN.nil _,fun u hu=>by cases hu⟩,World.ownsRow_nil _ _ _ _⟩
theorem RS.new{B:Nat}{W W':World}{cv fv:Value}{K:List (List Int)}{F:List Int}(h:RS B W cv fv K F)(hb:zB W W'):RS B W' cv fv K F:=by
 obtain⟨cs,h1,h2,h3⟩:=h.crow;exact⟨⟨cs,zS h1 hb,h2.kp (Kp.new hb),h3⟩,zS h.frow hb⟩
structure Fr(b5:Nat)(cv fv:Value)(W W':World):Prop where
 size:W.heap.size<=W'.heap.size
 block:∀k,k<W.heap.size->k≠b5->some k≠cv.ownBlock->some k≠fv.ownBlock->W'.heap[k]?=W.heap[k]?
 B:Below b5 W W'
def Loc(W:World)(v v':Value):Prop:=v'.ownBlock=v.ownBlock\/∃g,v'.ownBlock=some g/\W.heap.size<=g
theorem RS.appC{b5:Nat}{n:Int}{W w7:World}{cv cv' fv:Value}{K:List (List Int)}{F:List Int}{c:List Int}{a:Option Addr}{cap:Nat}{cs:List Value}
  (h5:Blk W b5 26 #[.int .i64 n,cv,fv]) (hfr:W.ownsRow (b5+1) 3 1 fv F.length (zn F)) (hrow:W.ownsRow (b5+1) 202 1 cv K.length cs) (hck:zX 0 W cs K) (hcn:ClN K cs fv.ownBlock) (hpl:PlC cs) (hpa:PlA a)
  (hc1:c.length<=cap) (hc2:cap<=9223372036854775807) (hi:qp 0 W a c) (hN:0<c.length->∀g,(Value.slice a c.length cap).ownBlock=some g->some g≠fv.ownBlock)
  (hown:w7.ownsRow (b5+1) 202 1 cv' (K.length+1) (cs++[.slice a c.length cap])) (hg:(W.alloc (.cells #[.slice a c.length cap] 202)).grownBy w7 cv.ownBlock) :
  Blk w7 b5 26 #[.int .i64 n,cv,fv]/\Blk (w7.setCell ⟨b5,1,none⟩ cv') b5 26 #[.int .i64 n,cv',fv]/\RS (b5+1) (w7.setCell ⟨b5,1,none⟩ cv') cv' fv (K++[c]) F/\(∀k,k<W.heap.size->k≠b5->some k≠cv.ownBlock->(w7.setCell ⟨b5,1,none⟩ cv').heap[k]?=W.heap[k]?)/\Below b5 W (w7.setCell ⟨b5,1,none⟩ cv'):=by
 have hbn:=zf W (.cells #[.slice a c.length cap] 202);have h5':=h5.below hbn h5.lt;have hl:=h5.lt;have hne:some b5≠cv.ownBlock:=fun e=>by have:=(hrow.lt b5 e.symm).1;omega
 have q5:=h5'.kept hg hne;have hk:Kp 0 (W.alloc (.cells #[.slice a c.length cap] 202)) w7:=Kp.grown (yu (zS hrow hbn) (Nat.zero_le _)) hg (by decide);have hk2:Kp 0 w7 (w7.setCell ⟨b5,1,none⟩ cv'):=Kp.set (Nat.zero_le _) q5 (by decide);have hk3:=(Kp.new (B:=0) hbn).trans (hk.trans hk2);have hf7:=Ka (zS hfr hbn) hg (ZV (zS hfr hbn) (zS hrow hbn) (by decide));refine⟨q5,q5.set (i:=1),⟨⟨_,by simpa using yA hown (Nat.lt_succ_self _),(hck.kp hk3).snoc hc1 hc2 (hi.kp hk3),hcn.snoc hck.1 hN,hpl.snoc hpa _ _⟩,yA hf7 (Nat.lt_succ_self _)⟩,fun k h1 h2 h3=>?_,?_⟩
 ·refine(Below.heap_setCell _ _ _ k (fun e=>h2 e)).trans ((hg.block k (by simp;omega) h3).trans (hbn.block k h1))
 ·exact((hbn.mono (Nat.le_of_lt hl)).grown hg (by simp;omega) (fun k hk=>by have:=(hrow.lt k hk).1;omega)).setCell (p:=⟨b5,1,none⟩) zN _
theorem RS.appF{b5:Nat}{n:Int}{W w7:World}{cv fv fv':Value}{K:List (List Int)}{F:List Int}{x:Int}
  (h5:Blk W b5 26 #[.int .i64 n,cv,fv]) (hr:RS (b5+1) W cv fv K F)
  (hown:w7.ownsRow (b5+1) 3 1 fv' (F.length+1) (zn F++[.int .i64 x])) (hg:(W.alloc (.cells #[.int .i64 x] 3)).grownBy w7 fv.ownBlock) (hloc:fv'.ownBlock=fv.ownBlock\/fv'.ownBlock=some (W.heap.size+1)) :
  Blk w7 b5 26 #[.int .i64 n,cv,fv]/\Blk (w7.setCell ⟨b5,2,none⟩ fv') b5 26 #[.int .i64 n,cv,fv']/\RS (b5+1) (w7.setCell ⟨b5,2,none⟩ fv') cv fv' K (F++[x])/\(∀k,k<W.heap.size->k≠b5->some k≠fv.ownBlock->(w7.setCell ⟨b5,2,none⟩ fv').heap[k]?=W.heap[k]?)/\Below b5 W (w7.setCell ⟨b5,2,none⟩ fv'):=by
 have hbn:=zf W (.cells #[.int .i64 x] 3);obtain⟨cs,hrow,hck,hcn,hpl⟩:=(hr.new hbn).crow;have hfr:=hr.frow;have hfr2:=(hr.new hbn).frow;have h5':=h5.below hbn h5.lt;have hl:=h5.lt;have hne:some b5≠fv.ownBlock:=fun e=>by have:=(hfr.lt b5 e.symm).1;omega
 have q5:=h5'.kept hg hne;have hk2:Kp 0 w7 (w7.setCell ⟨b5,2,none⟩ fv'):=Kp.set (Nat.zero_le _) q5 (by decide);have hc7:=Ka hrow hg (ZV hrow hfr2 (by decide));refine⟨q5,q5.set (i:=2),⟨⟨cs,yA hc7 (Nat.lt_succ_self _),(hck.grownN hg hcn).kp hk2,?_,hpl⟩,by rw[List.length_append,QJ];exact yA hown (Nat.lt_succ_self _)⟩,fun k h1 h2 h3=>?_,?_⟩
 ·rcases hloc with e|e
  ·rw[e];exact hcn
  ·rw[e];exact ClN.new hck (by simp)
 ·refine(Below.heap_setCell _ _ _ k (fun e=>h2 e)).trans ((hg.block k (by simp;omega) h3).trans (hbn.block k h1))
 ·exact((hbn.mono (Nat.le_of_lt hl)).grown hg (by simp;omega) (fun k hk=>by have:=(hfr.lt k hk).1;omega)).setCell (p:=⟨b5,2,none⟩) zN _
theorem KI(w:World)(u:Value)(t:TypeId):∀(j:Nat) (x:Value),[u][j]?=some x->(w.alloc (.cells #[u] t)).cell? ((⟨w.heap.size,0,none⟩:Addr).add j)=some x:=by
 intro j x hu;cases j with
 |zero=>simp at hu;subst hu;simp[Addr.add]
 |succ j=>simp at hu
theorem Y2(k:Int)(h0:-10000<=k)(h1:k<=10000)(w:World):zC 30 #[.int .i64 k] w fun e w'=>e=.returned (.int .i64 (qj k))/\w'=w:=by
 have e1:IntKind.i64.wrap (k+1)=k+1:=by rw[IntKind.wrap_i64];omega
 have e2:IntKind.i64.wrap (-(k+1))=-(k+1):=by rw[IntKind.wrap_i64];omega
 go_enter Tryz.func30,Tryz.ntmps30;go_wp2;go_ret;exact⟨rfl,rfl⟩
theorem zjw(b5:Nat)(n:Int)(W:World)(cv fv:Value)(K:List (List Int))(F:List Int)(from_:Int)(a:Option Addr)(c:List Int)(cap:Nat)(h5:Blk W b5 26 #[.int .i64 n,cv,fv])(hr:RS (b5+1) W cv fv K F)
  (hc1:c.length<=cap) (hc2:cap<=9223372036854775807) (hi:qp 0 W a c) (hN:0<c.length->∀g,(Value.slice a c.length cap).ownBlock=some g->some g≠fv.ownBlock) (hpa:PlA a) (hK:K.length<=100000) (hF:F.length<=100000) :
  zC 29 #[.int .i64 from_,.slice a c.length cap,.pointer (some ⟨b5,0,none⟩)] W fun e w'=>e=.returned (.tuple #[])/\∃cv' fv',Blk w' b5 26 #[.int .i64 n,cv',fv']/\RS (b5+1) w' cv' fv' (K++[c]) (F++[from_])/\Fr b5 cv fv W w'/\Loc W cv cv'/\Loc W fv fv':=by
 obtain⟨cs,hrow,hck,hcn,hpl⟩:=hr.crow;have HPL:=zH hpl;have HPA:=zH hpa;have hfr:=hr.frow;obtain⟨ca,cc,rfl,-⟩:=(zD hrow).form;obtain⟨fa,fc,rfl,-⟩:=(zD hfr).form;have c1:_=some (Value.slice ca K.length cc):=h5.cell 1;have hl5:=h5.lt;have H5:=zH h5;have HROW:=zH hrow;have HFR:=zH hfr;have HCK:=zH hck;have HCN:=zH hcn;have HI:=zH hi;have HN:=zH hN;obtain⟨ic,hic,hc0',hc1',hc2'⟩:=info_parts Ku;obtain⟨i0,hin,hz0,hz1,hz2⟩:=info_parts Zm;clear hrow hck hcn hfr h5 hi hN hr hpl hpa;go_enter Tryz.func29,Tryz.ntmps29;go_wp2_with (at_builtin;refine wpList_append_own_at _ rfl _ _ 23 rfl (b5+1) 202 ic (.slice none 0 0) 1 24 Tryz.underlying23 hic hc0' hc1' hc2' rfl (by decide) _ _ _ rfl (HROW.out.alloc _) ⟨W.heap.size,0,none⟩ 1 1 [.slice a c.length cap] rfl rfl ?c1 ?c2 ?c3 ?c4 ?c5 ?_)
 case c1=>exact KI _ _ _
 case c2=>intro u hu;rw[List.mem_singleton] at hu;subst hu;rfl
 case c3=>unfold maxLen;omega
 case c4=>omega
 case c5=>simp;omega
 intro v7 w7 hown7 hgrow7 _ hloc7;obtain⟨q5,q6,hr6,hf6,hb6⟩:=RS.appC H5.out HFR.out HROW.out HCK.out HCN.out HPL.out HPA.out hc1 hc2 HI.out HN.out hown7 hgrow7;have HL7:Hid (Loc W (.slice ca K.length cc) v7):=by
  rcases hloc7 with e|e
  ·exact .inl e
  ·exact .inr ⟨_,e,by omega⟩
 have e1:_=some (Value.slice ca K.length cc):=q5.cell 1;have f1:=q5.frozen 1;have H6:=zH q6;have HR6:=zH hr6;have HF6:=zH hf6;have HB6:=zH hb6;have hs6:=hb6.size;obtain⟨g7,cap7,rfl⟩:=ownsRow_succ hown7;clear hown7 hgrow7 hloc7 q5 q6 hr6 hf6 hb6 HROW HFR HCK HCN HI HN H5 c1;go_upto_region 1 with fail;generalize w7.setCell ⟨b5,1,none⟩ (.slice (some ⟨g7,0,none⟩) (K.length+1) cap7)=W6 at *;clear e1 f1;have c2:_=some (Value.slice fa F.length fc):=H6.out.cell 2;have HFR:=zH HR6.out.frow;have hl6:=H6.out.lt;go_wp2_with (at_builtin;refine wpList_append_own_at _ rfl _ _ 24 rfl (b5+1) 3 i0 (.int .i64 0) 1 8 Tryz.underlying24 hin hz0 hz1 hz2 rfl (by decide) _ _ _ rfl (HFR.out.alloc _) ⟨W6.heap.size,0,none⟩ 1 1 [.int .i64 from_] rfl rfl ?a1 ?a2 ?a3 ?a4 ?a5 ?_)
 case a1=>exact Yg _ _ _
 case a2=>exact QU _
 case a3=>unfold maxLen;omega
 case a4=>omega
 case a5=>simp;omega
 intro v8 w8 hown8 hgrow8 _ hloc8;obtain⟨q5,q6,hr7,hf7,hb7⟩:=RS.appF H6.out HR6.out hown8 hgrow8 hloc8;have e2:_=some (Value.slice fa F.length fc):=q5.cell 2;have f2:=q5.frozen 2;have HL8:Hid (Loc W (.slice fa F.length fc) v8):=by
  rcases hloc8 with e|e
  ·exact .inl e
  ·exact .inr ⟨_,e,by omega⟩
 have HFF:Hid (Fr b5 (.slice ca K.length cc) (.slice fa F.length fc) W (w8.setCell ⟨b5,2,none⟩ v8)):=⟨Nat.le_trans hs6 hb7.size,fun k h1 h2 h3 h4=>(hf7 k (by omega) h2 h4).trans (HF6.out k h1 h2 h3),HB6.out.trans hb7⟩;have HX:Hid (Blk (w8.setCell ⟨b5,2,none⟩ v8) b5 26 #[.int .i64 n,.slice (some ⟨g7,0,none⟩) (K.length+1) cap7,v8]/\RS (b5+1) (w8.setCell ⟨b5,2,none⟩ v8) (.slice (some ⟨g7,0,none⟩) (K.length+1) cap7) v8 (K++[c]) (F++[from_])):=⟨q6,hr7⟩;obtain⟨g8,cap8,rfl⟩:=ownsRow_succ hown8;clear hown8 hgrow8 hloc8 q5 q6 hr7 hf7 hb7 HR6 HF6 HB6 HFR H6 c2;go_wp2;refine bodyPost_end (v:=.tuple #[]) (by simp[results,Tryz.results29,go_sem]) rfl ?_;exact⟨rfl,_,_,HX.out.1,HX.out.2,HFF.out,HL7.out,HL8.out⟩
end
section
open Go.RowKit Go.Deep Sv
def yT(l:List Nat):List Int:=l.map fun (k:Nat)=>((k:Int)+1)
theorem zma(l:List Nat)(i:Nat)(h:i<l.length):yT (l.take (i+1))=yT (l.take i)++[((l.getD i 0:Nat):Int)+1]:=by
 unfold yT;rw[List.take_add_one,List.getElem?_eq_getElem h,List.map_append,List.getD_eq_getElem?_getD,List.getElem?_eq_getElem h];rfl
theorem zdp(l:List Nat)(v:Value)(w:World)(hl:l.length<=100000)(hb:∀x∈l,x<=100000)(hv:qT w v l.length (zn (l.map fun (k:Nat)=>(k:Int)))) :
  zC 31 #[v] w fun e w'=>∃v',e=.returned v'/\w'.ownsRow w.heap.size 3 1 v' l.length (zn (yT l))/\(l=[]->v'=.slice none 0 0)/\zB w w':=by
 obtain⟨va,vc,rfl,-⟩:=hv.form;obtain⟨i0,hin,hz0,hz1,hz2⟩:=info_parts Zm;have HV:=zH hv;have HB:=zH hb;clear hv hb;go_enter Tryz.func31,Tryz.ntmps31;go_wp2_with fail;go_loopw [3,8] (fun oV iV wr=>∃(i:Nat),i<=l.length/\iV=.int .i64 i/\wr.ownsRow w.heap.size 3 1 oV i (zn (yT (l.take i)))/\(i=0->oV=.slice none 0 0)/\zB w wr) (fun _ iV _=>l.length-(intOf iV).toNat)
 case atStart=>exact⟨0,Nat.zero_le _,rfl,World.ownsRow_nil _ _ _ _,fun _=>rfl,Below.refl _ _⟩
 case round =>
  obtain⟨i,hil,rfl,hrow,h0,hbw⟩:=hrel;obtain⟨oa,oc,rfl,-⟩:=(zD hrow).form
  by_cases hlt:i<l.length
  ·have hvw:=HV.out.below hbw zN;obtain⟨g,cap,e,hg,hc⟩:=hvw.cells (by omega);simp at e;obtain⟨rfl,rfl⟩:=e;have hx:wr.cell? ⟨g,i,none⟩=some (.int .i64 ((l.getD i 0:Nat):Int)):=hc i _ (by rw[xU _ _ (by simpa using hlt)];simp[List.getD_eq_getElem?_getD,hlt]);have hxb:l.getD i 0<=100000:=HB.out _ (by rw[List.getD_eq_getElem?_getD,List.getElem?_eq_getElem hlt];exact List.getElem_mem hlt);have HSN:=zH (zma l i hlt);obtain⟨x,hxe⟩:∃x,l.getD i 0=x:=⟨_,rfl⟩;rw[hxe] at hx hxb HSN;have hii0:(0:Int)<=(i:Int):=by omega
   have hii1:(i:Int)<(l.length:Int):=by omega
   have hwx:IntKind.i64.wrap ((x:Int)+1)=(x:Int)+1:=by rw[IntKind.wrap_i64];omega
   have HROW:=zH hrow;have HBW:=zH hbw;have hws:=hbw.size;clear hxe hrow hbw hc hvw h0;go_wp2_with (at_builtin;refine wpList_append_own_at _ rfl _ _ 24 rfl w.heap.size 3 i0 (.int .i64 0) 1 8 Tryz.underlying24 hin hz0 hz1 hz2 rfl (by decide) _ _ _ rfl (HROW.out.alloc _) ⟨wr.heap.size,0,none⟩ 1 1 [.int .i64 ((x:Int)+1)] rfl rfl ?c1 ?c2 ?c3 ?c4 ?c5 ?_)
   case c1=>exact Yg _ _ _
   case c2=>exact QU _
   case c3=>unfold maxLen;omega
   case c4=>omega
   case c5=>simp;omega
   intro v7 w7 hown7 hgrow7 _ hloc7;have HR7:Hid (w7.ownsRow w.heap.size 3 1 v7 (i+1) (zn (yT (l.take (i+1))))):=by
    show World.ownsRow _ _ _ _ _ _ _;rw[HSN.out,QJ];exact hown7
   have HB7:Hid (zB w w7):=(zL HBW.out).grown hgrow7 (by simp;omega) (fun k hk=>(HROW.out.lt k hk).1);clear hown7 hgrow7 hloc7 HROW HBW HSN;go_wp2;go_roundw
   case rel=>exact⟨i+1,hlt,by go_num,HR7.out,fun e=>by omega,HB7.out⟩
   case measure=>simp[intOf];omega
  ·obtain rfl:i=l.length:=by omega
   rw[List.take_length] at hrow;have HROW:=zH hrow;have HBW:=zH hbw;have H0:Hid (l=[]->Value.slice oa l.length oc=.slice none 0 0):=fun e=>h0 (by rw[e];rfl);clear hrow hbw h0;go_wp2;go_ret;exact⟨_,rfl,HROW.out,H0.out,HBW.out⟩
end
section
open Go.RowKit Go.Deep Sv
theorem YO{b:Nat}{t:TypeId}:∀(vs:List Value) (o:Nat) (w:World) (cs:Array Value),Blk w b t cs->∃cs',Blk (w.setCells b o vs) b t cs'
 |[],_,_,cs,h=>⟨cs,h⟩
 |v :: r,o,_,_,h=>YO r (o+1) _ _ (h.set (i:=o) (v:=v))
theorem Xg{B b:Nat}(hb:B<=b):∀(vs:List Value) (o:Nat) {a w:World},Below B a w->Below B a (w.setCells b o vs)
 |[],_,_,_,h=>h
 |v :: r,o,_,_,h=>Xg hb r (o+1) (h.setCell (p:=⟨b,o,none⟩) hb v)
theorem zeM(l:List Int)(j:Nat)(h:j<(zn l).length):(zn l)[j]=.int .i64 (l.getD j 0):=by
 have hl:j<l.length:=by simpa[xu] using h
 have e:=xU l j hl;rw[List.getElem?_eq_getElem h] at e;exact Option.some.inj e
theorem zfk{W:World}{g:Nat}{x:Int}{l:List Int}(hx:W.cell? ⟨g,0,none⟩=some (.int .i64 x))(hr:∀j,j<l.length->W.cell? ⟨g,j+1,none⟩=some (.int .i64 (l.getD j 0)))(hW:∃cs',Blk W g 3 cs'):qp 0 W (some ⟨g,0,none⟩) (x :: l):=by
 obtain⟨cs',hW⟩:=hW;intro i hi;refine⟨_,rfl,hW.lt,Or.inr ⟨_,_,hW⟩,?_⟩;cases i with
 |zero=>simpa[Addr.add] using hx
 |succ i =>have h:=hr i (by simpa using hi);simpa[Addr.add,List.getD_cons_succ] using h
theorem zjT(l:List Int)(x:Int)(v:Value)(vb B:Nat)(w:World)(hB:B<=w.heap.size)(hv:w.ownsRow B 3 1 v l.length (zn l))(h0:l=[]->v=.slice none 0 0)(hb:Blk w vb 3 #[.int .i64 x])(hne:v.ownBlock≠some vb)(hl:l.length<=100000) :
  zC 34 #[v,.int .i64 0,.slice (some ⟨vb,0,none⟩) 1 1] w fun e w'=>∃g cap,e=.returned (.slice (some ⟨g,0,none⟩) (l.length+1) cap)/\l.length+1<=cap/\cap<=9223372036854775807/\qp 0 w' (some ⟨g,0,none⟩) (x :: l)/\B<=g/\Below B w w':=by
 have hvs:∀(j:Nat) (u:Value),[Value.int .i64 x][j]?=some u->w.cell? ⟨vb,0+j,none⟩=some u:=fun j u hu=>by
  cases j with
  |zero=>simp at hu;subst hu;exact hb.cell 0
  |succ j=>simp at hu
 have h1v:∀u∈[Value.int .i64 x],u.oneCell'=true:=QU _;have h1c:∀u∈zn l,u.oneCell'=true:=fun u hu=>by obtain⟨y,_,rfl⟩:=List.mem_map.1 hu;rfl
 by_cases hz:l=[]
 ·subst hz;obtain rfl:=h0 rfl;refine(Any2.slices_Insert_int_end_grow Tryz.insInt none 0 0 vb 0 1 1 [] [.int .i64 x] w (by omega) (by omega) (by omega) (by omega) rfl rfl (fun _=>rfl) (fun a e=>by cases e) hvs h1v).mono ?_;rintro e w' ⟨rfl,rfl⟩;have hge:=grownCap_ge w 1 0 3;have hle:=grownCap_le_maxLen w 1 0 3 (by unfold maxLen;omega);unfold maxLen at hle;refine⟨_,_,rfl,hge,hle,?_,hB,((Below.refl _ w).drew).alloc hB _⟩;intro i hi;have hW:=Blk.new w.drew 3 ((([]:List Value)++[Value.int .i64 x]).toArray++Builtin.zeroCells (Value.int .i64 0).cells (grownCap w (0+1) 0 3-(0+1)));refine⟨_,rfl,hW.lt,Or.inr ⟨_,_,hW⟩,?_⟩;obtain rfl:i=0:=by simpa using hi
  refine(hW.cell 0).trans ?_;rw[Array.getElem?_append_left (by simp)];rfl
 ·have hn:0<l.length:=List.length_pos_iff.2 hz;rcases hv.2 with ⟨_,e0⟩|⟨g,cap,cur,rfl,hBg,hg,hcap,hcm,hsz,htake⟩
  ·omega
  ·have hG:Blk w g 3 cur:=hg;have hgv:vb≠g:=fun e=>hne (by rw[e];rfl);have hcs:∀(j:Nat) (u:Value),(zn l)[j]?=some u->w.cell? ⟨g,0+j,none⟩=some u:=fun j u hu=>by
    rw[Nat.zero_add];have hj:j<l.length:=by have:=(List.getElem?_eq_some_iff.1 hu).1;simpa[xu] using this
    have:=hv.cellAt j (by omega);rw[this];exact hu
   unfold maxLen at hcm
   by_cases hroom:l.length+1<=cap
   ·have hsp:∀j,j<l.length+1->(w.cell? ⟨g,0+j,none⟩).isSome=true:=fun j hj=>by
     rw[Nat.zero_add,hG.cell j];simp;omega
    refine(Any2.slices_Insert_int_shift Tryz.insInt g 0 l.length cap 0 vb 0 1 1 (zn l) [.int .i64 x] w hn (by omega) hroom hcm hgv (by simp[xu]) rfl hcs hsp (fun j _=>hG.frozen _) hvs h1c h1v 3 3 1 cur.size (by unfold World.shape?;rw[show w.heap[vb]?=_ from hb];rfl) (by unfold World.shape?;rw[hg]) (by omega) (hb.frozen _) (hb.frozen _)).mono ?_;rintro e w' ⟨rfl,rfl⟩;have hin:=World.cell?_setCells_in g (zn l) 1 w.drew (fun j hj=>by rw[Nat.add_comm 1 j,<-Nat.zero_add (j+1)];exact hsp (j+1) (by have:=xu l;omega));obtain⟨c1,hc1⟩:=YO (zn l) 1 w.drew cur (show Blk w.drew g 3 cur from hG);refine⟨g,cap,rfl,hroom,hcm,?_,hBg,Xg hBg _ _ (Xg hBg _ _ (Below.refl _ w).drew)⟩;refine zfk ?_ ?_ ?_
    ·have:=World.cell?_setCells_in g [Value.int .i64 x] 0 (w.drew.setCells g 1 (zn l)) (fun j hj=>by
      refine isSome_setCells g _ _ _ (fun k hk=>by rw [Nat.add_comm 1 k,<- Nat.zero_add (k + 1)];exact hsp (k + 1) (by have:=xu l;omega)) _ (by rw [Nat.zero_add] at *;exact by rw [<- Nat.zero_add j];exact hsp j (by simp at hj;omega))) 0 (by simp)
     simpa using this
    ·intro j hj;have h1:=World.cell?_setCells_out g [Value.int .i64 x] 0 (w.drew.setCells g 1 (zn l)) ⟨g,j+1,none⟩ (fun _ _=>Or.inr (by simp));have h2:=hin j (by have:=xu l;omega);rw[Nat.add_comm 1 j,zeM] at h2;exact h1.trans h2
    ·exact YO _ _ _ _ hc1
   ·refine(Any2.slices_Insert_int_grow Tryz.insInt g 0 l.length cap 0 vb 0 1 1 (zn l) [.int .i64 x] w hn (by omega) hcap (by omega) (by omega) (by simp[xu]) rfl hcs hvs h1c h1v).mono ?_;rintro e w' ⟨rfl,rfl⟩;have hge:=grownCap_ge w (l.length+1) cap 3;have hle:=grownCap_le_maxLen w (l.length+1) cap 3 (by unfold maxLen;omega);unfold maxLen at hle;obtain⟨A,hA⟩:∃A,((zn l).take 0).toArray++Builtin.zeroCells (Value.int .i64 0).cells (l.length+1-0)++Builtin.zeroCells (Value.int .i64 0).cells (grownCap w (l.length+1) cap 3-(l.length+1))=A:=⟨_,rfl⟩;have hAs:l.length+1<=A.size:=by rw[<-hA];simp[size_zeroCells,Value.cells]
    rw[show Tryz.insInt_ren.t 3=3 from rfl,hA];have hW:=Blk.new w 3 A;have hW2:Blk (w.alloc (.cells A 3)).drew w.heap.size 3 A:=hW;obtain⟨c1,hc1⟩:=YO [Value.int .i64 x] 0 _ A hW2;have hc1':Blk (((w.alloc (.cells A 3)).drew.setCells w.heap.size 0 [Value.int .i64 x]).drew) w.heap.size 3 c1:=hc1;have hsp:∀j,j<l.length+1->((w.alloc (.cells A 3)).drew.cell? ⟨w.heap.size,j,none⟩).isSome=true:=fun j hj=>by
     rw[hW2.cell j];simp;omega
    refine⟨w.heap.size,_,rfl,hge,hle,?_,hB,Xg hB _ _ (Xg hB _ _ (((Below.refl _ w).alloc hB _).drew)).drew⟩;refine zfk ?_ ?_ (YO _ _ _ _ hc1')
    ·have h1:=World.cell?_setCells_out w.heap.size (zn l) 1 (((w.alloc (.cells A 3)).drew.setCells w.heap.size 0 [Value.int .i64 x]).drew) ⟨w.heap.size,0,none⟩ (fun _ _=>Or.inl (by simp));have h2:=World.cell?_setCells_in w.heap.size [Value.int .i64 x] 0 (w.alloc (.cells A 3)).drew (fun j hj=>by rw[Nat.zero_add];exact hsp j (by simp at hj;omega)) 0 (by simp);exact h1.trans (by simpa using h2)
    ·intro j hj;have h2:=World.cell?_setCells_in w.heap.size (zn l) 1 (((w.alloc (.cells A 3)).drew.setCells w.heap.size 0 [Value.int .i64 x]).drew) (fun k hk=>isSome_setCells w.heap.size [Value.int .i64 x] 0 (w.alloc (.cells A 3)).drew (fun j hj=>by rw[Nat.zero_add];exact hsp j (by simp at hj;omega)) _ (hsp _ (by have:=xu l;omega))) j (by have:=xu l;omega);rw[Nat.add_comm 1 j,zeM] at h2;exact h2
end
section
open Go.RowKit Go.Deep Sv
def pr0(its:List It)(k j:Nat):List (Int × List Int):=if (its.getD j default).name=(its.getD k default).name then [(-1,[qj (j:Int),qj (k:Int)])] else []
def prI(its:List It)(k i:Nat):List (Int × List Int):=(List.range i).flatMap (pr0 its k)
def prF(its:List It)(k:Nat):List (Int × List Int):=(List.range k).flatMap fun k=>prI its k k
theorem zd2(its:List It)(k i:Nat):prI its k (i+1)=prI its k i++pr0 its k i:=by unfold prI;rw[List.range_succ,List.flatMap_append];simp
theorem zdK(its:List It)(k:Nat):prF its (k+1)=prF its k++prI its k k:=by unfold prF;rw[List.range_succ,List.flatMap_append];simp
noncomputable def lnL(its:List It)(ls:List Ln)(n:Nat):List (Int × List Int):=(List.range n).flatMap fun n=>qY its n (ls.getD n default)
theorem Xh(its:List It)(ls:List Ln)(n:Nat):lnL its ls (n+1)=lnL its ls n++qY its n (ls.getD n default):=by unfold lnL;rw[List.range_succ,List.flatMap_append];simp
noncomputable def ofL(its:List It)(ls:List Ln):List (Int × List Int):=prF its its.length++lnL its ls ls.length
theorem zjr(its:List It)(k j:Nat):(pr0 its k j).length<=1:=by unfold pr0;split<;>simp
theorem zam(its:List It)(k:Nat):∀i,(prI its k i).length<=i
 |0=>by simp[prI]
 |i+1=>by rw[zd2,List.length_append];have:=zam its k i;have:=zjr its k i;omega
theorem zaU(its:List It):∀k,k<=24->(prF its k).length<=k*24
 |0,_=>by simp[prF]
 |k+1,h=>by rw[zdK,List.length_append];have:=zaU its k (by omega);have:=zam its k k;omega
theorem XW(its:List It)(name:ByteArray)(rng:List zh):(qS its name rng).length<=its.length:=by
 unfold qS;refine Nat.le_trans (List.length_filter_le _ _) ?_;rw[List.length_range'];have:=zaI its name;omega
theorem zaH(its:List It)(name:ByteArray)(rng:List zh):∀x∈qS its name rng,x<its.length:=by
 intro x hx;unfold qS at hx;have h:=(List.mem_range'_1.1 (List.mem_filter.1 hx).1);have:=zaI its name;omega
theorem zop(its:List It)(n:Nat)(x:Ln)(h:its.length<=24):(qY its n x).length<=24:=by
 have:=XW its x.other x.rng;unfold qY;split
 ·simp
 ·split
  ·simp
  ·split
   ·simp;omega
   ·simp
theorem zer(its:List It)(ls:List Ln)(h:its.length<=24):∀n,(lnL its ls n).length<=n*24
 |0=>by simp[lnL]
 |n+1=>by rw[Xh,List.length_append];have:=zer its ls h n;have:=zop its n (ls.getD n default) h;omega
structure OS(w W:World)(b5:Nat)(n:Int)(cv fv:Value)(P:List (Int × List Int))(iv:Value)(its:List It):Prop where
 r2:Blk W w.heap.size 26 #[.int .i64 0,.slice none 0 0,.slice none 0 0]
 r5:Blk W b5 26 #[.int .i64 n,cv,fv]
 rs:RS (b5+1) W cv fv (P.map Prod.snd) (P.map Prod.fst)
 B:zB w W
 lo:w.heap.size<b5
 its:W.ownsRow w.heap.size 92 4 iv its.length (zQ its)
section
variable {w W W':World} {b5:Nat} {n:Int} {cv fv iv:Value} {P:List (Int × List Int)} {its:List It}
theorem OS.new(h:OS w W b5 n cv fv P iv its)(hb:zB W W'):OS w W' b5 n cv fv P iv its :=
 ⟨h.r2.below hb h.r2.lt,h.r5.below hb h.r5.lt,h.rs.new hb,zT h.B hb,h.lo,zS h.its hb⟩
theorem OS.keep(h:OS w W b5 n cv fv P iv its)(hf:Fr b5 cv fv W W'){k:Nat}{cs:Array Value}{t:TypeId}(hk:Blk W k t cs)(h1:t≠26)(h2:t≠202)(h3:t≠3):Blk W' k t cs:=by
 obtain⟨cs',hc,-⟩:=h.rs.crow;refine(hf.block k hk.lt (hk.ne_type h.r5 h1) (fun e=>qC hc hk h2 e.symm) (fun e=>qC h.rs.frow hk h3 e.symm)).trans hk
theorem OS.keepRow(h:OS w W b5 n cv fv P iv its)(hf:Fr b5 cv fv W W'){B t k m:Nat}{v:Value}{cs:List Value}(hr:W.ownsRow B t k v m cs)(h1:t≠26)(h2:t≠202)(h3:t≠3):W'.ownsRow B t k v m cs:=by
 refine⟨hr.1,?_⟩;rcases hr.2 with h'|⟨g,cap,cur,e,hB,hg,r⟩
 ·exact .inl h'
 ·exact .inr ⟨g,cap,cur,e,hB,h.keep hf hg h1 h2 h3,r⟩
theorem OS.add(h:OS w W b5 n cv fv P iv its){cv' fv':Value}{f:Int}{c:List Int}(hf:Fr b5 cv fv W W')(h5:Blk W' b5 26 #[.int .i64 n,cv',fv'])(hr:RS (b5+1) W' cv' fv' (P.map Prod.snd++[c]) (P.map Prod.fst++[f])):OS w W' b5 n cv' fv' (P++[(f,c)]) iv its :=
 ⟨h.r2.below hf.B (by have:=h.lo;omega),h5,by simpa using hr,h.B.trans (hf.B.mono (Nat.le_of_lt h.lo)),h.lo,h.keepRow hf h.its (by decide) (by decide) (by decide)⟩
theorem OS.keepInts(h:OS w W b5 n cv fv P iv its)(hf:Fr b5 cv fv W W'){B m:Nat}{v:Value}{cs:List Value}(hr:W.ownsRow B 3 1 v m cs)(hn:∀g,v.ownBlock=some g->some g≠fv.ownBlock):W'.ownsRow B 3 1 v m cs:=by
 obtain⟨cs',hc,-⟩:=h.rs.crow;refine⟨hr.1,?_⟩;rcases hr.2 with h'|⟨g,cap,cur,e,hB,hg,r⟩
 ·exact .inl h'
 ·have hk:Blk W g 3 cur:=hg;exact .inr ⟨g,cap,cur,e,hB,(hf.block g hk.lt (hk.ne_type h.r5 (by decide)) (fun e=>qC hc hk (by decide) e.symm) (hn g (by rw[e];rfl))).trans hg,r⟩
theorem OS.fresh(h:OS w W b5 n cv fv P iv its){g:Nat}(hg:W.heap.size<=g):some g≠fv.ownBlock:=fun e=>by
 have:=(h.rs.frow.lt g e.symm).2;omega
end
theorem Z3{B:Nat}{w:World}{v:Value}{l:List Int}(h:w.ownsRow B 3 1 v l.length (zn l)):∃a cap,v=.slice a l.length cap/\l.length<=cap/\cap<=9223372036854775807/\qp 0 w a l/\PlA a:=by
 rcases h.2 with ⟨e,e0⟩|⟨g,cap,cur,e,hB,hg,hn,hm,hsz,htake⟩
 ·exact⟨none,0,by rw[e,e0],by omega,by omega,fun i hi=>by omega,fun ad e=>by cases e⟩
 ·unfold maxLen at hm;refine⟨_,_,e,hn,hm,fun i hi=>⟨_,rfl,(show Blk w g 3 cur from hg).lt,Or.inr ⟨_,_,hg⟩,?_⟩,fun ad e=>by cases e;rfl⟩;subst e;have:=h.cellAt i (by omega);rw[yo,Nat.zero_add,this,xU l i hi]
theorem zeQ(its:List It)(x:It)(h:its.length<=24):-1<=qQ its x/\qQ its x<=24:=by
 unfold qQ;split
 ·rename_i i hi;have:=(List.findIdx?_eq_some_iff_findIdx_eq.1 hi).1;omega
 ·omega
theorem zom(bk bm:Nat)(lv iv:Value)(ls:List Ln)(vs:List Value)(w:World)(h1:Blk w bk 59 #[lv,iv,.map (some bm)])(hr:qu w ls vs)(h2:qT w lv ls.length (qq ls vs))(hl:ls.length<=100000) :
  zC 6 #[.pointer (some ⟨bk,0,none⟩)] w fun e w'=>∃v',e=.returned v'/\w'.ownsRow w.heap.size 38 7 v' ls.length (qq ls vs)/\zB w w':=by
 have HI:=zH (zay ls vs hr.1 hr.one lv w h2 hl);obtain⟨va,vc,rfl,-⟩:=h2.form;have c0:_=some (Value.slice va ls.length vc):=h1.cell 0;clear h1 h2 hr hl;go_enter Tryz.func6,Tryz.ntmps6;go_wp2_with fail;refine HI.out.mono ?_;rintro e w1 ⟨v',rfl,hrow,hb1⟩;have HR:=zH hrow;have HB1:=zH hb1;clear hb1 HI hrow c0;go_wp2;go_ret;exact⟨v',rfl,HR.out,HB1.out⟩
end
end Go.Proofs.YtapobpgbcbplbaaGreatDoor
