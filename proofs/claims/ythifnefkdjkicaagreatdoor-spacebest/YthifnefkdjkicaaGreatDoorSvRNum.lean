import Derived.Test.YthifnefkdjkicaaGreatDoorSvNs
import Derived.Laws.CopyOwn
set_option maxHeartbeats 4000000
set_option maxRecDepth 100000
namespace Go.Proofs.YthifnefkdjkicaaGreatDoor
section
open Go.RowKit Sv
theorem zkr:(Tryz.prog.info? 3).map (fun i=>(i.zero,i.size,i.bytes))=some (some (.int .i64 0),1,8):=by kernel_rfl
theorem YJ:(Tryz.prog.info? 3).map (·.size)=some 1:=by kernel_rfl
theorem X9(w:World)(A:Value)(t:TypeId):∀(j:Nat) (u:Value),[A][j]?=some u->(w.alloc (.cells #[A] t)).cell? (Addr.add w.heap.size j)=some u:=by
 intro j u h
 match j,h with
 |0,h=>simp at h;subst h;simp[Addr.add]
 |j+1,h=>simp at h
def Zg(a b:List Nat):Nat->List Nat
 |0=>[0,ALL]
 |1=>a
 |_=>b
def yS(a b:List Nat):Nat->List Nat
 |0=>[]
 |j+1=>q7 (yS a b j) (Zg a b j)
theorem zhr(acc l:List Nat)(k:Nat)(hk:k<l.length):q7 acc (l.take (k+1))=xo (q7 acc (l.take k)) (nv l k):=by
 unfold q7;rw[List.take_succ_eq_append_getElem hk,List.foldl_append,List.foldl_cons,List.foldl_nil,Y5 l k hk]
theorem XT(l acc:List Nat):(q7 acc l).length=acc.length+l.length:=by
 have hi:∀(l:List Nat) (n:Nat),(xo l n).length=l.length+1:=fun l n=>by
  unfold xo;rw[List.length_append,List.length_cons,List.length_take,List.length_drop];have:=zaj l n l.length;omega
 induction l generalizing acc with
 |nil=>rfl
 |cons x l ih=>show (q7 (xo acc x) l).length=_;rw[ih,hi,List.length_cons];omega
theorem zlT(a b:List Nat)(j:Nat)(hj:j<=3):(yS a b j).length<=a.length+b.length+2:=by
 match j,hj with
 |0,_=>simp[yS]
 |1,_=>simp[yS,XT,Zg]
 |2,_=>simp[yS,XT,Zg];omega
 |3,_=>simp[yS,XT,Zg];omega
theorem ziC(a b:List Nat)(j k:Nat)(hj:j<3):(q7 (yS a b j) ((Zg a b j).take k)).length<=a.length+b.length+2:=by
 have h:=zlT a b (j+1) hj;rw[yS,XT] at h;rw[XT,List.length_take];omega
theorem zm1{acc:List Nat}{n i:Nat}{cur:List Value}(hi:i<=acc.length)(hc:cur.take (acc.length+1)=zA acc++[.int .i64 0]) :
  ((splice cur (i+1) ((zA acc).drop i)).set i (.int .i64 n)).take (acc.length+1)=zA (acc.take i++n :: acc.drop i):=by
 have q:acc.length+1<=cur.length:=by
  have:=congrArg List.length hc;rw[List.length_take,List.length_append,Z4,List.length_singleton] at this;omega
 apply List.ext_getElem?;intro j;have o:∀j,j<acc.length+1->cur[j]?=(zA acc++[.int .i64 0])[j]?:=fun j hj=>by
  rw[<-hc,List.getElem?_take,zA2 hj]
 by_cases hj:j<acc.length+1
 ·rw[List.getElem?_take,zA2 hj];unfold splice;rw[List.getElem?_set];have p:((zA acc).drop i).length=acc.length-i:=by rw[List.length_drop,Z4]
  by_cases hij:i=j
  ·subst hij;rw[zA2 rfl,zA2 (by simp;omega)];unfold zA;rw[List.getElem?_map,List.getElem?_append_right (by rw[List.length_take];omega)];rw[List.length_take,show i-min i acc.length=0 by omega];rfl
  ·rw[zA1 hij]
   by_cases hlt:j<i
   ·rw[List.getElem?_append_left (by rw[List.length_take];omega),List.getElem?_take,zA2 (by omega),o j hj,List.getElem?_append_left (by rw[Z4];omega)];unfold zA;rw[List.getElem?_map,List.getElem?_map,List.getElem?_append_left (by rw[List.length_take];omega),List.getElem?_take,zA2 hlt]
   ·rw[List.getElem?_append_right (by rw[List.length_take];omega),List.length_take,show min (i+1) cur.length=i+1 by omega,List.getElem?_append_left (by rw[p];omega),List.getElem?_drop];unfold zA;rw[List.getElem?_map,List.getElem?_map,List.getElem?_append_right (by rw[List.length_take];omega),List.length_take,show j-min i acc.length=(j-i-1)+1 by omega,List.getElem?_cons_succ,List.getElem?_drop];congr 2
 ·rw[List.getElem?_take,zA1 hj,List.getElem?_eq_none];rw[Z4,List.length_append,List.length_cons,List.length_take,List.length_drop];omega
theorem zju{w4:World}{B g cap i n:Nat}{acc:List Nat}{cur:List Value}(hi:i<=acc.length)(hB:B<=g)(hnc:acc.length+1<=cap)(hmx:cap<=maxLen)(hsz:cur.length=cap)(htk:cur.take (acc.length+1)=zA acc++[.int .i64 0])
  (h4:w4.heap[g]?=some (.cells (splice cur (i+1) ((zA acc).drop i)).toArray 3 (0,0))) :
  (∃u,w4.cell? ⟨g,i,none⟩=some u)/\w4.frozen? ⟨g,i,none⟩=false/\(w4.setCell ⟨g,i,none⟩ (.int .i64 n)).ownsRow B 3 1 (.slice (some g) (acc.length+1) cap) (acc.length+1) (zA (acc.take i++n :: acc.drop i)):=by
 have k:Blk w4 g 3 (splice cur (i+1) ((zA acc).drop i)).toArray:=h4;have j:((zA acc).drop i).length=acc.length-i:=by rw[List.length_drop,Z4]
 have o:(splice cur (i+1) ((zA acc).drop i)).length=cap:=by rw[length_splice _ _ _ (by rw[j];omega),hsz]
 refine⟨?_,k.frozen i,?_,.inr ⟨g,cap,_,rfl,hB,k.set (i:=i),hnc,hmx,?_,?_⟩⟩
 ·rw[k.cell i];exact⟨_,by rw[List.getElem?_toArray,List.getElem?_eq_getElem (by omega)]⟩
 ·rw[Z4,List.length_append,List.length_cons,List.length_take,List.length_drop];omega
 ·rw[Array.size_setIfInBounds,List.size_toArray,o,Nat.mul_one]
 ·rw[Array.toList_setIfInBounds,Nat.mul_one];exact zm1 hi htk
theorem zpp(f:Nat->Bool)(is:Bool)(l:List Nat):(qT f is l).length<=l.length:=by
 induction l generalizing is with
 |nil=>exact Nat.le_refl _
 |cons n r ih =>
  unfold qT;split
  ·have:=ih is;rw[List.length_cons];omega
  ·have:=ih (f n);rw[List.length_cons,List.length_cons];omega
theorem ze9{f:Nat->Bool}{is:Bool}{l:List Nat}{k:Nat}(hk:k<l.length)(h:f (nv l k)=is):qT f is (l.drop k)=qT f is (l.drop (k+1)):=by
 rw[List.drop_eq_getElem_cons hk,qT,<-Y5 l k hk,zA2 h]
theorem zdB{f:Nat->Bool}{is:Bool}{l:List Nat}{k:Nat}(hk:k<l.length)(h:¬f (nv l k)=is):qT f is (l.drop k)=nv l k :: qT f (f (nv l k)) (l.drop (k+1)):=by
 rw[List.drop_eq_getElem_cons hk,qT,<-Y5 l k hk,zA1 h]
theorem znT(a b:List Nat)(hla:a.length<=1000000000)(hlb:b.length<=1000000000):∀j,(Zg a b j).length<=1000000000
 |0=>Nat.le_of_ble_eq_true rfl
 |1=>hla
 |_+2=>hlb
theorem zml(a b:List Nat)(aa ab:Option Addr)(ca cb:Nat)(w W0:World)(hW0:(w.alloc (.cells #[(0:Int),(1000000000:Int)] 3)).alloc (.cells #[.slice (some w.heap.size) 2 2,.slice aa a.length ca,.slice ab b.length cb] 82)=W0)
  (HVA:zG w (.slice aa a.length ca) a) (HVB:zG w (.slice ab b.length cb) b) :
  zB w W0/\(∀j,j<3->∃x c,∀W,zB W0 W->W.cell? ⟨w.heap.size+1,j,none⟩=some (.slice x (Zg a b j).length c)/\zG W (.slice x (Zg a b j).length c) (Zg a b j)):=by
 have o:zB w W0:=by rw[<-hW0];exact((Below.refl _ w).alloc zN _).alloc (by simp) _
 refine⟨o,fun j hj=>?_⟩;have k0:Blk W0 w.heap.size 3 #[(0:Int),(1000000000:Int)]:=by rw[<-hW0];exact(Blk.new w 3 _).alloc _
 have k1:Blk W0 (w.heap.size+1) 82 #[.slice (some w.heap.size) 2 2,.slice aa a.length ca,.slice ab b.length cb]:=by rw[<-hW0];have:=Blk.new (w.alloc (.cells #[(0:Int),(1000000000:Int)] 3)) 82 #[.slice (some w.heap.size) 2 2,.slice aa a.length ca,.slice ab b.length cb];rw[zA0] at this;exact this
 match j,hj with
 | 0,_=>exact ⟨some w.heap.size,2,fun W hb=>⟨(k1.below hb k1.lt).cell 0,⟨_,_,rfl⟩,fun i hi=>⟨_,_,rfl,(k0.below hb k0.lt).lt,by
   match i,hi with
   |0,_=>exact(k0.below hb k0.lt).cell 0
   | 1,_=>exact (k0.below hb k0.lt).cell 1⟩⟩⟩
 |1,_=>exact⟨aa,ca,fun W hb=>⟨(k1.below hb k1.lt).cell 1,HVA.below (zT o hb) zN⟩⟩
 |2,_=>exact⟨ab,cb,fun W hb=>⟨(k1.below hb k1.lt).cell 2,HVB.below (zT o hb) zN⟩⟩
theorem zdo{w3:World}{B i n:Nat}{acc:List Nat}{v':Value}(hi:i<=acc.length)(hown:w3.ownsRow B 3 1 v' (acc.length+1) (zA acc++[.int .i64 0])) :
  ∃(g cap:Nat) (cur CS:List Value),v'=.slice (some g) (acc.length+1) cap/\B<=g/\acc.length+1<=cap/\w3.heap[g]?=some (.cells cur.toArray 3 (0,0)) /\
   (∀w4:World,w4.heap[g]?=some (.cells (splice cur (i+1) CS).toArray 3 (0,0))->(∃u,w4.cell? ⟨g,i,none⟩=some u)/\w4.frozen? ⟨g,i,none⟩=false/\(w4.setCell ⟨g,i,none⟩ (.int .i64 n)).ownsRow B 3 1 (.slice (some g) (acc.length+1) cap) (acc.length+1) (zA (acc.take i++n :: acc.drop i))) /\
   (∀j v,CS[j]?=some v->w3.cell? ⟨g,i+j,none⟩=some v)/\(∀v∈CS,v.oneCell'=true)/\CS.length=Nat.min (acc.length+1-i) (acc.length+1-(i+1))/\(i+1)+CS.length<=cur.length:=by
 rcases hown.2 with ⟨_,C⟩|⟨g,cap,cur,rfl,o,hg,q,J,K,y⟩
 ·exact absurd C (by simp)
 have p:((zA acc).drop i).length=acc.length-i:=by rw[List.length_drop,Z4]
 have hsz':cur.toList.length=cap:=by simpa using K
 refine⟨g,cap,cur.toList,(zA acc).drop i,rfl,o,q,hg,fun w4 h4=>zju hi o q J hsz' (by simpa using y) h4,fun j v hv=>?_,fun v hv=>?_,?_,?_⟩
 ·have hj:i+j<acc.length:=by have:=(List.getElem?_eq_some_iff.1 hv).1;rw[List.length_drop,Z4] at this;omega
  rw[(show Blk w3 g 3 cur from hg).cell,<-hv,List.getElem?_drop,<-Array.getElem?_toList,show cur.toList[i+j]?=(cur.toList.take ((acc.length+1)*1))[i+j]? by rw[List.getElem?_take,zA2 (by omega)],y,List.getElem?_append_left (by rw[Z4];omega)]
 ·obtain⟨x,_,rfl⟩:=List.mem_map.1 (List.mem_of_mem_drop hv);rfl
 ·rw[p];show _=min _ _;omega
 ·rw[p,hsz'];omega
end
section
open Go.RowKit Sv
theorem zaW(a b:List Nat)(va vb:Value)(F:Nat)(rule:Bool->Bool->Bool)(w:World)(hva:zG w va a)(hvb:zG w vb b)(hla:a.length<=1000000000)(hlb:b.length<=1000000000)
  (hent:∀aM w,(callFunc F aM).run Tryz.prog w=.ok (.enter F aM) w)
  (hrule:∀x y W,zC F #[.bool x,.bool y] W fun e w'=>e=.returned (.bool (rule x y))/\w'=W) :
  zC 152 #[va,vb,.func (.func F) #[] #[]] w (yE w (Qn a b rule)):=by
 obtain⟨i0,aP,aQ,aR,aS⟩:=info_parts zkr;obtain⟨aa,ca,rfl⟩:=hva.form;obtain⟨ab,cb,rfl⟩:=hvb.form;have aW:=zH hva;have aY:=zH hvb;have HR:=zH hrule;clear hva hvb hrule;go_enter Tryz.func152,Tryz.ntmps152;go_wp2_with fail;obtain⟨W0,b3⟩:∃W0,(w.alloc (.cells #[(0:Int),(1000000000:Int)] 3)).alloc (.cells #[.slice (some w.heap.size) 2 2,.slice aa a.length ca,.slice ab b.length cb] 82)=W0:=⟨_,rfl⟩;obtain⟨bb,hX⟩:=zml a b aa ab ca cb w W0 b3 aW.out aY.out;have aI:=zH bb;have HX:=zH hX;have aX:Hid (∀W,zB W0 W->zG W (.slice aa a.length ca) a):=fun W hb=>aW.out.below (zT aI.out hb) zN;have aZ:Hid (∀W,zB W0 W->zG W (.slice ab b.length cb) b):=fun W hb=>aY.out.below (zT aI.out hb) zN;rw[b3];clear b3 aW aY bb hX;go_loopw [7,23] (fun aV jV wr=>∃j:Nat,j<=3/\jV=.int .i64 j/\wr.ownsRow W0.heap.size 3 1 aV (yS a b j).length (zA (yS a b j))/\zB W0 wr) (fun _ jV _=>3-(intOf jV).toNat)
 case atStart=>exact⟨0,Nat.zero_le _,rfl,World.ownsRow_nil _ _ _ _,Below.refl _ _⟩
 case round =>
  obtain⟨j,hj,rfl,a5,aF⟩:=hrel;obtain⟨ra,rc,rfl⟩:=zbg a5;have U:=zH a5;have ag:=zH aF;have ay:=aF.size;clear a5 aF
  by_cases hlt:j<3
  ·obtain⟨x,c,hx⟩:=HX.out j hlt;have bD:(Zg a b j).length<=1000000000:=znT a b hla hlb j;have b4:∀k,(q7 (yS a b j) ((Zg a b j).take k)).length<=2000000002:=fun k=>by have:=ziC a b j k hlt;omega
   have HJ:Hid (yS a b (j+1)=q7 (yS a b j) (Zg a b j)):=rfl;have bi:=zH hx;have be:=zH b4;have cj:=(hx wr ag.out).1;clear hx b4;generalize bq:yS a b j=acc0 at *;generalize bt:Zg a b j=X at *;go_wp2_with fail;rw[show decide ((j:Int)<3)=true from decide_eq_true (by omega)];go_loopw [7,29] (fun aV kV wr=>∃k:Nat,k<=X.length/\kV=.int .i64 k/\wr.ownsRow W0.heap.size 3 1 aV (q7 acc0 (X.take k)).length (zA (q7 acc0 (X.take k)))/\zB W0 wr) (fun _ kV _=>X.length-(intOf kV).toNat)
   case atStart=>exact⟨0,Nat.zero_le _,rfl,by simpa[q7] using U.out,ag.out⟩
   case round =>
    clear U ag ay cj;obtain⟨k,hk,rfl,a5,aF⟩:=hrel;obtain⟨ra,rc,rfl⟩:=zbg a5;have U:=zH a5;have ag:=zH aF;have ay:=aF.size;clear a5 aF
    by_cases hlt2:k<X.length
    ·obtain⟨g1,c1,e1,bu,b0⟩:=(bi.out wr ag.out).2.cells k hlt2;simp at e1;obtain⟨rfl,rfl⟩:=e1;have aw:=be.out k;have aT:=zH (zhr acc0 X k hlt2);generalize bj:q7 acc0 (X.take k)=o at *;generalize bA:nv X k=n at *;go_wp2_with fail
     try rw[show decide ((k:Int)<(X.length:Int))=true from decide_eq_true (by omega)]
     go_loopw [12] (fun iV bp=>∃i:Nat,i<=o.length/\iV=.int .i64 i/\qS o n o.length=qS o n i/\bp=wr) (fun iV _=>(intOf iV).toNat)
     case atStart=>exact⟨o.length,Nat.le_refl _,rfl,rfl,rfl⟩
     case round =>
      obtain⟨i,hi,rfl,hp,rfl⟩:=hrel
      by_cases bd:i=0
      ·have HP:Hid (qS o n o.length=i):=by rw[bd] at hp ⊢;exact hp
       have hi0':¬(0:Int)<(i:Int):=by omega
       clear hp bd;go_wp2_with (at_builtin;refine wpList_append_own _ rfl _ _ 23 rfl W0.heap.size 3 i0 (.int .i64 0) 1 8 Tryz.underlying23 aP aQ aR aS rfl (by decide) _ _ _ rfl (U.out.alloc _) wr.heap.size 1 1 [.int .i64 0] rfl rfl (X9 _ _ _) ?c2 ?c3 ?c4 ?c5 ?_)
       case c2=>first|rfl|(intro u hu;simp at hu;subst hu;rfl)
       case c3=>unfold maxLen;omega
       case c4=>omega
       case c5=>first|omega|(simp;omega)
       intro v' w3 C q _;have ah:zB W0 w3:=(ag.out.alloc ay _).grown q (by simp;omega) (fun j hj=>(U.out.lt j hj).1);obtain⟨g,a6,aA,CS,rfl,aj,bm,aN,a4,a2,a7,af,a3⟩:=zdo (i:=i) (n:=n) hi C;obtain⟨I1,aq⟩:∃I1:Nat,I1=i+1:=⟨_,rfl⟩;rw[<-aq] at a4 af a3;have bo:IntKind.i64.wrap ((i:Int)+1)=(I1:Int):=by rw[aq];rw[IntKind.wrap_i64];omega
       have bn:I1<=o.length+1:=by omega
       have b8:(I1:Int)<=(o.length:Int)+1:=by omega
       have bl:(i:Int)<=(o.length:Int)+1:=by omega
       have HG:=zH aN;have Z:=zH a4;have K:=zH a2;have a0:=zH a7;have ac:=zH af;have V:=zH a3;have av:=zH ah;have ae:Hid (q7 acc0 (X.take (k+1))=o.take i++n :: o.drop i):=by show _=_;rw[aT.out];unfold xo;rw[HP.out]
       have aD:Hid ((o.take i++n :: o.drop i).length=o.length+1):=by show _=_;rw[List.length_append,List.length_cons,List.length_take,List.length_drop];omega
       have ai:Hid (zB W0 w3.drew):=av.out.drew;clear C q ah aT HP U ag aN a4 a2 a7 af a3
       by_cases hend:i<o.length
       ·have bk:¬a6=I1:=by omega
        have b6:¬a6=i:=by omega
        have J:Hid (∀(dp sp:Option Addr),dp=some ⟨g,I1,none⟩->sp=some ⟨g,i,none⟩->0<CS.length->dp=some ⟨g,I1,none⟩/\∃ad:Addr,sp=some ad/\∀j v,CS[j]?=some v->w3.drew.cell? (ad.add j)=some v):=fun _ _ h1 h2 _=>⟨h1,⟨g,i,none⟩,h2,fun j v hv=>by have h7:=K.out j v hv;show w3.cell? (Addr.add ⟨g,i,none⟩ j)=_;rw[<-h7];congr 1;unfold Addr.add;split<;>simp_all⟩
        clear aq;go_wp2_with fail;go_region_held_law (fun _=>True) (exact trivial) (first|(refine step_copy_splice rfl (.tmp 54) (.tmp 57) 23 23 rfl 3 Tryz.underlying23 YJ (some ⟨g,I1,none⟩) (some ⟨g,i,none⟩) (o.length+1-I1) (a6-I1) (o.length+1-i) (a6-i) rfl rfl g I1 aA 3 HG.out CS ac.out (J.out _ _ rfl rfl) V.out a0.out W0.heap.size W0 ai.out aj ?_;intro w4 a9 a8));obtain⟨⟨u4,q1⟩,q2,q3⟩:=Z.out w4 a9.out;have an:=zH q3;have am:Hid (zB W0 (w4.setCell ⟨g,i,none⟩ (.int .i64 n))):=a8.setCell (p:=⟨g,i,none⟩) aj _;clear q3 a9 a8 Z HG av ac V a0 K J ai;go_wp2;go_roundw
        case rel=>exact⟨k+1,by omega,by go_num,by rw[ae.out,aD.out];exact an.out,am.out⟩
        case measure=>simp[intOf];omega
       ·have J:Hid (∀(dp sp:Option Addr),0<CS.length->dp=some ⟨g,I1,none⟩/\∃ad:Addr,sp=some ad/\∀j v,CS[j]?=some v->w3.drew.cell? (ad.add j)=some v):=fun _ _ h=>by have h7:=ac.out;rw[h7] at h;exact absurd h (by show ¬0<min _ _;omega)
        have b6:¬a6=i:=by omega
        by_cases hcc:a6=I1
        ·subst hcc;have aE:Hid (CS.length=Nat.min (o.length+1-i) 0):=by show _=_;rw[ac.out,show o.length+1-a6=0 by omega]
         clear aq;go_wp2_with fail;go_region_held_law (fun _=>True) (exact trivial) (first|(refine step_copy_splice rfl (.tmp 54) (.tmp 57) 23 23 rfl 3 Tryz.underlying23 YJ _ _ _ _ _ _ rfl rfl g a6 aA 3 HG.out CS aE.out (J.out _ _) V.out a0.out W0.heap.size W0 ai.out aj ?_;intro w4 a9 a8));obtain⟨⟨u4,q1⟩,q2,q3⟩:=Z.out w4 a9.out;have an:=zH q3;have am:Hid (zB W0 (w4.setCell ⟨g,i,none⟩ (.int .i64 n))):=a8.setCell (p:=⟨g,i,none⟩) aj _;clear q3 a9 a8 Z HG av ac V a0 K J ai;go_wp2;go_roundw
         case rel=>exact⟨k+1,by omega,by go_num,by rw[ae.out,aD.out];exact an.out,am.out⟩
         case measure=>simp[intOf];omega
        ·clear aq;go_wp2_with fail;go_region_held_law (fun _=>True) (exact trivial) (first|(refine step_copy_splice rfl (.tmp 54) (.tmp 57) 23 23 rfl 3 Tryz.underlying23 YJ _ _ _ _ _ _ rfl rfl g I1 aA 3 HG.out CS ac.out (J.out _ _) V.out a0.out W0.heap.size W0 ai.out aj ?_;intro w4 a9 a8));obtain⟨⟨u4,q1⟩,q2,q3⟩:=Z.out w4 a9.out;have an:=zH q3;have am:Hid (zB W0 (w4.setCell ⟨g,i,none⟩ (.int .i64 n))):=a8.setCell (p:=⟨g,i,none⟩) aj _;clear q3 a9 a8 Z HG av ac V a0 K J ai;go_wp2;go_roundw
         case rel=>exact⟨k+1,by omega,by go_num,by rw[ae.out,aD.out];exact an.out,am.out⟩
         case measure=>simp[intOf];omega
      ·obtain⟨i',b7⟩:∃i',i'+1=i:=⟨i-1,by omega⟩;obtain⟨g2,c2,e2,bv,b1⟩:=(JN U.out).cells i' (by omega);simp at e2;obtain⟨rfl,rfl⟩:=e2;have h1:(i:Int)-1=(i':Int):=by omega
       have bB:0<i:=by omega
       have bz:i'<o.length:=by omega
       have HI':=zH b7;rw[<-b7] at hp;clear b7
       by_cases hgt:n<nv o i'
       ·have bg:Hid (qS o n o.length=qS o n i'):=hp.trans (zA2 (show n<o.getD i' 0 from hgt));clear hp;generalize nv o i'=Y at *;go_wp2;go_roundw
        case rel=>exact⟨i',by omega,by go_num,bg.out,trivial⟩
        case measure=>have:=HI'.out;simp[intOf];omega
       ·have HP:Hid (qS o n o.length=i):=(hp.trans (zA1 (show ¬n<o.getD i' 0 from hgt))).trans HI'.out;clear hp;generalize nv o i'=Y at *;go_wp2_with (at_builtin;refine wpList_append_own _ rfl _ _ 23 rfl W0.heap.size 3 i0 (.int .i64 0) 1 8 Tryz.underlying23 aP aQ aR aS rfl (by decide) _ _ _ rfl (U.out.alloc _) wr.heap.size 1 1 [.int .i64 0] rfl rfl (X9 _ _ _) ?c2 ?c3 ?c4 ?c5 ?_)
        case c2=>first|rfl|(intro u hu;simp at hu;subst hu;rfl)
        case c3=>unfold maxLen;omega
        case c4=>omega
        case c5=>first|omega|(simp;omega)
        intro v' w3 C q _;have ah:zB W0 w3:=(ag.out.alloc ay _).grown q (by simp;omega) (fun j hj=>(U.out.lt j hj).1);obtain⟨g,a6,aA,CS,rfl,aj,bm,aN,a4,a2,a7,af,a3⟩:=zdo (i:=i) (n:=n) hi C;obtain⟨I1,aq⟩:∃I1:Nat,I1=i+1:=⟨_,rfl⟩;rw[<-aq] at a4 af a3;have bo:IntKind.i64.wrap ((i:Int)+1)=(I1:Int):=by rw[aq];rw[IntKind.wrap_i64];omega
        have bn:I1<=o.length+1:=by omega
        have b8:(I1:Int)<=(o.length:Int)+1:=by omega
        have bl:(i:Int)<=(o.length:Int)+1:=by omega
        have HG:=zH aN;have Z:=zH a4;have K:=zH a2;have a0:=zH a7;have ac:=zH af;have V:=zH a3;have av:=zH ah;have ae:Hid (q7 acc0 (X.take (k+1))=o.take i++n :: o.drop i):=by show _=_;rw[aT.out];unfold xo;rw[HP.out]
        have aD:Hid ((o.take i++n :: o.drop i).length=o.length+1):=by show _=_;rw[List.length_append,List.length_cons,List.length_take,List.length_drop];omega
        have ai:Hid (zB W0 w3.drew):=av.out.drew;clear C q ah aT HP U ag aN a4 a2 a7 af a3
        by_cases hend:i<o.length
        ·have bk:¬a6=I1:=by omega
         have b6:¬a6=i:=by omega
         have J:Hid (∀(dp sp:Option Addr),dp=some ⟨g,I1,none⟩->sp=some ⟨g,i,none⟩->0<CS.length->dp=some ⟨g,I1,none⟩/\∃ad:Addr,sp=some ad/\∀j v,CS[j]?=some v->w3.drew.cell? (ad.add j)=some v):=fun _ _ h1 h2 _=>⟨h1,⟨g,i,none⟩,h2,fun j v hv=>by have h7:=K.out j v hv;show w3.cell? (Addr.add ⟨g,i,none⟩ j)=_;rw[<-h7];congr 1;unfold Addr.add;split<;>simp_all⟩
         clear aq;go_wp2_with fail;go_region_held_law (fun _=>True) (exact trivial) (first|(refine step_copy_splice rfl (.tmp 54) (.tmp 57) 23 23 rfl 3 Tryz.underlying23 YJ (some ⟨g,I1,none⟩) (some ⟨g,i,none⟩) (o.length+1-I1) (a6-I1) (o.length+1-i) (a6-i) rfl rfl g I1 aA 3 HG.out CS ac.out (J.out _ _ rfl rfl) V.out a0.out W0.heap.size W0 ai.out aj ?_;intro w4 a9 a8));obtain⟨⟨u4,q1⟩,q2,q3⟩:=Z.out w4 a9.out;have an:=zH q3;have am:Hid (zB W0 (w4.setCell ⟨g,i,none⟩ (.int .i64 n))):=a8.setCell (p:=⟨g,i,none⟩) aj _;clear q3 a9 a8 Z HG av ac V a0 K J ai;go_wp2;go_roundw
         case rel=>exact⟨k+1,by omega,by go_num,by rw[ae.out,aD.out];exact an.out,am.out⟩
         case measure=>simp[intOf];omega
        ·have J:Hid (∀(dp sp:Option Addr),0<CS.length->dp=some ⟨g,I1,none⟩/\∃ad:Addr,sp=some ad/\∀j v,CS[j]?=some v->w3.drew.cell? (ad.add j)=some v):=fun _ _ h=>by have h7:=ac.out;rw[h7] at h;exact absurd h (by show ¬0<min _ _;omega)
         have b6:¬a6=i:=by omega
         by_cases hcc:a6=I1
         ·subst hcc;have aE:Hid (CS.length=Nat.min (o.length+1-i) 0):=by show _=_;rw[ac.out,show o.length+1-a6=0 by omega]
          clear aq;go_wp2_with fail;go_region_held_law (fun _=>True) (exact trivial) (first|(refine step_copy_splice rfl (.tmp 54) (.tmp 57) 23 23 rfl 3 Tryz.underlying23 YJ _ _ _ _ _ _ rfl rfl g a6 aA 3 HG.out CS aE.out (J.out _ _) V.out a0.out W0.heap.size W0 ai.out aj ?_;intro w4 a9 a8));obtain⟨⟨u4,q1⟩,q2,q3⟩:=Z.out w4 a9.out;have an:=zH q3;have am:Hid (zB W0 (w4.setCell ⟨g,i,none⟩ (.int .i64 n))):=a8.setCell (p:=⟨g,i,none⟩) aj _;clear q3 a9 a8 Z HG av ac V a0 K J ai;go_wp2;go_roundw
          case rel=>exact⟨k+1,by omega,by go_num,by rw[ae.out,aD.out];exact an.out,am.out⟩
          case measure=>simp[intOf];omega
         ·clear aq;go_wp2_with fail;go_region_held_law (fun _=>True) (exact trivial) (first|(refine step_copy_splice rfl (.tmp 54) (.tmp 57) 23 23 rfl 3 Tryz.underlying23 YJ _ _ _ _ _ _ rfl rfl g I1 aA 3 HG.out CS ac.out (J.out _ _) V.out a0.out W0.heap.size W0 ai.out aj ?_;intro w4 a9 a8));obtain⟨⟨u4,q1⟩,q2,q3⟩:=Z.out w4 a9.out;have an:=zH q3;have am:Hid (zB W0 (w4.setCell ⟨g,i,none⟩ (.int .i64 n))):=a8.setCell (p:=⟨g,i,none⟩) aj _;clear q3 a9 a8 Z HG av ac V a0 K J ai;go_wp2;go_roundw
          case rel=>exact⟨k+1,by omega,by go_num,by rw[ae.out,aD.out];exact an.out,am.out⟩
          case measure=>simp[intOf];omega
    ·obtain rfl:k=X.length:=by omega
     have aL:Hid (wr.ownsRow W0.heap.size 3 1 (.slice ra (yS a b (j+1)).length rc) (yS a b (j+1)).length (zA (yS a b (j+1)))):=by
      show World.ownsRow _ _ _ _ _ _ _;rw[HJ.out];have h7:=U.out;rw[List.take_length] at h7;exact h7
     have bf:Hid ((q7 acc0 (X.take X.length)).length=(yS a b (j+1)).length):=by show _=_;rw[HJ.out,List.take_length]
     clear U;rw[bf.out];go_wp2;go_roundw
     case rel=>exact⟨j+1,by omega,by go_num,aL.out,ag.out⟩
     case measure=>simp[intOf];omega
  ·have e3:yS a b j=Z7 a b:=by
    obtain rfl:j=3:=by omega
    rfl
   rw[e3] at U ⊢;clear e3;have bC:(Z7 a b).length<=2000000002:=by rw[zi4];omega
   have ba:Hid (Qn a b rule=qT (ZS a b rule) false (Z7 a b)):=rfl;have bh:Hid (∀n:Nat,ZS a b rule n=(decide (n<ALL)&&rule (inP a n) (inP b n))):=fun _=>rfl;generalize hP:Z7 a b=P at *;generalize hM:Qn a b rule=M at *;generalize bs:ZS a b rule=R at *
   rename World=>w9
   have br:M.length<=P.length:=by rw[ba.out];exact zpp _ _ _
   go_wp2_with fail
   try rw[show decide ((j:Int)<3)=false from decide_eq_false (by omega)]
   go_loopw [13,14,67] (fun oV sV kV wr=>∃(k:Nat) (o:List Nat) (is:Bool),k<=P.length/\kV=.int .i64 k/\sV=.bool is/\o++qT R is (P.drop k)=M/\wr.ownsRow w9.heap.size 3 1 oV o.length (zA o)/\zB w9 wr) (fun _ _ kV _=>P.length-(intOf kV).toNat)
   case atStart=>exact⟨0,[],false,Nat.zero_le _,rfl,rfl,by rw[ba.out];rfl,World.ownsRow_nil _ _ _ _,Below.refl _ _⟩
   case round =>
    obtain⟨k,o,is,hk,rfl,rfl,aG,a5,b5⟩:=hrel;obtain⟨oa,oc,rfl⟩:=zbg a5;have b4:o.length<=M.length:=by rw[<-aG];simp
    have au:=zH a5;have az:=zH b5;have ao:=zH aG;have b9:=b5.size;clear a5 b5 aG
    by_cases hlt3:k<P.length
    ·obtain⟨g3,c3,e3,bw,xr⟩:=(JN U.out).cells k hlt3;simp at e3;obtain⟨rfl,rfl⟩:=e3;have cz:=(az.out.cell (p:=⟨g3,k,none⟩) (by show g3<_;omega)).trans xr;have b2:zB W0 wr:=zT ag.out az.out;have aB:=zH (JS a (nv P k) _ wr (aX.out wr b2) (by omega));have aC:=zH (JS b (nv P k) _ wr (aZ.out wr b2) (by omega));have ap:=zH (HR.out (inP a (nv P k)) (inP b (nv P k)) wr);have ar:=bh.out (nv P k);clear b2
     by_cases ax:nv P k<ALL
     ·have hall':(nv P k:Int)<1000000000:=by unfold ALL at ax;omega
      rw[decide_eq_true ax,Bool.true_and] at ar;rw[<-ar] at ap
      by_cases hsame:R (nv P k)=is
      ·have ak:Hid (o++qT R is (P.drop (k+1))=M):=by show _=_;rw[<-ze9 hlt3 hsame];exact ao.out
       rw[hsame] at ap;clear ar hsame ao;generalize inP a (nv P k)=X1 at *;generalize inP b (nv P k)=X2 at *;generalize nv P k=N at *;go_wp2_with fail;refine aB.out.mono ?_;rintro e w1 ⟨rfl,a1⟩;rw[a1];clear a1;go_wp2_with fail;refine aC.out.mono ?_;rintro e w1 ⟨rfl,a1⟩;rw[a1];clear a1;go_wp2_with fail;refine ap.out.mono ?_;rintro e w1 ⟨rfl,a1⟩;rw[a1];clear a1;clear aB aC ap;go_wp2;go_roundw
       case rel=>exact⟨k+1,o,is,by omega,by go_num,rfl,ak.out,au.out,az.out⟩
       case measure=>simp[intOf];omega
      ·have aH:=zdB hlt3 hsame;have ak:Hid ((o++[nv P k])++qT R (R (nv P k)) (P.drop (k+1))=M):=by show _=_;rw[List.append_assoc,List.singleton_append,<-aH];exact ao.out
       have aw:(o++[nv P k]).length<=M.length:=by rw[<-ak.out];simp
       simp at aw;cases is with
       |false =>
        have aO:R (nv P k)=true:=by simpa using hsame
        rw[aO] at ak ap;clear ar hsame ao aH aO;generalize inP a (nv P k)=X1 at *;generalize inP b (nv P k)=X2 at *;generalize nv P k=N at *;go_wp2_with fail;refine aB.out.mono ?_;rintro e w1 ⟨rfl,a1⟩;rw[a1];clear a1;go_wp2_with fail;refine aC.out.mono ?_;rintro e w1 ⟨rfl,a1⟩;rw[a1];clear a1;go_wp2_with fail;refine ap.out.mono ?_;rintro e w1 ⟨rfl,a1⟩;rw[a1];clear a1;clear aB aC ap;go_wp2_with (at_builtin;refine wpList_append_own _ rfl _ _ 82 rfl w9.heap.size 3 i0 (.int .i64 0) 1 8 Tryz.underlying82 aP aQ aR aS rfl (by decide) _ _ _ rfl (au.out.alloc _) wr.heap.size 1 1 [.int .i64 N] rfl rfl (X9 _ _ _) ?d2 ?d3 ?d4 ?d5 ?_)
        case d2=>first|rfl|(intro u hu;simp at hu;subst hu;rfl)
        case d3=>unfold maxLen;omega
        case d4=>omega
        case d5=>first|omega|(simp;omega)
        intro v' w3 C q _;have ah:zB w9 w3:=(az.out.alloc b9 _).grown q (by simp;omega) (fun j hj=>(au.out.lt j hj).1);have e7:(o++[N]).length=o.length+1:=by simp
        have es:zA (o++[N])=zA o++[.int .i64 N]:=XP _ _;rw[<-es,<-e7] at C;have aK:=zH C;have aJ:=zH ah;clear C q ah e7 es;go_wp2;go_roundw
        case rel=>exact⟨k+1,o++[N],true,by omega,by go_num,rfl,ak.out,aK.out,aJ.out⟩
        case measure=>simp[intOf];omega
       |true =>
        have aO:R (nv P k)=false:=by simpa using hsame
        rw[aO] at ak ap;clear ar hsame ao aH aO;generalize inP a (nv P k)=X1 at *;generalize inP b (nv P k)=X2 at *;generalize nv P k=N at *;go_wp2_with fail;refine aB.out.mono ?_;rintro e w1 ⟨rfl,a1⟩;rw[a1];clear a1;go_wp2_with fail;refine aC.out.mono ?_;rintro e w1 ⟨rfl,a1⟩;rw[a1];clear a1;go_wp2_with fail;refine ap.out.mono ?_;rintro e w1 ⟨rfl,a1⟩;rw[a1];clear a1;clear aB aC ap;go_wp2_with (at_builtin;refine wpList_append_own _ rfl _ _ 82 rfl w9.heap.size 3 i0 (.int .i64 0) 1 8 Tryz.underlying82 aP aQ aR aS rfl (by decide) _ _ _ rfl (au.out.alloc _) wr.heap.size 1 1 [.int .i64 N] rfl rfl (X9 _ _ _) ?d2 ?d3 ?d4 ?d5 ?_)
        case d2=>first|rfl|(intro u hu;simp at hu;subst hu;rfl)
        case d3=>unfold maxLen;omega
        case d4=>omega
        case d5=>first|omega|(simp;omega)
        intro v' w3 C q _;have ah:zB w9 w3:=(az.out.alloc b9 _).grown q (by simp;omega) (fun j hj=>(au.out.lt j hj).1);have e7:(o++[N]).length=o.length+1:=by simp
        have es:zA (o++[N])=zA o++[.int .i64 N]:=XP _ _;rw[<-es,<-e7] at C;have aK:=zH C;have aJ:=zH ah;clear C q ah e7 es;go_wp2;go_roundw
        case rel=>exact⟨k+1,o++[N],false,by omega,by go_num,rfl,ak.out,aK.out,aJ.out⟩
        case measure=>simp[intOf];omega
     ·have hall':¬(nv P k:Int)<1000000000:=by unfold ALL at ax;omega
      rw[decide_eq_false ax,Bool.false_and] at ar;clear aB aC ap;cases is with
      |false =>
       have ak:Hid (o++qT R false (P.drop (k+1))=M):=by show _=_;rw[<-ze9 hlt3 ar];exact ao.out
       clear ar ao;generalize nv P k=N at *;go_wp2;go_roundw
       case rel=>exact⟨k+1,o,false,by omega,by go_num,rfl,ak.out,au.out,az.out⟩
       case measure=>simp[intOf];omega
      |true =>
       have aH:=zdB (f:=R) (is:=true) hlt3 (by rw[ar];decide);rw[ar] at aH;have ak:Hid ((o++[nv P k])++qT R false (P.drop (k+1))=M):=by show _=_;rw[List.append_assoc,List.singleton_append,<-aH];exact ao.out
       have aw:(o++[nv P k]).length<=M.length:=by rw[<-ak.out];simp
       simp at aw;clear ar ao aH;generalize nv P k=N at *;go_wp2_with (at_builtin;refine wpList_append_own _ rfl _ _ 82 rfl w9.heap.size 3 i0 (.int .i64 0) 1 8 Tryz.underlying82 aP aQ aR aS rfl (by decide) _ _ _ rfl (au.out.alloc _) wr.heap.size 1 1 [.int .i64 N] rfl rfl (X9 _ _ _) ?d2 ?d3 ?d4 ?d5 ?_)
       case d2=>first|rfl|(intro u hu;simp at hu;subst hu;rfl)
       case d3=>unfold maxLen;omega
       case d4=>omega
       case d5=>first|omega|(simp;omega)
       intro v' w3 C q _;have ah:zB w9 w3:=(az.out.alloc b9 _).grown q (by simp;omega) (fun j hj=>(au.out.lt j hj).1);have e7:(o++[N]).length=o.length+1:=by simp
       have es:zA (o++[N])=zA o++[.int .i64 N]:=XP _ _;rw[<-es,<-e7] at C;have aK:=zH C;have aJ:=zH ah;clear C q ah e7 es;go_wp2;go_roundw
       case rel=>exact⟨k+1,o++[N],false,by omega,by go_num,rfl,ak.out,aK.out,aJ.out⟩
       case measure=>simp[intOf];omega
    ·obtain rfl:k=P.length:=by omega
     have bc:o=M:=by rw[<-ao.out,List.drop_length,qT,List.append_nil]
     have aU:Hid (yE w M (.returned (.slice oa o.length oc)) wr):=by
      rw[<-bc];exact⟨oa,oc,rfl,JN au.out,fun g hg=>Nat.le_trans (Nat.le_trans aI.out.size ag.out.size) (au.out.lt g hg).1,(zT aI.out ag.out).trans (az.out.mono (Nat.le_trans aI.out.size ag.out.size))⟩
     clear bc ao;go_wp2;go_ret;exact aU.out
end
section
open Go.RowKit Sv
theorem znO:∀j w,(callFunc 154 j).run Tryz.prog w=.ok (.enter 154 j) w:=by intro j w;kernel_rfl
theorem zo8:∀j w,(callFunc 153 j).run Tryz.prog w=.ok (.enter 153 j) w:=by intro j w;kernel_rfl
theorem zm7:∀j w,(callFunc 194 j).run Tryz.prog w=.ok (.enter 194 j) w:=by intro j w;kernel_rfl
theorem znl(x y:Bool)(W:World):zC 154 #[x,y] W fun e w'=>e=.returned (.bool (x||y))/\w'=W:=by
 cases x
 ·go_enter Tryz.func154,Tryz.ntmps154;go_wp2;go_ret;exact⟨rfl,rfl⟩
 ·go_enter Tryz.func154,Tryz.ntmps154;go_wp2;go_ret;exact⟨rfl,rfl⟩
theorem zjk(x y:Bool)(W:World):zC 153 #[x,y] W fun e w'=>e=.returned (.bool (x&&y))/\w'=W:=by
 cases x
 ·go_enter Tryz.func153,Tryz.ntmps153;go_wp2;go_ret;exact⟨rfl,rfl⟩
 ·go_enter Tryz.func153,Tryz.ntmps153;go_wp2;go_ret;exact⟨rfl,rfl⟩
theorem zj8(x y:Bool)(W:World):zC 194 #[x,y] W fun e w'=>e=.returned (.bool (!x))/\w'=W:=by
 go_enter Tryz.func194,Tryz.ntmps194;go_wp2;go_ret;exact⟨rfl,rfl⟩
theorem YC{l:List zf}(h:Rg l):(tp l).length<=1000000000:=by have:=Yf h;rw[Kd];omega
theorem zpz(l m:List zf)(hl:Rg l)(hm:Rg m)(v u:Value)(w:World)(hv:zG w v (tp l))(hu:zG w u (tp m)) :
  zC 107 #[v,u] w (yE w (tp (orr l m))):=by
 have H:=zH (zaW (tp l) (tp m) v u 154 (fun x y=>x||y) w hv hu (YC hl) (YC hm) znO znl);rw[zo9 hl hm] at H;obtain⟨a,c,rfl⟩:=hv.form;obtain⟨a',c',rfl⟩:=hu.form;clear hv hu;generalize (tp l).length=n1 at *;generalize (tp m).length=n2 at *;generalize tp (orr l m)=R at *;go_enter Tryz.func107,Tryz.ntmps107;go_wp2_with fail;refine H.out.mono ?_;rintro e w' ⟨b,d,rfl,h1,h2,h3⟩;have H1:=zH h1;have H2:=zH h2;have H3:=zH h3;clear h1 h2 h3;go_wp2;go_ret;exact⟨b,d,rfl,H1.out,H2.out,H3.out⟩
theorem znU(l m:List zf)(hl:Rg l)(hm:Rg m)(v u:Value)(w:World)(hv:zG w v (tp l))(hu:zG w u (tp m)) :
  zC 106 #[v,u] w (yE w (tp (nd l m))):=by
 have H:=zH (zaW (tp l) (tp m) v u 153 (fun x y=>x&&y) w hv hu (YC hl) (YC hm) zo8 zjk);rw[zgT hl hm] at H;obtain⟨a,c,rfl⟩:=hv.form;obtain⟨a',c',rfl⟩:=hu.form;clear hv hu;generalize (tp l).length=n1 at *;generalize (tp m).length=n2 at *;generalize tp (nd l m)=R at *;go_enter Tryz.func106,Tryz.ntmps106;go_wp2_with fail;refine H.out.mono ?_;rintro e w' ⟨b,d,rfl,h1,h2,h3⟩;have H1:=zH h1;have H2:=zH h2;have H3:=zH h3;clear h1 h2 h3;go_wp2;go_ret;exact⟨b,d,rfl,H1.out,H2.out,H3.out⟩
theorem zhA(l:List zf)(hl:Rg l)(v:Value)(w:World)(hv:zG w v (tp l)) :
  zC 151 #[v] w (yE w (tp (nt l))):=by
 have H:=zH (zaW (tp l) [] v (.slice none 0 0) 194 (fun x _=>!x) w hv (xD w) (YC hl) (Nat.zero_le _) zm7 zj8);rw[zlc hl] at H;obtain⟨a,c,rfl⟩:=hv.form;clear hv;generalize (tp l).length=n1 at *;generalize tp (nt l)=R at *;go_enter Tryz.func151,Tryz.ntmps151;go_wp2_with fail;refine H.out.mono ?_;rintro e w' ⟨b,d,rfl,h1,h2,h3⟩;have H1:=zH h1;have H2:=zH h2;have H3:=zH h3;clear h1 h2 h3;go_wp2;go_ret;exact⟨b,d,rfl,H1.out,H2.out,H3.out⟩
end
section
open Go.RowKit Go.Shelf Go.Sort Sv
def QO(l:List UInt8):Option Int :=
 match Lib.parseIntB 64 l with
 |.ok v=>if Lib.itoa v=l then some v else none
 |_=>none
def XZ:Option Int->Value
 |some v=>.tuple #[v,true]
 |none=>.tuple #[(0:Int),false]
theorem zfm(s:ByteArray)(w:World)(hs:s.size<=100000)(hw:Lb w)(h:∀v,Lib.parseIntB 64 s.data.toList≠.ok v) :
  zR 103 #[s] w (.tuple #[(0:Int),false]):=by
 have H:Hid (zC 148 #[s,(10:Int),(64:Int)] w fun e w'=>∃N x,e=.returned (.tuple #[.int .i64 x,.iface 331 (.pointer (some ⟨N,0,none⟩))])/\zB w w'):=by
  cases hp:Lib.parseIntB 64 s.data.toList with
  |ok v=>exact absurd hp (h v)
  |«syntax» =>obtain⟨ev,h3,j⟩:=hw.es;exact(Tryz.strconv_ParseInt_10_at64_syntax s (by omega) hp ev w h3 j).mono fun e w' ⟨N,he,_,_,hb⟩=>⟨N,_,he,hb⟩
  |range =>obtain⟨ev,h3,j⟩:=hw.er;exact(Tryz.strconv_ParseInt_10_at64_range s (by omega) hp ev w h3 j).mono fun e w' ⟨N,he,_,_,hb⟩=>⟨N,_,he,hb⟩
 clear h hw;go_enter Tryz.func103,Tryz.ntmps103;go_wp2_with fail;refine H.out.mono ?_;rintro e w1 ⟨N,x,rfl,hb⟩;have HB:=zH hb;clear hb H;go_wp2;go_ret2;exact⟨rfl,HB.out⟩
theorem zla(s:ByteArray)(w:World)(hs:s.size<=100000)(hw:Lb w)(v:Int)(h:Lib.parseIntB 64 s.data.toList=.ok v) :
  zR 103 #[s] w (XZ (if Lib.itoa v=s.data.toList then some v else none)):=by
 obtain⟨r0,r1⟩:=zcX h;have H:Hid (zR 148 #[s,(10:Int),(64:Int)] w (.tuple #[v,.nilIface])):=(Tryz.strconv_ParseInt_10_at64_ok s (by omega) v h w).mono fun e w' ⟨he,p⟩=>by
  refine⟨he,?_⟩;rcases p with rfl|⟨t,rfl⟩
  ·exact Below.refl _ _
  ·exact zeg w t
 have HF:Hid (∀W,zB w W->zR 149 #[v,(10:Int)] W (.string ⟨(Lib.itoa v).toArray⟩)):=fun W hb=>(Tryz.strconv_FormatInt_10 v r0 r1 W (hw.below hb).tab).mono fun e w' ⟨he,k,os,p⟩=>⟨he,p▸zb7 _ W k os zN⟩;clear h hw;generalize Lib.itoa v=l at *
 by_cases hl:l=s.data.toList
 ·have q:(l==s.toList)=true:=by rw[ByteArray.toList_eq,hl];simp
  rw[zA2 hl];clear hl;go_enter Tryz.func103,Tryz.ntmps103;go_wp2_with fail;refine H.out.mono ?_;rintro e w1 ⟨rfl,hb⟩;have H2:=zH (HF.out _ hb);have HB:=zH hb;clear hb H HF;go_wp2_with fail;refine H2.out.mono ?_;rintro e w2 ⟨rfl,j⟩;have o:Hid (zB w w2):=zT HB.out j;clear j H2 HB;go_wp2;go_ret2;exact⟨rfl,o.out⟩
 ·have q:(l==s.toList)=false:=by rw[ByteArray.toList_eq];simpa using hl
  rw[zA1 hl];clear hl;go_enter Tryz.func103,Tryz.ntmps103;go_wp2_with fail;refine H.out.mono ?_;rintro e w1 ⟨rfl,hb⟩;have H2:=zH (HF.out _ hb);have HB:=zH hb;clear hb H HF;go_wp2_with fail;refine H2.out.mono ?_;rintro e w2 ⟨rfl,j⟩;have o:Hid (zB w w2):=zT HB.out j;clear j H2 HB;go_wp2;go_ret2;exact⟨rfl,o.out⟩
theorem zn1(s:ByteArray)(w:World)(hs:s.size<=100000)(hw:Lb w) :
  zR 103 #[s] w (XZ (QO s.data.toList)):=by
 cases h:Lib.parseIntB 64 s.data.toList with
 |ok v=>unfold QO;rw[h];exact zla s w hs hw v h
 |«syntax»=>unfold QO;rw[h];exact zfm s w hs hw (fun v e=>by rw[h] at e;cases e)
 |range=>unfold QO;rw[h];exact zfm s w hs hw (fun v e=>by rw[h] at e;cases e)
theorem zkY(l:List UInt8):yg l=match QO l with
  |none=>.error 3
  |some v=>if v<0 then .error 3 else if 999<v then .error 2 else .ok v.toNat:=by
 unfold yg QO;cases hv:Lib.parseIntB 64 l with
 |ok v =>
  by_cases h:Lib.itoa v=l
  ·simp only[h,if_true]
   by_cases hn:v<0<;>simp[hn]
  ·simp[h]
 |«syntax»=>rfl
 |range=>rfl
end
end Go.Proofs.YthifnefkdjkicaaGreatDoor
