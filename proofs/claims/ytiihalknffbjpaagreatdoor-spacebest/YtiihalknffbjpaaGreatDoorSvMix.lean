/- The reference: what a rule makes of two ranges, the walk. -/
import Derived.Test.YtiihalknffbjpaaGreatDoorSvTurns
import Derived.Laws.CopyOwn
set_option maxHeartbeats 4000000
set_option maxRecDepth 100000
namespace Go.Proofs.YtiihalknffbjpaaGreatDoor
section
open Go.RowKit Sv
def zap(l:List Nat):List Value:=l.map fun (n:Nat)=>.int .i64 n
def nv(l:List Nat)(i:Nat):Nat:=l.getD i 0
theorem znl(l:List Nat)(i:Nat)(h:i<l.length):nv l i=l[i]:=by unfold nv;simp[List.getD_eq_getElem?_getD,List.getElem?_eq_getElem h]
theorem zaR(l:List Nat):(zap l).length=l.length:=by simp[zap]
theorem zb0(a b:List Nat):zap (a++b)=zap a++zap b:=by simp[zap]
theorem zcH(l:List Nat)(i:Nat)(h:i<l.length):(zap l)[i]?=some (.int .i64 (nv l i)):=by simp[zap,h,znl]
structure zci(w:World)(v:Value)(l:List Nat):Prop where
  form:∃a cap,v=.slice a l.length cap
  cells:∀i,i<l.length->∃g cap,v=.slice (some ⟨g,0,none⟩) l.length cap/\g<w.heap.size/\w.cell? ⟨g,i,none⟩=some (.int .i64 (nv l i))
theorem zbw(w:World):zci w (.slice none 0 0) []:=⟨⟨none,0,rfl⟩,fun i h=>by simp at h⟩
theorem zci.below{B:Nat}{w w':World}{v:Value}{l:List Nat}(h:zci w v l)(hb:Below B w w')(hB:w.heap.size<=B):zci w' v l :=
  ⟨h.form,fun i hi=>by
    obtain⟨g,cap,e,hg,c0⟩:=h.cells i hi;exact ⟨g,cap,e,Nat.lt_of_lt_of_le hg hb.size,(hb.cell (p:=⟨g,i,none⟩) (by show g<B;omega)).trans c0⟩⟩
theorem zci.drew{w:World}{v:Value}{l:List Nat}(h:zci w v l):zci w.drew v l:=⟨h.form,h.cells⟩
theorem zil{B:Nat}{w:World}{v:Value}{l:List Nat}(h:w.ownsRow B 3 1 v l.length (zap l)):zci w v l:=by
  rcases h.2 with ⟨e,e0⟩|⟨g,cap,cur,e,hB,hg,hn,hm,hsz,htake⟩
  · exact⟨⟨none,0,by rw[e,e0]⟩,fun i hi=>by omega⟩
  · refine⟨⟨_,_,e⟩,fun i hi=>?_⟩
    have hlt:g<w.heap.size:=(h.lt g (by rw[e];rfl)).2;have cell:w.cell? ⟨g,i,none⟩=(zap l)[i]?:=by
      rw[<-htake,List.getElem?_take,if_pos (by omega)];simp[World.cell?,hg]
    exact⟨g,cap,e,hlt,cell.trans (zcH l i hi)⟩
theorem zeX{B n:Nat}{w:World}{v:Value}{t:TypeId}{cs:List Value}(h:w.ownsRow B t 1 v n cs):∃a c,v=.slice a n c:=by
  rcases h.2 with ⟨e,e0⟩|⟨g,cap,cur,e,-⟩
  · exact⟨none,0,by rw[e,e0]⟩
  · exact⟨_,_,e⟩
def zii(w:World)(l:List Nat)(e:Ending)(w':World):Prop:=∃a c,e=.returned (.slice a l.length c)/\zci w' (.slice a l.length c) l/\(∀g,(Value.slice a l.length c).ownBlock=some g->w.heap.size<=g)/\zB w w'
theorem ztl{l:List Nat}{n k:Nat}(hk:k<l.length)(h:nv l k<=n):inP (l.drop k) n=!inP (l.drop (k+1)) n:=by
  rw[List.drop_eq_getElem_cons hk,inP,<-znl l k hk,if_pos h]
theorem ztb{l:List Nat}{n k:Nat}(hk:k<l.length)(h:¬nv l k<=n):inP (l.drop k) n=false:=by
  rw[List.drop_eq_getElem_cons hk,inP,<-znl l k hk,if_neg h]
theorem zw1(k:Nat):((k:Int)%2==1)=(k%2==1):=by
  rw[show (k:Int)%2=((k%2:Nat):Int) by omega];rcases Nat.mod_two_eq_zero_or_one k with e|e<;>rw[e]<;>rfl
theorem zrv(k:Nat)(b:Bool):(b ^^ (k%2==1))=((!b) ^^ ((k+1)%2==1)):=by
  rcases Nat.mod_two_eq_zero_or_one k with e|e
  · have:(k+1)%2=1:=by omega
    rw[e,this];cases b<;>rfl
  · have:(k+1)%2=0:=by omega
    rw[e,this];cases b<;>rfl
theorem zoU(l:List Nat)(n:Nat)(v:Value)(w:World)(hv:zci w v l)(hlen:l.length<=1000000000) :
    zC 256 #[v,.int .i64 n] w fun e w'=>e=.returned (.bool (inP l n))/\w'=w:=by
  obtain⟨a,cap,rfl⟩:=hv.form;have HV:=zH hv;clear hv;go_enter Tryz.func256,Tryz.ntmps256;go_wp2_with fail;go_loopw [5] (fun kV wr=>∃k:Nat,k<=l.length/\kV=.int .i64 k/\(inP (l.drop k) n ^^ (k%2==1))=inP l n/\wr=w) (fun kV _=>l.length-(intOf kV).toNat)
  case atStart=>exact⟨0,Nat.zero_le _,rfl,by simp,rfl⟩
  case round =>
    obtain⟨k,hk,rfl,hres,rfl⟩:=hrel;have HR:=zH hres;clear hres
    by_cases hlt:k<l.length
    · obtain⟨g,cap',e1,hg,c0⟩:=HV.out.cells k hlt
      simp at e1;obtain⟨rfl,rfl⟩:=e1
      by_cases hle:nv l k<=n
      · have hres:=HR.out
        rw[ztl hlt hle,zrv,Bool.not_not] at hres;have HRS:=zH hres;clear hres HR;generalize nv l k=A at *;go_wp2;go_roundw
        case rel=>exact⟨k+1,by omega,by go_num,HRS.out,trivial⟩
        case measure=>simp[intOf];omega
      · have hres:=HR.out
        rw[ztb hlt hle,Bool.false_xor] at hres;have hr2:=zw1 k;rw[hres] at hr2;have HRS:=zH hr2;clear hres HR hr2;generalize nv l k=A at *;go_wp2;go_ret;exact⟨congrArg (fun b=>Ending.returned (.bool b)) HRS.out,rfl⟩
    · obtain rfl:k=l.length:=by omega
      have hres:=HR.out;rw[List.drop_length,inP,Bool.false_xor] at hres;have hr2:=zw1 l.length;rw[hres] at hr2;have HRS:=zH hr2;clear hres HR hr2;go_wp2;go_ret;exact⟨congrArg (fun b=>Ending.returned (.bool b)) HRS.out,rfl⟩
theorem zh5(x y:Nat)(w:World):zC 114 #[.int .i64 x,.int .i64 y] w (zii w (tp (zb2 x y))):=by
  rw[zv5]
  by_cases h:x<y
  · rw[if_pos h]
    have h1:¬(y:Int)<=(x:Int):=by omega
    clear h;go_enter Tryz.func114,Tryz.ntmps114;go_wp2;go_ret;refine⟨_,_,rfl,⟨⟨_,_,rfl⟩,fun i hi=>⟨w.heap.size,2,rfl,by simp,?_⟩⟩,fun g hg=>by simp[Value.ownBlock] at hg;omega,(Below.refl _ w).alloc zN _⟩
    match i,hi with
    |0,_=>simp[nv]
    |1,_=>simp[nv]
  · rw[if_neg h]
    have h1:(y:Int)<=(x:Int):=by omega
    clear h;go_enter Tryz.func114,Tryz.ntmps114;go_wp2;go_ret;exact⟨none,0,rfl,zbw _,fun g hg=>by simp[Value.ownBlock] at hg,Below.refl _ _⟩
theorem zij(a b c:Nat)(ha:a<=1000)(hb:b<=1000)(hc:c<=1000)(w:World) :
    zR 189 #[.agg #[.int .i64 a,.int .i64 b,.int .i64 c]] w (.int .i64 (((a*1000+b)*1000+c:Nat):Int)):=by
  have hB:Hid (zB w (w.alloc (.cells #[.int .i64 a,.int .i64 b,.int .i64 c] 91))):=(Below.refl _ w).alloc zN _;have HN:Hid ((a:Int)*1000000+(b:Int)*1000+(c:Int)=(((a*1000+b)*1000+c:Nat):Int)):=by show _=_;omega
  go_enter Tryz.func189,Tryz.ntmps189;go_wp2;go_ret;exact⟨congrArg (fun z=>Ending.returned (Value.int .i64 z)) HN.out,hB.out⟩
end
section
open Go.RowKit Sv
theorem zr0:(Tryz.prog.info? 3).map (fun i=>(i.zero,i.size,i.bytes))=some (some (.int .i64 0),1,8):=by kernel_rfl
theorem zd2:(Tryz.prog.info? 3).map (·.size)=some 1:=by kernel_rfl
theorem zbQ(w:World)(A:Value)(t:TypeId):∀(j:Nat) (u:Value),[A][j]?=some u->(w.alloc (.cells #[A] t)).cell? (Addr.add ⟨w.heap.size,0,none⟩ j)=some u:=by
  intro j u h
  match j,h with
  |0,h=>simp at h;subst h;simp[Addr.add]
  |j+1,h=>simp at h
def zeZ(a b:List Nat):Nat->List Nat
  |0=>[0,ALL]
  |1=>a
  |_=>b
def zhN(a b:List Nat):Nat->List Nat
  |0=>[]
  |j+1=>zfN (zhN a b j) (zeZ a b j)
theorem zqb(acc l:List Nat)(k:Nat)(hk:k<l.length):zfN acc (l.take (k+1))=zjY (zfN acc (l.take k)) (nv l k):=by
  unfold zfN;rw[List.take_succ_eq_append_getElem hk,List.foldl_append,List.foldl_cons,List.foldl_nil,znl l k hk]
theorem zeK(l acc:List Nat):(zfN acc l).length=acc.length+l.length:=by
  have hi:∀(l:List Nat) (n:Nat),(zjY l n).length=l.length+1:=fun l n=>by
    unfold zjY;rw[List.length_append,List.length_cons,List.length_take,List.length_drop];have:=znX l n l.length;omega
  induction l generalizing acc with
  |nil=>rfl
  |cons x l ih=>show (zfN (zjY acc x) l).length=_;rw[ih,hi,List.length_cons];omega
theorem zsz(a b:List Nat)(j:Nat)(hj:j<=3):(zhN a b j).length<=a.length+b.length+2:=by
  match j,hj with
  |0,_=>simp[zhN]
  |1,_=>simp[zhN,zeK,zeZ]
  |2,_=>simp[zhN,zeK,zeZ];omega
  |3,_=>simp[zhN,zeK,zeZ];omega
theorem zot(a b:List Nat)(j k:Nat)(hj:j<3):(zfN (zhN a b j) ((zeZ a b j).take k)).length<=a.length+b.length+2:=by
  have h:=zsz a b (j+1) hj;rw[zhN,zeK] at h;rw[zeK,List.length_take];omega
theorem zuF{acc:List Nat}{n i:Nat}{cur:List Value}(hi:i<=acc.length)(hc:cur.take (acc.length+1)=zap acc++[.int .i64 0]) :
    ((splice cur (i+1) ((zap acc).drop i)).set i (.int .i64 n)).take (acc.length+1)=zap (acc.take i++n :: acc.drop i):=by
  have hlen:acc.length+1<=cur.length:=by
    have:=congrArg List.length hc;rw[List.length_take,List.length_append,zaR,List.length_singleton] at this;omega
  apply List.ext_getElem?;intro j;have hcj:∀j,j<acc.length+1->cur[j]?=(zap acc++[.int .i64 0])[j]?:=fun j hj=>by
    rw[<-hc,List.getElem?_take,if_pos hj]
  by_cases hj:j<acc.length+1
  · rw[List.getElem?_take,if_pos hj]
    unfold splice;rw[List.getElem?_set];have hdl:((zap acc).drop i).length=acc.length-i:=by rw[List.length_drop,zaR]
    by_cases hij:i=j
    · subst hij
      rw[if_pos rfl,if_pos (by simp;omega)];unfold zap;rw[List.getElem?_map,List.getElem?_append_right (by rw[List.length_take];omega)];rw[List.length_take,show i-min i acc.length=0 by omega];rfl
    · rw[if_neg hij]
      by_cases hlt:j<i
      · rw[List.getElem?_append_left (by rw[List.length_take];omega),List.getElem?_take,if_pos (by omega),hcj j hj,List.getElem?_append_left (by rw[zaR];omega)]
        unfold zap;rw[List.getElem?_map,List.getElem?_map,List.getElem?_append_left (by rw[List.length_take];omega),List.getElem?_take,if_pos hlt]
      · rw[List.getElem?_append_right (by rw[List.length_take];omega),List.length_take,show min (i+1) cur.length=i+1 by omega,List.getElem?_append_left (by rw[hdl];omega),List.getElem?_drop]
        unfold zap;rw[List.getElem?_map,List.getElem?_map,List.getElem?_append_right (by rw[List.length_take];omega),List.length_take,show j-min i acc.length=(j-i-1)+1 by omega,List.getElem?_cons_succ,List.getElem?_drop];congr 2
  · rw[List.getElem?_take,if_neg hj,List.getElem?_eq_none]
    rw[zaR,List.length_append,List.length_cons,List.length_take,List.length_drop];omega
theorem zrS{w4:World}{B g cap i n:Nat}{acc:List Nat}{cur:List Value}(hi:i<=acc.length)(hB:B<=g)(hnc:acc.length+1<=cap)(hmx:cap<=maxLen)(hsz:cur.length=cap)(htk:cur.take (acc.length+1)=zap acc++[.int .i64 0])
    (h4:w4.heap[g]?=some (.cells (splice cur (i+1) ((zap acc).drop i)).toArray 3 (0,0))) :
    (∃u,w4.cell? ⟨g,i,none⟩=some u)/\w4.frozen? ⟨g,i,none⟩=false/\(w4.setCell ⟨g,i,none⟩ (.int .i64 n)).ownsRow B 3 1 (.slice (some ⟨g,0,none⟩) (acc.length+1) cap) (acc.length+1) (zap (acc.take i++n :: acc.drop i)):=by
  have k:Blk w4 g 3 (splice cur (i+1) ((zap acc).drop i)).toArray:=h4;have hdl:((zap acc).drop i).length=acc.length-i:=by rw[List.length_drop,zaR]
  have hsl:(splice cur (i+1) ((zap acc).drop i)).length=cap:=by rw[length_splice _ _ _ (by rw[hdl];omega),hsz]
  refine⟨?_,k.frozen i,?_,.inr ⟨g,cap,_,rfl,hB,k.set (i:=i),hnc,hmx,?_,?_⟩⟩
  · rw[k.cell i]
    exact⟨_,by rw[List.getElem?_toArray,List.getElem?_eq_getElem (by omega)]⟩
  · rw[zaR,List.length_append,List.length_cons,List.length_take,List.length_drop];omega
  · rw[Array.size_setIfInBounds,List.size_toArray,hsl,Nat.mul_one]
  · rw[Array.toList_setIfInBounds,Nat.mul_one]
    exact zuF hi htk
theorem zor(f:Nat->Bool)(is:Bool)(l:List Nat):(zbb f is l).length<=l.length:=by
  induction l generalizing is with
  |nil=>exact Nat.le_refl _
  |cons n r ih =>
    unfold zbb;split
    · have:=ih is;rw[List.length_cons];omega
    · have:=ih (f n);rw[List.length_cons,List.length_cons];omega
theorem zhq{f:Nat->Bool}{is:Bool}{l:List Nat}{k:Nat}(hk:k<l.length)(h:f (nv l k)=is):zbb f is (l.drop k)=zbb f is (l.drop (k+1)):=by
  rw[List.drop_eq_getElem_cons hk,zbb,<-znl l k hk,if_pos h]
theorem zhp{f:Nat->Bool}{is:Bool}{l:List Nat}{k:Nat}(hk:k<l.length)(h:¬f (nv l k)=is):zbb f is (l.drop k)=nv l k :: zbb f (f (nv l k)) (l.drop (k+1)):=by
  rw[List.drop_eq_getElem_cons hk,zbb,<-znl l k hk,if_neg h]
theorem zpX(a b:List Nat)(hla:a.length<=1000000000)(hlb:b.length<=1000000000):∀j,(zeZ a b j).length<=1000000000
  |0=>Nat.le_of_ble_eq_true rfl
  |1=>hla
  |_+2=>hlb
theorem zmn(a b:List Nat)(aa ab:Option Addr)(ca cb:Nat)(w W0:World)(hW0:(w.alloc (.cells #[.int .i64 0,.int .i64 1000000000] 3)).alloc (.cells #[.slice (some ⟨w.heap.size,0,none⟩) 2 2,.slice aa a.length ca,.slice ab b.length cb] 94)=W0)
    (HVA:zci w (.slice aa a.length ca) a) (HVB:zci w (.slice ab b.length cb) b) :
    zB w W0/\(∀j,j<3->∃x c,∀W,zB W0 W->W.cell? ⟨w.heap.size+1,j,none⟩=some (.slice x (zeZ a b j).length c)/\zci W (.slice x (zeZ a b j).length c) (zeZ a b j)):=by
  have HB0:zB w W0:=by rw[<-hW0];exact((Below.refl _ w).alloc zN _).alloc (by simp) _
  refine⟨HB0,fun j hj=>?_⟩;have k0:Blk W0 w.heap.size 3 #[.int .i64 0,.int .i64 1000000000]:=by rw[<-hW0];exact(Blk.new w 3 _).alloc _
  have k1:Blk W0 (w.heap.size+1) 94 #[.slice (some ⟨w.heap.size,0,none⟩) 2 2,.slice aa a.length ca,.slice ab b.length cb]:=by rw[<-hW0];have:=Blk.new (w.alloc (.cells #[.int .i64 0,.int .i64 1000000000] 3)) 94 #[.slice (some ⟨w.heap.size,0,none⟩) 2 2,.slice aa a.length ca,.slice ab b.length cb];rw[World.size_alloc] at this;exact this
  match j,hj with
  | 0,_=>exact ⟨some ⟨w.heap.size,0,none⟩,2,fun W hb=>⟨(k1.below hb k1.lt).cell 0,⟨_,_,rfl⟩,fun i hi=>⟨_,_,rfl,(k0.below hb k0.lt).lt,by
      match i,hi with
      |0,_=>exact(k0.below hb k0.lt).cell 0
      | 1,_=>exact (k0.below hb k0.lt).cell 1⟩⟩⟩
  |1,_=>exact⟨aa,ca,fun W hb=>⟨(k1.below hb k1.lt).cell 1,HVA.below (zT HB0 hb) zN⟩⟩
  |2,_=>exact⟨ab,cb,fun W hb=>⟨(k1.below hb k1.lt).cell 2,HVB.below (zT HB0 hb) zN⟩⟩
theorem zi9{w3:World}{B i n:Nat}{acc:List Nat}{v':Value}(hi:i<=acc.length)(hown:w3.ownsRow B 3 1 v' (acc.length+1) (zap acc++[.int .i64 0])) :
    ∃(g cap:Nat) (cur CS:List Value),v'=.slice (some ⟨g,0,none⟩) (acc.length+1) cap/\B<=g/\acc.length+1<=cap/\w3.heap[g]?=some (.cells cur.toArray 3 (0,0)) /\
      (∀w4:World,w4.heap[g]?=some (.cells (splice cur (i+1) CS).toArray 3 (0,0))->(∃u,w4.cell? ⟨g,i,none⟩=some u)/\w4.frozen? ⟨g,i,none⟩=false/\(w4.setCell ⟨g,i,none⟩ (.int .i64 n)).ownsRow B 3 1 (.slice (some ⟨g,0,none⟩) (acc.length+1) cap) (acc.length+1) (zap (acc.take i++n :: acc.drop i))) /\
      (∀j v,CS[j]?=some v->w3.cell? ⟨g,i+j,none⟩=some v)/\(∀v∈CS,v.oneCell'=true)/\CS.length=Nat.min (acc.length+1-i) (acc.length+1-(i+1))/\(i+1)+CS.length<=cur.length:=by
  rcases hown.2 with ⟨_,h0'⟩|⟨g,cap,cur,rfl,hBg,hg,hnc,hmx,hsz,htk⟩
  · exact absurd h0' (by simp)
  have hdl:((zap acc).drop i).length=acc.length-i:=by rw[List.length_drop,zaR]
  have hsz':cur.toList.length=cap:=by simpa using hsz
  refine⟨g,cap,cur.toList,(zap acc).drop i,rfl,hBg,hnc,hg,fun w4 h4=>zrS hi hBg hnc hmx hsz' (by simpa using htk) h4,fun j v hv=>?_,fun v hv=>?_,?_,?_⟩
  · have hj:i+j<acc.length:=by have:=(List.getElem?_eq_some_iff.1 hv).1;rw[List.length_drop,zaR] at this;omega
    rw[(show Blk w3 g 3 cur from hg).cell,<-hv,List.getElem?_drop,<-Array.getElem?_toList,show cur.toList[i+j]?=(cur.toList.take ((acc.length+1)*1))[i+j]? by rw[List.getElem?_take,if_pos (by omega)],htk,List.getElem?_append_left (by rw[zaR];omega)]
  · obtain⟨x,_,rfl⟩:=List.mem_map.1 (List.mem_of_mem_drop hv);rfl
  · rw[hdl];show _=min _ _;omega
  · rw[hdl,hsz'];omega
end
section
open Go.RowKit Sv
theorem zj6(a b:List Nat)(va vb:Value)(F:Nat)(rule:Bool->Bool->Bool)(w:World)(hva:zci w va a)(hvb:zci w vb b)(hla:a.length<=1000000000)(hlb:b.length<=1000000000)
    (hent:∀args w,(callFunc F args).run Tryz.prog w=.ok (.enter F args) w)
    (hrule:∀x y W,zC F #[.bool x,.bool y] W fun e w'=>e=.returned (.bool (rule x y))/\w'=W) :
    zC 191 #[va,vb,.func (.func F) #[] #[]] w (zii w (zsk a b rule)):=by
  obtain⟨i0,hin,hz0,hz1,hz2⟩:=info_parts zr0;obtain⟨aa,ca,rfl⟩:=hva.form;obtain⟨ab,cb,rfl⟩:=hvb.form;have HVA:=zH hva;have HVB:=zH hvb;have HR:=zH hrule;clear hva hvb hrule;go_enter Tryz.func191,Tryz.ntmps191;go_wp2_with fail;obtain⟨W0,hW0⟩:∃W0,(w.alloc (.cells #[.int .i64 0,.int .i64 1000000000] 3)).alloc (.cells #[.slice (some ⟨w.heap.size,0,none⟩) 2 2,.slice aa a.length ca,.slice ab b.length cb] 94)=W0:=⟨_,rfl⟩;obtain⟨hB0,hX⟩:=zmn a b aa ab ca cb w W0 hW0 HVA.out HVB.out;have HB0:=zH hB0;have HX:=zH hX;have HVA0:Hid (∀W,zB W0 W->zci W (.slice aa a.length ca) a):=fun W hb=>HVA.out.below (zT HB0.out hb) zN;have HVB0:Hid (∀W,zB W0 W->zci W (.slice ab b.length cb) b):=fun W hb=>HVB.out.below (zT HB0.out hb) zN;rw[hW0];clear hW0 HVA HVB hB0 hX;go_loopw [7,23] (fun aV jV wr=>∃j:Nat,j<=3/\jV=.int .i64 j/\wr.ownsRow W0.heap.size 3 1 aV (zhN a b j).length (zap (zhN a b j))/\zB W0 wr) (fun _ jV _=>3-(intOf jV).toNat)
  case atStart=>exact⟨0,Nat.zero_le _,rfl,World.ownsRow_nil _ _ _ _,Below.refl _ _⟩
  case round =>
    obtain⟨j,hj,rfl,hrow,hbr⟩:=hrel;obtain⟨ra,rc,rfl⟩:=zeX hrow;have HROW:=zH hrow;have HBR:=zH hbr;have hwsz:=hbr.size;clear hrow hbr
    by_cases hlt:j<3
    · obtain⟨x,c,hx⟩:=HX.out j hlt
      have hxl:(zeZ a b j).length<=1000000000:=zpX a b hla hlb j;have hal:∀k,(zfN (zhN a b j) ((zeZ a b j).take k)).length<=2000000002:=fun k=>by have:=zot a b j k hlt;omega
      have HJ:Hid (zhN a b (j+1)=zfN (zhN a b j) (zeZ a b j)):=rfl;have HXJ:=zH hx;have HAL:=zH hal;have cj:=(hx wr HBR.out).1;clear hx hal;generalize hA0:zhN a b j=acc0 at *;generalize hXX:zeZ a b j=X at *;go_wp2_with fail;rw[show decide ((j:Int)<3)=true from decide_eq_true (by omega)];go_loopw [7,29] (fun aV kV wr=>∃k:Nat,k<=X.length/\kV=.int .i64 k/\wr.ownsRow W0.heap.size 3 1 aV (zfN acc0 (X.take k)).length (zap (zfN acc0 (X.take k)))/\zB W0 wr) (fun _ kV _=>X.length-(intOf kV).toNat)
      case atStart=>exact⟨0,Nat.zero_le _,rfl,by simpa[zfN] using HROW.out,HBR.out⟩
      case round =>
        clear HROW HBR hwsz cj;obtain⟨k,hk,rfl,hrow,hbr⟩:=hrel;obtain⟨ra,rc,rfl⟩:=zeX hrow;have HROW:=zH hrow;have HBR:=zH hbr;have hwsz:=hbr.size;clear hrow hbr
        by_cases hlt2:k<X.length
        · obtain⟨g1,c1,e1,hg1,cell1'⟩:=(HXJ.out wr HBR.out).2.cells k hlt2
          simp at e1;obtain⟨rfl,rfl⟩:=e1;have hal2:=HAL.out k;have HSN:=zH (zqb acc0 X k hlt2);generalize hacc:zfN acc0 (X.take k)=acc at *;generalize hnn:nv X k=n at *;go_wp2_with fail
          try rw[show decide ((k:Int)<(X.length:Int))=true from decide_eq_true (by omega)]
          go_loopw [12] (fun iV wr3=>∃i:Nat,i<=acc.length/\iV=.int .i64 i/\zfi acc n acc.length=zfi acc n i/\wr3=wr) (fun iV _=>(intOf iV).toNat)
          case atStart=>exact⟨acc.length,Nat.le_refl _,rfl,rfl,rfl⟩
          case round =>
            obtain⟨i,hi,rfl,hp,rfl⟩:=hrel
            by_cases hi0:i=0
            · have HP:Hid (zfi acc n acc.length=i):=by rw[hi0] at hp ⊢;exact hp
              have hi0':¬(0:Int)<(i:Int):=by omega
              clear hp hi0;go_wp2_with (at_builtin;refine wpList_append_own _ rfl _ _ 47 rfl W0.heap.size 3 i0 (.int .i64 0) 1 8 Tryz.underlying47 hin hz0 hz1 hz2 rfl (by decide) _ _ _ rfl (HROW.out.alloc _) ⟨wr.heap.size,0,none⟩ 1 1 [.int .i64 0] rfl rfl (zbQ _ _ _) ?c2 ?c3 ?c4 ?c5 ?_)
              case c2=>first|rfl|(intro u hu;simp at hu;subst hu;rfl)
              case c3=>unfold maxLen;omega
              case c4=>omega
              case c5=>first|omega|(simp;omega)
              intro v' w3 hown hgrow _;have hb3:zB W0 w3:=(HBR.out.alloc hwsz _).grown hgrow (by simp;omega) (fun j hj=>(HROW.out.lt j hj).1);obtain⟨g,cap,CUR,CS,rfl,hBg,hnc,hHG,hHINS,hHCELL,hHONE,hHMN,hHFIT⟩:=zi9 (i:=i) (n:=n) hi hown;obtain⟨I1,hI1⟩:∃I1:Nat,I1=i+1:=⟨_,rfl⟩;rw[<-hI1] at hHINS hHMN hHFIT;have hwr:IntKind.i64.wrap ((i:Int)+1)=(I1:Int):=by rw[hI1];rw[IntKind.wrap_i64];omega
              have hub:I1<=acc.length+1:=by omega
              have hubI:(I1:Int)<=(acc.length:Int)+1:=by omega
              have hiI:(i:Int)<=(acc.length:Int)+1:=by omega
              have HG:=zH hHG;have HINS:=zH hHINS;have HCELL:=zH hHCELL;have HONE:=zH hHONE;have HMN:=zH hHMN;have HFIT:=zH hHFIT;have HB3:=zH hb3;have HRP2:Hid (zfN acc0 (X.take (k+1))=acc.take i++n :: acc.drop i):=by show _=_;rw[HSN.out];unfold zjY;rw[HP.out]
              have HL2:Hid ((acc.take i++n :: acc.drop i).length=acc.length+1):=by show _=_;rw[List.length_append,List.length_cons,List.length_take,List.length_drop];omega
              have hBd:Hid (zB W0 w3.drew):=HB3.out.drew;clear hown hgrow hb3 HSN HP HROW HBR hHG hHINS hHCELL hHONE hHMN hHFIT
              by_cases hend:i<acc.length
              · have hc1:¬cap=I1:=by omega
                have hc2:¬cap=i:=by omega
                have hpos:Hid (∀(dp sp:Option Addr),dp=some ⟨g,I1,none⟩->sp=some ⟨g,i,none⟩->0<CS.length->dp=some ⟨g,I1,none⟩/\∃ad:Addr,sp=some ad/\∀j v,CS[j]?=some v->w3.drew.cell? (ad.add j)=some v):=fun _ _ h1 h2 _=>⟨h1,⟨g,i,none⟩,h2,fun j v hv=>by have h7:=HCELL.out j v hv;show w3.cell? (Addr.add ⟨g,i,none⟩ j)=_;rw[<-h7];congr 1;unfold Addr.add;split<;>simp_all⟩
                clear hI1;go_wp2_with fail;go_region_held_law (fun _=>True) (exact trivial) (first|(refine step_copy_splice rfl (.tmp 54) (.tmp 57) 47 47 rfl 3 Tryz.underlying47 zd2 (some ⟨g,I1,none⟩) (some ⟨g,i,none⟩) (acc.length+1-I1) (cap-I1) (acc.length+1-i) (cap-i) rfl rfl g I1 CUR 3 HG.out CS HMN.out (hpos.out _ _ rfl rfl) HFIT.out HONE.out W0.heap.size W0 hBd.out hBg ?_;intro w4 hg4 hb4));obtain⟨⟨u4,q1⟩,q2,q3⟩:=HINS.out w4 hg4.out;have HQ3:=zH q3;have HB5:Hid (zB W0 (w4.setCell ⟨g,i,none⟩ (.int .i64 n))):=hb4.setCell (p:=⟨g,i,none⟩) hBg _;clear q3 hg4 hb4 HINS HG HB3 HMN HFIT HONE HCELL hpos hBd;go_wp2;go_roundw
                case rel=>exact⟨k+1,by omega,by go_num,by rw[HRP2.out,HL2.out];exact HQ3.out,HB5.out⟩
                case measure=>simp[intOf];omega
              · have hpos:Hid (∀(dp sp:Option Addr),0<CS.length->dp=some ⟨g,I1,none⟩/\∃ad:Addr,sp=some ad/\∀j v,CS[j]?=some v->w3.drew.cell? (ad.add j)=some v):=fun _ _ h=>by have h7:=HMN.out;rw[h7] at h;exact absurd h (by show ¬0<min _ _;omega)
                have hc2:¬cap=i:=by omega
                by_cases hcc:cap=I1
                · subst hcc
                  have HMN0:Hid (CS.length=Nat.min (acc.length+1-i) 0):=by show _=_;rw[HMN.out,show acc.length+1-cap=0 by omega]
                  clear hI1;go_wp2_with fail;go_region_held_law (fun _=>True) (exact trivial) (first|(refine step_copy_splice rfl (.tmp 54) (.tmp 57) 47 47 rfl 3 Tryz.underlying47 zd2 _ _ _ _ _ _ rfl rfl g cap CUR 3 HG.out CS HMN0.out (hpos.out _ _) HFIT.out HONE.out W0.heap.size W0 hBd.out hBg ?_;intro w4 hg4 hb4));obtain⟨⟨u4,q1⟩,q2,q3⟩:=HINS.out w4 hg4.out;have HQ3:=zH q3;have HB5:Hid (zB W0 (w4.setCell ⟨g,i,none⟩ (.int .i64 n))):=hb4.setCell (p:=⟨g,i,none⟩) hBg _;clear q3 hg4 hb4 HINS HG HB3 HMN HFIT HONE HCELL hpos hBd;go_wp2;go_roundw
                  case rel=>exact⟨k+1,by omega,by go_num,by rw[HRP2.out,HL2.out];exact HQ3.out,HB5.out⟩
                  case measure=>simp[intOf];omega
                · clear hI1
                  go_wp2_with fail;go_region_held_law (fun _=>True) (exact trivial) (first|(refine step_copy_splice rfl (.tmp 54) (.tmp 57) 47 47 rfl 3 Tryz.underlying47 zd2 _ _ _ _ _ _ rfl rfl g I1 CUR 3 HG.out CS HMN.out (hpos.out _ _) HFIT.out HONE.out W0.heap.size W0 hBd.out hBg ?_;intro w4 hg4 hb4));obtain⟨⟨u4,q1⟩,q2,q3⟩:=HINS.out w4 hg4.out;have HQ3:=zH q3;have HB5:Hid (zB W0 (w4.setCell ⟨g,i,none⟩ (.int .i64 n))):=hb4.setCell (p:=⟨g,i,none⟩) hBg _;clear q3 hg4 hb4 HINS HG HB3 HMN HFIT HONE HCELL hpos hBd;go_wp2;go_roundw
                  case rel=>exact⟨k+1,by omega,by go_num,by rw[HRP2.out,HL2.out];exact HQ3.out,HB5.out⟩
                  case measure=>simp[intOf];omega
            · obtain⟨i',hi'⟩:∃i',i'+1=i:=⟨i-1,by omega⟩
              obtain⟨g2,c2,e2,hg2,cell2'⟩:=(zil HROW.out).cells i' (by omega);simp at e2;obtain⟨rfl,rfl⟩:=e2;have h1:(i:Int)-1=(i':Int):=by omega
              have hpi:0<i:=by omega
              have hi2:i'<acc.length:=by omega
              have HI':=zH hi';rw[<-hi'] at hp;clear hi'
              by_cases hgt:n<nv acc i'
              · have HPN:Hid (zfi acc n acc.length=zfi acc n i'):=hp.trans (if_pos (show n<acc.getD i' 0 from hgt))
                clear hp;generalize nv acc i'=Y at *;go_wp2;go_roundw
                case rel=>exact⟨i',by omega,by go_num,HPN.out,trivial⟩
                case measure=>have:=HI'.out;simp[intOf];omega
              · have HP:Hid (zfi acc n acc.length=i):=(hp.trans (if_neg (show ¬n<acc.getD i' 0 from hgt))).trans HI'.out
                clear hp;generalize nv acc i'=Y at *;go_wp2_with (at_builtin;refine wpList_append_own _ rfl _ _ 47 rfl W0.heap.size 3 i0 (.int .i64 0) 1 8 Tryz.underlying47 hin hz0 hz1 hz2 rfl (by decide) _ _ _ rfl (HROW.out.alloc _) ⟨wr.heap.size,0,none⟩ 1 1 [.int .i64 0] rfl rfl (zbQ _ _ _) ?c2 ?c3 ?c4 ?c5 ?_)
                case c2=>first|rfl|(intro u hu;simp at hu;subst hu;rfl)
                case c3=>unfold maxLen;omega
                case c4=>omega
                case c5=>first|omega|(simp;omega)
                intro v' w3 hown hgrow _;have hb3:zB W0 w3:=(HBR.out.alloc hwsz _).grown hgrow (by simp;omega) (fun j hj=>(HROW.out.lt j hj).1);obtain⟨g,cap,CUR,CS,rfl,hBg,hnc,hHG,hHINS,hHCELL,hHONE,hHMN,hHFIT⟩:=zi9 (i:=i) (n:=n) hi hown;obtain⟨I1,hI1⟩:∃I1:Nat,I1=i+1:=⟨_,rfl⟩;rw[<-hI1] at hHINS hHMN hHFIT;have hwr:IntKind.i64.wrap ((i:Int)+1)=(I1:Int):=by rw[hI1];rw[IntKind.wrap_i64];omega
                have hub:I1<=acc.length+1:=by omega
                have hubI:(I1:Int)<=(acc.length:Int)+1:=by omega
                have hiI:(i:Int)<=(acc.length:Int)+1:=by omega
                have HG:=zH hHG;have HINS:=zH hHINS;have HCELL:=zH hHCELL;have HONE:=zH hHONE;have HMN:=zH hHMN;have HFIT:=zH hHFIT;have HB3:=zH hb3;have HRP2:Hid (zfN acc0 (X.take (k+1))=acc.take i++n :: acc.drop i):=by show _=_;rw[HSN.out];unfold zjY;rw[HP.out]
                have HL2:Hid ((acc.take i++n :: acc.drop i).length=acc.length+1):=by show _=_;rw[List.length_append,List.length_cons,List.length_take,List.length_drop];omega
                have hBd:Hid (zB W0 w3.drew):=HB3.out.drew;clear hown hgrow hb3 HSN HP HROW HBR hHG hHINS hHCELL hHONE hHMN hHFIT
                by_cases hend:i<acc.length
                · have hc1:¬cap=I1:=by omega
                  have hc2:¬cap=i:=by omega
                  have hpos:Hid (∀(dp sp:Option Addr),dp=some ⟨g,I1,none⟩->sp=some ⟨g,i,none⟩->0<CS.length->dp=some ⟨g,I1,none⟩/\∃ad:Addr,sp=some ad/\∀j v,CS[j]?=some v->w3.drew.cell? (ad.add j)=some v):=fun _ _ h1 h2 _=>⟨h1,⟨g,i,none⟩,h2,fun j v hv=>by have h7:=HCELL.out j v hv;show w3.cell? (Addr.add ⟨g,i,none⟩ j)=_;rw[<-h7];congr 1;unfold Addr.add;split<;>simp_all⟩
                  clear hI1;go_wp2_with fail;go_region_held_law (fun _=>True) (exact trivial) (first|(refine step_copy_splice rfl (.tmp 54) (.tmp 57) 47 47 rfl 3 Tryz.underlying47 zd2 (some ⟨g,I1,none⟩) (some ⟨g,i,none⟩) (acc.length+1-I1) (cap-I1) (acc.length+1-i) (cap-i) rfl rfl g I1 CUR 3 HG.out CS HMN.out (hpos.out _ _ rfl rfl) HFIT.out HONE.out W0.heap.size W0 hBd.out hBg ?_;intro w4 hg4 hb4));obtain⟨⟨u4,q1⟩,q2,q3⟩:=HINS.out w4 hg4.out;have HQ3:=zH q3;have HB5:Hid (zB W0 (w4.setCell ⟨g,i,none⟩ (.int .i64 n))):=hb4.setCell (p:=⟨g,i,none⟩) hBg _;clear q3 hg4 hb4 HINS HG HB3 HMN HFIT HONE HCELL hpos hBd;go_wp2;go_roundw
                  case rel=>exact⟨k+1,by omega,by go_num,by rw[HRP2.out,HL2.out];exact HQ3.out,HB5.out⟩
                  case measure=>simp[intOf];omega
                · have hpos:Hid (∀(dp sp:Option Addr),0<CS.length->dp=some ⟨g,I1,none⟩/\∃ad:Addr,sp=some ad/\∀j v,CS[j]?=some v->w3.drew.cell? (ad.add j)=some v):=fun _ _ h=>by have h7:=HMN.out;rw[h7] at h;exact absurd h (by show ¬0<min _ _;omega)
                  have hc2:¬cap=i:=by omega
                  by_cases hcc:cap=I1
                  · subst hcc
                    have HMN0:Hid (CS.length=Nat.min (acc.length+1-i) 0):=by show _=_;rw[HMN.out,show acc.length+1-cap=0 by omega]
                    clear hI1;go_wp2_with fail;go_region_held_law (fun _=>True) (exact trivial) (first|(refine step_copy_splice rfl (.tmp 54) (.tmp 57) 47 47 rfl 3 Tryz.underlying47 zd2 _ _ _ _ _ _ rfl rfl g cap CUR 3 HG.out CS HMN0.out (hpos.out _ _) HFIT.out HONE.out W0.heap.size W0 hBd.out hBg ?_;intro w4 hg4 hb4));obtain⟨⟨u4,q1⟩,q2,q3⟩:=HINS.out w4 hg4.out;have HQ3:=zH q3;have HB5:Hid (zB W0 (w4.setCell ⟨g,i,none⟩ (.int .i64 n))):=hb4.setCell (p:=⟨g,i,none⟩) hBg _;clear q3 hg4 hb4 HINS HG HB3 HMN HFIT HONE HCELL hpos hBd;go_wp2;go_roundw
                    case rel=>exact⟨k+1,by omega,by go_num,by rw[HRP2.out,HL2.out];exact HQ3.out,HB5.out⟩
                    case measure=>simp[intOf];omega
                  · clear hI1
                    go_wp2_with fail;go_region_held_law (fun _=>True) (exact trivial) (first|(refine step_copy_splice rfl (.tmp 54) (.tmp 57) 47 47 rfl 3 Tryz.underlying47 zd2 _ _ _ _ _ _ rfl rfl g I1 CUR 3 HG.out CS HMN.out (hpos.out _ _) HFIT.out HONE.out W0.heap.size W0 hBd.out hBg ?_;intro w4 hg4 hb4));obtain⟨⟨u4,q1⟩,q2,q3⟩:=HINS.out w4 hg4.out;have HQ3:=zH q3;have HB5:Hid (zB W0 (w4.setCell ⟨g,i,none⟩ (.int .i64 n))):=hb4.setCell (p:=⟨g,i,none⟩) hBg _;clear q3 hg4 hb4 HINS HG HB3 HMN HFIT HONE HCELL hpos hBd;go_wp2;go_roundw
                    case rel=>exact⟨k+1,by omega,by go_num,by rw[HRP2.out,HL2.out];exact HQ3.out,HB5.out⟩
                    case measure=>simp[intOf];omega
        · obtain rfl:k=X.length:=by omega
          have HROW2:Hid (wr.ownsRow W0.heap.size 3 1 (.slice ra (zhN a b (j+1)).length rc) (zhN a b (j+1)).length (zap (zhN a b (j+1)))):=by
            show World.ownsRow _ _ _ _ _ _ _;rw[HJ.out];have h7:=HROW.out;rw[List.take_length] at h7;exact h7
          have HLL:Hid ((zfN acc0 (X.take X.length)).length=(zhN a b (j+1)).length):=by show _=_;rw[HJ.out,List.take_length]
          clear HROW;rw[HLL.out];go_wp2;go_roundw
          case rel=>exact⟨j+1,by omega,by go_num,HROW2.out,HBR.out⟩
          case measure=>simp[intOf];omega
    · have e3:zhN a b j=zcU a b:=by obtain rfl:j=3:=by omega
                                               rfl
      rw[e3] at HROW ⊢;clear e3;have hpl:(zcU a b).length<=2000000002:=by rw[zmt];omega
      have HML:Hid (zsk a b rule=zbb (zgX a b rule) false (zcU a b)):=rfl;have HRF:Hid (∀n:Nat,zgX a b rule n=(decide (n<ALL)&&rule (inP a n) (inP b n))):=fun _=>rfl;generalize hP:zcU a b=P at *;generalize hM:zsk a b rule=M at *;generalize hRU:zgX a b rule=R at *
      rename World=>w9
      have hML:M.length<=P.length:=by rw[HML.out];exact zor _ _ _
      go_wp2_with fail
      try rw[show decide ((j:Int)<3)=false from decide_eq_false (by omega)]
      go_loopw [13,14,67] (fun oV sV kV wr=>∃(k:Nat) (acc:List Nat) (is:Bool),k<=P.length/\kV=.int .i64 k/\sV=.bool is/\acc++zbb R is (P.drop k)=M/\wr.ownsRow w9.heap.size 3 1 oV acc.length (zap acc)/\zB w9 wr) (fun _ _ kV _=>P.length-(intOf kV).toNat)
      case atStart=>exact⟨0,[],false,Nat.zero_le _,rfl,rfl,by rw[HML.out];rfl,World.ownsRow_nil _ _ _ _,Below.refl _ _⟩
      case round =>
        obtain⟨k,acc,is,hk,rfl,rfl,hres,hrow,hbz⟩:=hrel;obtain⟨oa,oc,rfl⟩:=zeX hrow;have hal:acc.length<=M.length:=by rw[<-hres];simp
        have HRZ:=zH hrow;have HBZ:=zH hbz;have HRS:=zH hres;have hwz:=hbz.size;clear hrow hbz hres
        by_cases hlt3:k<P.length
        · obtain⟨g3,c3,e3,hg3,zd6⟩:=(zil HROW.out).cells k hlt3
          simp at e3;obtain⟨rfl,rfl⟩:=e3;have cz:=(HBZ.out.cell (p:=⟨g3,k,none⟩) (by show g3<_;omega)).trans zd6;have hBW:zB W0 wr:=zT HBR.out HBZ.out;have HIA:=zH (zoU a (nv P k) _ wr (HVA0.out wr hBW) (by omega));have HIB:=zH (zoU b (nv P k) _ wr (HVB0.out wr hBW) (by omega));have HRU:=zH (HR.out (inP a (nv P k)) (inP b (nv P k)) wr);have hRn:=HRF.out (nv P k);clear hBW
          by_cases hall:nv P k<ALL
          · have hall':(nv P k:Int)<1000000000:=by unfold ALL at hall;omega
            rw[decide_eq_true hall,Bool.true_and] at hRn;rw[<-hRn] at HRU
            by_cases hsame:R (nv P k)=is
            · have HRN:Hid (acc++zbb R is (P.drop (k+1))=M):=by show _=_;rw[<-zhq hlt3 hsame];exact HRS.out
              rw[hsame] at HRU;clear hRn hsame HRS;generalize inP a (nv P k)=X1 at *;generalize inP b (nv P k)=X2 at *;generalize nv P k=N at *;go_wp2_with fail;refine HIA.out.mono ?_;rintro e w1 ⟨rfl,hw1⟩;rw[hw1];clear hw1;go_wp2_with fail;refine HIB.out.mono ?_;rintro e w1 ⟨rfl,hw1⟩;rw[hw1];clear hw1;go_wp2_with fail;refine HRU.out.mono ?_;rintro e w1 ⟨rfl,hw1⟩;rw[hw1];clear hw1;clear HIA HIB HRU;go_wp2;go_roundw
              case rel=>exact⟨k+1,acc,is,by omega,by go_num,rfl,HRN.out,HRZ.out,HBZ.out⟩
              case measure=>simp[intOf];omega
            · have hte:=zhp hlt3 hsame
              have HRN:Hid ((acc++[nv P k])++zbb R (R (nv P k)) (P.drop (k+1))=M):=by show _=_;rw[List.append_assoc,List.singleton_append,<-hte];exact HRS.out
              have hal2:(acc++[nv P k]).length<=M.length:=by rw[<-HRN.out];simp
              simp at hal2;cases is with
              |false =>
                have hRt:R (nv P k)=true:=by simpa using hsame
                rw[hRt] at HRN HRU;clear hRn hsame HRS hte hRt;generalize inP a (nv P k)=X1 at *;generalize inP b (nv P k)=X2 at *;generalize nv P k=N at *;go_wp2_with fail;refine HIA.out.mono ?_;rintro e w1 ⟨rfl,hw1⟩;rw[hw1];clear hw1;go_wp2_with fail;refine HIB.out.mono ?_;rintro e w1 ⟨rfl,hw1⟩;rw[hw1];clear hw1;go_wp2_with fail;refine HRU.out.mono ?_;rintro e w1 ⟨rfl,hw1⟩;rw[hw1];clear hw1;clear HIA HIB HRU;go_wp2_with (at_builtin;refine wpList_append_own _ rfl _ _ 94 rfl w9.heap.size 3 i0 (.int .i64 0) 1 8 Tryz.underlying94 hin hz0 hz1 hz2 rfl (by decide) _ _ _ rfl (HRZ.out.alloc _) ⟨wr.heap.size,0,none⟩ 1 1 [.int .i64 N] rfl rfl (zbQ _ _ _) ?d2 ?d3 ?d4 ?d5 ?_)
                case d2=>first|rfl|(intro u hu;simp at hu;subst hu;rfl)
                case d3=>unfold maxLen;omega
                case d4=>omega
                case d5=>first|omega|(simp;omega)
                intro v' w3 hown hgrow _;have hb3:zB w9 w3:=(HBZ.out.alloc hwz _).grown hgrow (by simp;omega) (fun j hj=>(HRZ.out.lt j hj).1);have e7:(acc++[N]).length=acc.length+1:=by simp
                have es:zap (acc++[N])=zap acc++[.int .i64 N]:=zb0 _ _;rw[<-es,<-e7] at hown;have HO7:=zH hown;have HB7:=zH hb3;clear hown hgrow hb3 e7 es;go_wp2;go_roundw
                case rel=>exact⟨k+1,acc++[N],true,by omega,by go_num,rfl,HRN.out,HO7.out,HB7.out⟩
                case measure=>simp[intOf];omega
              |true =>
                have hRt:R (nv P k)=false:=by simpa using hsame
                rw[hRt] at HRN HRU;clear hRn hsame HRS hte hRt;generalize inP a (nv P k)=X1 at *;generalize inP b (nv P k)=X2 at *;generalize nv P k=N at *;go_wp2_with fail;refine HIA.out.mono ?_;rintro e w1 ⟨rfl,hw1⟩;rw[hw1];clear hw1;go_wp2_with fail;refine HIB.out.mono ?_;rintro e w1 ⟨rfl,hw1⟩;rw[hw1];clear hw1;go_wp2_with fail;refine HRU.out.mono ?_;rintro e w1 ⟨rfl,hw1⟩;rw[hw1];clear hw1;clear HIA HIB HRU;go_wp2_with (at_builtin;refine wpList_append_own _ rfl _ _ 94 rfl w9.heap.size 3 i0 (.int .i64 0) 1 8 Tryz.underlying94 hin hz0 hz1 hz2 rfl (by decide) _ _ _ rfl (HRZ.out.alloc _) ⟨wr.heap.size,0,none⟩ 1 1 [.int .i64 N] rfl rfl (zbQ _ _ _) ?d2 ?d3 ?d4 ?d5 ?_)
                case d2=>first|rfl|(intro u hu;simp at hu;subst hu;rfl)
                case d3=>unfold maxLen;omega
                case d4=>omega
                case d5=>first|omega|(simp;omega)
                intro v' w3 hown hgrow _;have hb3:zB w9 w3:=(HBZ.out.alloc hwz _).grown hgrow (by simp;omega) (fun j hj=>(HRZ.out.lt j hj).1);have e7:(acc++[N]).length=acc.length+1:=by simp
                have es:zap (acc++[N])=zap acc++[.int .i64 N]:=zb0 _ _;rw[<-es,<-e7] at hown;have HO7:=zH hown;have HB7:=zH hb3;clear hown hgrow hb3 e7 es;go_wp2;go_roundw
                case rel=>exact⟨k+1,acc++[N],false,by omega,by go_num,rfl,HRN.out,HO7.out,HB7.out⟩
                case measure=>simp[intOf];omega
          · have hall':¬(nv P k:Int)<1000000000:=by unfold ALL at hall;omega
            rw[decide_eq_false hall,Bool.false_and] at hRn;clear HIA HIB HRU;cases is with
            |false =>
              have HRN:Hid (acc++zbb R false (P.drop (k+1))=M):=by show _=_;rw[<-zhq hlt3 hRn];exact HRS.out
              clear hRn HRS;generalize nv P k=N at *;go_wp2;go_roundw
              case rel=>exact⟨k+1,acc,false,by omega,by go_num,rfl,HRN.out,HRZ.out,HBZ.out⟩
              case measure=>simp[intOf];omega
            |true =>
              have hte:=zhp (f:=R) (is:=true) hlt3 (by rw[hRn];decide);rw[hRn] at hte;have HRN:Hid ((acc++[nv P k])++zbb R false (P.drop (k+1))=M):=by show _=_;rw[List.append_assoc,List.singleton_append,<-hte];exact HRS.out
              have hal2:(acc++[nv P k]).length<=M.length:=by rw[<-HRN.out];simp
              simp at hal2;clear hRn HRS hte;generalize nv P k=N at *;go_wp2_with (at_builtin;refine wpList_append_own _ rfl _ _ 94 rfl w9.heap.size 3 i0 (.int .i64 0) 1 8 Tryz.underlying94 hin hz0 hz1 hz2 rfl (by decide) _ _ _ rfl (HRZ.out.alloc _) ⟨wr.heap.size,0,none⟩ 1 1 [.int .i64 N] rfl rfl (zbQ _ _ _) ?d2 ?d3 ?d4 ?d5 ?_)
              case d2=>first|rfl|(intro u hu;simp at hu;subst hu;rfl)
              case d3=>unfold maxLen;omega
              case d4=>omega
              case d5=>first|omega|(simp;omega)
              intro v' w3 hown hgrow _;have hb3:zB w9 w3:=(HBZ.out.alloc hwz _).grown hgrow (by simp;omega) (fun j hj=>(HRZ.out.lt j hj).1);have e7:(acc++[N]).length=acc.length+1:=by simp
              have es:zap (acc++[N])=zap acc++[.int .i64 N]:=zb0 _ _;rw[<-es,<-e7] at hown;have HO7:=zH hown;have HB7:=zH hb3;clear hown hgrow hb3 e7 es;go_wp2;go_roundw
              case rel=>exact⟨k+1,acc++[N],false,by omega,by go_num,rfl,HRN.out,HO7.out,HB7.out⟩
              case measure=>simp[intOf];omega
        · obtain rfl:k=P.length:=by omega
          have hMA:acc=M:=by rw[<-HRS.out,List.drop_length,zbb,List.append_nil]
          have HOUT:Hid (zii w M (.returned (.slice oa acc.length oc)) wr):=by
            rw[<-hMA];exact⟨oa,oc,rfl,zil HRZ.out,fun g hg=>Nat.le_trans (Nat.le_trans HB0.out.size HBR.out.size) (HRZ.out.lt g hg).1,(zT HB0.out HBR.out).trans (HBZ.out.mono (Nat.le_trans HB0.out.size HBR.out.size))⟩
          clear hMA HRS;go_wp2;go_ret;exact HOUT.out
end
end Go.Proofs.YtiihalknffbjpaaGreatDoor
