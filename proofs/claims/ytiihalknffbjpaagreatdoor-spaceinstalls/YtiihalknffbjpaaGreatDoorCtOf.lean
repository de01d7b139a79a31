/- Of, the walk. -/
import Derived.Test.YtiihalknffbjpaaGreatDoorCtRu
set_option maxHeartbeats 4000000
set_option maxRecDepth 100000
namespace Go.Proofs.YtiihalknffbjpaaGreatDoor
section
open Go.RowKit Go.Deep Sv
def zbH(l:List Nat):List Int:=l.map fun (k:Nat)=>((k:Int)+1)
theorem znS(l:List Nat)(i:Nat)(h:i<l.length):zbH (l.take (i+1))=zbH (l.take i)++[((l.getD i 0:Nat):Int)+1]:=by
 unfold zbH;rw[List.take_add_one,List.getElem?_eq_getElem h,List.map_append,List.getD_eq_getElem?_getD,List.getElem?_eq_getElem h];rfl
theorem zqN(l:List Nat)(v:Value)(w:World)(hl:l.length<=100000)(hb:∀x∈l,x<=100000)(hv:zct w v l.length (icells (l.map fun (k:Nat)=>(k:Int)))) :
  zC 152 #[v] w fun e w'=>∃v',e=.returned v'/\w'.ownsRow w.heap.size 3 1 v' l.length (icells (zbH l))/\(l=[]->v'=.slice none 0 0)/\zB w w':=by
 obtain⟨va,vc,rfl,-⟩:=hv.form;obtain⟨i0,hin,hz0,hz1,hz2⟩:=info_parts zcl;have HV:=zH hv;have HB:=zH hb;clear hv hb;go_enter Tryz.func152,Tryz.ntmps152;go_wp2_with fail;go_loopw [3,8] (fun oV iV wr=>∃(i:Nat),i<=l.length/\iV=.int .i64 i/\wr.ownsRow w.heap.size 3 1 oV i (icells (zbH (l.take i)))/\(i=0->oV=.slice none 0 0)/\zB w wr) (fun _ iV _=>l.length-(intOf iV).toNat)
 case atStart=>exact⟨0,Nat.zero_le _,rfl,World.ownsRow_nil _ _ _ _,fun _=>rfl,Below.refl _ _⟩
 case round =>
  obtain⟨i,hil,rfl,hrow,h0,hbw⟩:=hrel;obtain⟨oa,oc,rfl,-⟩:=(zad hrow).form
  by_cases hlt:i<l.length
  ·have hvw:=HV.out.below hbw zN;obtain⟨g,cap,e,hg,hc⟩:=hvw.cells (by omega);simp at e;obtain⟨rfl,rfl⟩:=e;have hx:wr.cell? ⟨g,i,none⟩=some (.int .i64 ((l.getD i 0:Nat):Int)):=hc i _ (by rw[zda _ _ (by simpa using hlt)];simp[List.getD_eq_getElem?_getD,hlt]);have hxb:l.getD i 0<=100000:=HB.out _ (by rw[List.getD_eq_getElem?_getD,List.getElem?_eq_getElem hlt];exact List.getElem_mem hlt);have HSN:=zH (znS l i hlt);obtain⟨x,hxe⟩:∃x,l.getD i 0=x:=⟨_,rfl⟩;rw[hxe] at hx hxb HSN;have hii0:(0:Int)<=(i:Int):=by omega
   have hii1:(i:Int)<(l.length:Int):=by omega
   have hwx:IntKind.i64.wrap ((x:Int)+1)=(x:Int)+1:=by rw[IntKind.wrap_i64];omega
   have HROW:=zH hrow;have HBW:=zH hbw;have hws:=hbw.size;clear hxe hrow hbw hc hvw h0;go_wp2_with (at_builtin;refine wpList_append_own_at _ rfl _ _ 47 rfl w.heap.size 3 i0 (.int .i64 0) 1 8 Tryz.underlying47 hin hz0 hz1 hz2 rfl (by decide) _ _ _ rfl (HROW.out.alloc _) ⟨wr.heap.size,0,none⟩ 1 1 [.int .i64 ((x:Int)+1)] rfl rfl ?c1 ?c2 ?c3 ?c4 ?c5 ?_)
   case c1=>exact zaL _ _ _
   case c2=>exact za4 _
   case c3=>unfold maxLen;omega
   case c4=>omega
   case c5=>simp;omega
   intro v7 w7 hown7 hgrow7 _ hloc7;have HR7:Hid (w7.ownsRow w.heap.size 3 1 v7 (i+1) (icells (zbH (l.take (i+1))))):=by
    show World.ownsRow _ _ _ _ _ _ _;rw[HSN.out,zaD];exact hown7
   have HB7:Hid (zB w w7):=(zL HBW.out).grown hgrow7 (by simp;omega) (fun k hk=>(HROW.out.lt k hk).1);clear hown7 hgrow7 hloc7 HROW HBW HSN;go_wp2;go_roundw
   case rel=>exact⟨i+1,hlt,by go_num,HR7.out,fun e=>by omega,HB7.out⟩
   case measure=>simp[intOf];omega
  ·obtain rfl:i=l.length:=by omega
   rw[List.take_length] at hrow;have HROW:=zH hrow;have HBW:=zH hbw;have H0:Hid (l=[]->Value.slice oa l.length oc=.slice none 0 0):=fun e=>h0 (by rw[e];rfl);clear hrow hbw h0;go_wp2;go_ret;exact⟨_,rfl,HROW.out,H0.out,HBW.out⟩
end
section
open Go.RowKit Go.Deep Sv
theorem zci{b:Nat}{t:TypeId}:∀(vs:List Value) (o:Nat) (w:World) (cs:Array Value),Blk w b t cs->∃cs',Blk (w.setCells b o vs) b t cs'
 |[],_,_,cs,h=>⟨cs,h⟩
 |v :: r,o,_,_,h=>zci r (o+1) _ _ (h.set (i:=o) (v:=v))
theorem zbx{B b:Nat}(hb:B<=b):∀(vs:List Value) (o:Nat) {a w:World},Below B a w->Below B a (w.setCells b o vs)
 |[],_,_,_,h=>h
 |v :: r,o,_,_,h=>zbx hb r (o+1) (h.setCell (p:=⟨b,o,none⟩) hb v)
theorem zhr(l:List Int)(j:Nat)(h:j<(icells l).length):(icells l)[j]=.int .i64 (l.getD j 0):=by
 have hl:j<l.length:=by simpa[zaT] using h
 have e:=zda l j hl;rw[List.getElem?_eq_getElem h] at e;exact Option.some.inj e
theorem zhL{W:World}{g:Nat}{x:Int}{l:List Int}(hx:W.cell? ⟨g,0,none⟩=some (.int .i64 x))(hr:∀j,j<l.length->W.cell? ⟨g,j+1,none⟩=some (.int .i64 (l.getD j 0)))(hW:∃cs',Blk W g 3 cs'):zdf 0 W (some ⟨g,0,none⟩) (x :: l):=by
 obtain⟨cs',hW⟩:=hW;intro i hi;refine⟨_,rfl,hW.lt,Or.inr ⟨_,_,hW⟩,?_⟩;cases i with
 |zero=>simpa[Addr.add] using hx
 |succ i =>have h:=hr i (by simpa using hi);simpa[Addr.add,List.getD_cons_succ] using h
theorem zxS(l:List Int)(x:Int)(v:Value)(vb B:Nat)(w:World)(hB:B<=w.heap.size)(hv:w.ownsRow B 3 1 v l.length (icells l))(h0:l=[]->v=.slice none 0 0)(hb:Blk w vb 3 #[.int .i64 x])(hne:v.ownBlock≠some vb)(hl:l.length<=100000) :
  zC 154 #[v,.int .i64 0,.slice (some ⟨vb,0,none⟩) 1 1] w fun e w'=>∃g cap,e=.returned (.slice (some ⟨g,0,none⟩) (l.length+1) cap)/\l.length+1<=cap/\cap<=9223372036854775807/\zdf 0 w' (some ⟨g,0,none⟩) (x :: l)/\B<=g/\Below B w w':=by
 have hvs:∀(j:Nat) (u:Value),[Value.int .i64 x][j]?=some u->w.cell? ⟨vb,0+j,none⟩=some u:=fun j u hu=>by
  cases j with
  |zero=>simp at hu;subst hu;exact hb.cell 0
  |succ j=>simp at hu
 have h1v:∀u∈[Value.int .i64 x],u.oneCell'=true:=za4 _;have h1c:∀u∈icells l,u.oneCell'=true:=fun u hu=>by obtain⟨y,_,rfl⟩:=List.mem_map.1 hu;rfl
 by_cases hz:l=[]
 ·subst hz;obtain rfl:=h0 rfl;refine(Any2.slices_Insert_int_end_grow Tryz.insInt none 0 0 vb 0 1 1 [] [.int .i64 x] w (by omega) (by omega) (by omega) (by omega) rfl rfl (fun _=>rfl) (fun a e=>by cases e) hvs h1v).mono ?_;rintro e w' ⟨rfl,rfl⟩;have hge:=grownCap_ge w 1 0 3;have hle:=grownCap_le_maxLen w 1 0 3 (by unfold maxLen;omega);unfold maxLen at hle;refine⟨_,_,rfl,hge,hle,?_,hB,((Below.refl _ w).drew).alloc hB _⟩;intro i hi;have hW:=Blk.new w.drew 3 ((([]:List Value)++[Value.int .i64 x]).toArray++Builtin.zeroCells (Value.int .i64 0).cells (grownCap w (0+1) 0 3-(0+1)));refine⟨_,rfl,hW.lt,Or.inr ⟨_,_,hW⟩,?_⟩;obtain rfl:i=0:=by simpa using hi
  refine(hW.cell 0).trans ?_;rw[Array.getElem?_append_left (by simp)];rfl
 ·have hn:0<l.length:=List.length_pos_iff.2 hz;rcases hv.2 with ⟨_,e0⟩|⟨g,cap,cur,rfl,hBg,hg,hcap,hcm,hsz,htake⟩
  ·omega
  ·have hG:Blk w g 3 cur:=hg;have hgv:vb≠g:=fun e=>hne (by rw[e];rfl);have hcs:∀(j:Nat) (u:Value),(icells l)[j]?=some u->w.cell? ⟨g,0+j,none⟩=some u:=fun j u hu=>by
    rw[Nat.zero_add];have hj:j<l.length:=by have:=(List.getElem?_eq_some_iff.1 hu).1;simpa[zaT] using this
    have:=hv.cellAt j (by omega);rw[this];exact hu
   unfold maxLen at hcm
   by_cases hroom:l.length+1<=cap
   ·have hsp:∀j,j<l.length+1->(w.cell? ⟨g,0+j,none⟩).isSome=true:=fun j hj=>by
     rw[Nat.zero_add,hG.cell j];simp;omega
    refine(Any2.slices_Insert_int_shift Tryz.insInt g 0 l.length cap 0 vb 0 1 1 (icells l) [.int .i64 x] w hn (by omega) hroom hcm hgv (by simp[zaT]) rfl hcs hsp (fun j _=>hG.frozen _) hvs h1c h1v 3 3 1 cur.size (by unfold World.shape?;rw[show w.heap[vb]?=_ from hb];rfl) (by unfold World.shape?;rw[hg]) (by omega) (hb.frozen _) (hb.frozen _)).mono ?_;rintro e w' ⟨rfl,rfl⟩;have hin:=World.cell?_setCells_in g (icells l) 1 w.drew (fun j hj=>by rw[Nat.add_comm 1 j,<-Nat.zero_add (j+1)];exact hsp (j+1) (by have:=zaT l;omega));obtain⟨c1,hc1⟩:=zci (icells l) 1 w.drew cur (show Blk w.drew g 3 cur from hG);refine⟨g,cap,rfl,hroom,hcm,?_,hBg,zbx hBg _ _ (zbx hBg _ _ (Below.refl _ w).drew)⟩;refine zhL ?_ ?_ ?_
    ·have:=World.cell?_setCells_in g [Value.int .i64 x] 0 (w.drew.setCells g 1 (icells l)) (fun j hj=>by
      refine isSome_setCells g _ _ _ (fun k hk=>by rw [Nat.add_comm 1 k,<- Nat.zero_add (k + 1)];exact hsp (k + 1) (by have:=zaT l;omega)) _ (by rw [Nat.zero_add] at *;exact by rw [<- Nat.zero_add j];exact hsp j (by simp at hj;omega))) 0 (by simp)
     simpa using this
    ·intro j hj;have h1:=World.cell?_setCells_out g [Value.int .i64 x] 0 (w.drew.setCells g 1 (icells l)) ⟨g,j+1,none⟩ (fun _ _=>Or.inr (by simp));have h2:=hin j (by have:=zaT l;omega);rw[Nat.add_comm 1 j,zhr] at h2;exact h1.trans h2
    ·exact zci _ _ _ _ hc1
   ·refine(Any2.slices_Insert_int_grow Tryz.insInt g 0 l.length cap 0 vb 0 1 1 (icells l) [.int .i64 x] w hn (by omega) hcap (by omega) (by omega) (by simp[zaT]) rfl hcs hvs h1c h1v).mono ?_;rintro e w' ⟨rfl,rfl⟩;have hge:=grownCap_ge w (l.length+1) cap 3;have hle:=grownCap_le_maxLen w (l.length+1) cap 3 (by unfold maxLen;omega);unfold maxLen at hle;obtain⟨A,hA⟩:∃A,((icells l).take 0).toArray++Builtin.zeroCells (Value.int .i64 0).cells (l.length+1-0)++Builtin.zeroCells (Value.int .i64 0).cells (grownCap w (l.length+1) cap 3-(l.length+1))=A:=⟨_,rfl⟩;have hAs:l.length+1<=A.size:=by rw[<-hA];simp[size_zeroCells,Value.cells]
    rw[show Tryz.insInt_ren.t 3=3 from rfl,hA];have hW:=Blk.new w 3 A;have hW2:Blk (w.alloc (.cells A 3)).drew w.heap.size 3 A:=hW;obtain⟨c1,hc1⟩:=zci [Value.int .i64 x] 0 _ A hW2;have hc1':Blk (((w.alloc (.cells A 3)).drew.setCells w.heap.size 0 [Value.int .i64 x]).drew) w.heap.size 3 c1:=hc1;have hsp:∀j,j<l.length+1->((w.alloc (.cells A 3)).drew.cell? ⟨w.heap.size,j,none⟩).isSome=true:=fun j hj=>by
     rw[hW2.cell j];simp;omega
    refine⟨w.heap.size,_,rfl,hge,hle,?_,hB,zbx hB _ _ (zbx hB _ _ (((Below.refl _ w).alloc hB _).drew)).drew⟩;refine zhL ?_ ?_ (zci _ _ _ _ hc1')
    ·have h1:=World.cell?_setCells_out w.heap.size (icells l) 1 (((w.alloc (.cells A 3)).drew.setCells w.heap.size 0 [Value.int .i64 x]).drew) ⟨w.heap.size,0,none⟩ (fun _ _=>Or.inl (by simp));have h2:=World.cell?_setCells_in w.heap.size [Value.int .i64 x] 0 (w.alloc (.cells A 3)).drew (fun j hj=>by rw[Nat.zero_add];exact hsp j (by simp at hj;omega)) 0 (by simp);exact h1.trans (by simpa using h2)
    ·intro j hj;have h2:=World.cell?_setCells_in w.heap.size (icells l) 1 (((w.alloc (.cells A 3)).drew.setCells w.heap.size 0 [Value.int .i64 x]).drew) (fun k hk=>isSome_setCells w.heap.size [Value.int .i64 x] 0 (w.alloc (.cells A 3)).drew (fun j hj=>by rw[Nat.zero_add];exact hsp j (by simp at hj;omega)) _ (hsp _ (by have:=zaT l;omega))) j (by have:=zaT l;omega);rw[Nat.add_comm 1 j,zhr] at h2;exact h2
end
section
open Go.RowKit Go.Deep Sv
def pr0(its:List It)(k j:Nat):List (Int × List Int):=if (its.getD j default).name=(its.getD k default).name then [(-1,[zaI (j:Int),zaI (k:Int)])] else []
def prI(its:List It)(k i:Nat):List (Int × List Int):=(List.range i).flatMap (pr0 its k)
def prF(its:List It)(k:Nat):List (Int × List Int):=(List.range k).flatMap fun k=>prI its k k
theorem zic(its:List It)(k i:Nat):prI its k (i+1)=prI its k i++pr0 its k i:=by unfold prI;rw[List.range_succ,List.flatMap_append];simp
theorem zie(its:List It)(k:Nat):prF its (k+1)=prF its k++prI its k k:=by unfold prF;rw[List.range_succ,List.flatMap_append];simp
noncomputable def lnL(its:List It)(ls:List Ln)(n:Nat):List (Int × List Int):=(List.range n).flatMap fun n=>zcT its n (ls.getD n default)
theorem zip(its:List It)(ls:List Ln)(n:Nat):lnL its ls (n+1)=lnL its ls n++zcT its n (ls.getD n default):=by unfold lnL;rw[List.range_succ,List.flatMap_append];simp
noncomputable def ofL(its:List It)(ls:List Ln):List (Int × List Int):=prF its its.length++lnL its ls ls.length
theorem zvb(its:List It)(k j:Nat):(pr0 its k j).length<=1:=by unfold pr0;split<;>simp
theorem zh8(its:List It)(k:Nat):∀i,(prI its k i).length<=i
 |0=>by simp[prI]
 |i+1=>by rw[zic,List.length_append];have:=zh8 its k i;have:=zvb its k i;omega
theorem ziQ(its:List It):∀k,k<=24->(prF its k).length<=k*24
 |0,_=>by simp[prF]
 |k+1,h=>by rw[zie,List.length_append];have:=ziQ its k (by omega);have:=zh8 its k k;omega
theorem zca(its:List It)(name:ByteArray)(rng:List zau):(zaS its name rng).length<=its.length:=by
 unfold zaS;refine Nat.le_trans (List.length_filter_le _ _) ?_;rw[List.length_range'];have:=zer its name;omega
theorem zc9(its:List It)(name:ByteArray)(rng:List zau):∀x∈zaS its name rng,x<its.length:=by
 intro x hx;unfold zaS at hx;have h:=(List.mem_range'_1.1 (List.mem_filter.1 hx).1);have:=zer its name;omega
theorem zpM(its:List It)(n:Nat)(x:Ln)(h:its.length<=24):(zcT its n x).length<=24:=by
 have:=zca its x.other x.rng;unfold zcT;split
 ·simp
 ·split
  ·simp
  ·split
   ·simp;omega
   ·simp
theorem zlc(its:List It)(ls:List Ln)(h:its.length<=24):∀n,(lnL its ls n).length<=n*24
 |0=>by simp[lnL]
 |n+1=>by rw[zip,List.length_append];have:=zlc its ls h n;have:=zpM its n (ls.getD n default) h;omega
structure OS(w W:World)(b5:Nat)(n:Int)(cv fv:Value)(P:List (Int × List Int))(iv:Value)(its:List It):Prop where
 r2:Blk W w.heap.size 65 #[.int .i64 0,.slice none 0 0,.slice none 0 0]
 r5:Blk W b5 65 #[.int .i64 n,cv,fv]
 rs:RS (b5+1) W cv fv (P.map Prod.snd) (P.map Prod.fst)
 B:zB w W
 lo:w.heap.size<b5
 its:W.ownsRow w.heap.size 114 4 iv its.length (zac its)
section
variable {w W W':World} {b5:Nat} {n:Int} {cv fv iv:Value} {P:List (Int × List Int)} {its:List It}
theorem OS.new(h:OS w W b5 n cv fv P iv its)(hb:zB W W'):OS w W' b5 n cv fv P iv its :=
 ⟨h.r2.below hb h.r2.lt,h.r5.below hb h.r5.lt,h.rs.new hb,zT h.B hb,h.lo,zaf h.its hb⟩
theorem OS.keep(h:OS w W b5 n cv fv P iv its)(hf:Fr b5 cv fv W W'){k:Nat}{cs:Array Value}{t:TypeId}(hk:Blk W k t cs)(h1:t≠65)(h2:t≠81)(h3:t≠3):Blk W' k t cs:=by
 obtain⟨cs',hc,-⟩:=h.rs.crow;refine(hf.block k hk.lt (hk.ne_type h.r5 h1) (fun e=>zcg hc hk h2 e.symm) (fun e=>zcg h.rs.frow hk h3 e.symm)).trans hk
theorem OS.keepRow(h:OS w W b5 n cv fv P iv its)(hf:Fr b5 cv fv W W'){B t k m:Nat}{v:Value}{cs:List Value}(hr:W.ownsRow B t k v m cs)(h1:t≠65)(h2:t≠81)(h3:t≠3):W'.ownsRow B t k v m cs:=by
 refine⟨hr.1,?_⟩;rcases hr.2 with h'|⟨g,cap,cur,e,hB,hg,r⟩
 ·exact .inl h'
 ·exact .inr ⟨g,cap,cur,e,hB,h.keep hf hg h1 h2 h3,r⟩
theorem OS.add(h:OS w W b5 n cv fv P iv its){cv' fv':Value}{f:Int}{c:List Int}(hf:Fr b5 cv fv W W')(h5:Blk W' b5 65 #[.int .i64 n,cv',fv'])(hr:RS (b5+1) W' cv' fv' (P.map Prod.snd++[c]) (P.map Prod.fst++[f])):OS w W' b5 n cv' fv' (P++[(f,c)]) iv its :=
 ⟨h.r2.below hf.B (by have:=h.lo;omega),h5,by simpa using hr,h.B.trans (hf.B.mono (Nat.le_of_lt h.lo)),h.lo,h.keepRow hf h.its (by decide) (by decide) (by decide)⟩
theorem OS.keepInts(h:OS w W b5 n cv fv P iv its)(hf:Fr b5 cv fv W W'){B m:Nat}{v:Value}{cs:List Value}(hr:W.ownsRow B 3 1 v m cs)(hn:∀g,v.ownBlock=some g->some g≠fv.ownBlock):W'.ownsRow B 3 1 v m cs:=by
 obtain⟨cs',hc,-⟩:=h.rs.crow;refine⟨hr.1,?_⟩;rcases hr.2 with h'|⟨g,cap,cur,e,hB,hg,r⟩
 ·exact .inl h'
 ·have hk:Blk W g 3 cur:=hg;exact .inr ⟨g,cap,cur,e,hB,(hf.block g hk.lt (hk.ne_type h.r5 (by decide)) (fun e=>zcg hc hk (by decide) e.symm) (hn g (by rw[e];rfl))).trans hg,r⟩
theorem OS.fresh(h:OS w W b5 n cv fv P iv its){g:Nat}(hg:W.heap.size<=g):some g≠fv.ownBlock:=fun e=>by
 have:=(h.rs.frow.lt g e.symm).2;omega
end
theorem zgU{B:Nat}{w:World}{v:Value}{l:List Int}(h:w.ownsRow B 3 1 v l.length (icells l)):∃a cap,v=.slice a l.length cap/\l.length<=cap/\cap<=9223372036854775807/\zdf 0 w a l/\PlA a:=by
 rcases h.2 with ⟨e,e0⟩|⟨g,cap,cur,e,hB,hg,hn,hm,hsz,htake⟩
 ·exact⟨none,0,by rw[e,e0],by omega,by omega,fun i hi=>by omega,fun ad e=>by cases e⟩
 ·unfold maxLen at hm;refine⟨_,_,e,hn,hm,fun i hi=>⟨_,rfl,(show Blk w g 3 cur from hg).lt,Or.inr ⟨_,_,hg⟩,?_⟩,fun ad e=>by cases e;rfl⟩;subst e;have:=h.cellAt i (by omega);rw[add_plain,Nat.zero_add,this,zda l i hi]
theorem zdK(its:List It)(x:It)(h:its.length<=24):-1<=zaY its x/\zaY its x<=24:=by
 unfold zaY;split
 ·rename_i i hi;have:=(List.findIdx?_eq_some_iff_findIdx_eq.1 hi).1;omega
 ·omega
theorem zv5(bk bm:Nat)(lv iv:Value)(ls:List Ln)(vs:List Value)(w:World)(h1:Blk w bk 228 #[lv,iv,.map (some bm)])(hr:zbV w ls vs)(h2:zct w lv ls.length (zax ls vs))(hl:ls.length<=100000) :
  zC 54 #[.pointer (some ⟨bk,0,none⟩)] w fun e w'=>∃v',e=.returned v'/\w'.ownsRow w.heap.size 130 7 v' ls.length (zax ls vs)/\zB w w':=by
 have HI:=zH (zjZ ls vs hr.1 hr.one lv w h2 hl);obtain⟨va,vc,rfl,-⟩:=h2.form;have c0:_=some (Value.slice va ls.length vc):=h1.cell 0;clear h1 h2 hr hl;go_enter Tryz.func54,Tryz.ntmps54;go_wp2_with fail;refine HI.out.mono ?_;rintro e w1 ⟨v',rfl,hrow,hb1⟩;have HR:=zH hrow;have HB1:=zH hb1;clear hb1 HI hrow c0;go_wp2;go_ret;exact⟨v',rfl,HR.out,HB1.out⟩
end
section
open Go.RowKit Go.Deep Sv
section
variable {w W:World} {b5:Nat} {n:Int} {cv fv iv:Value} {P:List (Int × List Int)} {its:List It}
def zx5(w W:World)(b5:Nat)(n:Int)(cv fv:Value)(P:List (Int × List Int))(iv:Value)(its:List It)(f:Int)(c:List Int)(e:Ending)(w':World):Prop :=
 e=.returned (.tuple #[])/\∃cv' fv',OS w w' b5 n cv' fv' (P++[(f,c)]) iv its/\Fr b5 cv fv W w'/\Loc W cv cv'/\Loc W fv fv'
theorem zxD(h:OS w W b5 n cv fv P iv its)(hP:P.length<=90000)(f:Int)(a:Option Addr)(c:List Int)(cap:Nat)(hc1:c.length<=cap)(hc2:cap<=9223372036854775807)(hi:zdf 0 W a c)(hN:0<c.length->∀g,(Value.slice a c.length cap).ownBlock=some g->some g≠fv.ownBlock)(hpa:PlA a) :
  zC 150 #[.int .i64 f,.slice a c.length cap,.pointer (some ⟨b5,0,none⟩)] W (zx5 w W b5 n cv fv P iv its f c) :=
 (zxT b5 n W cv fv _ _ f a c cap h.r5 h.rs hc1 hc2 hi hN hpa (by simp;omega) (by simp;omega)).mono fun _ _ ⟨he,cv',fv',h1,h2,h3,h4,h5⟩=>⟨he,cv',fv',h.add h3 h1 h2,h3,h4,h5⟩
theorem zwI(h:OS w W b5 n cv fv P iv its)(hP:P.length<=90000)(f x y:Int) :
  zC 150 #[.int .i64 f,.slice (some ⟨W.heap.size,0,none⟩) 2 2,.pointer (some ⟨b5,0,none⟩)] (W.alloc (.cells #[.int .i64 x,.int .i64 y] 3)) (zx5 w (W.alloc (.cells #[.int .i64 x,.int .i64 y] 3)) b5 n cv fv P iv its f [x,y]):=by
 have hbn:=below_new W (.cells #[.int .i64 x,.int .i64 y] 3);have hB:=Blk.new W 3 #[.int .i64 x,.int .i64 y];refine zxD (h.new hbn) hP f (some ⟨W.heap.size,0,none⟩) [x,y] 2 zN (by omega) (fun i hi=>⟨_,rfl,hB.lt,Or.inr ⟨_,_,hB⟩,?_⟩) (fun _ g hg e=>?_) (fun ad e=>by cases e;rfl)
 ·rw[add_plain,Nat.zero_add,hB.cell i]
  match i,hi with
  |0,_=>rfl
  |1,_=>rfl
 ·simp[Value.ownBlock] at hg;have:=(h.rs.frow.lt g e.symm).2;omega
end
theorem RS.set{B b i:Nat}{W:World}{cv fv v:Value}{K:List (List Int)}{F:List Int}{cs:Array Value}(h:RS B W cv fv K F)(hb:Blk W b 65 cs)(hlt:b<B):RS B (W.setCell ⟨b,i,none⟩ v) cv fv K F:=by
 obtain⟨c,h1,h2,h3⟩:=h.crow;exact⟨⟨c,za5 h1 hlt,h2.kp (Kp.set (Nat.zero_le _) hb (by decide)),h3⟩,za5 h.frow hlt⟩
theorem RS.base{B B':Nat}{W:World}{cv fv:Value}{K:List (List Int)}{F:List Int}(h:RS B W cv fv K F)(hlt:B'<=B):RS B' W cv fv K F:=by
 obtain⟨c,h1,h2,h3⟩:=h.crow;exact⟨⟨c,ownsRow_base h1 hlt,h2,h3⟩,ownsRow_base h.frow hlt⟩
def zxW(w:World)(n:Int)(P:List (Int × List Int))(e:Ending)(w':World):Prop :=
 (200<P.length/\e=.returned (.tuple #[.agg #[.int .i64 0,.slice none 0 0,.slice none 0 0],.iface 57 (.int .i64 4)])/\zB w w') \/
 (P.length<=200/\∃cv fv,e=.returned (.tuple #[.agg #[.int .i64 n,cv,fv],.nilIface])/\RS w.heap.size w' cv fv (P.map Prod.snd) (P.map Prod.fst)/\zB w w')
theorem zeJ{its:List It}(hl:its.length<=24)(nm:ByteArray)(rng:List zau):(zaS its nm rng).length<=24/\∀x∈zaS its nm rng,x<=24 :=
 ⟨Nat.le_trans (zca _ _ _) hl,fun x hx=>by have:=zc9 its nm rng x hx;omega⟩
theorem zdb(l:List Nat):(zbH l).length=l.length:=by simp[zbH]
theorem zyu(bk:Nat)(ls:List Ln)(its:List It)(w:World)(h:zfR w bk ls its)(hl:its.length<=24)(hll:ls.length<=120)(hnm:∀x∈ls,x.name.size<=100000/\x.other.size<=100000) :
  zC 73 #[.pointer (some ⟨bk,0,none⟩)] w (zxW w (its.length:Int) (ofL its ls)):=by
 have HFIN:Hid (ofL its ls=prF its its.length++lnL its ls ls.length):=rfl;generalize ofL its ls=PF at *;have HC:=zH h;have hbx:zB w (w.alloc (.cells #[.int .i64 0,.slice none 0 0,.slice none 0 0] 65)):=(Below.refl _ w).alloc zN _;have k2:=Blk.new w 65 #[.int .i64 0,.slice none 0 0,.slice none 0 0];have HIT:=zH (zum bk ls its _ (h.below hbx zN) (by omega));clear h;go_enter Tryz.func73,Tryz.ntmps73;go_upto_region 1 with fail;generalize w.alloc (.cells #[.int .i64 0,.slice none 0 0,.slice none 0 0] 65)=W0 at *;go_wp2_with fail;refine HIT.out.mono ?_;rintro e w1 ⟨iv,rfl,hrow,hb1⟩;have hs0:=hbx.size;have hs1:=hb1.size;have h2lt:=k2.lt;have hos:OS w (w1.alloc (.cells #[.int .i64 its.length,.slice none 0 0,.slice none 0 0] 65)) w1.heap.size (its.length:Int) (.slice none 0 0) (.slice none 0 0) (prF its 0) iv its :=
  ⟨((k2.below hb1 h2lt).alloc _),Blk.new _ _ _,RS.nil _ _,(hbx.trans (hb1.mono hs0)).alloc (by omega) _,by omega,ownsRow_base (zaf hrow (below_new _ _)) hs0⟩
 have HOS:=zH hos;obtain⟨ia,ic,rfl,-⟩:=(zad hrow).form;clear hos hrow hb1 HIT hbx k2 h2lt hs0;go_upto_region 4 with fail;generalize w1.alloc (.cells #[.int .i64 its.length,.slice none 0 0,.slice none 0 0] 65)=W1 at *;generalize w1.heap.size=b5 at *;clear hs1;go_wp2_with fail;go_loopw [24] (fun kV wr=>∃(k:Nat) (cv fv:Value),k<=its.length/\kV=.int .i64 k/\OS w wr b5 (its.length:Int) cv fv (prF its k) (.slice ia its.length ic) its) (fun kV _=>its.length-(intOf kV).toNat)
 case atStart=>exact⟨0,_,_,Nat.zero_le _,rfl,HOS.out⟩
 case round =>
  obtain⟨k,cv,fv,hkl,rfl,hos⟩:=hrel
  by_cases hlt:k<its.length
  ·obtain⟨g,cap',e,hg,c0,c1,c2,c3⟩:=(show zcn wr _ its from zad hos.its).at k hlt;simp at e;obtain⟨rfl,rfl⟩:=e;obtain⟨X,hXe⟩:∃X,its.getD k default=X:=⟨_,rfl⟩;rw[hXe] at c0 c1 c2 c3;have HXE:=zH hXe;clear hXe;have hii0:(0:Int)<=(k:Int):=by omega
   have hii1:(k:Int)<(its.length:Int):=by omega
   have hb2:=below_new wr (.cells #[.string X.name,.int .i64 X.a,.int .i64 X.b,.int .i64 X.c] 114);have kx:=Blk.new wr 114 #[.string X.name,.int .i64 X.a,.int .i64 X.b,.int .i64 X.c];have hos1:OS w (wr.alloc (.cells #[.string X.name,.int .i64 X.a,.int .i64 X.b,.int .i64 X.c] 114)) b5 (its.length:Int) cv fv (prF its k++prI its k 0) (.slice (some ⟨g,0,none⟩) its.length ic) its:=by
    rw[show prI its k 0=[] from rfl,List.append_nil];exact hos.new hb2
   have HOS1:=zH hos1;have HX:=zH kx;clear hos hos1 hb2 kx HOS;go_upto_region 7 with fail;generalize wr.alloc (.cells #[.string X.name,.int .i64 X.a,.int .i64 X.b,.int .i64 X.c] 114)=W2 at *;generalize wr.heap.size=bx at *;clear c0 c1 c2 c3 hg;go_wp2_with fail;go_loopw [30] (fun iV wr=>∃(i:Nat) (cv fv:Value),i<=k/\iV=.int .i64 i/\OS w wr b5 (its.length:Int) cv fv (prF its k++prI its k i) (.slice (some ⟨g,0,none⟩) its.length ic) its/\Blk wr bx 114 #[.string X.name,.int .i64 X.a,.int .i64 X.b,.int .i64 X.c]) (fun iV _=>k-(intOf iV).toNat)
   case atStart=>exact⟨0,_,_,Nat.zero_le _,rfl,HOS1.out,HX.out⟩
   case round =>
    clear HOS1 HX W2;obtain⟨i,cv,fv,hik,rfl,hos,hX⟩:=hrel
    by_cases hlt2:i<k
    ·obtain⟨g',cap',e,hg,c0,c1,c2,c3⟩:=(show zcn wr _ its from zad hos.its).at i (by omega);simp at e;obtain⟨rfl,rfl⟩:=e;have hjj0:(0:Int)<=(i:Int):=by omega
     have hjj1:(i:Int)<(its.length:Int):=by omega
     have hjj2:(i:Int)<(k:Int):=by omega
     have x0:_=some (Value.string X.name):=hX.cell 0;have HSU:=zH (zic its k i);have HP0:Hid (pr0 its k i=if (its.getD i default).name=X.name then [(-1,[zaI (i:Int),zaI (k:Int)])] else []):=by show _=_;unfold pr0;rw[HXE.out]
     obtain⟨Y,hYe⟩:∃Y,(its.getD i default).name=Y:=⟨_,rfl⟩;rw[hYe] at c0 HP0;have HOS:=zH hos;have HX:=zH hX;have hlen:(prF its k++prI its k i).length<=90000:=by have:=ziQ its k (by omega);have:=zh8 its k i;rw[List.length_append];omega
     clear hos hX c1 c2 c3 hYe hg;go_upto_region 10 with fail
     by_cases heq:Y=X.name
     ·have HPE:Hid (prF its k++prI its k (i+1)=(prF its k++prI its k i)++[(-1,[zaI (i:Int),zaI (k:Int)])]):=by show _=_;rw[HSU.out,HP0.out,if_pos heq,List.append_assoc]
      clear HP0 HSU;go_big_region;have hbd:zB wr wr.drew:=zF.drew;have HOSD:=zH (HOS.out.new hbd);have HXD:=zH (HX.out.below hbd HX.out.lt);clear hbd HOS HX x0 c0 heq;generalize wr.drew=W3 at *;go_wp2_with fail;refine(zqY (i:Int) (by omega) (by omega) _).mono ?_;rintro e w' ⟨rfl,rfl⟩;go_wp2_with fail;refine(zqY (k:Int) (by omega) (by omega) _).mono ?_;rintro e w' ⟨rfl,rfl⟩;go_wp2_with fail;refine(zwI HOSD.out hlen (-1) (zaI (i:Int)) (zaI (k:Int))).mono ?_;rintro e w4 ⟨rfl,cv',fv',ho,hf,-,-⟩;have HO4:Hid (OS w w4 b5 (its.length:Int) cv' fv' (prF its k++prI its k (i+1)) (.slice (some ⟨g,0,none⟩) its.length ic) its):=by show OS _ _ _ _ _ _ _ _ _;rw[HPE.out];exact ho
      have HX4:=zH ((HOSD.out.new (below_new _ _)).keep hf (HXD.out.alloc _) (by decide) (by decide) (by decide));clear ho hf HOSD HXD HPE;go_wp2;go_roundw
      case rel=>exact⟨i+1,cv',fv',by omega,by go_num,HO4.out,HX4.out⟩
      case measure=>simp[intOf];omega
     ·have HPE:Hid (prI its k (i+1)=prI its k i):=by show _=_;rw[HSU.out,HP0.out,if_neg heq,List.append_nil]
      clear HP0 HSU;have hbq:(Y.toList==X.name.toList)=false:=by rw[beq_eq_false_iff_ne];exact fun h=>heq (zbt h)
      go_big_region;have hbd:zB wr wr.drew:=zF.drew;have HO4:Hid (OS w wr.drew b5 (its.length:Int) cv fv (prF its k++prI its k (i+1)) (.slice (some ⟨g,0,none⟩) its.length ic) its):=by show OS _ _ _ _ _ _ _ _ _;rw[HPE.out];exact HOS.out.new hbd
      have HX4:=zH (HX.out.below hbd HX.out.lt);clear hbd HOS HX x0 c0;generalize wr.drew=W3 at *;go_wp2;go_roundw
      case rel=>exact⟨i+1,cv,fv,by omega,by go_num,HO4.out,HX4.out⟩
      case measure=>simp[intOf];omega
    ·obtain rfl:i=k:=by omega
     have HO4:Hid (OS w wr b5 (its.length:Int) cv fv (prF its (i+1)) (.slice (some ⟨g,0,none⟩) its.length ic) its):=by show OS _ _ _ _ _ _ _ _ _;rw[zie];exact hos
     clear hos hX;go_wp2;go_roundw
     case rel=>exact⟨i+1,cv,fv,by omega,by go_num,HO4.out⟩
     case measure=>simp[intOf];omega
  ·obtain rfl:k=its.length:=by omega
   have HO2:=zH hos;obtain⟨lv,iv0,bm,q1,⟨vs,q2,q2'⟩,-,-⟩:=HC.out;have HLN:=zH (zv5 bk bm lv iv0 ls vs wr (q1.below hos.B q1.lt) (q2.below hos.B zN) (q2'.below hos.B zN) (by omega));have HRG:=zH q2;clear hos HOS W1 q1 q2 q2' lv iv0 bm;go_wp2_with fail;refine HLN.out.mono ?_;rintro e w2 ⟨lv,rfl,hlr,hb2⟩;have hos2:=HO2.out.new hb2;have HO3:Hid (OS w w2 b5 (its.length:Int) cv fv (prF its its.length++lnL its ls 0) (.slice ia its.length ic) its):=by show OS _ _ _ _ _ _ _ _ _;rw[show lnL its ls 0=[] from rfl,List.append_nil];exact hos2
   have HLR:=zH (ownsRow_base hlr HO2.out.B.size);obtain⟨la,lc,rfl,-⟩:=(zad hlr).form;clear hlr hb2 hos2 HLN HO2;go_wp2_with fail;go_loopw [53] (fun nV wr=>∃(n:Nat) (cv fv:Value),n<=ls.length/\nV=.int .i64 n/\OS w wr b5 (its.length:Int) cv fv (prF its its.length++lnL its ls n) (.slice ia its.length ic) its/\wr.ownsRow w.heap.size 130 7 (.slice la ls.length lc) ls.length (zax ls vs)) (fun nV _=>ls.length-(intOf nV).toNat)
   case atStart=>exact⟨0,_,_,Nat.zero_le _,rfl,HO3.out,HLR.out⟩
   case round =>
    clear HO3 HLR hkl hlt;obtain⟨n,cv,fv,hnl,rfl,hos,hlr⟩:=hrel
    by_cases hlt:n<ls.length
    ·obtain⟨g,cap',rv,e,hg,hsp,hrg,c0,c1,c2,c3,c4,c5,c6⟩:=zgv.at ⟨vs,HRG.out.below hos.B zN,zad hlr⟩ n hlt;simp at e;obtain⟨rfl,rfl⟩:=e;have hnn:=hnm (ls.getD n default) (by rw[List.getD_eq_getElem?_getD,List.getElem?_eq_getElem hlt];exact List.getElem_mem hlt);have HSU:=zH (zip its ls n);have hlen:(prF its its.length++lnL its ls n).length<=80000:=by have:=ziQ its its.length hl;have:=zlc its ls hl n;rw[List.length_append];omega
     obtain⟨x,hxe⟩:∃x,ls.getD n default=x:=⟨_,rfl⟩;rw[hxe] at hsp hrg c0 c1 c2 c3 c4 c5 hnn HSU;obtain⟨hn1,hn2⟩:=hnn;obtain⟨ra,rc,rfl⟩:=hsp.form;have hii0:(0:Int)<=(n:Int):=by omega
     have hii1:(n:Int)<(ls.length:Int):=by omega
     have hb2:=below_new wr (.cells #[.int .i64 x.kind,.string x.name,.int .i64 x.a,.int .i64 x.b,.int .i64 x.c,.string x.other,.slice ra x.rng.length rc] 130);have kx:=Blk.new wr 130 #[.int .i64 x.kind,.string x.name,.int .i64 x.a,.int .i64 x.b,.int .i64 x.c,.string x.other,.slice ra x.rng.length rc];have HOS1:=zH (hos.new hb2);have HSP:=zH (hsp.below hb2 zN);have HRG1:=zH hrg;have HLR:=zH (zaf hlr hb2);clear hxe hsp hrg hos hlr hb2 hnl;go_upto_region 17 with fail;generalize wr.alloc (.cells #[.int .i64 x.kind,.string x.name,.int .i64 x.a,.int .i64 x.b,.int .i64 x.c,.string x.other,.slice ra x.rng.length rc] 130)=W2 at *;generalize wr.heap.size=bx at *;clear c0 c1 c2 c3 c4 c5 c6 hg;have d0:_=some (Value.int .i64 x.kind):=kx.cell 0;have d1:_=some (Value.string x.name):=kx.cell 1;have d2:_=some (Value.int .i64 x.a):=kx.cell 2;have d3:_=some (Value.int .i64 x.b):=kx.cell 3;have d4:_=some (Value.int .i64 x.c):=kx.cell 4;have d5:_=some (Value.string x.other):=kx.cell 5;have d6:_=some (Value.slice ra x.rng.length rc):=kx.cell 6;have HX:=zH kx;have HCAT:=zH (HC.out.below HOS1.out.B zN);have hO1:=HOS1.out.B.size;clear kx
     by_cases hk4:x.kind=4
     ·have HLC:Hid (zcT its n x=[((n:Int),zbH (zaS its x.name x.rng))]):=by show _=_;unfold zcT zbH;rw[if_pos hk4]
      have hab:=zeJ hl x.name x.rng;have HAM:=zH (zkN bk ls its x.name x.rng HRG1.out _ W2 HCAT.out (by omega) hn1 HSP.out);generalize zaS its x.name x.rng=am at *;go_wp2_with fail;refine HAM.out.mono ?_;rintro e w3 ⟨av,rfl,har,hb3⟩;have HTH:=zH (zqN am av w3 (by omega) (fun x hx=>by have:=hab.2 x hx;omega) (zad har));obtain⟨aa,ac,rfl,-⟩:=(zad har).form;clear HAM d0 d1 d2 d3 d4 d5 d6 har;go_wp2_with fail;refine HTH.out.mono ?_;rintro e w4 ⟨tv,rfl,htr,-,hb4⟩;have hos3:=HOS1.out.new hb3;have hos4:=hos3.new hb4;obtain⟨ta,tc,rfl,t1,t2,t3,t5⟩:=zgU (l:=zbH am) (by rw[zdb];exact htr);have HADD:=zH (zxD hos4 (Nat.le_trans hlen (by omega)) (n:Int) ta (zbH am) tc t1 t2 t3 (fun _ g hg=>hos3.fresh ((htr.lt g hg).1)) t5);have HO4:=zH hos4;have HLR4:=zH (zaf (zaf HLR.out hb3) hb4);clear HTH hos3 hos4 htr hb3 hb4 t1 t2 t3;go_wp2_with fail;refine HADD.out.mono ?_;rintro e w5 ⟨rfl,cv',fv',ho,hf,-,-⟩;have HO5:Hid (OS w w5 b5 (its.length:Int) cv' fv' (prF its its.length++lnL its ls (n+1)) (.slice ia its.length ic) its):=by show OS _ _ _ _ _ _ _ _ _;rw[HSU.out,HLC.out,<-List.append_assoc];exact ho
      have HLR5:=zH (HO4.out.keepRow hf HLR4.out (by decide) (by decide) (by decide));clear HADD ho hf HO4 HLR4;go_wp2;go_roundw
      case rel=>exact⟨n+1,cv',fv',hlt,by go_num,HO5.out,HLR5.out⟩
      case measure=>simp[intOf];omega
     ·by_cases hk2:x.kind=2
      ·have HLC:Hid (zcT its n x=[((n:Int),zaI (zaY its ⟨x.name,x.a,x.b,x.c⟩) :: zbH (zaS its x.other x.rng))]):=by show _=_;unfold zcT zbH;rw[if_neg hk4,if_pos hk2];rfl
       have hab:=zeJ hl x.other x.rng;have hnb:=zdK its ⟨x.name,x.a,x.b,x.c⟩ hl;have HNU:=zH (ziH bk ls its x.name x.a x.b x.c W2 HCAT.out (by omega));have HAM:=zH (fun w3 hb3=>zkN bk ls its x.other x.rng HRG1.out (.slice ra x.rng.length rc) w3 (HCAT.out.below (B:=W2.heap.size) hb3 zN) (by omega) hn2 (HSP.out.below hb3 zN));generalize zaS its x.other x.rng=am at *;generalize zaY its ⟨x.name,x.a,x.b,x.c⟩=nu at *;go_wp2_with fail;refine HNU.out.mono ?_;rintro e w3 ⟨rfl,hb3⟩;clear HNU d0 d1 d2 d3 d4 d5 d6;go_wp2_with fail;refine(zqY nu (by omega) (by omega) _).mono ?_;rintro e w' ⟨rfl,hw'⟩;rw[hw'];clear hw';clear w';have kx3:=HX.out.below hb3 HX.out.lt;have d5:_=some (Value.string x.other):=kx3.cell 5;have d6:_=some (Value.slice ra x.rng.length rc):=kx3.cell 6;have HA3:=zH (HAM.out w3 hb3);have HO3:=zH (HOS1.out.new hb3);have HLR3:=zH (zaf HLR.out hb3);generalize zaI nu=own at *;clear kx3 HAM hb3 HOS1 HLR HX HCAT HSP HRG1 hO1;go_wp2_with fail;refine HA3.out.mono ?_;rintro e w4 ⟨av,rfl,har,hb4⟩;have HTH:=zH (zqN am av w4 (by omega) (fun x hx=>by have:=hab.2 x hx;omega) (zad har));obtain⟨aa,ac,rfl,-⟩:=(zad har).form;have HO4:=zH (HO3.out.new hb4);have HLR4:=zH (zaf HLR3.out hb4);clear d5 d6 har HA3 HO3 HLR3 hb4;go_wp2_with fail;refine HTH.out.mono ?_;rintro e w5 ⟨tv,rfl,htr,ht0,hb5⟩;have hvb:=Blk.new w5 3 #[.int .i64 own];have hbn:=below_new w5 (.cells #[.int .i64 own] 3);have HINS:=zH (zxS (zbH am) own tv w5.heap.size w4.heap.size (w5.alloc (.cells #[.int .i64 own] 3)) (Nat.le_trans hb5.size hbn.size) (by rw[zdb];exact zaf htr hbn) (fun e=>ht0 (by cases am with|nil=>rfl|cons _ _=>cases e)) hvb (fun e=>by have:=(htr.lt _ e).2;omega) (by rw[zdb];omega));have HB5:=zH (zT hb5 hbn);obtain⟨ta,tc,rfl,-⟩:=(zad htr).form;rw[zdb] at HINS;clear HTH htr ht0 hb5 hvb hbn;go_wp2_with fail;refine HINS.out.mono ?_;rintro e w6 ⟨g6,cap6,rfl,t1,t2,t3,t4,hb6⟩;have hb7:=HB5.out.trans hb6;have HO6:=zH (HO4.out.new hb7);have HLR6:=zH (zaf HLR4.out hb7);have HADD:=zH (zxD HO6.out (Nat.le_trans hlen (by omega)) (n:Int) (some ⟨g6,0,none⟩) (own :: zbH am) cap6 (by simp[zdb];exact t1) t2 t3 (fun _ g hg=>by simp[Value.ownBlock] at hg;subst hg;exact HO4.out.fresh t4) (fun ad e=>by cases e;rfl));rw[List.length_cons,zdb] at HADD;clear HINS hb6 hb7 HB5 HO4 HLR4 t1 t2 t3 t4;go_wp2_with fail;refine HADD.out.mono ?_;rintro e w7 ⟨rfl,cv',fv',ho,hf,-,-⟩;have HO5:Hid (OS w w7 b5 (its.length:Int) cv' fv' (prF its its.length++lnL its ls (n+1)) (.slice ia its.length ic) its):=by show OS _ _ _ _ _ _ _ _ _;rw[HSU.out,HLC.out,<-List.append_assoc];exact ho
       have HLR5:=zH (HO6.out.keepRow hf HLR6.out (by decide) (by decide) (by decide));clear HADD ho hf HO6 HLR6;go_wp2;go_roundw
       case rel=>exact⟨n+1,cv',fv',hlt,by go_num,HO5.out,HLR5.out⟩
       case measure=>simp[intOf];omega
      ·by_cases hk3:x.kind=3
       ·have HLC:Hid (zcT its n x=(zaS its x.other x.rng).map fun (k:Nat)=>((n:Int),[zaI (zaY its ⟨x.name,x.a,x.b,x.c⟩),zaI (k:Int)])):=by show _=_;unfold zcT;rw[if_neg hk4,if_neg hk2,if_pos hk3];rfl
        have hab:=zeJ hl x.other x.rng;have hnb:=zdK its ⟨x.name,x.a,x.b,x.c⟩ hl;have HNU:=zH (ziH bk ls its x.name x.a x.b x.c W2 HCAT.out (by omega));have HAM:=zH (fun w3 hb3=>zkN bk ls its x.other x.rng HRG1.out (.slice ra x.rng.length rc) w3 (HCAT.out.below (B:=W2.heap.size) hb3 zN) (by omega) hn2 (HSP.out.below hb3 zN));generalize zaS its x.other x.rng=am at *;generalize zaY its ⟨x.name,x.a,x.b,x.c⟩=nu at *;go_wp2_with fail;refine HNU.out.mono ?_;rintro e w3 ⟨rfl,hb3⟩;clear HNU d0 d1 d2 d3 d4 d5 d6;go_wp2_with fail;refine(zqY nu (by omega) (by omega) _).mono ?_;rintro e w' ⟨rfl,hw'⟩;rw[hw'];clear hw';clear w';have kx3:=HX.out.below hb3 HX.out.lt;have d5:_=some (Value.string x.other):=kx3.cell 5;have d6:_=some (Value.slice ra x.rng.length rc):=kx3.cell 6;have HA3:=zH (HAM.out w3 hb3);have HO3:=zH (HOS1.out.new hb3);have HLR3:=zH (zaf HLR.out hb3);generalize zaI nu=own at *;clear kx3 HAM hb3 HOS1 HLR HX HCAT HSP HRG1 hO1;go_wp2_with fail;refine HA3.out.mono ?_;rintro e w4 ⟨av,rfl,har,hb4⟩;have HFN:Hid (∀g,av.ownBlock=some g->some g≠fv.ownBlock):=fun g hg=>HO3.out.fresh (har.lt g hg).1;have HAR:=zH har;have HO4:Hid (OS w w4 b5 (its.length:Int) cv fv ((prF its its.length++lnL its ls n)++((am.take 0).map fun (k:Nat)=>((n:Int),[own,zaI (k:Int)]))) (.slice ia its.length ic) its):=by show OS _ _ _ _ _ _ _ _ _;rw[List.take_zero,List.map_nil,List.append_nil];exact HO3.out.new hb4
        have HLR4:=zH (zaf HLR3.out hb4);obtain⟨aa,ac,rfl,-⟩:=(zad har).form;clear d5 d6 har HA3 HO3 HLR3 hb4;go_wp2_with fail;go_loopw [110] (fun jV wr=>∃(j:Nat) (cv fv:Value),j<=am.length/\jV=.int .i64 j/\OS w wr b5 (its.length:Int) cv fv ((prF its its.length++lnL its ls n)++((am.take j).map fun (k:Nat)=>((n:Int),[own,zaI (k:Int)]))) (.slice ia its.length ic) its/\wr.ownsRow w.heap.size 130 7 (.slice (some ⟨g,0,none⟩) ls.length lc) ls.length (zax ls vs)/\wr.ownsRow w3.heap.size 3 1 (.slice aa am.length ac) am.length (icells (am.map fun (k:Nat)=>(k:Int)))/\(∀g,(Value.slice aa am.length ac).ownBlock=some g->some g≠fv.ownBlock)) (fun jV _=>am.length-(intOf jV).toNat)
        case atStart=>exact⟨0,_,_,Nat.zero_le _,rfl,HO4.out,HLR4.out,HAR.out,HFN.out⟩
        case round =>
         clear HFN HAR HO4 HLR4;obtain⟨j,cv,fv,hjl,rfl,hos,hlr,har,hfn⟩:=hrel
         by_cases hjt:j<am.length
         ·obtain⟨ga,cap',e,hga,hca⟩:=(zad har).cells (by omega);simp at e;obtain⟨rfl,rfl⟩:=e;have hcj:wr.cell? ⟨ga,j,none⟩=some (.int .i64 ((am.getD j 0:Nat):Int)):=hca j _ (by rw[zda _ _ (by simpa using hjt)];simp[List.getD_eq_getElem?_getD,hjt]);have hxb:am.getD j 0<=24:=hab.2 _ (by rw[List.getD_eq_getElem?_getD,List.getElem?_eq_getElem hjt];exact List.getElem_mem hjt);have hlen2:((prF its its.length++lnL its ls n)++((am.take j).map fun (k:Nat)=>((n:Int),[own,zaI (k:Int)]))).length<=90000:=by have h1:=List.length_take_le j am;have h2:=hab.1;rw[List.length_append,List.length_map];omega
          have HTK:Hid ((am.take (j+1)).map (fun (k:Nat)=>((n:Int),[own,zaI (k:Int)]))=(am.take j).map (fun (k:Nat)=>((n:Int),[own,zaI (k:Int)]))++[((n:Int),[own,zaI ((am.getD j 0:Nat):Int)])]):=by
           show _=_;rw[List.take_add_one,List.getElem?_eq_getElem hjt,List.map_append,List.getD_eq_getElem?_getD,List.getElem?_eq_getElem hjt];rfl
          generalize am.getD j 0=kk at *;have hjj0:(0:Int)<=(j:Int):=by omega
          have hjj1:(j:Int)<(am.length:Int):=by omega
          have HOJ:=zH hos;have HLJ:=zH hlr;have HAJ:=zH har;have HFJ:=zH hfn;have hgl:=hga;clear hos hlr har hfn hca;go_wp2_with fail;refine(zqY (kk:Int) (by omega) (by omega) _).mono ?_;rintro e w' ⟨rfl,hw'⟩;rw[hw'];clear hw';clear w';clear hcj;generalize zaI (kk:Int)=nk at *;go_wp2_with fail;refine(zwI HOJ.out hlen2 (n:Int) own nk).mono ?_;rintro e w5 ⟨rfl,cv',fv',ho,hf,-,hlf⟩;have HO5:Hid (OS w w5 b5 (its.length:Int) cv' fv' ((prF its its.length++lnL its ls n)++((am.take (j+1)).map fun (k:Nat)=>((n:Int),[own,zaI (k:Int)]))) (.slice ia its.length ic) its):=by show OS _ _ _ _ _ _ _ _ _;rw[HTK.out,<-List.append_assoc];exact ho
          have hosa:=HOJ.out.new (below_new wr (.cells #[.int .i64 own,.int .i64 nk] 3));have HLR5:=zH (hosa.keepRow hf (zaf HLJ.out (below_new _ _)) (by decide) (by decide) (by decide));have HAR5:=zH (hosa.keepInts hf (zaf HAJ.out (below_new _ _)) HFJ.out);have HFN5:Hid (∀g,(Value.slice (some ⟨ga,0,none⟩) am.length ac).ownBlock=some g->some g≠fv'.ownBlock):=fun g hg=>by
           rcases hlf with e|⟨g',e,hg'⟩
           ·rw[e];exact HFJ.out g hg
           ·rw[e];simp[Value.ownBlock] at hg;simp at hg' ⊢;omega
          clear ho hf hlf hosa HOJ HLJ HAJ HFJ HTK;go_wp2;go_roundw
          case rel=>exact⟨j+1,cv',fv',hjt,by go_num,HO5.out,HLR5.out,HAR5.out,HFN5.out⟩
          case measure=>simp[intOf];omega
         ·obtain rfl:j=am.length:=by omega
          have HO5:Hid (OS w wr b5 (its.length:Int) cv fv (prF its its.length++lnL its ls (n+1)) (.slice ia its.length ic) its):=by
           show OS _ _ _ _ _ _ _ _ _;rw[HSU.out,HLC.out,<-List.append_assoc];rw[List.take_length] at hos;exact hos
          have HLR5:=zH hlr;clear hos hlr har hfn HSU HLC;go_wp2;go_roundw
          case rel=>exact⟨n+1,cv,fv,hlt,by go_num,HO5.out,HLR5.out⟩
          case measure=>simp[intOf];omega
       ·have HLC:Hid (zcT its n x=[]):=by show _=_;unfold zcT;rw[if_neg hk4,if_neg hk2,if_neg hk3]
        have HO5:Hid (OS w W2 b5 (its.length:Int) cv fv (prF its its.length++lnL its ls (n+1)) (.slice ia its.length ic) its):=by show OS _ _ _ _ _ _ _ _ _;rw[HSU.out,HLC.out,List.append_nil];exact HOS1.out
        clear HSU HLC HX HCAT HSP HRG1 HOS1;go_wp2;go_roundw
        case rel=>exact⟨n+1,cv,fv,hlt,by go_num,HO5.out,HLR.out⟩
        case measure=>simp[intOf];omega
    ·obtain rfl:n=ls.length:=by omega
     have hlenF:(prF its its.length++lnL its ls ls.length).length=PF.length:=by rw[HFIN.out]
     obtain⟨csx,hcx,-⟩:=hos.rs.crow;rw[List.length_map,hlenF] at hcx;obtain⟨ca,cc,rfl,-⟩:=(zad hcx).form;have c0:_=some (Value.int .i64 its.length):=hos.r5.cell 0;have c1:_=some (Value.slice ca PF.length cc):=hos.r5.cell 1;have c2:_=some fv:=hos.r5.cell 2;have d0:_=some (Value.int .i64 0):=hos.r2.cell 0;have d1:_=some (Value.slice none 0 0):=hos.r2.cell 1;have d2:_=some (Value.slice none 0 0):=hos.r2.cell 2;have f0:=hos.r2.frozen 0;have f1:=hos.r2.frozen 1;have f2:=hos.r2.frozen 2;have HO:=zH hos;have hlo:=hos.lo;clear hcx hos hlr hlenF
     by_cases hbig:200<PF.length
     ·have hbi:(200:Int)<(PF.length:Int):=by omega
      have q0:Blk (((wr.setCell ⟨w.heap.size,0,none⟩ (.int .i64 0)).setCell ⟨w.heap.size,1,none⟩ (.slice none 0 0)).setCell ⟨w.heap.size,2,none⟩ (.slice none 0 0)) w.heap.size 65 #[.int .i64 0,.slice none 0 0,.slice none 0 0]:=((HO.out.r2.set (i:=0)).set (i:=1)).set (i:=2);have hB:zB w (((wr.setCell ⟨w.heap.size,0,none⟩ (.int .i64 0)).setCell ⟨w.heap.size,1,none⟩ (.slice none 0 0)).setCell ⟨w.heap.size,2,none⟩ (.slice none 0 0)):=((HO.out.B.setCell (p:=⟨w.heap.size,0,none⟩) zN _).setCell (p:=⟨w.heap.size,1,none⟩) zN _).setCell (p:=⟨w.heap.size,2,none⟩) zN _;have Q0:=zH q0;have HB:=zH hB;clear q0 hB HO;go_wp2;generalize ((wr.setCell ⟨w.heap.size,0,none⟩ (.int .i64 0)).setCell ⟨w.heap.size,1,none⟩ (.slice none 0 0)).setCell ⟨w.heap.size,2,none⟩ (.slice none 0 0)=WG at *;have r0:=Q0.out.cell 0;have r1:=Q0.out.cell 1;have r2:=Q0.out.cell 2;refine bodyPost_ret (v:=.tuple #[.agg #[.int .i64 0,.slice none 0 0,.slice none 0 0],.iface 57 (.int .i64 4)]) (by simp[results,Tryz.f73,go_sem,r0,r1,r2]) rfl ?_;exact .inl ⟨hbig,rfl,HB.out⟩
     ·have hbi:¬(200:Int)<(PF.length:Int):=by omega
      have q0:Blk (((wr.setCell ⟨w.heap.size,0,none⟩ (.int .i64 its.length)).setCell ⟨w.heap.size,1,none⟩ (.slice ca PF.length cc)).setCell ⟨w.heap.size,2,none⟩ fv) w.heap.size 65 #[.int .i64 its.length,.slice ca PF.length cc,fv]:=((HO.out.r2.set (i:=0)).set (i:=1)).set (i:=2);have hB:zB w (((wr.setCell ⟨w.heap.size,0,none⟩ (.int .i64 its.length)).setCell ⟨w.heap.size,1,none⟩ (.slice ca PF.length cc)).setCell ⟨w.heap.size,2,none⟩ fv):=((HO.out.B.setCell (p:=⟨w.heap.size,0,none⟩) zN _).setCell (p:=⟨w.heap.size,1,none⟩) zN _).setCell (p:=⟨w.heap.size,2,none⟩) zN _;have hR:=(((HO.out.rs.set (i:=0) (v:=.int .i64 its.length) HO.out.r2 (by omega)).set (i:=1) (v:=.slice ca PF.length cc) (HO.out.r2.set (i:=0)) (by omega)).set (i:=2) (v:=fv) ((HO.out.r2.set (i:=0)).set (i:=1)) (by omega)).base (B':=w.heap.size) (by omega);rw[<-HFIN.out] at hR;have Q0:=zH q0;have HB:=zH hB;have HR:=zH hR;obtain⟨fa,fc,hfe,-⟩:=(zad HO.out.rs.frow).form;rw[List.length_map,<-HFIN.out] at hfe;subst hfe;clear q0 hB HO hR;go_wp2;generalize ((wr.setCell ⟨w.heap.size,0,none⟩ (.int .i64 its.length)).setCell ⟨w.heap.size,1,none⟩ (.slice ca PF.length cc)).setCell ⟨w.heap.size,2,none⟩ (.slice fa PF.length fc)=WG at *;have r0:=Q0.out.cell 0;have r1:=Q0.out.cell 1;have r2:=Q0.out.cell 2;refine bodyPost_ret (v:=.tuple #[.agg #[.int .i64 its.length,.slice ca PF.length cc,.slice fa PF.length fc],.nilIface]) (by simp[results,Tryz.f73,go_sem,r0,r1,r2]) rfl ?_;exact .inr ⟨by omega,_,_,rfl,HR.out,HB.out⟩
end
end Go.Proofs.YtiihalknffbjpaaGreatDoor
