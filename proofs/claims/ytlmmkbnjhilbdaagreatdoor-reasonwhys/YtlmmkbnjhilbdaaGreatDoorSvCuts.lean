/- How many pieces there are between marks of one byte; the parts of a version. -/
import Derived.Test.YtlmmkbnjhilbdaaGreatDoorSvSpan
import Derived.Deep.RegionHeld3
import Derived.Deep.AppendLies
import Derived.PlainAid
import Derived.Lib.AppendIntMem
import Derived.RangeFuncNested
import Derived.RangeFuncBound
import Derived.Shelf.RegionOpen
import Derived.OwnWalkIn
import Derived.LoopNIn
import Derived.LoopIn
set_option maxHeartbeats 4000000
set_option maxRecDepth 100000
namespace Go.Proofs.YtlmmkbnjhilbdaaGreatDoor
section
open Go.RowKit Sv
def qY(l:List zg):List Value:=l.flatMap fun s=>[.int .i64 s.1,.int .i64 s.2]
def sp(l:List zg)(i:Nat):zg:=l.getD i (0,0)
theorem QM(l:List zg)(i:Nat)(h:i<l.length):sp l i=l[i]:=by unfold sp;simp[List.getD_eq_getElem?_getD,List.getElem?_eq_getElem h]
theorem Ky(s:zg)(l:List zg)(i:Nat):sp (s :: l) (i+1)=sp l i:=by simp[sp]
theorem KJ(a b:List zg):qY (a++b)=qY a++qY b:=by simp[qY]
theorem zeS:∀(l:List zg) (i:Nat),i<l.length->(qY l)[i*2]?=some (.int .i64 ((sp l i).1:Int))/\(qY l)[i*2+1]?=some (.int .i64 ((sp l i).2:Int))
 |[],i,h=>by simp at h
 |n :: l,0,_=>by simp[qY,sp]
 |n :: l,i+1,h=>by
  have ih:=zeS l i (by simpa using h);rw[Ky];have e2:∀j,(qY (n :: l))[j+2]?=(qY l)[j]?:=fun j=>by
   show ([Value.int .i64 n.1,.int .i64 n.2]++qY l)[j+2]?=_;rw[List.getElem?_append_right (by simp)];simp
  rw[show (i+1)*2=i*2+2 by omega,show i*2+2+1=(i*2+1)+2 by omega,e2,e2];exact ih
structure zi(w:World)(v:Value)(l:List zg):Prop where
 form:∃a cap,v=.slice a l.length cap
 cells:∀i,i<l.length->∃g cap,v=.slice (some ⟨g,0,none⟩) l.length cap/\g<w.heap.size/\w.cell? ⟨g,i*2,none⟩=some (.int .i64 ((sp l i).1:Int))/\w.cell? ⟨g,i*2+1,none⟩=some (.int .i64 ((sp l i).2:Int))
theorem KY(w:World):zi w (.slice none 0 0) []:=⟨⟨none,0,rfl⟩,fun i h=>by simp at h⟩
theorem zi.below{B:Nat}{w w':World}{v:Value}{l:List zg}(h:zi w v l)(hb:Below B w w')(hB:w.heap.size<=B):zi w' v l :=
 ⟨h.form,fun i hi=>by
  obtain⟨g,cap,e,hg,c0,c1⟩:=h.cells i hi;exact ⟨g,cap,e,Nat.lt_of_lt_of_le hg hb.size,(hb.cell (p:=⟨g,i * 2,none⟩) (by show g<B;omega)).trans c0,(hb.cell (p:=⟨g,i * 2 + 1,none⟩) (by show g<B;omega)).trans c1⟩⟩
theorem zi.drew{w:World}{v:Value}{l:List zg}(h:zi w v l):zi w.drew v l:=⟨h.form,h.cells⟩
theorem Xl{B:Nat}{w:World}{v:Value}{l:List zg}(h:w.ownsRow B 218 2 v l.length (qY l)):zi w v l:=by
 rcases h.2 with ⟨e,e0⟩|⟨g,cap,cur,e,hB,hg,hn,hm,hsz,htake⟩
 ·exact⟨⟨none,0,by rw[e,e0]⟩,fun i hi=>by omega⟩
 ·refine⟨⟨_,_,e⟩,fun i hi=>?_⟩;have hlt:g<w.heap.size:=(h.lt g (by rw[e];rfl)).2;obtain⟨c0,c1⟩:=zeS l i hi;have cell:∀j,j<l.length*2->w.cell? ⟨g,j,none⟩=(qY l)[j]?:=fun j hj=>by
   rw[<-htake,List.getElem?_take,if_pos (by omega)];simp[World.cell?,hg]
  exact⟨g,cap,e,hlt,(cell _ (by omega)).trans c0,(cell _ (by omega)).trans c1⟩
theorem zlk:∀{l:List zg} {lo:Nat},qX lo l->lo<=ALL+1->2*l.length+lo<=ALL+1:=by
 intro l
 induction l with
 |nil=>intro lo _ h;simpa using h
 |cons s r ih =>intro lo h hlo;obtain⟨h1,h2,h3,h4⟩:=h;have:=ih h4 (by omega);simp only[List.length_cons];omega
theorem YY{l:List zg}(h:Rg l):l.length<=500000000:=by
 have:=zlk h (Nat.zero_le _);unfold ALL at this;omega
theorem zeX:(Tryz.prog.info? 218).map (fun i=>(i.zero,i.size,i.bytes))=some (some (.agg #[.int .i64 0,.int .i64 0]),2,16):=by kernel_rfl
theorem zby{B n:Nat}{w:World}{v:Value}{t:TypeId}{cs:List Value}(h:w.ownsRow B t 2 v n cs):∃a c,v=.slice a n c:=by
 rcases h.2 with ⟨e,e0⟩|⟨g,cap,cur,e,-⟩
 ·exact⟨none,0,by rw[e,e0]⟩
 ·exact⟨_,_,e⟩
theorem K8(w:World)(A B:Value)(t:TypeId):∀(j:Nat) (u:Value),[A,B][j]?=some u->(w.alloc (.cells #[A,B] t)).cell? (Addr.add ⟨w.heap.size,0,none⟩ j)=some u:=by
 intro j u h
 match j,h with
 |0,h=>simp at h;subst h;simp[Addr.add]
 |1,h=>simp at h;subst h;simp[Addr.add]
 |j+2,h=>simp at h
theorem Qc{w w':World}{row:Option Nat}(hg:w.grownBy w' row){b i:Nat}(hb:b<w.heap.size)(hne:some b≠row):w'.cell? ⟨b,i,none⟩=w.cell? ⟨b,i,none⟩:=by
 unfold World.cell?;rw[hg.block b hb hne]
theorem Xk{B n:Nat}{w:World}{v:Value}{t:TypeId}{cs:List Value}(h:w.ownsRow B t 2 v n cs){b:Nat}(hb:w.heap.size<=b):some b≠v.ownBlock:=fun e=>by
 have:=(h.lt b e.symm).2;omega
theorem KN{B n b:Nat}{w:World}{v x:Value}{t:TypeId}{cs:List Value}(h:w.ownsRow B t 2 v n cs)(hb:b<B):(w.setCell ⟨b,0,none⟩ x).ownsRow B t 2 v n cs:=by
 refine⟨h.1,?_⟩;rcases h.2 with h1|⟨g,cap,cur,h1,h2,h3,h4⟩
 ·exact .inl h1
 ·exact .inr ⟨g,cap,cur,h1,h2,(Below.heap_setCell _ _ _ g (by show g≠b;omega)).trans h3,h4⟩
theorem Yi(w:World)(A:Value)(t:TypeId):(w.alloc (.cells #[A] t)).cell? ⟨w.heap.size,0,none⟩=some A:=by simp
theorem KO(w:World)(A B:Value)(t:TypeId):(w.alloc (.cells #[A,B] t)).cell? ⟨w.heap.size,0,none⟩=some A/\(w.alloc (.cells #[A,B] t)).cell? ⟨w.heap.size,1,none⟩=some B:=⟨by simp,by simp⟩
theorem zdl(w:World)(A:Value)(t:TypeId):(w.alloc (.cells #[A] t)).frozen? ⟨w.heap.size,0,none⟩=false:=by simp
structure zfy(w W:World)(A B C:Value):Prop where
 below:zB w W
 size:W.heap.size=w.heap.size+3
 c0:W.cell? ⟨w.heap.size,0,none⟩=some A
 c1:W.cell? ⟨w.heap.size+1,0,none⟩=some B
 c2:W.cell? ⟨w.heap.size+1+1,0,none⟩=some C
 f2:W.frozen? ⟨w.heap.size+1+1,0,none⟩=false
theorem zaj(w:World)(A B C:Value)(t t' t'':TypeId):zfy w (((w.alloc (.cells #[A] t)).alloc (.cells #[B] t')).alloc (.cells #[C] t'')) A B C:=by
 have s1:(w.alloc (.cells #[A] t)).heap.size=w.heap.size+1:=World.size_alloc _ _;have h1:=Yi w A t;have h2:=Yi (w.alloc (.cells #[A] t)) B t';have h3:=Yi ((w.alloc (.cells #[A] t)).alloc (.cells #[B] t')) C t'';have f3:=zdl ((w.alloc (.cells #[A] t)).alloc (.cells #[B] t')) C t'';have s2:((w.alloc (.cells #[A] t)).alloc (.cells #[B] t')).heap.size=w.heap.size+1+1:=by rw[World.size_alloc,s1]
 have b1:zB w (w.alloc (.cells #[A] t)):=(Below.refl _ w).alloc zN _;have b2:Below (w.heap.size+1) (w.alloc (.cells #[A] t)) ((w.alloc (.cells #[A] t)).alloc (.cells #[B] t')):=zF.alloc (by omega) _;have b3:Below (w.heap.size+1+1) ((w.alloc (.cells #[A] t)).alloc (.cells #[B] t')) (((w.alloc (.cells #[A] t)).alloc (.cells #[B] t')).alloc (.cells #[C] t'')):=zF.alloc (by omega) _;rw[s1] at h2;rw[s2] at h3 f3;refine⟨b1.trans ((b2.mono (by omega)).trans (b3.mono (by omega))),by rw[World.size_alloc,s2],?_,?_,h3,f3⟩
 ·exact(b3.cell (p:=⟨w.heap.size,0,none⟩) (by show w.heap.size<_;omega)).trans ((b2.cell (p:=⟨w.heap.size,0,none⟩) (by show w.heap.size<_;omega)).trans h1)
 ·exact(b3.cell (p:=⟨w.heap.size+1,0,none⟩) (by show w.heap.size+1<_;omega)).trans h2
structure Xr(w W:World)(bs bt:Nat)(A T C D:Value):Prop where
 below:zB w W
 hs:w.heap.size<=bs
 ht:w.heap.size<=bt
 ls:bs<W.heap.size
 lt:bt<W.heap.size
 s0:W.cell? ⟨bs,0,none⟩=some A
 s1:W.cell? ⟨bs,1,none⟩=some T
 t0:W.cell? ⟨bt,0,none⟩=some C
 t1:W.cell? ⟨bt,1,none⟩=some D
theorem zcT(w:World)(A T C D:Value)(t t':TypeId):Xr w ((w.alloc (.cells #[A,T] t)).alloc (.cells #[C,D] t')).drew w.heap.size (w.heap.size+1) A T C D:=by
 have s1:(w.alloc (.cells #[A,T] t)).heap.size=w.heap.size+1:=World.size_alloc _ _;have s2:((w.alloc (.cells #[A,T] t)).alloc (.cells #[C,D] t')).heap.size=w.heap.size+1+1:=by rw[World.size_alloc,s1]
 have b1:zB w (w.alloc (.cells #[A,T] t)):=(Below.refl _ w).alloc zN _;have b2:Below (w.heap.size+1) (w.alloc (.cells #[A,T] t)) ((w.alloc (.cells #[A,T] t)).alloc (.cells #[C,D] t')).drew:=(zF.alloc (by omega) _).drew;have h1:=KO w A T t;have h2:=KO (w.alloc (.cells #[A,T] t)) C D t';rw[s1] at h2;have ls:w.heap.size<((w.alloc (.cells #[A,T] t)).alloc (.cells #[C,D] t')).drew.heap.size:=by show w.heap.size<((w.alloc (.cells #[A,T] t)).alloc (.cells #[C,D] t')).heap.size;omega
 have lt:w.heap.size+1<((w.alloc (.cells #[A,T] t)).alloc (.cells #[C,D] t')).drew.heap.size:=by show w.heap.size+1<((w.alloc (.cells #[A,T] t)).alloc (.cells #[C,D] t')).heap.size;omega
 exact⟨b1.trans (b2.mono (by omega)),Nat.le_refl _,by omega,ls,lt,(b2.cell (p:=⟨w.heap.size,0,none⟩) (by show w.heap.size<_;omega)).trans h1.1,(b2.cell (p:=⟨w.heap.size,1,none⟩) (by show w.heap.size<_;omega)).trans h1.2,h2.1,h2.2⟩
theorem zjs(w:World)(A T C D:Value)(t t':TypeId):Xr w ((w.alloc (.cells #[C,D] t')).alloc (.cells #[A,T] t)).drew (w.heap.size+1) w.heap.size A T C D:=by
 have h:=zcT w C D A T t' t;exact⟨h.below,h.ht,h.hs,h.lt,h.ls,h.t0,h.t1,h.s0,h.s1⟩
theorem Xr.drewN{w W:World}{bs bt:Nat}{A T C D:Value}(h:Xr w W bs bt A T C D)(n:Nat):Xr w (W.drewN n) bs bt A T C D:=by
 induction n with
 |zero=>exact h
 |succ n ih=>exact⟨⟨ih.below.os,ih.below.tape,ih.below.output,ih.below.size,ih.below.block⟩,ih.hs,ih.ht,ih.ls,ih.lt,ih.s0,ih.s1,ih.t0,ih.t1⟩
theorem zgo{B n b:Nat}{w w':World}{v:Value}{t:TypeId}{cs:List Value}(h:w.ownsRow B t 2 v n cs)(hb:Below b w w')(hB:w.heap.size<=b):w'.ownsRow B t 2 v n cs:=by
 refine⟨h.1,?_⟩;rcases h.2 with h1|⟨g,cap,cur,h1,h2,h3,h4⟩
 ·exact .inl h1
 ·exact .inr ⟨g,cap,cur,h1,h2,(hb.block g (by have:=(h.lt g (by rw[h1];rfl)).2;omega)).trans h3,h4⟩
def Q4(w:World)(l:List zg)(e:Ending)(w':World):Prop:=∃v',e=.returned (.agg #[v'])/\zi w' v' l/\(∀g,v'.ownBlock=some g->w.heap.size<=g)/\zB w w'
theorem zi.set{w:World}{v x:Value}{l:List zg}{b:Nat}(h:zi w v l)(hn:v.ownBlock≠some b):zi (w.setCell ⟨b,0,none⟩ x) v l :=
 ⟨h.form,fun i hi=>by
  obtain⟨g,cap,e,hg,c0,c1⟩:=h.cells i hi;have hne:g≠b:=fun e'=>hn (by rw[e,e'];rfl);have hh:=Below.heap_setCell w ⟨b,0,none⟩ x g hne;refine⟨g,cap,e,Nat.lt_of_lt_of_le hg ((Below.refl 0 w).setCell (p:=⟨b,0,none⟩) (Nat.zero_le _) x).size,?_,?_⟩
  ·rw[<-c0];unfold World.cell?;rw[hh]
  ·rw [<- c1];unfold World.cell?;rw [hh]⟩
end
section
open Go.RowKit Go.Shelf Go.Sort Sv
structure Lb(w:World):Prop where
 ml:∃n,w.cell? ⟨2,0,none⟩=some (.int .i64 n)
 es:∃ev,w.cell? ⟨4,0,none⟩=some ev/\(ev=.nilIface\/∃te pe,ev=.iface te pe)
 er:∃ev,w.cell? ⟨5,0,none⟩=some ev/\(ev=.nilIface\/∃te pe,ev=.iface te pe)
 tab:Lib.TabIs Tryz.prog w "internal/strconv.uint64pow10" .u64 Lib.pow10Tab
 glob:Zg w
 big:10<=w.heap.size
theorem Lb.below{w w':World}(h:Lb w)(hb:zB w w'):Lb w':=by
 have hbig:=h.big;obtain⟨n,h1⟩:=h.ml;obtain⟨e3,h3,h3'⟩:=h.es;obtain⟨e4,h4,h4'⟩:=h.er;exact⟨⟨n,(hb.cell (p:=⟨2,0,none⟩) (by show 2<_;omega)).trans h1⟩,⟨e3,(hb.cell (p:=⟨4,0,none⟩) (by show 4<_;omega)).trans h3,h3'⟩,⟨e4,(hb.cell (p:=⟨5,0,none⟩) (by show 5<_;omega)).trans h4,h4'⟩,Lib.tabBelow_of_tabIs h.tab w' hb,h.glob.below hb,Nat.le_trans hbig hb.size⟩
def xU(l:List UInt8):Except Int Nat :=
 match Lib.parseIntB 64 l with
 |.ok v=>if v<0\/Lib.itoa v≠l then .error 3 else if 999<v then .error 2 else .ok v.toNat
 |_=>.error 3
def zet:Except Int Nat->Value
 |.ok n=>.tuple #[.int .i64 n,.nilIface]
 |.error k=>.tuple #[.int .i64 0,.iface 55 (.int .i64 k)]
theorem zdA(B:Nat)(w:World)(k:Nat)(os:Array Obj)(h:B<=w.heap.size):Below B w (grow (w.drewN k) os):=Lib.below_grow _ w h k os
theorem zh6(w:World)(t:ByteArray):zB w (Lib.bytesWorld w 5 t):=by
 have h:=((Below.refl w.heap.size w).drew).alloc zN (.cells (Lib.bytesCells w 5 t) 5);refine⟨h.os,h.tape,h.output,?_,fun k hk=>?_⟩
 ·exact Nat.le_trans h.size (by simp[Lib.bytesWorld,World.freeze])
 ·rw[<-h.block k hk];simp only[Lib.bytesWorld,World.freeze];rw[if_neg (by decide),Array.getElem?_modify,if_neg (by omega)]
theorem zjx{l:List UInt8}{v:Int}(h:Lib.parseIntB 64 l=.ok v):-9223372036854775808<=v/\v<=9223372036854775807:=by
 unfold Lib.parseIntB at h;split at h
 ·cases h
 ·simp only at h;split at h
  ·cases h
  ·cases h
  ·split at h
   ·cases h
   ·split at h
    ·cases h
    ·cases h;split<;>simp_all<;>omega
theorem zcw(s:ByteArray)(w:World)(hs:s.size<=100000)(hw:Lb w)(h:∀v,Lib.parseIntB 64 s.data.toList≠.ok v) :
  zR 113 #[.string s] w (.tuple #[.int .i64 0,.iface 55 (.int .i64 3)]):=by
 have H:Hid (zC 156 #[.string s,.int .i64 10,.int .i64 64] w fun e w'=>∃N x,e=.returned (.tuple #[.int .i64 x,.iface 328 (.pointer (some ⟨N,0,none⟩))])/\zB w w'):=by
  cases hp:Lib.parseIntB 64 s.data.toList with
  |ok v=>exact absurd hp (h v)
  |«syntax» =>obtain⟨ev,h3,h3'⟩:=hw.es;exact(Tryz.strconv_ParseInt_10_at64_syntax s (by omega) hp ev w h3 h3').mono fun e w' ⟨N,he,_,_,hb⟩=>⟨N,_,he,hb⟩
  |range =>obtain⟨ev,h3,h3'⟩:=hw.er;exact(Tryz.strconv_ParseInt_10_at64_range s (by omega) hp ev w h3 h3').mono fun e w' ⟨N,he,_,_,hb⟩=>⟨N,_,he,hb⟩
 clear h hw;go_enter Tryz.func113,Tryz.ntmps113;go_wp2_with fail;refine H.out.mono ?_;rintro e w1 ⟨N,x,rfl,hb⟩;have HB:=zH hb;clear hb H;go_wp2;go_ret2;exact⟨rfl,HB.out⟩
theorem ziF(s:ByteArray)(w:World)(hs:s.size<=100000)(hw:Lb w)(v:Int)(h:Lib.parseIntB 64 s.data.toList=.ok v) :
  zR 113 #[.string s] w (zet (if v<0\/Lib.itoa v≠s.data.toList then .error 3 else if 999<v then .error 2 else .ok v.toNat)):=by
 obtain⟨r0,r1⟩:=zjx h;have H:Hid (zR 156 #[.string s,.int .i64 10,.int .i64 64] w (.tuple #[.int .i64 v,.nilIface])):=(Tryz.strconv_ParseInt_10_at64_ok s (by omega) v h w).mono fun e w' ⟨he,hw'⟩=>by
  refine⟨he,?_⟩;rcases hw' with rfl|⟨t,rfl⟩
  ·exact Below.refl _ _
  ·exact zh6 w t
 have HF:Hid (∀W,zB w W->zR 157 #[.int .i64 v,.int .i64 10] W (.string ⟨(Lib.itoa v).toArray⟩)):=fun W hb=>(Tryz.strconv_FormatInt_10 v r0 r1 W (hw.below hb).tab).mono fun e w' ⟨he,k,os,hw'⟩=>⟨he,hw'▸zdA _ W k os zN⟩;clear h hw
 by_cases hneg:v<0
 ·rw[if_pos (Or.inl hneg)];go_enter Tryz.func113,Tryz.ntmps113;go_wp2_with fail;refine H.out.mono ?_;rintro e w1 ⟨rfl,hb⟩;have HB:=zH hb;clear hb H;go_wp2;go_ret2;exact⟨rfl,HB.out⟩
 ·generalize Lib.itoa v=l at *
  by_cases hl:l=s.data.toList
  ·have heq:(l==s.toList)=true:=by rw[ByteArray.toList_eq,hl];simp
   rw[if_neg (by rintro (h|h);exact hneg h;exact h hl)];clear hl
   by_cases hbig:999<v
   ·rw[if_pos hbig];go_enter Tryz.func113,Tryz.ntmps113;go_wp2_with fail;refine H.out.mono ?_;rintro e w1 ⟨rfl,hb⟩;have H2:=zH (HF.out _ hb);have HB:=zH hb;clear hb H HF;go_wp2_with fail;refine H2.out.mono ?_;rintro e w2 ⟨rfl,hb2⟩;have HB2:Hid (zB w w2):=zT HB.out hb2;clear hb2 H2 HB;go_wp2;go_ret2;exact⟨rfl,HB2.out⟩
   ·rw[if_neg hbig];have hv:((v.toNat:Nat):Int)=v:=by omega
    go_enter Tryz.func113,Tryz.ntmps113;go_wp2_with fail;refine H.out.mono ?_;rintro e w1 ⟨rfl,hb⟩;have H2:=zH (HF.out _ hb);have HB:=zH hb;have HV:=zH hv;clear hb H HF hv;go_wp2_with fail;refine H2.out.mono ?_;rintro e w2 ⟨rfl,hb2⟩;have HB2:Hid (zB w w2):=zT HB.out hb2;clear hb2 H2 HB;go_wp2;go_ret2;exact⟨(show Ending.returned (.tuple #[.int .i64 v,.nilIface])=.returned (.tuple #[.int .i64 ((v.toNat:Nat):Int),.nilIface]) by rw[HV.out]),HB2.out⟩
  ·have heq:(l==s.toList)=false:=by rw[ByteArray.toList_eq];simpa using hl
   rw[if_pos (Or.inr hl)];clear hl;go_enter Tryz.func113,Tryz.ntmps113;go_wp2_with fail;refine H.out.mono ?_;rintro e w1 ⟨rfl,hb⟩;have H2:=zH (HF.out _ hb);have HB:=zH hb;clear hb H HF;go_wp2_with fail;refine H2.out.mono ?_;rintro e w2 ⟨rfl,hb2⟩;have HB2:Hid (zB w w2):=zT HB.out hb2;clear hb2 H2 HB;go_wp2;go_ret2;exact⟨rfl,HB2.out⟩
theorem zir(s:ByteArray)(w:World)(hs:s.size<=100000)(hw:Lb w) :
  zR 113 #[.string s] w (zet (xU s.data.toList)):=by
 cases h:Lib.parseIntB 64 s.data.toList with
 |ok v=>unfold xU;rw[h];exact ziF s w hs hw v h
 |«syntax»=>unfold xU;rw[h];exact zcw s w hs hw (fun v e=>by rw[h] at e;cases e)
 |range=>unfold xU;rw[h];exact zcw s w hs hw (fun v e=>by rw[h] at e;cases e)
end
section
open Go.RowKit Go.Shelf
attribute [local go_sem] Oper.semAt_some
theorem zbH(s m:ByteArray)(w:World) :
  CallsIn Fence.wide 3 Tryz.prog 43 #[.string s,.string m] w fun e w'=>e=.returned (.func (.func 81) #[] #[.pointer (some ⟨w.heap.size,0,none⟩),.pointer (some ⟨w.heap.size+1,0,none⟩)])/\w'=(w.alloc (.cells #[.string s] 9)).alloc (.cells #[.string m] 9):=by
 refine callsIn_of_wp Tryz.func43 rfl trivial ?_ rfl;simp only[Tryz.ntmps43,List.size_toArray,List.length_cons,List.length_nil,Nat.reduceAdd,Nat.reduceSub,Array.replicate_succ,Array.replicate_zero,List.push_toArray,List.append_toArray,List.nil_append,List.cons_append]
 gi_wp2
 go_ret;exact⟨rfl,rfl⟩
def qN(s m:ByteArray):Nat->Nat->List (Nat × ByteArray)
 |0,k=>[(k,s.extract k s.size)]
 |f+1,k=>if Lib.index (s.extract k s.size).data.toList m.data.toList<0 then [(k,s.extract k s.size)] else (k,s.extract k (k+(Lib.index (s.extract k s.size).data.toList m.data.toList).toNat)) :: qN s m f (k+(Lib.index (s.extract k s.size).data.toList m.data.toList).toNat+m.size)
theorem zf9:∀(l sub:List UInt8),0<=Lib.index l sub->(Lib.index l sub).toNat+sub.length<=l.length:=by
 intro l
 induction l with
 |nil =>
  intro sub h;unfold Lib.index at h ⊢;cases sub with
  |nil=>simp
  |cons c t=>simp at h
 |cons b l ih =>
  intro sub h;unfold Lib.index at h ⊢
  by_cases hp:sub.isPrefixOf (b :: l)=true
  ·rw[if_pos hp];have:=(List.isPrefixOf_iff_prefix.1 hp).length_le;simpa using this
  ·rw[if_neg hp] at h ⊢
   by_cases he:Lib.index l sub=-1
   ·rw[if_pos (by simp[he])] at h;omega
   ·rw[if_neg (by simpa using he)] at h ⊢;have:=ih sub (by omega);simp only[List.length_cons];omega
theorem zh4(s m:ByteArray)(f k:Nat):0<(qN s m f k).length:=by
 cases f with
 |zero=>simp[qN]
 |succ f=>rw[qN];split<;>simp
theorem YQ{s m:ByteArray}{k:Nat}(h:Lib.index (s.extract k s.size).data.toList m.data.toList<0):∀f,qN s m f k=[(k,s.extract k s.size)]
 |0=>rfl
 |f+1=>by rw[qN,if_pos h]
theorem Kx{s m:ByteArray}{k f j:Nat}(h:Lib.index (s.extract k s.size).data.toList m.data.toList=(j:Int)):qN s m (f+1) k=(k,s.extract k (k+j)) :: qN s m f (k+j+m.size):=by
 rw[qN,if_neg (by omega),h];rfl
abbrev Pc:={ x:Nat × ByteArray // x.1<=100000/\x.2.size<=100000 }
abbrev qf(l:List Pc):List (Nat × ByteArray):=l.map Subtype.val
def Kp2(bt bm:Nat)(W W':World):Prop:=W'.cell? ⟨bt,0,none⟩=W.cell? ⟨bt,0,none⟩/\W'.cell? ⟨bm,0,none⟩=W.cell? ⟨bm,0,none⟩/\W'.cell? ⟨2,0,none⟩=W.cell? ⟨2,0,none⟩
theorem zpj(l bt bm:Nat)(s m:ByteArray)(hs:s.size<=100000)(hm:0<m.size)(J Jx:List Pc->World->Prop)
  (hJd:∀pre W,J pre W->J pre W.drew)
  (hY:∀ pre x W,J pre W->pre.length<(qN s m s.size 0).length->YieldAt Fence.wide (3 - 1) Tryz.prog l #[.int .i64 x.1.1,.string x.1.2] W fun e W' =>
   (e=.returned (.bool true)/\J (pre++[x]) W'/\Kp2 bt bm W W')\/(e=.returned (.bool false)/\Jx (pre++[x]) W'))
  (W:World) (h0:W.cell? ⟨bt,0,none⟩=some (.string s)) (h1:W.cell? ⟨bm,0,none⟩=some (.string m)) (n:Int) (hn0:W.cell? ⟨2,0,none⟩=some (.int .i64 n)) (hJ:J [] W) :
  CallsIn Fence.wide 3 Tryz.prog 81 #[.func (.yield l) #[] #[],.pointer (some ⟨bt,0,none⟩),.pointer (some ⟨bm,0,none⟩)] W fun e W'=>(∃v,e=.returned v)/\((∃ys,qf ys=qN s m s.size 0/\J ys W')\/(∃pre,qf pre <+: qN s m s.size 0/\Jx pre W')):=by
 have HY:=zH hY;have HJD:=zH hJd;clear hY hJd;refine callsIn_of_wp Tryz.func81 rfl trivial ?_ rfl;simp only[Tryz.ntmps81,List.size_toArray,List.length_cons,List.length_nil,Nat.reduceAdd,Nat.reduceSub,Array.replicate_succ,Array.replicate_zero,List.push_toArray,List.append_toArray,List.nil_append,List.cons_append]
 gi_wp2
 gi_loopw [4] (fun p wr=>∃(pre:List Pc) (k f:Nat),p=.int .i64 k/\k<=s.size/\s.size<=k+f/\pre.length+f<=s.size/\qf pre++qN s m f k=qN s m s.size 0/\wr.cell? ⟨bt,0,none⟩=some (.string s)/\wr.cell? ⟨bm,0,none⟩=some (.string m)/\wr.cell? ⟨2,0,none⟩=some (.int .i64 n)/\J pre wr)
  (fun p _=>s.size+1-(intOf p).toNat)
 case atStart=>exact⟨[],0,s.size,rfl,Nat.zero_le _,by omega,by simp,rfl,h0,h1,hn0,hJ⟩
 case round =>
  obtain⟨pre,k,f,rfl,hk,hf,hpl,hcut,c0,c1,hn,hJs⟩:=hrel;have HJ:=zH hJs;have HC:=zH hcut;clear hJs hcut;have HN:=zH hn;clear hn;have hmx:Tryz.prog.follows .mixedOrders=true:=by kernel_rfl
  obtain⟨q,hq⟩:∃q:Int,Lib.index (s.extract k s.size).data.toList m.data.toList=q:=⟨_,rfl⟩;have hx:(s.extract k s.size).size=s.size-k:=by rw[ByteArray.size_extract];omega
  have HI:Hid (∀W',W'.cell? ⟨2,0,none⟩=some (.int .i64 n)->CallsIn Fence.wide 2 Tryz.prog 82 #[.string (s.extract k s.size),.string m] W' fun e w'=>e=.returned (.int .i64 q)/\w'=W'):=fun W' h=>callsIn_wide.2 (hq▸Tryz.strings_Index (s.extract k s.size) m n W' (by rw[ByteArray.size_extract];omega) h);have hn2:wr.drew.cell? ⟨2,0,none⟩=some (.int .i64 n):=HN.out;have HN2:=zH hn2;have HQ:=zH hq;have hlen:pre.length<(qN s m s.size 0).length:=by rw[<-HC.out,List.length_append,List.length_map];have:=zh4 s m f k;omega
  have HX:=zH hx;clear hn2 hq hx;have hd:1<=3-1:=by omega
  by_cases hneg:q<0
  ·obtain⟨fn,tmps,assign,body,hy,hR⟩:=HY.out pre ⟨(k,s.extract k s.size),by simp only;omega,by simp only;rw[HX.out];omega⟩ wr.drew (HJD.out _ _ HJ.out) hlen;dsimp only at hy
   gi_wp2
   gi_region_with_o (refine⟨trivial,?_⟩;gi_at_call 82;refine(HI.out _ HN2.out).mono ?_;rintro e w' ⟨rfl,rfl⟩)
   all_goals gi_wp2
   all_goals
    refine hR.mono ?_;rintro e W3 (⟨rfl,hJ3,hk3⟩|⟨rfl,hJx3⟩)
    ·gi_wp2
     refine bodyPost_ret (results_none rfl _ _ _) rfl ?_;have hc:=HC.out;rw[YQ (by rw[HQ.out];exact hneg)] at hc;exact⟨⟨_,rfl⟩,.inl ⟨_,by rw[qf,List.map_append];exact hc,hJ3⟩⟩
    ·gi_wp2
     refine bodyPost_ret (results_none rfl _ _ _) rfl ?_;have hc:=HC.out;rw[YQ (by rw[HQ.out];exact hneg)] at hc;exact⟨⟨_,rfl⟩,.inr ⟨_,⟨[],by rw[List.append_nil,qf,List.map_append];exact hc⟩,hJx3⟩⟩
  ·obtain⟨j,rfl⟩:∃j:Nat,q=(j:Int):=⟨q.toNat,by omega⟩;have hroom:=zf9 (s.extract k s.size).data.toList m.data.toList (by rw[HQ.out];omega);rw[HQ.out] at hroom;have hx:=HX.out;have hxl:(s.extract k s.size).data.toList.length=s.size-k:=by rw[<-hx];simp
   have hml:m.data.toList.length=m.size:=by simp
   rw[hxl,hml] at hroom;simp only[Int.toNat_natCast] at hroom;obtain⟨f',rfl⟩:∃f',f=f'+1:=⟨f-1,by omega⟩;have hcut:=HC.out;rw[Kx HQ.out,List.append_cons] at hcut;have HC2:=zH hcut;have hk1:k<=100000:=by omega
   have hx2:(s.extract k (k+j)).size<=100000:=by rw[ByteArray.size_extract];omega
   clear hx hxl hml hcut HC;obtain⟨fn,tmps,assign,body,hy,hR⟩:=HY.out pre ⟨(k,s.extract k (k+j)),hk1,hx2⟩ wr.drew (HJD.out _ _ HJ.out) hlen;dsimp only at hy;have i0:(0:Int)<=(k:Int):=by omega
   have i1:(k:Int)<=(k:Int)+(j:Int):=by omega
   have i2:(k:Int)+(j:Int)<=(s.size:Int):=by omega
   have hsl:=fun W'=>run_slice_string (P:=Tryz.prog) W' 9 s .i64 .i64 (k:Int) ((k:Int)+(j:Int)) Tryz.underlying9 i0 i1 i2;have e1:((k:Int)+(j:Int)).toNat=k+j:=by omega
   simp only[e1,Int.toNat_natCast] at hsl;clear e1
   gi_wp2
   gi_region_with_o (refine⟨trivial,?_⟩;gi_at_call 82;refine(HI.out _ HN2.out).mono ?_;rintro e w' ⟨rfl,rfl⟩)
   all_goals gi_wp2
   all_goals
    refine hR.mono ?_;rintro e W3 (⟨rfl,hJ3,hk3⟩|⟨rfl,hJx3⟩)
    ·have d0:W3.cell? ⟨bt,0,none⟩=some (.string s):=hk3.1.trans c0;have d1:W3.cell? ⟨bm,0,none⟩=some (.string m):=hk3.2.1.trans c1;have d2:Hid (W3.cell? ⟨2,0,none⟩=some (.int .i64 n)):=hk3.2.2.trans HN.out;have HJ3:=zH hJ3;clear hJ3 hk3
     gi_wp2
     go_roundw
     case rel=>exact⟨pre++[⟨(k,s.extract k (k+j)),hk1,hx2⟩],k+j+m.size,f',by go_num,by omega,by omega,by simp;omega,by rw[qf,List.map_append];exact HC2.out,d0,d1,d2.out,HJ3.out⟩
     case measure=>simp[intOf];omega
    ·gi_wp2
     refine bodyPost_ret (results_none rfl _ _ _) rfl ?_;exact⟨⟨_,rfl⟩,.inr ⟨_,⟨_,by rw[qf,List.map_append];exact HC2.out⟩,hJx3⟩⟩
theorem zk4(W:World):W.grownBy W.drew none:=⟨rfl,rfl,rfl,Nat.le_refl _,fun _ _ _=>rfl⟩
abbrev zfc(x:Pc):Array Value:=#[.int .i64 x.1.1,.string x.1.2]
theorem zaL(bt bm:Nat)(s m:ByteArray)(hs:s.size<=100000)(hm:0<m.size)(w:World)(hbt:bt<w.heap.size)(hbm:bm<w.heap.size)(h1:2<w.heap.size)(c0:w.cell? ⟨bt,0,none⟩=some (.string s))(c1:w.cell? ⟨bm,0,none⟩=some (.string m))(n:Int)(c2:w.cell? ⟨2,0,none⟩=some (.int .i64 n)) :
  SeqStopsK Fence.wide 3 Tryz.prog 81 #[.pointer (some ⟨bt,0,none⟩),.pointer (some ⟨bm,0,none⟩)] zfc (Kp2 bt bm) (fun ys=>qf ys=qN s m s.size 0) (fun pre=>qf pre <+: qN s m s.size 0) (qN s m s.size 0).length w:=fun l J Jx W hW hJ _ hY h0 =>
 zpj l bt bm s m hs hm J Jx (fun pre W h=>hJ pre W _ none h (zk4 W) (fun r e=>by cases e)) hY W ((hW.cell (p:=⟨bt,0,none⟩) hbt).trans c0) ((hW.cell (p:=⟨bm,0,none⟩) hbm).trans c1) n ((hW.cell (p:=⟨2,0,none⟩) h1).trans c2) h0
theorem X7{bt bm:Nat}{A B C:World}(h:Kp2 bt bm A B)(k:Kp2 bt bm B C):Kp2 bt bm A C:=⟨k.1.trans h.1,k.2.1.trans h.2.1,k.2.2.trans h.2.2⟩
theorem XN{W:World}{l b i:Nat}{o':Obj}(h:b≠l):(W.putObj l o').cell? ⟨b,i,none⟩=W.cell? ⟨b,i,none⟩:=by
 unfold World.cell?;rw[World.putObj_heap_other h]
theorem zbz{bt bm:Nat}{w:World}(hbt:bt<w.heap.size)(hbm:bm<w.heap.size)(h1:2<w.heap.size)(W:World)(l:Nat)(o o':Obj)(hl:w.heap.size<=l)(_:W.heap[l]?=some o)(_:o.isCells=false)(_:o.isWalk=false):Kp2 bt bm W (W.putObj l o') :=
 ⟨XN (by omega),XN (by omega),XN (by omega)⟩
theorem JQ{bt bm B:Nat}{W W':World}(h:Below B W W')(h1:bt<B)(h2:bm<B)(h3:2<B):Kp2 bt bm W W':=⟨h.cell (p:=⟨bt,0,none⟩) h1,h.cell (p:=⟨bm,0,none⟩) h2,h.cell (p:=⟨2,0,none⟩) h3⟩
end
section
open Go.RowKit
def Blk(W:World)(b:Nat)(t:TypeId)(cs:Array Value):Prop:=W.heap[b]?=some (.cells cs t (0,0))
theorem Blk.lt{W:World}{b:Nat}{t:TypeId}{cs:Array Value}(h:Blk W b t cs):b<W.heap.size:=(Array.getElem?_eq_some_iff.1 h).1
theorem Blk.cell{W:World}{b:Nat}{t:TypeId}{cs:Array Value}(h:Blk W b t cs)(i:Nat):W.cell? ⟨b,i,none⟩=cs[i]?:=by
 simp[World.cell?,show W.heap[b]?=_ from h]
theorem Blk.frozen{W:World}{b:Nat}{t:TypeId}{cs:Array Value}(h:Blk W b t cs)(i:Nat):W.frozen? ⟨b,i,none⟩=false:=by simp[World.frozen?,show W.heap[b]?=_ from h]
theorem Blk.new(W:World)(t:TypeId)(cs:Array Value):Blk (W.alloc (.cells cs t)) W.heap.size t cs:=World.alloc_heap_new W _
theorem Blk.kept{W W':World}{row:Option Nat}{b:Nat}{t:TypeId}{cs:Array Value}(h:Blk W b t cs)(hg:W.grownBy W' row)(hne:some b≠row):Blk W' b t cs:=(hg.block b h.lt hne).trans h
theorem Blk.alloc{W:World}{b:Nat}{t:TypeId}{cs:Array Value}(h:Blk W b t cs)(o:Obj):Blk (W.alloc o) b t cs:=h.kept (World.grownBy_alloc W o none) (by simp)
theorem Blk.below{B:Nat}{W W':World}{b:Nat}{t:TypeId}{cs:Array Value}(h:Blk W b t cs)(hb:Below B W W')(hB:b<B):Blk W' b t cs:=(hb.block b hB).trans h
theorem Blk.other{W:World}{b b' i:Nat}{t:TypeId}{cs:Array Value}{v:Value}(h:Blk W b t cs)(hne:b≠b'):Blk (W.setCell ⟨b',i,none⟩ v) b t cs:=(Below.heap_setCell _ _ _ b hne).trans h
theorem Blk.put{W:World}{b l:Nat}{t:TypeId}{cs:Array Value}{o':Obj}(h:Blk W b t cs)(hne:b≠l):Blk (W.putObj l o') b t cs:=(World.putObj_heap_other hne).trans h
theorem Blk.set{W:World}{b i:Nat}{t:TypeId}{cs:Array Value}{v:Value}(h:Blk W b t cs):Blk (W.setCell ⟨b,i,none⟩ v) b t (cs.setIfInBounds i v):=by
 obtain⟨hlt,hk⟩:=Array.getElem?_eq_some_iff.1 h;show (W.heap.modify b _)[b]?=_;rw[Array.getElem?_eq_getElem (by rw[Array.size_modify];exact hlt),Array.getElem_modify_self,hk];rfl
end
section
open Go.RowKit Go.Shelf
theorem QT{β:Type}(b:Nat)(t:TypeId)(f:β->Array Value):Own (fun s W=>Blk W b t (f s)):=by
 intro s W W' row h hg hr;refine Blk.kept h hg (fun e=>?_);obtain⟨o,ho,hc⟩:=hr b e.symm;rw[show W.heap[b]?=_ from h] at ho;cases ho;cases hc
theorem yF{W:World}{b b' i j:Nat}{v:Value}(h:b≠b'):(W.setCell ⟨b',i,none⟩ v).cell? ⟨b,j,none⟩=W.cell? ⟨b,j,none⟩:=by
 unfold World.cell?;rw[Below.heap_setCell _ _ _ b h]
theorem Y5{bt bm b i:Nat}{W W':World}{v:Value}(h:Kp2 bt bm W W')(h1:bt≠b)(h2:bm≠b)(h3:2≠b):Kp2 bt bm W (W'.setCell ⟨b,i,none⟩ v) :=
 ⟨(yF h1).trans h.1,(yF h2).trans h.2.1,(yF h3).trans h.2.2⟩
theorem zkX{β:Type}(B N:Nat):OwnFrom B (fun (_:β) (W:World)=>N<=W.heap.size):=fun _ _ _ _ hs hg _=>Nat.le_trans hs hg.size
theorem xM{W W':World}(h:zB W W'):KeepsOthers W W':=⟨h.size,fun k o hk _=>by rw[h.block k (Array.getElem?_eq_some_iff.1 hk).1];exact hk⟩
theorem zcf{W:World}{b:Nat}{t:TypeId}{p q r s u v x:Value}(h:Blk W b t #[p,q,r,s,u,v,x]):W.cell? ⟨b,0,none⟩=some p/\W.frozen? ⟨b,0,none⟩=false/\W.cell? ⟨b,1,none⟩=some q/\W.frozen? ⟨b,1,none⟩=false/\W.cell? ⟨b,2,none⟩=some r/\W.frozen? ⟨b,2,none⟩=false/\W.cell? ⟨b,3,none⟩=some s/\W.frozen? ⟨b,3,none⟩=false/\W.cell? ⟨b,4,none⟩=some u/\W.frozen? ⟨b,4,none⟩=false/\W.cell? ⟨b,5,none⟩=some v/\W.frozen? ⟨b,5,none⟩=false/\W.cell? ⟨b,6,none⟩=some x/\W.frozen? ⟨b,6,none⟩=false:=⟨h.cell 0,h.frozen 0,h.cell 1,h.frozen 1,h.cell 2,h.frozen 2,h.cell 3,h.frozen 3,h.cell 4,h.frozen 4,h.cell 5,h.frozen 5,h.cell 6,h.frozen 6⟩
end
section
open Go.RowKit Go.Shelf Sv
theorem zcx:∀(l:List UInt8) (c:UInt8),(Lib.index l [c]<0/\l.count c=0)\/∃j:Nat,Lib.index l [c]=(j:Int)/\l.count c=(l.drop (j+1)).count c+1:=by
 intro l c
 induction l with
 |nil=>exact .inl ⟨by simp[Lib.index],by simp⟩
 |cons b l ih =>
  by_cases h:c=b
  ·subst h;refine .inr ⟨0,?_,by simp⟩;unfold Lib.index;simp[List.isPrefixOf]
  ·have hp:List.isPrefixOf [c] (b :: l)=false:=by simp[List.isPrefixOf,h]
   have hcount:(b :: l).count c=l.count c:=List.count_cons_of_ne (by simpa using fun e=>h e.symm);rcases ih with ⟨h1,h2⟩|⟨j,h1,h2⟩
   ·refine .inl ⟨?_,by rw[hcount,h2]⟩;have:Lib.index l [c]=-1:=by have:=Lib.index_ge l [c];omega
    unfold Lib.index;rw[hp,this];simp
   ·refine .inr ⟨j+1,?_,by rw[hcount,h2];simp⟩;unfold Lib.index;rw[hp,h1];simp
theorem zeV(s:ByteArray)(c:UInt8):∀(f k:Nat),s.size<=k+f->k<=s.size->(qN s ⟨#[c]⟩ f k).length=(s.data.toList.drop k).count c+1:=by
 intro f
 induction f with
 |zero =>
  intro k h1 h2;obtain rfl:k=s.size:=by omega
  have:s.data.toList.drop s.size=[]:=List.drop_eq_nil_of_le (by simp);rw[this];simp[qN]
 |succ f ih =>
  intro k h1 h2;have hx:(s.extract k s.size).data.toList=s.data.toList.drop k:=Lib.extract_to_end s k;have hl:s.data.toList.length=s.size:=by simp
  rcases zcx (s.data.toList.drop k) c with ⟨h3,h4⟩|⟨j,h3,h4⟩
  ·rw[YQ (by rw[hx];exact h3),h4];rfl
  ·rw[Kx (j:=j) (by rw[hx];exact h3),List.length_cons];have hr:=zf9 (s.data.toList.drop k) [c] (by rw[h3];omega);rw[h3] at hr;simp only[List.length_drop,List.length_cons,List.length_nil,Int.toNat_natCast,hl] at hr;have hm:(⟨#[c]⟩:ByteArray).size=1:=rfl;rw[ih _ (by rw[hm];omega) (by rw[hm];omega),h4,hm,List.drop_drop];congr 3
def yu:List (Nat × ByteArray)->Except Int (List Nat)
 |[]=>.ok []
 |x :: r=>match xU x.2.data.toList with
  |.error k=>.error k
  |.ok n=>match yu r with
   |.error k=>.error k
   |.ok ns=>.ok (n :: ns)
theorem zbm:∀{l:List (Nat × ByteArray)} {ns:List Nat},yu l=.ok ns->ns.length=l.length:=by
 intro l
 induction l with
 |nil=>intro ns h;cases h;rfl
 |cons x r ih =>
  intro ns h;unfold yu at h;split at h
  ·cases h
  ·split at h
   ·cases h
   ·rename_i ns' h';cases h;simp[ih h']
theorem zjv{l r:List (Nat × ByteArray)}{k:Int}(h:yu l=.error k):yu (l++r)=.error k:=by
 induction l with
 |nil=>cases h
 |cons x l ih =>
  unfold yu at h;rw[List.cons_append,yu];split at h
  ·exact h
  ·split at h
   ·rename_i h'';cases h;rw[ih h'']
   ·cases h
theorem zk0{l:List (Nat × ByteArray)}{ns:List Nat}(h:yu l=.ok ns)(x:Nat × ByteArray):yu (l++[x])=match xU x.2.data.toList with
  |.error k=>.error k
  |.ok n=>.ok (ns++[n]):=by
 induction l generalizing ns with
 |nil =>cases h;rw[List.nil_append,yu];cases xU x.2.data.toList<;>rfl
 |cons y l ih =>
  unfold yu at h;rw[List.cons_append,yu];split at h
  ·cases h
  ·split at h
   ·cases h
   ·rename_i h'';cases h;rw[ih h''];cases xU x.2.data.toList<;>rfl
def xH(s:ByteArray):Except Int (List Nat):=if s.data.toList.count 46=2 then yu (qN s ⟨#[46]⟩ s.size 0) else .error 3
def ZZ(ns:List Nat):Array Value:=#[.int .i64 ((ns.getD 0 0:Nat):Int),.int .i64 ((ns.getD 1 0:Nat):Int),.int .i64 ((ns.getD 2 0:Nat):Int)]
def Z1:Except Int (List Nat)->Value
 |.ok ns=>.tuple #[.agg (ZZ ns),.nilIface]
 |.error k=>.tuple #[.agg #[.int .i64 0,.int .i64 0,.int .i64 0],.iface 55 (.int .i64 k)]
theorem zii{l:List UInt8}{n:Nat}(h:xU l=.ok n):n<=999:=by
 unfold xU at h;split at h
 ·split at h
  ·cases h
  ·split at h
   ·cases h
   ·cases h;omega
 ·cases h
theorem zjJ:∀{l:List (Nat × ByteArray)} {ns:List Nat},yu l=.ok ns->∀n∈ns,n<=999:=by
 intro l
 induction l with
 |nil=>intro ns h n hn;cases h;cases hn
 |cons x r ih =>
  intro ns h n hn;unfold yu at h;split at h
  ·cases h
  ·rename_i h0;split at h
   ·cases h
   ·rename_i ns' h';cases h;rcases List.mem_cons.1 hn with rfl|hn
    ·exact zii h0
    ·exact ih h' n hn
theorem zdn{s:ByteArray}{ns:List Nat}(h:xH s=.ok ns):ns.length=3/\∀n∈ns,n<=999:=by
 unfold xH at h;split at h
 ·rename_i hc;refine⟨?_,zjJ h⟩;rw[zbm h,zeV s 46 s.size 0 (by omega) (Nat.zero_le _),List.drop_zero,hc]
 ·cases h
end
end Go.Proofs.YtlmmkbnjhilbdaaGreatDoor
