/- Places in memory: the reference's ranges; In, row, num. -/
import Derived.Test.YtiihalknffbjpaaGreatDoorErAt
import Derived.Shelf.Strings.OnBuilder
import Derived.Shelf.Strings.Replace
import Derived.Shelf.Strings.BuilderK
open Go.Proofs.YtiihalknffbjpaaGreatDoor
set_option maxHeartbeats 2000000
set_option maxRecDepth 100000
namespace Go.Proofs.YtiihalknffbjpaaGreatDoor
open Go.RowKit Go.Shelf Sv
structure Lw(w:World):Prop where
 lb:Lb w
 wd:Zz w
theorem Lw.below{w w':World}(h:Lw w)(hb:zB w w'):Lw w':=⟨h.lb.below hb,h.wd.below hb (by have:=h.lb.big;omega)⟩
theorem Zt(s:ByteArray)(c:UInt8)(W:World)(hs:s.size<=100000)(hw:Lb W) :
  zC 132 #[.string s,.string ⟨#[c]⟩] W fun e w'=>∃b,e=.returned (.tuple #[.string (za s c).1,.string (za s c).2,.bool b])/\zB W w':=by
 obtain⟨m,hm⟩:=hw.ml;refine(Tryz.strings_Cut s ⟨#[c]⟩ m W (by omega) hm).mono fun e w' ⟨he,n,hn⟩=>⟨_,he,?_⟩;subst hn;exact⟨rfl,rfl,rfl,Nat.le_refl _,fun _ _=>rfl⟩
theorem zlG(s:ByteArray)(w:World)(hs:1000<s.size) :
  zR 120 #[.string s] w (.tuple #[.agg #[.slice none 0 0],.iface 57 (.int .i64 4)]):=by
 have hl:(1000:Int)<(s.size:Int):=by omega
 generalize hn:(s.size:Int)=n at *;clear hs;go_enter Tryz.func120,Tryz.ntmps120;go_wp2;have k0:=((Blk.new w 128 #[.slice none 0 0]).alloc (.cells #[.iface 57 (.int .i64 4)] 31));have k1:=(Blk.new (w.alloc (.cells #[.slice none 0 0] 128)) 31 #[.iface 57 (.int .i64 4)]);rw[World.size_alloc] at k1;have hB:zB w ((w.alloc (.cells #[.slice none 0 0] 128)).alloc (.cells #[.iface 57 (.int .i64 4)] 31)):=((Below.refl _ w).alloc zN _).alloc (by simp only[World.size_alloc];omega) _;generalize (w.alloc (.cells #[.slice none 0 0] 128)).alloc (.cells #[.iface 57 (.int .i64 4)] 31)=WF at *;have r0:=k0.cell 0;have r3:=k1.cell 0;refine bodyPost_ret (v:=.tuple #[.agg #[.slice none 0 0],.iface 57 (.int .i64 4)]) (by simp[results,Tryz.f120,go_sem,r0,r3]) rfl ?_;exact⟨rfl,hB⟩
def qS(w:World)(er:Value)(k:Int):Option Nat->Prop
 |none=>er=.iface 57 (.int .i64 k)
 |some q=>∃N,er=.iface 260 (.pointer (some ⟨N,0,none⟩))/\Blk w N 261 #[.int .i64 k,.int .i64 q]
theorem qS.below{w w':World}{er:Value}{k:Int}{p:Option Nat}(h:qS w er k p)(hb:zB w w'):qS w' er k p:=by
 cases p with
 |none=>exact h
 |some q =>obtain⟨N,h1,h2⟩:=h;exact⟨N,h1,h2.below hb h2.lt⟩
theorem qS.form{w:World}{er:Value}{k:Int}{p:Option Nat}(h:qS w er k p):∃t v,er=.iface t v:=by
 cases p with
 |none=>exact⟨_,_,h⟩
 |some q=>obtain⟨N,h1,_⟩:=h;exact⟨_,_,h1⟩
def zjc(r:Except (Int × Option Nat) (List zc))(w':World)(v er:Value):Prop :=
 match r with
 |.ok l=>er=.nilIface/\zg w' v l/\Rg l
 |.error (k,p)=>v=.slice none 0 0/\qS w' er k p
theorem zaT(s:ByteArray)(w:World)(hs:s.size<=100000)(hw:Lb w) :
  zC 120 #[.string s] w fun e w'=>∃a n c er,e=.returned (.tuple #[.agg #[.slice a n c],er])/\zjc (xe s) w' (.slice a n c) er/\(∀g,(Value.slice a n c).ownBlock=some g->w.heap.size<=g)/\zB w w':=by
 unfold xe
 by_cases h:1000<s.size
 ·rw[if_pos h];exact(zlG s w h).mono fun e w' ⟨he,hb⟩=>⟨none,0,0,_,he,⟨rfl,rfl⟩,(fun g hg=>by simp[Value.ownBlock] at hg),hb⟩
 ·rw[if_neg h];refine(zgy s w (by omega) hw).mono fun e w' h=>?_;unfold Ym at h;cases hx:xO s with
  |ok l =>rw[hx] at h;obtain⟨v',he,h1,h2,h3⟩:=h;obtain⟨a',c',rfl⟩:=h1.form;exact⟨a',_,c',_,he,⟨rfl,h1,JD hx⟩,h2,h3⟩
  |error e2 =>obtain⟨k,q⟩:=e2;rw[hx] at h;obtain⟨N,he,h1,h2,h3⟩:=h;exact⟨none,0,0,_,he,⟨rfl,N,rfl,h1⟩,(fun g hg=>by simp[Value.ownBlock] at hg),h3⟩
abbrev z7:Array Value:=#[.int .i64 0,.string ⟨#[]⟩,.int .i64 0,.int .i64 0,.int .i64 0,.string ⟨#[]⟩,.slice none 0 0]
def Q6(w:World)(r:Except (Int × Option Nat) Ln)(e:Ending)(w':World):Prop :=
 match r with
 |.ok x=>∃v,e=.returned (.tuple #[.agg #[.int .i64 x.kind,.string x.name,.int .i64 x.a,.int .i64 x.b,.int .i64 x.c,.string x.other,v],.nilIface])/\zg w' v x.rng/\Rg x.rng/\(∀g,v.ownBlock=some g->w.heap.size<=g)/\zB w w'
 |.error (k,p)=>∃er,e=.returned (.tuple #[.agg z7,er])/\qS w' er k p/\zB w w'
structure LS(w W:World)(b:Nat)(cs:Array Value):Prop where
 z:Blk W w.heap.size 130 z7
 x:Blk W b 130 cs
 ne:w.heap.size<b
 B:zB w W
theorem LS.step{w W W':World}{b:Nat}{cs:Array Value}(h:LS w W b cs)(hb:zB W W'):LS w W' b cs:=⟨h.z.below hb h.z.lt,h.x.below hb h.x.lt,h.ne,zT h.B hb⟩
theorem LS.set{w W:World}{b:Nat}{cs:Array Value}(h:LS w W b cs)(i:Nat)(v:Value):LS w (W.setCell ⟨b,i,none⟩ v) b (cs.setIfInBounds i v) :=
 ⟨h.z.other (by have:=h.ne;omega),h.x.set,h.ne,h.B.setCell (p:=⟨b,i,none⟩) (Nat.le_of_lt h.ne) _⟩
theorem Blk.ne_type{W:World}{b b':Nat}{t t':TypeId}{cs cs':Array Value}(h:Blk W b t cs)(h':Blk W b' t' cs')(hne:t≠t'):b≠b':=by
 rintro rfl;have:=(show W.heap[b]?=_ from h).symm.trans h';simp only[Option.some.injEq,Obj.cells.injEq] at this;exact hne this.2.1
theorem qS.setx{w W:World}{b:Nat}{cs:Array Value}{er:Value}{k:Int}{p:Option Nat}{i:Nat}{v:Value}(h:qS W er k p)(hL:LS w W b cs):qS (W.setCell ⟨b,i,none⟩ v) er k p:=by
 cases p with
 |none=>exact h
 |some q =>obtain⟨N,h1,h2⟩:=h;exact⟨N,h1,h2.other (h2.ne_type hL.x (by decide))⟩
theorem qS.one{W:World}{b:Nat}{cs:Array Value}{er:Value}{k:Int}{p:Option Nat}{i:Nat}{v:Value}(h:qS W er k p)(hL:Blk W b 130 cs):qS (W.setCell ⟨b,i,none⟩ v) er k p:=by
 cases p with
 |none=>exact h
 |some q =>obtain⟨N,h1,h2⟩:=h;exact⟨N,h1,h2.other (h2.ne_type hL (by decide))⟩
theorem qS.setz{w W:World}{b:Nat}{cs:Array Value}{er:Value}{k:Int}{p:Option Nat}{v0 v1 v2 v3 v4 v5 v6:Value}(h:qS W er k p)(hL:LS w W b cs):qS (((((((W.setCell ⟨w.heap.size,0,none⟩ v0).setCell ⟨w.heap.size,1,none⟩ v1).setCell ⟨w.heap.size,2,none⟩ v2).setCell ⟨w.heap.size,3,none⟩ v3).setCell ⟨w.heap.size,4,none⟩ v4).setCell ⟨w.heap.size,5,none⟩ v5).setCell ⟨w.heap.size,6,none⟩ v6) er k p:=by
 have z:=hL.z;exact((((((h.one z).one z.set).one z.set.set).one z.set.set.set).one z.set.set.set.set).one z.set.set.set.set.set).one z.set.set.set.set.set.set
theorem zg.one{W:World}{b:Nat}{v x:Value}{l:List zc}{i:Nat}(h:zg W v l)(hn:v.ownBlock≠some b):zg (W.setCell ⟨b,i,none⟩ x) v l :=
 ⟨h.form,fun j hj=>by
  obtain⟨g,cap,e,hg,c0,c1⟩:=h.cells j hj;have hne:g≠b:=fun e'=>hn (by rw[e,e'];rfl);exact ⟨g,cap,e,by simp [World.setCell];exact hg,(zY hne).trans c0,(zY hne).trans c1⟩⟩
theorem zg.all7{W:World}{b:Nat}{v v0 v1 v2 v3 v4 v5 v6:Value}{l:List zc}(h:zg W v l)(hn:v.ownBlock≠some b):zg (((((((W.setCell ⟨b,0,none⟩ v0).setCell ⟨b,1,none⟩ v1).setCell ⟨b,2,none⟩ v2).setCell ⟨b,3,none⟩ v3).setCell ⟨b,4,none⟩ v4).setCell ⟨b,5,none⟩ v5).setCell ⟨b,6,none⟩ v6) v l :=
 ((((((h.one hn).one hn).one hn).one hn).one hn).one hn).one hn
end Go.Proofs.YtiihalknffbjpaaGreatDoor
namespace Go.Proofs
open Go.Shelf
def Tryz.lays137_ren:Go.Shelf.Ren:=⟨fun|137=>204|217=>269|266=>310|n=>n,fun|9=>9|5=>5|3=>3|n=>n,fun|n=>n⟩
theorem Tryz.lays137:Go.Proofs.Lays.n137 Tryz.prog Tryz.lays137_ren:={
 mixed:=by kernel_rfl
 f137:=zK Tryz.func204 (by kernel_rfl)
 f217:=zK Tryz.func269 (by kernel_rfl)
 f266:=zK Tryz.func310 (by kernel_rfl)
 t3:=Tryz.underlying3
 a3:=Tryz.isAgg3
 z3:=Tryz.sizeOf3
 v3:=Tryz.zeroValue3
 t5:=Tryz.underlying5
 a5:=Tryz.isAgg5
 z5:=Tryz.sizeOf5
 v5:=Tryz.zeroValue5
 t9:=Tryz.underlying9
 a9:=Tryz.isAgg9
 z9:=Tryz.sizeOf9
 v9:=Tryz.zeroValue9 }
open Go.RowKit in
theorem Tryz.strings_IndexByte(s:ByteArray)(c:Int)(w:World) :
  zC 204 #[.string s,.int .u8 c] w fun e w'=>e=.returned (.int .i64 (Lib.indexByte s.data.toList c.toNat.toUInt8))/\w'=w:=Any.strings_IndexByte Tryz.lays137 s c w
def Tryz.lays146_ren:Go.Shelf.Ren:=⟨fun|146=>113|221=>187|268=>249|138=>207|143=>250|195=>273|197=>257|218=>274|219=>272|260=>302|217=>269|225=>313|224=>314|267=>315|266=>310|314=>349|n=>n,fun|9=>9|31=>167|3=>3|4=>4|0=>0|105=>387|21=>21|5=>5|46=>48|119=>444|139=>447|138=>446|146=>461|51=>417|n=>n,fun|1=>5|3=>6|4=>7|n=>n⟩
theorem Tryz.lays146:Go.Proofs.Lays.n146 Tryz.prog Tryz.lays146_ren:={
 mixed:=by kernel_rfl
 f138:=zK Tryz.func207 (by kernel_rfl)
 f143:=zK Tryz.func250 (by kernel_rfl)
 f146:=zK Tryz.func113 (by kernel_rfl)
 f195:=zK Tryz.func273 (by kernel_rfl)
 f197:=zK Tryz.func257 (by kernel_rfl)
 f217:=zK Tryz.func269 (by kernel_rfl)
 f218:=zK Tryz.func274 (by kernel_rfl)
 f219:=zK Tryz.func272 (by kernel_rfl)
 f221:=zK Tryz.func187 (by kernel_rfl)
 f224:=zK Tryz.func314 (by kernel_rfl)
 f225:=zK Tryz.func313 (by kernel_rfl)
 f260:=zK Tryz.func302 (by kernel_rfl)
 f266:=zK Tryz.func310 (by kernel_rfl)
 f267:=zK Tryz.func315 (by kernel_rfl)
 f268:=zK Tryz.func249 (by kernel_rfl)
 f314:=zK Tryz.func349 (by kernel_rfl)
 t0:=Tryz.underlying0
 a0:=Tryz.isAgg0
 z0:=Tryz.sizeOf0
 v0:=Tryz.zeroValue0
 t3:=Tryz.underlying3
 a3:=Tryz.isAgg3
 z3:=Tryz.sizeOf3
 v3:=Tryz.zeroValue3
 t4:=Tryz.underlying4
 a4:=Tryz.isAgg4
 z4:=Tryz.sizeOf4
 v4:=Tryz.zeroValue4
 t5:=Tryz.underlying5
 a5:=Tryz.isAgg5
 z5:=Tryz.sizeOf5
 v5:=Tryz.zeroValue5
 t9:=Tryz.underlying9
 a9:=Tryz.isAgg9
 z9:=Tryz.sizeOf9
 v9:=Tryz.zeroValue9
 t21:=Tryz.underlying21
 a21:=Tryz.isAgg21
 z21:=Tryz.sizeOf21
 v21:=Tryz.zeroValue21
 t31:=Tryz.underlying167
 a31:=Tryz.isAgg167
 z31:=Tryz.sizeOf167
 v31:=Tryz.zeroValue167
 t46:=Tryz.underlying48
 a46:=Tryz.isAgg48
 z46:=Tryz.sizeOf48
 v46:=Tryz.zeroValue48
 t51:=Tryz.underlying417
 a51:=Tryz.isAgg417
 z51:=Tryz.sizeOf417
 v51:=Tryz.zeroValue417
 t105:=Tryz.underlying387
 a105:=Tryz.isAgg387
 z105:=Tryz.sizeOf387
 v105:=Tryz.zeroValue387
 t119:=Tryz.underlying444
 a119:=Tryz.isAgg444
 z119:=Tryz.sizeOf444
 t138:=Tryz.underlying446
 a138:=Tryz.isAgg446
 z138:=Tryz.sizeOf446
 v138:=Tryz.zeroValue446
 t139:=Tryz.underlying447
 a139:=Tryz.isAgg447
 z139:=Tryz.sizeOf447
 v139:=Tryz.zeroValue447
 t146:=Tryz.underlying461
 a146:=Tryz.isAgg461
 z146:=Tryz.sizeOf461
 v146:=Tryz.zeroValue461
 g1:=by kernel_rfl
 g3:=by kernel_rfl
 g4:=by kernel_rfl }
open Go.RowKit Go.Lib in
theorem Tryz.strings_Split(s sep:ByteArray)(m:Int)(w:World)(hs:s.size<4294967281)(hm:w.cell? ⟨5,0,none⟩=some (.int .i64 m))(h1:1<=sep.size) :
  zC 113 #[.string s,.string sep] w fun e w' =>
   e=.returned (.slice (some ⟨w.heap.size,0,none⟩) (Lib.countB s sep+1) (Lib.countB s sep+1))/\w'=w.alloc (.cells ((Lib.splitB sep 0 (Lib.countB s sep) s).map Value.string).toArray 9):=Any.strings_Split Tryz.lays146 (by kernel_rfl) s sep m w hs hm h1
end Go.Proofs
namespace Go.Proofs.YtiihalknffbjpaaGreatDoor
open Go.RowKit Go.Shelf Sv
def ptx(n:Nat):List UInt8:=Lib.itoa (n:Int)
structure zav(n:Nat):Prop where
 tells:q8 (ptx n)=.ok n
 digit:∀x∈ptx n,48<=x/\x<=57
 some:ptx n≠[]
 short:(ptx n).length<=3
theorem zav.not{n:Nat}(h:zav n){c:UInt8}(hc:c<48\/57<c):c∉ptx n:=fun e=>by
 have:=h.digit c e;rcases hc with hc|hc
 ·exact absurd hc (UInt8.not_lt.2 this.1)
 ·exact absurd hc (UInt8.not_lt.2 this.2)
theorem QK{s:ByteArray}{l:List UInt8}(h:s.data.toList=l):s=⟨l.toArray⟩:=by
 obtain⟨d⟩:=s;subst h;simp
theorem zgN(l:List UInt8)(i j:Nat):((⟨l.toArray⟩:ByteArray).extract i j).data.toList=(l.take j).drop i:=by
 rw[ByteArray.data_extract];simp[List.take_drop];rcases Nat.le_total i j with h|h
 ·rw[Nat.add_sub_cancel' h]
 ·rw[List.drop_of_length_le (by simp;omega),List.drop_of_length_le (by simp;omega)]
end Go.Proofs.YtiihalknffbjpaaGreatDoor
namespace Go.Proofs.YtiihalknffbjpaaGreatDoor
open Go.RowKit Go.Shelf Sv
theorem Yo{s t:ByteArray}(h:s.data.toList=t.data.toList):s=t:=by
 rw[QK h,<-QK (s:=t) rfl]
theorem QP(s:ByteArray)(i j:Nat):(s.extract i j).data.toList=(s.data.toList.take j).drop i:=by
 conv=>lhs;rw[QK (s:=s) rfl]
 exact zgN _ _ _
theorem zgq(s:ByteArray)(k j:Nat)(h:k+j<=s.size):(s.extract k s.size).extract 0 j=s.extract k (k+j):=by
 apply Yo;rw[QP,QP,QP,List.drop_zero,List.take_drop,List.take_take];congr 2;omega
theorem zdx(s:ByteArray)(k i:Nat):(s.extract k s.size).extract i (s.extract k s.size).size=s.extract (k+i) s.size:=by
 apply Yo;rw[Lib.extract_to_end,Lib.extract_to_end,Lib.extract_to_end,List.drop_drop]
theorem za7(s m:ByteArray)(hm:1<=m.size):∀(f k:Nat),s.size<=k+f->k<=s.size->Lib.splitB m 0 (Lib.countB (s.extract k s.size) m) (s.extract k s.size)=(zk s m f k).map (·.2):=by
 intro f
 induction f with
 |zero =>
  intro k h1 h2;have hz:(s.extract k s.size).size=0:=by simp;omega
  have hx:Lib.indexB (s.extract k s.size) m=-1:=by
   show Lib.index (s.extract k s.size).data.toList m.data.toList=-1;have h0:(s.extract k s.size).data.toList=[]:=by rw[Lib.extract_to_end];exact List.drop_eq_nil_of_le (by simp;omega)
   have hne:m.data.toList≠[]:=fun e=>by
    have:m.data.toList.length=m.size:=by simp
    rw[e] at this;simp at this;omega
   rw[h0];cases hm':m.data.toList with
   |nil=>exact absurd hm' hne
   |cons a r=>simp[Lib.index]
  rw[Lib.splitB_miss _ _ _ _ hx];rfl
 |succ f ih =>
  intro k h1 h2;have hge:=Lib.index_ge (s.extract k s.size).data.toList m.data.toList
  by_cases hneg:Lib.index (s.extract k s.size).data.toList m.data.toList<0
  ·have hx:Lib.indexB (s.extract k s.size) m=-1:=by
    show Lib.index (s.extract k s.size).data.toList m.data.toList=-1;omega
   rw[Lib.splitB_miss _ _ _ _ hx,Yk hneg];rfl
  ·obtain⟨j,hj⟩:=Int.eq_ofNat_of_zero_le (Int.not_lt.1 hneg);have hx:Lib.indexB (s.extract k s.size) m=(j:Int):=hj;have hr:=QQ (s.extract k s.size).data.toList m.data.toList (by rw[hj];omega);rw[hj] at hr;have hl:(s.extract k s.size).data.toList.length=s.size-k:=by rw[Lib.extract_to_end];simp
   have hml:m.data.toList.length=m.size:=by simp
   rw[hl,hml,Int.toNat_natCast] at hr;rw[Lib.countB_hit _ _ j hm hx,Nat.add_comm 1,Lib.splitB_hit _ _ _ _ j hx,YO hj,List.map_cons,Nat.add_zero,zdx,<-Nat.add_assoc,zgq s k j (by omega),ih _ (by omega) (by omega)]
end Go.Proofs.YtiihalknffbjpaaGreatDoor
namespace Go.Proofs.YtiihalknffbjpaaGreatDoor
open Go.RowKit Go.Shelf Sv
theorem zcq(s:ByteArray)(k:Nat):(s.extract k s.size).data.toList=s.data.toList.drop k:=by
 rw[QP,List.take_of_length_le (by rw[Array.length_toList];exact Nat.le_refl _)]
end Go.Proofs.YtiihalknffbjpaaGreatDoor
namespace Go.Proofs.YtiihalknffbjpaaGreatDoor
open Go.RowKit Go.Shelf Sv
theorem zjN{s:ByteArray}{c:UInt8}(h:Lib.index s.data.toList [c]<0):za s c=(s,⟨#[]⟩):=by
 unfold za Lib.cut;rw[if_neg (by omega)]
theorem zdz{s:ByteArray}{c:UInt8}{j:Nat}(h:Lib.index s.data.toList [c]=(j:Int)):za s c=(s.extract 0 j,s.extract (j+1) s.size):=by
 unfold za Lib.cut;rw[if_pos (by omega),h];simp only[Int.toNat_natCast,List.length_singleton];refine Prod.ext ?_ ?_
 ·exact(QK (by rw[QP];simp)).symm
 ·exact(QK (by rw[zcq])).symm
theorem yc(s:ByteArray)(w:World)(hs:s.size<=100000):zR 130 #[.string s] w (.tuple #[.string (za s 32).1,.string (za s 32).2]):=by
 have HI:Hid (zC 204 #[.string s,.int .u8 32] w fun e w'=>e=.returned (.int .i64 (Lib.index s.data.toList [32]))/\w'=w):=by
  have:=Tryz.strings_IndexByte s 32 w;rw[show (32:Int).toNat.toUInt8=32 from rfl,<-Lib.index_one] at this;exact this
 by_cases h:Lib.index s.data.toList [32]<0
 ·rw[zjN h];generalize Lib.index s.data.toList [32]=K at *;go_enter Tryz.func130,Tryz.ntmps130;go_wp2_with fail;refine HI.out.mono ?_;rintro e w1 ⟨rfl,hw1⟩;rw[hw1];clear hw1 HI;go_wp2;refine bodyPost_ret (v:=.tuple #[.string s,.string ⟨#[]⟩]) (by simp[results,Tryz.results130,go_sem]) rfl ?_;exact⟨rfl,Below.refl _ _⟩
 ·obtain⟨j,hj⟩:∃j:Nat,Lib.index s.data.toList [32]=(j:Int):=⟨(Lib.index s.data.toList [32]).toNat,by omega⟩;have hroom:=QQ s.data.toList [32] (by omega);rw[hj] at hroom HI;have hln:s.data.toList.length=s.size:=by simp
  rw[hln] at hroom;simp only[Int.toNat_natCast,List.length_singleton] at hroom;rw[zdz hj];obtain⟨J1,hJ1⟩:∃J1,j+1=J1:=⟨_,rfl⟩;rw[hJ1] at hroom ⊢;have hwr:IntKind.i64.wrap ((j:Int)+1)=(J1:Int):=by rw[IntKind.wrap_i64];omega
  have hj0:¬(j:Int)<0:=by omega
  have i2:(j:Int)<=(s.size:Int):=by omega
  have i3:(J1:Int)<=(s.size:Int):=by omega
  have hsl:=fun W'=>run_slice_string_h (P:=Tryz.prog) W' 9 s Tryz.underlying9 .i64 (j:Int) (by omega) i2;have hsl2:=fun W'=>run_slice_string_l (P:=Tryz.prog) W' 9 s Tryz.underlying9 .i64 (J1:Int) (by omega) i3;simp only[Int.toNat_natCast] at hsl hsl2;clear h hj hln hJ1;go_enter Tryz.func130,Tryz.ntmps130;go_wp2_with fail;refine HI.out.mono ?_;rintro e w1 ⟨rfl,hw1⟩;rw[hw1];clear hw1 HI;go_wp2_with fail;go_big_region;have HB:Hid (zB w w.drew):=zF.drew;go_wp2;refine bodyPost_ret (v:=.tuple #[.string (s.extract 0 j),.string (s.extract J1 s.size)]) (by simp[results,Tryz.results130,go_sem]) rfl ?_;exact⟨rfl,HB.out⟩
end Go.Proofs.YtiihalknffbjpaaGreatDoor
namespace Go.Proofs.YtiihalknffbjpaaGreatDoor.Sv
def inP:List Nat->Nat->Bool
 |[],_=>false
 |a :: r,n=>if a<=n then !inP r n else false
def Up:List Nat->Prop
 |[]=>True
 |a :: r=>(∀x∈r,a<x)/\Up r
def tp:List zc->List Nat
 |[]=>[]
 |s :: r=>s.1 :: s.2 :: tp r
theorem Qe{l:List Nat}{n:Nat}(h:∀x∈l,n<x):inP l n=false:=by
 cases l with
 |nil=>rfl
 |cons a r=>rw[inP,if_neg (by have:=h a List.mem_cons_self;omega)]
theorem Jh{l m:List Nat}:Up l->Up m->(∀n,inP l n=inP m n)->l=m:=by
 induction l generalizing m with
 |nil =>
  intro _ hm h;cases m with
  |nil=>rfl
  |cons b q =>have:=h b;rw[inP,inP,if_pos zN,Qe (fun x hx=>hm.1 x hx)] at this;cases this
 |cons a r ih =>
  intro hl hm h;cases m with
  |nil =>have:=h a;rw[inP,inP,if_pos zN,Qe (fun x hx=>hl.1 x hx)] at this;cases this
  |cons b q =>
   have hab:a=b:=by
    rcases Nat.lt_trichotomy a b with hlt|heq|hlt
    ·have:=h a;rw[inP,inP,if_pos zN,if_neg (by omega),Qe (fun x hx=>hl.1 x hx)] at this;cases this
    ·exact heq
    ·have:=h b;rw[inP,inP,if_neg (by omega),if_pos zN,Qe (fun x hx=>hm.1 x hx)] at this;cases this
   subst hab;rw[ih hl.2 hm.2 fun n=>?_]
   by_cases hn:a<=n
   ·have:=h n;rw[inP,inP,if_pos hn,if_pos hn] at this;cases hx:inP r n<;>cases hy:inP q n<;>simp_all
   ·rw[Qe (fun x hx=>by have:=hl.1 x hx;omega),Qe (fun x hx=>by have:=hm.1 x hx;omega)]
theorem J3:∀{l:List zc} {lo:Nat},qF lo l->∀x∈tp l,lo<=x:=by
 intro l
 induction l with
 |nil=>intro lo _ x hx;cases hx
 |cons s r ih =>
  intro lo h x hx;obtain⟨h1,h2,h3,h4⟩:=h;rw[tp] at hx;rcases List.mem_cons.1 hx with rfl|hx
  ·exact h1
  ·rcases List.mem_cons.1 hx with rfl|hx
   ·omega
   ·have:=ih h4 x hx;omega
theorem KQ:∀{l:List zc} {lo:Nat},qF lo l->Up (tp l):=by
 intro l
 induction l with
 |nil=>intro lo _;trivial
 |cons s r ih =>
  intro lo h;obtain⟨h1,h2,h3,h4⟩:=h;refine⟨fun x hx=>?_,fun x hx=>?_,ih h4⟩
  ·rcases List.mem_cons.1 hx with rfl|hx
   ·exact h2
   ·have:=J3 h4 x hx;omega
  ·have:=J3 h4 x hx;omega
theorem Zv:∀{l:List zc} {lo n:Nat},qF lo l->(inP (tp l) n=true↔mem l n):=by
 intro l
 induction l with
 |nil=>intro lo n _;simp[tp,inP,ZO]
 |cons s r ih =>
  intro lo n h;obtain⟨h1,h2,h3,h4⟩:=h;have hr:=ih (n:=n) h4;have hg:mem r n->s.2+1<=n:=h4.ge;rw[tp,inP,inP,mem_cons]
  by_cases a:s.1<=n
  ·rw[if_pos a]
   by_cases b:s.2<=n
   ·rw[if_pos b];simp only[Bool.not_not,hr];constructor
    ·exact Or.inr
    ·rintro (⟨_,h⟩|h)
     ·omega
     ·exact h
   ·rw[if_neg b];simp only[Bool.not_false,true_iff];left;omega
  ·rw[if_neg a];simp only[Bool.false_eq_true,false_iff];rintro (⟨h,_⟩|h)
   ·omega
   ·have:=hg h;omega
theorem YC(l:List zc):(tp l).length=l.length*2:=by
 induction l with
 |nil=>rfl
 |cons s r ih=>rw[tp,List.length_cons,List.length_cons,ih,List.length_cons];omega
theorem zkT{a b:Nat}:tp (ze a b)=if a<b then [a,b] else []:=by
 unfold ze;split<;>rfl
def Srt:List Nat->Prop
 |[]=>True
 |a :: r=>(∀x∈r,a<=x)/\Srt r
theorem XK{l r:List Nat}:Srt (l++r)↔Srt l/\Srt r/\∀x∈l,∀y∈r,x<=y:=by
 induction l with
 |nil=>simp[Srt]
 |cons a l ih =>
  rw[List.cons_append,Srt,Srt,ih];constructor
  ·rintro⟨h1,h2,h3,h4⟩;refine⟨⟨fun x hx=>h1 x (List.mem_append_left _ hx),h2⟩,h3,fun x hx y hy=>?_⟩;rcases List.mem_cons.1 hx with rfl|hx
   ·exact h1 y (List.mem_append_right _ hy)
   ·exact h4 x hx y hy
  ·rintro⟨⟨h1,h2⟩,h3,h4⟩;refine⟨fun x hx=>?_,h2,h3,fun x hx y hy=>h4 x (List.mem_cons_of_mem _ hx) y hy⟩;rcases List.mem_append.1 hx with hx|hx
   ·exact h1 x hx
   ·exact h4 a List.mem_cons_self x hx
def qG(l:List Nat)(n:Nat):Nat->Nat
 |0=>0
 |k+1=>if n<l.getD k 0 then qG l n k else k+1
theorem KE(l:List Nat)(n k:Nat):qG l n k<=k:=by
 induction k with
 |zero=>exact Nat.le_refl _
 |succ k ih=>unfold qG;split<;>omega
def xh(l:List Nat)(n:Nat):List Nat:=l.take (qG l n l.length)++n :: l.drop (qG l n l.length)
theorem zjF(l:List Nat)(n:Nat):∀k j,qG l n k<=j->j<k->n<l.getD j 0:=by
 intro k
 induction k with
 |zero=>intro j _ h;omega
 |succ k ih =>
  intro j h1 h2;unfold qG at h1;split at h1
  ·rename_i hlt
   by_cases hj:j<k
   ·exact ih j h1 hj
   ·obtain rfl:j=k:=by omega
    exact hlt
  ·omega
theorem zgW(l:List Nat)(n:Nat):∀k,0<qG l n k->l.getD (qG l n k-1) 0<=n:=by
 intro k
 induction k with
 |zero=>intro h;exact absurd h (by simp[qG])
 |succ k ih =>
  unfold qG;split
  ·exact ih
  ·rename_i h;intro _;simpa using h
theorem zgd{l:List Nat}{n x:Nat}:x∈xh l n↔x=n\/x∈l:=by
 unfold xh;rw[List.mem_append,List.mem_cons];have:x∈l↔x∈l.take (qG l n l.length)\/x∈l.drop (qG l n l.length):=by
  rw[<-List.mem_append,List.take_append_drop]
 rw[this];constructor
 ·rintro (h|h|h)<;>simp[h]
 ·rintro (h|h|h)<;>simp[h]
theorem zhb{l:List Nat}{n:Nat}(h:Srt l):Srt (xh l n):=by
 unfold xh;have hsplit:=h;rw[<-List.take_append_drop (qG l n l.length) l,XK] at hsplit;obtain⟨h1,h2,h3⟩:=hsplit;have hp:=KE l n l.length;rw[XK];refine⟨h1,⟨fun x hx=>?_,h2⟩,fun x hx y hy=>?_⟩
 ·obtain⟨i,hi,rfl⟩:=List.getElem_of_mem hx;rw[List.length_drop] at hi;have:=zjF l n l.length (qG l n l.length+i) (by omega) (by omega);rw[List.getD_eq_getElem?_getD,List.getElem?_eq_getElem (by omega)] at this;rw[List.getElem_drop];simp at this;omega
 ·rcases List.mem_cons.1 hy with rfl|hy
  ·by_cases hz:0<qG l y l.length
   ·have hlo:=zgW l y l.length hz
    -- the last one of the first part is not greater,and all of them are not greater than it
    have hlast:l.getD (qG l y l.length-1) 0∈l.take (qG l y l.length):=by
     rw[List.getD_eq_getElem?_getD,List.getElem?_eq_getElem (by omega)];simp only[Option.getD_some];exact List.mem_iff_getElem.2 ⟨qG l y l.length-1,by rw[List.length_take];omega,by rw[List.getElem_take]⟩
    obtain⟨i,hi,rfl⟩:=List.getElem_of_mem hx;rw[List.length_take] at hi;rw[List.getElem_take];have hsr:∀(a b:Nat) (hb:b<l.length),(hab:a<=b)->l[a]'(by omega)<=l[b]:=by
     intro a b hb hab;rcases Nat.lt_or_eq_of_le hab with hlt|rfl
     ·have hs2:=h;rw[<-List.take_append_drop (a+1) l,XK] at hs2;refine hs2.2.2 _ ?_ _ ?_
      ·exact List.mem_iff_getElem.2 ⟨a,by rw[List.length_take];omega,by rw[List.getElem_take]⟩
      ·exact List.mem_iff_getElem.2 ⟨b-(a+1),by rw[List.length_drop];omega,by rw[List.getElem_drop];congr 1;omega⟩
     ·exact Nat.le_refl _
    have:=hsr i (qG l y l.length-1) (by omega) (by omega);rw[List.getD_eq_getElem?_getD,List.getElem?_eq_getElem (by omega)] at hlo;simp only[Option.getD_some] at hlo;omega
   ·rw[show qG l y l.length=0 by omega] at hx;simp at hx
  ·exact h3 x hx y hy
def qU(acc:List Nat)(l:List Nat):List Nat:=l.foldl xh acc
theorem Jo:∀{l acc:List Nat},Srt acc->Srt (qU acc l):=by
 intro l
 induction l with
 |nil=>intro acc h;exact h
 |cons a r ih=>intro acc h;exact ih (acc:=xh acc a) (zhb h)
theorem KI:∀{l acc:List Nat} {x:Nat},x∈qU acc l↔x∈acc\/x∈l:=by
 intro l
 induction l with
 |nil=>intro acc x;simp[qU]
 |cons a r ih =>
  intro acc x;show x∈qU (xh acc a) r↔_;rw[ih,zgd,List.mem_cons];constructor
  ·rintro ((h|h)|h)<;>simp[h]
  ·rintro (h|h|h)<;>simp[h]
def qI(f:Nat->Bool):Bool->List Nat->List Nat
 |_,[]=>[]
 |is,n :: r=>if f n=is then qI f is r else n :: qI f (f n) r
def Z9(f:Nat->Bool):Bool->List Nat->Nat->Bool
 |is,[],_=>is
 |is,n :: r,x=>if n<=x then Z9 f (f n) r x else is
theorem zbs{f:Nat->Bool}:∀{l:List Nat} {is:Bool},∀x∈qI f is l,x∈l:=by
 intro l
 induction l with
 |nil=>intro is x hx;cases hx
 |cons n r ih =>
  intro is x hx;unfold qI at hx;split at hx
  ·exact List.mem_cons_of_mem _ (ih x hx)
  ·rcases List.mem_cons.1 hx with rfl|hx
   ·exact List.mem_cons_self
   ·exact List.mem_cons_of_mem _ (ih x hx)
theorem ze2{f:Nat->Bool}{n:Nat}:∀{l:List Nat},Srt l->(∀x∈l,n<=x)->∀x∈qI f (f n) l,n<x:=by
 intro l
 induction l with
 |nil=>intro _ _ x hx;cases hx
 |cons m r ih =>
  intro hs hl x hx;have hm:=hl m List.mem_cons_self;unfold qI at hx;split at hx
  ·exact ih hs.2 (fun y hy=>hl y (List.mem_cons_of_mem _ hy)) x hx
  ·rename_i hne;have hlt:n<m:=by
    rcases Nat.lt_or_eq_of_le hm with h|rfl
    ·exact h
    ·exact absurd rfl hne
   rcases List.mem_cons.1 hx with rfl|hx
   ·exact hlt
   ·have:=hs.1 x (zbs x hx);omega
theorem zdg{f:Nat->Bool}:∀{l:List Nat} {is:Bool},Srt l->Up (qI f is l):=by
 intro l
 induction l with
 |nil=>intro is _;trivial
 |cons n r ih =>
  intro is hs;unfold qI;split
  ·exact ih hs.2
  ·exact⟨ze2 hs.2 hs.1,ih hs.2⟩
theorem zft{f:Nat->Bool}{x:Nat}:∀{l:List Nat} {is:Bool},Srt l->(inP (qI f is l) x ^^ is)=Z9 f is l x:=by
 intro l
 induction l with
 |nil=>intro is _;simp[qI,inP,Z9]
 |cons n r ih =>
  intro is hs;have h1:=ih (is:=f n) hs.2;unfold qI Z9
  by_cases hn:n<=x
  ·rw[if_pos hn];split
   ·rename_i e;rw[<-e];exact h1
   ·rename_i e;rw[inP,if_pos hn,<-h1];cases hf:f n<;>cases is<;>simp_all
  ·rw[if_neg hn];split
   ·rw[Qe (fun y hy=>by have:=hs.1 y (zbs y hy);omega)];simp
   ·rw[inP,if_neg hn];simp
theorem zd7{f:Nat->Bool}{x:Nat}:∀{l:List Nat} {is:Bool},Srt l->(∃e∈l,e<=x)->∃m∈l,(∀e∈l,e<=m↔e<=x)/\Z9 f is l x=f m:=by
 intro l
 induction l with
 |nil=>rintro is _ ⟨e,he,_⟩;cases he
 |cons n r ih =>
  intro is hs hex;have hn:n<=x:=by
   obtain⟨e,he,hle⟩:=hex;rcases List.mem_cons.1 he with rfl|he
   ·exact hle
   ·have:=hs.1 e he;omega
  unfold Z9;rw[if_pos hn]
  by_cases h:∃e∈r,e<=x
  ·obtain⟨m,hm,h1,h2⟩:=ih (is:=f n) hs.2 h;refine⟨m,List.mem_cons_of_mem _ hm,fun e he=>?_,h2⟩;rcases List.mem_cons.1 he with rfl|he
   ·have:=hs.1 m hm;exact⟨fun _=>hn,fun _=>this⟩
   ·exact h1 e he
  ·refine⟨n,List.mem_cons_self,fun e he=>?_,?_⟩
   ·rcases List.mem_cons.1 he with rfl|he
    ·exact⟨fun _=>hn,fun _=>Nat.le_refl _⟩
    ·have hgt:¬e<=x:=fun hle=>h ⟨e,he,hle⟩;constructor
     ·intro hle;omega
     ·intro hle;exact absurd hle hgt
   ·cases r with
    |nil=>rfl
    |cons m q =>unfold Z9;rw[if_neg (fun hle=>h ⟨m,List.mem_cons_self,hle⟩)]
theorem za0{m x:Nat}:∀{l:List Nat},(∀e∈l,e<=m↔e<=x)->inP l m=inP l x:=by
 intro l
 induction l with
 |nil=>intro _;rfl
 |cons a r ih =>
  intro h;have:=h a List.mem_cons_self;unfold inP;rw[ih (fun e he=>h e (List.mem_cons_of_mem _ he))]
  by_cases ha:a<=x
  ·rw[if_pos ha,if_pos (this.2 ha)]
  ·rw[if_neg ha,if_neg (fun hm=>ha (this.1 hm))]
def Zn(a b:List Nat)(rule:Bool->Bool->Bool)(n:Nat):Bool:=decide (n<ALL)&&rule (inP a n) (inP b n)
def Zy(a b:List Nat):List Nat:=qU (qU (qU [] [0,ALL]) a) b
def ZD(a b:List Nat)(rule:Bool->Bool->Bool):List Nat:=qI (Zn a b rule) false (Zy a b)
theorem X5(a b:List Nat):Srt (Zy a b):=Jo (Jo (Jo trivial))
theorem Y7{a b:List Nat}{x:Nat}:x∈Zy a b↔(x=0\/x=ALL)\/x∈a\/x∈b:=by
 unfold Zy;rw[KI,KI,KI];simp[or_assoc]
theorem X0(a b:List Nat)(rule:Bool->Bool->Bool)(x:Nat):inP (ZD a b rule) x=Zn a b rule x:=by
 have h:=zft (f:=Zn a b rule) (x:=x) (is:=false) (X5 a b);obtain⟨m,hm,h1,h2⟩:=zd7 (f:=Zn a b rule) (x:=x) (is:=false) (X5 a b) ⟨0,Y7.2 (Or.inl (Or.inl rfl)),Nat.zero_le _⟩;rw[h2] at h;simp only[Bool.xor_false] at h;unfold ZD;rw[h];unfold Zn;have hA:=h1 ALL (Y7.2 (Or.inl (Or.inr rfl)));rw[za0 (l:=a) (fun e he=>h1 e (Y7.2 (Or.inr (Or.inl he)))),za0 (l:=b) (fun e he=>h1 e (Y7.2 (Or.inr (Or.inr he))))];congr 1;rw[decide_eq_decide];omega
theorem Jw(a b:List Nat)(rule:Bool->Bool->Bool):Up (ZD a b rule):=zdg (X5 a b)
open Classical in
theorem zgf{l m:List zc}(hl:Rg l)(hm:Rg m):ZD (tp l) (tp m) (fun x y=>x&&y)=tp (nd l m) :=
 Jh (Jw _ _ _) (KQ (ZK hl hm)) fun n=>by
  rw[X0,Bool.eq_iff_iff,Zv (ZK hl hm),zbP hl hm];unfold Zn;rw[Bool.and_eq_true,Bool.and_eq_true,Zv hl,Zv hm,decide_eq_true_iff];exact⟨fun h=>h.2,fun h=>⟨hl.lt h.1,h⟩⟩
theorem zcX{l m:List zc}(hl:Rg l)(hm:Rg m):ZD (tp l) (tp m) (fun x y=>x||y)=tp (orr l m) :=
 Jh (Jw _ _ _) (KQ (Q8 hl hm)) fun n=>by
  rw[X0,Bool.eq_iff_iff,Zv (Q8 hl hm),zlk hl hm];unfold Zn;rw[Bool.and_eq_true,Bool.or_eq_true,Zv hl,Zv hm,decide_eq_true_iff];exact⟨fun h=>h.2,fun h=>⟨h.elim hl.lt hm.lt,h⟩⟩
theorem zjf{l:List zc}(hl:Rg l):ZD (tp l) [] (fun x _=>!x)=tp (nt l) :=
 Jh (Jw _ _ _) (KQ (xk hl)) fun n=>by
  rw[X0,Bool.eq_iff_iff,Zv (xk hl),YS hl];unfold Zn;rw[Bool.and_eq_true,Bool.not_eq_true',decide_eq_true_iff,<-Bool.not_eq_true,Zv hl]
theorem zhK(a b:List Nat):(Zy a b).length=a.length+b.length+2:=by
 have hi:∀(l:List Nat) (n:Nat),(xh l n).length=l.length+1:=fun l n=>by
  unfold xh;rw[List.length_append,List.length_cons,List.length_take,List.length_drop];have:=KE l n l.length;omega
 have ha:∀(l acc:List Nat),(qU acc l).length=acc.length+l.length:=fun l=>by
  induction l with
  |nil=>intro acc;rfl
  |cons x l ih=>intro acc;show (qU (xh acc x) l).length=_;rw[ih,hi,List.length_cons];omega
 unfold Zy;rw[ha,ha,ha];simp;omega
end Go.Proofs.YtiihalknffbjpaaGreatDoor.Sv
namespace Go.Proofs.YtiihalknffbjpaaGreatDoor
open Go.RowKit Sv
def zV(l:List Nat):List Value:=l.map fun (n:Nat)=>.int .i64 n
def nv(l:List Nat)(i:Nat):Nat:=l.getD i 0
theorem QI(l:List Nat)(i:Nat)(h:i<l.length):nv l i=l[i]:=by unfold nv;simp[List.getD_eq_getElem?_getD,List.getElem?_eq_getElem h]
theorem ZM(l:List Nat):(zV l).length=l.length:=by simp[zV]
theorem XH(a b:List Nat):zV (a++b)=zV a++zV b:=by simp[zV]
theorem zgX(l:List Nat)(i:Nat)(h:i<l.length):(zV l)[i]?=some (.int .i64 (nv l i)):=by simp[zV,h,QI]
structure zr(w:World)(v:Value)(l:List Nat):Prop where
 form:∃a cap,v=.slice a l.length cap
 cells:∀i,i<l.length->∃g cap,v=.slice (some ⟨g,0,none⟩) l.length cap/\g<w.heap.size/\w.cell? ⟨g,i,none⟩=some (.int .i64 (nv l i))
theorem xj(w:World):zr w (.slice none 0 0) []:=⟨⟨none,0,rfl⟩,fun i h=>by simp at h⟩
theorem zr.below{B:Nat}{w w':World}{v:Value}{l:List Nat}(h:zr w v l)(hb:Below B w w')(hB:w.heap.size<=B):zr w' v l :=
 ⟨h.form,fun i hi=>by
  obtain⟨g,cap,e,hg,c0⟩:=h.cells i hi;exact ⟨g,cap,e,Nat.lt_of_lt_of_le hg hb.size,(hb.cell (p:=⟨g,i,none⟩) (by show g<B;omega)).trans c0⟩⟩
theorem zr.drew{w:World}{v:Value}{l:List Nat}(h:zr w v l):zr w.drew v l:=⟨h.form,h.cells⟩
theorem Jr{B:Nat}{w:World}{v:Value}{l:List Nat}(h:w.ownsRow B 3 1 v l.length (zV l)):zr w v l:=by
 rcases h.2 with ⟨e,e0⟩|⟨g,cap,cur,e,hB,hg,hn,hm,hsz,htake⟩
 ·exact⟨⟨none,0,by rw[e,e0]⟩,fun i hi=>by omega⟩
 ·refine⟨⟨_,_,e⟩,fun i hi=>?_⟩;have hlt:g<w.heap.size:=(h.lt g (by rw[e];rfl)).2;have cell:w.cell? ⟨g,i,none⟩=(zV l)[i]?:=by
   rw[<-htake,List.getElem?_take,if_pos (by omega)];simp[World.cell?,hg]
  exact⟨g,cap,e,hlt,cell.trans (zgX l i hi)⟩
theorem K8{B n:Nat}{w:World}{v:Value}{t:TypeId}{cs:List Value}(h:w.ownsRow B t 1 v n cs):∃a c,v=.slice a n c:=by
 rcases h.2 with ⟨e,e0⟩|⟨g,cap,cur,e,-⟩
 ·exact⟨none,0,by rw[e,e0]⟩
 ·exact⟨_,_,e⟩
def yo(w:World)(l:List Nat)(e:Ending)(w':World):Prop:=∃a c,e=.returned (.slice a l.length c)/\zr w' (.slice a l.length c) l/\(∀g,(Value.slice a l.length c).ownBlock=some g->w.heap.size<=g)/\zB w w'
theorem zfG{l:List Nat}{n k:Nat}(hk:k<l.length)(h:nv l k<=n):inP (l.drop k) n=!inP (l.drop (k+1)) n:=by
 rw[List.drop_eq_getElem_cons hk,inP,<-QI l k hk,if_pos h]
theorem zlJ{l:List Nat}{n k:Nat}(hk:k<l.length)(h:¬nv l k<=n):inP (l.drop k) n=false:=by
 rw[List.drop_eq_getElem_cons hk,inP,<-QI l k hk,if_neg h]
theorem JF(k:Nat):((k:Int)%2==1)=(k%2==1):=by
 rw[show (k:Int)%2=((k%2:Nat):Int) by omega];rcases Nat.mod_two_eq_zero_or_one k with e|e<;>rw[e]<;>rfl
theorem zhz(k:Nat)(b:Bool):(b ^^ (k%2==1))=((!b) ^^ ((k+1)%2==1)):=by
 rcases Nat.mod_two_eq_zero_or_one k with e|e
 ·have:(k+1)%2=1:=by omega
  rw[e,this];cases b<;>rfl
 ·have:(k+1)%2=0:=by omega
  rw[e,this];cases b<;>rfl
theorem XO(l:List Nat)(n:Nat)(v:Value)(w:World)(hv:zr w v l)(hlen:l.length<=1000000000) :
  zC 256 #[v,.int .i64 n] w fun e w'=>e=.returned (.bool (inP l n))/\w'=w:=by
 obtain⟨a,cap,rfl⟩:=hv.form;have HV:=zH hv;clear hv;go_enter Tryz.func256,Tryz.ntmps256;go_wp2_with fail;go_loopw [5] (fun kV wr=>∃k:Nat,k<=l.length/\kV=.int .i64 k/\(inP (l.drop k) n ^^ (k%2==1))=inP l n/\wr=w) (fun kV _=>l.length-(intOf kV).toNat)
 case atStart=>exact⟨0,Nat.zero_le _,rfl,by simp,rfl⟩
 case round =>
  obtain⟨k,hk,rfl,hres,rfl⟩:=hrel;have HR:=zH hres;clear hres
  by_cases hlt:k<l.length
  ·obtain⟨g,cap',e1,hg,c0⟩:=HV.out.cells k hlt;simp at e1;obtain⟨rfl,rfl⟩:=e1
   by_cases hle:nv l k<=n
   ·have hres:=HR.out;rw[zfG hlt hle,zhz,Bool.not_not] at hres;have HRS:=zH hres;clear hres HR;generalize nv l k=A at *;go_wp2;go_roundw
    case rel=>exact⟨k+1,by omega,by go_num,HRS.out,trivial⟩
    case measure=>simp[intOf];omega
   ·have hres:=HR.out;rw[zlJ hlt hle,Bool.false_xor] at hres;have hr2:=JF k;rw[hres] at hr2;have HRS:=zH hr2;clear hres HR hr2;generalize nv l k=A at *;go_wp2;go_ret;exact⟨congrArg (fun b=>Ending.returned (.bool b)) HRS.out,rfl⟩
  ·obtain rfl:k=l.length:=by omega
   have hres:=HR.out;rw[List.drop_length,inP,Bool.false_xor] at hres;have hr2:=JF l.length;rw[hres] at hr2;have HRS:=zH hr2;clear hres HR hr2;go_wp2;go_ret;exact⟨congrArg (fun b=>Ending.returned (.bool b)) HRS.out,rfl⟩
theorem xx(x y:Nat)(w:World):zC 114 #[.int .i64 x,.int .i64 y] w (yo w (tp (ze x y))):=by
 rw[zkT]
 by_cases h:x<y
 ·rw[if_pos h];have h1:¬(y:Int)<=(x:Int):=by omega
  clear h;go_enter Tryz.func114,Tryz.ntmps114;go_wp2;go_ret;refine⟨_,_,rfl,⟨⟨_,_,rfl⟩,fun i hi=>⟨w.heap.size,2,rfl,by simp,?_⟩⟩,fun g hg=>by simp[Value.ownBlock] at hg;omega,(Below.refl _ w).alloc zN _⟩
  match i,hi with
  |0,_=>simp[nv]
  |1,_=>simp[nv]
 ·rw[if_neg h];have h1:(y:Int)<=(x:Int):=by omega
  clear h;go_enter Tryz.func114,Tryz.ntmps114;go_wp2;go_ret;exact⟨none,0,rfl,xj _,fun g hg=>by simp[Value.ownBlock] at hg,Below.refl _ _⟩
theorem yG(a b c:Nat)(ha:a<=1000)(hb:b<=1000)(hc:c<=1000)(w:World) :
  zR 189 #[.agg #[.int .i64 a,.int .i64 b,.int .i64 c]] w (.int .i64 (((a*1000+b)*1000+c:Nat):Int)):=by
 have hB:Hid (zB w (w.alloc (.cells #[.int .i64 a,.int .i64 b,.int .i64 c] 91))):=(Below.refl _ w).alloc zN _;have HN:Hid ((a:Int)*1000000+(b:Int)*1000+(c:Int)=(((a*1000+b)*1000+c:Nat):Int)):=by show _=_;omega
 go_enter Tryz.func189,Tryz.ntmps189;go_wp2;go_ret;exact⟨congrArg (fun z=>Ending.returned (Value.int .i64 z)) HN.out,hB.out⟩
end Go.Proofs.YtiihalknffbjpaaGreatDoor
