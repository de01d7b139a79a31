/- A region that draws its order, in a round: it goes as outside of one, where it defers nothing. -/
import Derived.Test.YtlamemjfaogjmaaGreatDoorSvCare
set_option maxHeartbeats 1000000
set_option maxRecDepth 1000000
namespace Go.Proofs.YtlamemjfaogjmaaGreatDoor
section
open Go.RowKit Go.Shelf Sv
abbrev ZC:ByteArray:=⟨#[61,33,60,62,94,126]⟩
def ze(s:ByteArray):ByteArray:=⟨(Lib.trimLeftS s.data.toList ZC.data.toList).toArray⟩
theorem zX(s:ByteArray):(ze s).size<=s.size:=by
 show (Lib.trimLeftS s.data.toList ZC.data.toList).toArray.size<=s.data.size;unfold Lib.trimLeftS;simp only[List.size_toArray];have:=(List.dropWhile_sublist (l:=s.data.toList) (fun x=>ZC.data.toList.contains x)).length_le;simpa using this
def yu(s:ByteArray):Except Int (List Span) :=
 if s.toList=[97,110,121] then .ok zd
 else if s.toList=[110,111,110,101] then .ok []
 else match versF (ze s) with
  |.error k=>.error k
  |.ok ns=>yk (s.extract 0 (s.size-(ze s).size)).toList (ns.getD 0 0) (ns.getD 1 0) (ns.getD 2 0)
theorem len3{ns:List Nat}(h:ns.length=3):∃a b c,ns=[a,b,c]:=by
 match ns,h with
 |[a,b,c],_=>exact⟨a,b,c,rfl⟩
theorem Xm{s:ByteArray}{l:List Span}(h:yu s=.ok l):Rg l:=by
 unfold yu at h;split at h
 ·cases h;exact Zu
 ·split at h
  ·cases h;exact rg_nil
  ·split at h
   ·cases h
   ·rename_i ns hns;obtain⟨h3,h9⟩:=versF_len hns;obtain⟨a,b,c,rfl⟩:=len3 h3;exact zcp (h9 a (by simp)) (h9 b (by simp)) (h9 c (by simp)) h
theorem zc7:(Tryz.prog.info? (Tryz.lays161_ren.t 116)).map (fun i=>(i.zero,i.size))=some (some (.agg (Array.replicate 256 (.bool false))),256):=by kernel_rfl
theorem zdN:∀(j:Nat) (b:UInt8),ZC.data.toList[j]?=some b->b.toNat<128:=ascii_of_all (by decide)
theorem yh(s:ByteArray)(W:World):zR 112 #[.string s,.string ZC] W (.string (ze s)) :=
 Any.strings_TrimLeft_laid Tryz.lays161 zc7 s ZC W (by decide) zdN
theorem zid(s:ByteArray)(w:World)(h:s.toList=[97,110,121]):zC 118 #[.string s] w (qR w (.ok zd)):=by
 have HA:Hid (∀W,zC 70 #[] W fun e w'=>∃a' c',e=.returned (.agg #[.slice a' zd.length c'])/\zb w' (.slice a' zd.length c') zd/\(∀g,(Value.slice a' zd.length c').ownBlock=some g->W.heap.size<=g)/\zB W w'):=fun W=>(xW W).mono fun e w' ⟨v',he,hs,hn,hb⟩=>by obtain⟨a',c',rfl⟩:=hs.form;exact⟨a',c',he,hs,hn,hb⟩
 have k0:=Blk.new w 90 #[.slice none 0 0];have hB:zB w (w.alloc (.cells #[.slice none 0 0] 90)):=zF.alloc zN _;have hs0:(w.alloc (.cells #[.slice none 0 0] 90)).heap.size=w.heap.size+1:=World.size_alloc _ _;have hc4:Hid ((w.alloc (.cells #[.slice none 0 0] 90)).cell? ⟨w.heap.size,0,none⟩=some (.slice none 0 0)):=k0.cell 0;have hf4:Hid ((w.alloc (.cells #[.slice none 0 0] 90)).frozen? ⟨w.heap.size,0,none⟩=false):=k0.frozen 0;have HB:=zH hB;have L1:Hid (w.heap.size<(w.alloc (.cells #[.slice none 0 0] 90)).heap.size):=by show w.heap.size<_;omega
 clear k0 hB hs0;go_enter Tryz.func118,Tryz.ntmps118;go_wp2_with fail;generalize w.alloc (.cells #[.slice none 0 0] 90)=W0 at *;refine(HA.out _).mono ?_;rintro e wK ⟨a',c',rfl,hsK,hnn,hbK⟩;have hc5:=(hbK.cell (p:=⟨w.heap.size,0,none⟩) L1.out).trans hc4.out;have hf5:=(hbK.frozen (p:=⟨w.heap.size,0,none⟩) L1.out).trans hf4.out;have HP:=zH (yU HB.out hc4.out zN L1.out hsK hnn hbK);clear hsK hnn hbK HA;go_wp2;obtain⟨h3,h4,h5,h6⟩:=HP.out;refine bodyPost_ret (v:=.tuple #[.agg #[.slice a' zd.length c'],.nilIface]) (by simp[results,Tryz.results118,go_sem,h3]) rfl ?_;exact⟨_,rfl,h4,h5,h6⟩
theorem zci(s:ByteArray)(w:World)(h:s.toList=[110,111,110,101]):zC 118 #[.string s] w (qR w (.ok [])):=by
 have hB:zB w (w.alloc (.cells #[.slice none 0 0] 90)):=zF.alloc zN _;have k0:(w.alloc (.cells #[.slice none 0 0] 90)).cell? ⟨w.heap.size,0,none⟩=some (.slice none 0 0):=(Blk.new w 90 #[.slice none 0 0]).cell 0;have HB:=zH hB;have HK:=zH k0;clear hB k0;go_enter Tryz.func118,Tryz.ntmps118;go_wp2;have h3:=HK.out;refine bodyPost_ret (v:=.tuple #[.agg #[.slice none 0 0],.nilIface]) (by simp[results,Tryz.results118,go_sem]) rfl ?_;exact⟨_,rfl,QG _,fun g hg=>by simp[Value.ownBlock] at hg,HB.out⟩
theorem zbZ(s:ByteArray)(w:World)(hs:s.size<=100000)(hw:Lb w)(h1:(s.toList==[97,110,121])=false)(h2:(s.toList==[110,111,110,101])=false)(k:Int)(hv:versF (ze s)=.error k):zC 118 #[.string s] w (qR w (.error k)):=by
 have HT:=zH (fun W=>yh s W);have HP:Hid (∀W,zB w W->zR 58 #[.string (ze s)] W (.tuple #[.agg #[.int .i64 0,.int .i64 0,.int .i64 0],.iface 28 (.int .i64 k)])):=fun W hb=>by have:=QF (ze s) W (Nat.le_trans (zX s) hs) (hw.below hb);rw[hv] at this;exact this
 have k0:=Blk.new w 90 #[.slice none 0 0];have hB:zB w (w.alloc (.cells #[.slice none 0 0] 90)):=zF.alloc zN _;have HK0:=zH k0;have HB:=zH hB;generalize ze s=t at *;clear hw hv k0 hB;go_enter Tryz.func118,Tryz.ntmps118;go_wp2_with fail;generalize w.alloc (.cells #[.slice none 0 0] 90)=W0 at *;refine(HT.out _).mono ?_;rintro e w1 ⟨rfl,hb1⟩;have hb01:zB w w1:=zT HB.out hb1;have H2:=zH (HP.out _ hb01);have HB1:=zH hb1;have HB01:=zH hb01;clear hb1 hb01 HP;go_wp2_with fail;refine H2.out.mono ?_;rintro e w2 ⟨rfl,hb2⟩;have hl:=HK0.out.lt;have m1:=(HK0.out.below HB1.out hl).below hb2 (HK0.out.below HB1.out hl).lt;have m2:=m1.alloc (.cells z3 87);have hc4:(w2.alloc (.cells z3 87)).cell? ⟨w.heap.size,0,none⟩=some (.slice none 0 0):=m2.cell 0;have hf4:=m2.frozen 0;have hb02:zB w w2:=zT HB01.out hb2;have hset:((w2.alloc (.cells z3 87)).setCell ⟨w.heap.size,0,none⟩ (.slice none 0 0)).cell? ⟨w.heap.size,0,none⟩=some (.slice none 0 0):=(m2.set (i:=0)).cell 0;have hB2:zB w ((w2.alloc (.cells z3 87)).setCell ⟨w.heap.size,0,none⟩ (.slice none 0 0)):=(zL hb02).setCell (p:=⟨w.heap.size,0,none⟩) zN _;have HSET:=zH hset;have HB2:=zH hB2;clear hb2 hl m1 m2 H2 hset hB2 hb02;go_wp2;have h3:=HSET.out;refine bodyPost_ret (v:=.tuple #[.agg #[.slice none 0 0],.iface 28 (.int .i64 k)]) (by simp[results,Tryz.results118,go_sem,h3]) rfl ?_;exact⟨rfl,HB2.out⟩
theorem zg9(g:ByteArray)(a b c:Nat)(ha:a<=999)(hb:b<=999)(hc:c<=999)(W:World):zC 145 #[.string g,.agg #[.int .i64 a,.int .i64 b,.int .i64 c]] W fun e w'=>∃a' n' c' er,e=.returned (.tuple #[.agg #[.slice a' n' c'],er])/\zB W w'/\(∀g,(Value.slice a' n' c').ownBlock=some g->W.heap.size<=g) /\
  (match yk g.toList a b c with
   |.ok l=>er=.nilIface/\zb w' (.slice a' n' c') l
   | .error k=>er=.iface 28 (.int .i64 k)/\Value.slice a' n' c'=.slice none 0 0):=(zgx g a b c ha hb hc W).mono fun e w' h=>by
 unfold qR at h;cases hs:yk g.toList a b c with
 |ok l =>rw[hs] at h;obtain⟨v',he,h1,h2,h3⟩:=h;obtain⟨a',c',rfl⟩:=h1.form;exact⟨a',_,c',_,he,h3,h2,rfl,h1⟩
 |error k =>rw[hs] at h;obtain⟨he,h3⟩:=h;exact⟨none,0,0,_,he,h3,fun g hg=>by simp[Value.ownBlock] at hg,rfl,rfl⟩
theorem zbx(s:ByteArray)(w:World)(hs:s.size<=100000)(hw:Lb w)(h1:(s.toList==[97,110,121])=false)(h2:(s.toList==[110,111,110,101])=false)(a b c:Nat)(ha:a<=999)(hb:b<=999)(hc:c<=999)(hv:versF (ze s)=.ok [a,b,c]):zC 118 #[.string s] w (qR w (yk (s.extract 0 (s.size-(ze s).size)).toList a b c)):=by
 have HT:=zH (fun W=>yh s W);have HP:Hid (∀W,zB w W->zR 58 #[.string (ze s)] W (.tuple #[.agg #[.int .i64 a,.int .i64 b,.int .i64 c],.nilIface])):=fun W hb=>by have:=QF (ze s) W (Nat.le_trans (zX s) hs) (hw.below hb);rw[hv] at this;exact this
 have hts:=zX s;have k0:=Blk.new w 90 #[.slice none 0 0];have hB:zB w (w.alloc (.cells #[.slice none 0 0] 90)):=zF.alloc zN _;have HK0:=zH k0;have HB:=zH hB;generalize ze s=t at *;have HG:=zH (fun W=>zg9 (s.extract 0 (s.size-t.size)) a b c ha hb hc W);have hq:(s.size:Int)-(t.size:Int)=((s.size-t.size:Nat):Int):=by omega
 have hqs:s.size-t.size<=s.size:=by omega
 generalize yk (s.extract 0 (s.size-t.size)).toList a b c=X at *;generalize s.size-t.size=q at *;have i0:(0:Int)<=(q:Int):=by omega
 have i2:(q:Int)<=(s.size:Int):=by omega
 have hsl:=fun W'=>run_slice_string_h (P:=Tryz.prog) W' 9 s Tryz.underlying9 .i64 (q:Int) i0 i2;simp only[Int.toNat_natCast] at hsl;have hw1:wrap64 ((s.size:Int)-(t.size:Int))=(q:Int):=by rw[hq];unfold wrap64;omega
 have hw2:IntKind.i64.wrap ((s.size:Int)-(t.size:Int))=(q:Int):=by rw[IntKind.wrap_i64];unfold wrap64 at hw1;exact hw1
 clear hw hv k0 hB hts hq;go_enter Tryz.func118,Tryz.ntmps118;go_wp2_with fail;generalize w.alloc (.cells #[.slice none 0 0] 90)=W0 at *;refine(HT.out _).mono ?_;rintro e w1 ⟨rfl,hb1⟩;have hb01:zB w w1:=zT HB.out hb1;have H2:=zH (HP.out _ hb01);have HB1:=zH hb1;have HB01:=zH hb01;clear hb1 hb01 HP;go_wp2_with fail;refine H2.out.mono ?_;rintro e w2 ⟨rfl,hb2⟩;have hl:=HK0.out.lt;have m1:=((HK0.out.below HB1.out hl).below hb2 (HK0.out.below HB1.out hl).lt).alloc (.cells #[.int .i64 a,.int .i64 b,.int .i64 c] 87);have hb02:zB w w2:=zT HB01.out hb2;have hb03:=hb02.alloc hb02.size (.cells #[.int .i64 a,.int .i64 b,.int .i64 c] 87);have kv:=Blk.new w2 87 #[.int .i64 a,.int .i64 b,.int .i64 c];have HM1:=zH m1;have HB03:=zH hb03;have HKV:=zH kv;have hne:w.heap.size<w2.heap.size:=Nat.lt_of_lt_of_le (HK0.out.below HB1.out hl).lt hb2.size;have L1:=zH hne;clear hb2 hl m1 H2 hb02 hb03 kv hne;go_wp2_with fail;generalize w2.alloc (.cells #[.int .i64 a,.int .i64 b,.int .i64 c] 87)=W3 at *;have SC:Hid (∀W,zB W3 W->W.cell? ⟨w2.heap.size,0,none⟩=some (.int .i64 a)/\W.cell? ⟨w2.heap.size,1,none⟩=some (.int .i64 b)/\W.cell? ⟨w2.heap.size,2,none⟩=some (.int .i64 c)):=fun W hb=>⟨(HKV.out.below hb HKV.out.lt).cell 0,(HKV.out.below hb HKV.out.lt).cell 1,(HKV.out.below hb HKV.out.lt).cell 2⟩;have E0:zB W3 W3.drew:=zF.drew;go_region_held3 (fun w'=>w'.cell? ⟨w2.heap.size,0,none⟩=some (.int .i64 a)/\w'.cell? ⟨w2.heap.size,1,none⟩=some (.int .i64 b)/\w'.cell? ⟨w2.heap.size,2,none⟩=some (.int .i64 c)) (first|exact SC.out _ E0|exact SC.out _ E1|exact S5)
  (first
   | ((with_reducible refine (HG.out _).mono ?_);rintro e wK ⟨a',n',c',er,rfl,hbK,hnK,hmK⟩;have E1:zB W3 wK:=E0.trans hbK;have mK:=HM1.out.below E1 HM1.out.lt;have hc4:_=some (Value.slice none 0 0):=mK.cell 0;have hf4:=mK.frozen 0;have S5:(wK.setCell ⟨w.heap.size,0,none⟩ (.slice a' n' c')).cell? ⟨w2.heap.size,0,none⟩=some (.int .i64 a)/\(wK.setCell ⟨w.heap.size,0,none⟩ (.slice a' n' c')).cell? ⟨w2.heap.size,1,none⟩=some (.int .i64 b)/\(wK.setCell ⟨w.heap.size,0,none⟩ (.slice a' n' c')).cell? ⟨w2.heap.size,2,none⟩=some (.int .i64 c):=⟨(cell_set_other (Nat.ne_of_gt L1.out)).trans (SC.out _ E1).1,(cell_set_other (Nat.ne_of_gt L1.out)).trans (SC.out _ E1).2.1,(cell_set_other (Nat.ne_of_gt L1.out)).trans (SC.out _ E1).2.2⟩;clear HG))
 have hset:(wK.setCell ⟨w.heap.size,0,none⟩ (.slice a' n' c')).cell? ⟨w.heap.size,0,none⟩=some (.slice a' n' c'):=(mK.set (i:=0)).cell 0;have hBF:zB w (wK.setCell ⟨w.heap.size,0,none⟩ (.slice a' n' c')):=(zT HB03.out E1).setCell (p:=⟨w.heap.size,0,none⟩) zN _;have hlt3:w.heap.size<W3.heap.size:=HM1.out.lt;have hnb:(Value.slice a' n' c').ownBlock≠some w.heap.size:=fun e=>by have:W3.heap.size<=w.heap.size:=hnK _ e;omega
 have hown:∀g,(Value.slice a' n' c').ownBlock=some g->w.heap.size<=g:=fun g e=>by have:W3.heap.size<=g:=hnK _ e;omega
 have HSET:=zH hset;have HBF:=zH hBF;have HNB:=zH hnb;have HOWN:=zH hown;have HMK:=zH hmK;clear hset hBF hlt3 hnb hown hmK hnK hbK mK S5 E0 E1;go_wp2;have h3:=HSET.out;refine bodyPost_ret (v:=.tuple #[.agg #[.slice a' n' c'],er]) (by simp[results,Tryz.results118,go_sem,h3]) rfl ?_;have hm:=HMK.out;cases X with
 |ok l =>obtain⟨rfl,hsp⟩:=hm;exact⟨_,rfl,hsp.set HNB.out,HOWN.out,HBF.out⟩
 |error k =>obtain⟨rfl,hsl⟩:=hm;have hb:=HBF.out;rw[hsl] at hb ⊢;exact⟨rfl,hb⟩
theorem zh8(s:ByteArray)(w:World)(hs:s.size<=100000)(hw:Lb w):zC 118 #[.string s] w (qR w (yu s)):=by
 unfold yu
 by_cases h1:s.toList=[97,110,121]
 ·rw[if_pos h1];exact zid s w h1
 rw[if_neg h1]
 by_cases h2:s.toList=[110,111,110,101]
 ·rw[if_pos h2];exact zci s w h2
 rw[if_neg h2];cases hv:versF (ze s) with
 |error k=>exact zbZ s w hs hw (by simpa using h1) (by simpa using h2) k hv
 |ok ns =>obtain⟨h3,h9⟩:=versF_len hv;obtain⟨a,b,c,rfl⟩:=len3 h3;exact zbx s w hs hw (by simpa using h1) (by simpa using h2) a b c (h9 a (by simp)) (h9 b (by simp)) (h9 c (by simp)) hv
end
section
open Go.RowKit Go.Shelf
section
variable {n:Nat} {P:Program} {ops:Array Oper} {Q:Exit->Act->World->Prop} {md:Region.Mode} {l:Nat}
theorem zgk{i:Nat}{K K':Act->World->Prop}{a:Act}{w:World}(hnd:∀(j:Nat) (o:Oper),ops[j]?=some o->∀c,o.op≠.defer c)(hK:∀a w,K a w->K' a w)(h:wpOpIn Fence.wide n P ops Q i K a w):wpOpIn (Fence.wide.inRound l) n P ops Q i K' a w:=by
 have h2:=wpOpIn_mono hK h;clear h hK;unfold wpOpIn at *;cases ho:ops[i]? with
 |none=>simp only[ho] at h2 ⊢;exact h2
 |some o =>
  simp only[ho] at h2 ⊢;split
  ·rename_i hw;rw[if_pos hw] at h2;refine⟨h2.1,?_⟩;have h3:=h2.2;rw[Oper.semAt_eq _ _ _ (hnd i o ho)] at h3 ⊢;cases hr:(execOp a.eval o).run P w with
   |ok x w' =>rw[hr] at h3;cases x<;>exact h3
   |halt x w' =>rw[hr] at h3;exact h3
  ·rename_i hw;rw[if_neg hw] at h2;exact h2
theorem ze0(hnd:∀(j:Nat) (o:Oper),ops[j]?=some o->∀c,o.op≠.defer c) :
  ∀(fuel:Nat) (listed:Array Bool) (a:Act) (w:World),wpAnyIn Fence.wide n P md ops Q fuel listed a w->wpAnyIn (Fence.wide.inRound l) n P md ops Q fuel listed a w:=by
 intro fuel
 induction fuel with
 |zero=>intro listed a w h;exact h
 |succ fuel ih =>intro listed a w h;exact⟨h.1,fun i hi=>zgk hnd (fun a w h=>ih _ a w h) (h.2 i hi)⟩
theorem zfu{id:Nat}{a:Act}{w:World}(hm:P.follows .mixedOrders=true)(hnd:∀(j:Nat) (o:Oper),ops[j]?=some o->∀c,o.op≠.defer c)
  (h:wpAnyIn Fence.wide n P .any ops Q ops.size (Array.replicate ops.size false) a w.drew):(Code.region id ops true).wpIn (Fence.wide.inRound l) n P Q a w :=
 wpIn_region_any hm (ze0 hnd _ _ _ _ h)
end
end
end Go.Proofs.YtlamemjfaogjmaaGreatDoor
