/- And. -/
import Derived.Test.YtapobpgbcbplbaaGreatDoorSvBlk
set_option maxHeartbeats 8000000
set_option maxRecDepth 100000
namespace Go.Proofs.YtapobpgbcbplbaaGreatDoor
section
open Go.RowKit Go.Shelf Sv
theorem zhJ:∀(l:List UInt8) (c:UInt8),(Lib.index l [c]<0/\l.count c=0)\/∃j:Nat,Lib.index l [c]=(j:Int)/\l.count c=(l.drop (j+1)).count c+1:=by
 intro l c
 induction l with
 |nil=>exact .inl ⟨by simp[Lib.index],by simp⟩
 |cons b l ih =>
  by_cases h:c=b
  ·subst h;refine .inr ⟨0,?_,by simp⟩;unfold Lib.index;simp[List.isPrefixOf]
  ·have hp:List.isPrefixOf [c] (b :: l)=false:=by simp[List.isPrefixOf,h]
   have hcount:(b :: l).count c=l.count c:=List.count_cons_of_ne (by simpa using fun e=>h e.symm);rcases ih with ⟨h1,h2⟩|⟨j,h1,h2⟩
   ·refine .inl ⟨?_,by rw[hcount,h2]⟩;have:Lib.index l [c]=-1:=by have:=Lib.index_ge l [c];omega
    unfold Lib.index;rw[hp,this];simp
   ·refine .inr ⟨j+1,?_,by rw[hcount,h2];simp⟩;unfold Lib.index;rw[hp,h1];simp
theorem zb8(s:ByteArray)(c:UInt8):∀(f k:Nat),s.size<=k+f->k<=s.size->(qy s ⟨#[c]⟩ f k).length=(s.data.toList.drop k).count c+1:=by
 intro f
 induction f with
 |zero =>
  intro k h1 h2;obtain rfl:k=s.size:=by omega
  have:s.data.toList.drop s.size=[]:=List.drop_eq_nil_of_le (by simp);rw[this];simp[qy]
 |succ f ih =>
  intro k h1 h2;have hx:(s.extract k s.size).data.toList=s.data.toList.drop k:=Lib.extract_to_end s k;have hl:s.data.toList.length=s.size:=by simp
  rcases zhJ (s.data.toList.drop k) c with ⟨h3,h4⟩|⟨j,h3,h4⟩
  ·rw[KM (by rw[hx];exact h3),h4];rfl
  ·rw[zeF (j:=j) (by rw[hx];exact h3),List.length_cons];have hr:=zeP (s.data.toList.drop k) [c] (by rw[h3];omega);rw[h3] at hr;simp only[List.length_drop,List.length_cons,List.length_nil,Int.toNat_natCast,hl] at hr;have hm:(⟨#[c]⟩:ByteArray).size=1:=rfl;rw[ih _ (by rw[hm];omega) (by rw[hm];omega),h4,hm,List.drop_drop];congr 3
def yv:List (Nat × ByteArray)->Except Int (List Nat)
 |[]=>.ok []
 |x :: r=>match xM x.2.data.toList with
  |.error k=>.error k
  |.ok n=>match yv r with
   |.error k=>.error k
   |.ok ns=>.ok (n :: ns)
theorem zap:∀{l:List (Nat × ByteArray)} {ns:List Nat},yv l=.ok ns->ns.length=l.length:=by
 intro l
 induction l with
 |nil=>intro ns h;cases h;rfl
 |cons x r ih =>
  intro ns h;unfold yv at h;split at h
  ·cases h
  ·split at h
   ·cases h
   ·rename_i ns' h';cases h;simp[ih h']
theorem zgR{l r:List (Nat × ByteArray)}{k:Int}(h:yv l=.error k):yv (l++r)=.error k:=by
 induction l with
 |nil=>cases h
 |cons x l ih =>
  unfold yv at h;rw[List.cons_append,yv];split at h
  ·exact h
  ·split at h
   ·rename_i h'';cases h;rw[ih h'']
   ·cases h
theorem zl8{l:List (Nat × ByteArray)}{ns:List Nat}(h:yv l=.ok ns)(x:Nat × ByteArray):yv (l++[x])=match xM x.2.data.toList with
  |.error k=>.error k
  |.ok n=>.ok (ns++[n]):=by
 induction l generalizing ns with
 |nil =>cases h;rw[List.nil_append,yv];cases xM x.2.data.toList<;>rfl
 |cons y l ih =>
  unfold yv at h;rw[List.cons_append,yv];split at h
  ·cases h
  ·split at h
   ·cases h
   ·rename_i h'';cases h;rw[ih h''];cases xM x.2.data.toList<;>rfl
def xC(s:ByteArray):Except Int (List Nat):=if s.data.toList.count 46=2 then yv (qy s ⟨#[46]⟩ s.size 0) else .error 3
def Zz(ns:List Nat):Array Value:=#[.int .i64 ((ns.getD 0 0:Nat):Int),.int .i64 ((ns.getD 1 0:Nat):Int),.int .i64 ((ns.getD 2 0:Nat):Int)]
def ZR:Except Int (List Nat)->Value
 |.ok ns=>.tuple #[.agg (Zz ns),.nilIface]
 |.error k=>.tuple #[.agg #[.int .i64 0,.int .i64 0,.int .i64 0],.iface 64 (.int .i64 k)]
theorem zmq{l:List UInt8}{n:Nat}(h:xM l=.ok n):n<=999:=by
 unfold xM at h;split at h
 ·split at h
  ·cases h
  ·split at h
   ·cases h
   ·cases h;omega
 ·cases h
theorem zls:∀{l:List (Nat × ByteArray)} {ns:List Nat},yv l=.ok ns->∀n∈ns,n<=999:=by
 intro l
 induction l with
 |nil=>intro ns h n hn;cases h;cases hn
 |cons x r ih =>
  intro ns h n hn;unfold yv at h;split at h
  ·cases h
  ·rename_i h0;split at h
   ·cases h
   ·rename_i ns' h';cases h;rcases List.mem_cons.1 hn with rfl|hn
    ·exact zmq h0
    ·exact ih h' n hn
theorem zev{s:ByteArray}{ns:List Nat}(h:xC s=.ok ns):ns.length=3/\∀n∈ns,n<=999:=by
 unfold xC at h;split at h
 ·rename_i hc;refine⟨?_,zls h⟩;rw[zap h,zb8 s 46 s.size 0 (by omega) (Nat.zero_le _),List.drop_zero,hc]
 ·cases h
end
section
open Go.RowKit Go.Shelf Sv
attribute [local go_sem] Oper.semAt_some
abbrev z3:Array Value:=#[.int .i64 0,.int .i64 0,.int .i64 0]
theorem zhS{ns:List Nat}(h:ns.length<3)(n:Nat):Zz (ns++[n])=(Zz ns).setIfInBounds ns.length (.int .i64 n):=by
 match ns,h with
 |[],_=>rfl
 |[a],_=>rfl
 |[a,b],_=>rfl
theorem znt(s:ByteArray)(w:World)(hs:s.size<=100000)(hw:Lb w)(hc:s.data.toList.count 46=2) :
  CallsIn Fence.wide 4 Tryz.prog 52 #[.string s] w fun e w'=>e=.returned (ZR (yv (qy s ⟨#[46]⟩ s.size 0)))/\zB w w':=by
 have HC:Hid (∀W,CallsIn Fence.wide 3 Tryz.prog 82 #[.string s,.string ⟨#[46]⟩] W fun e w'=>e=.returned (.int .i64 2)/\w'=W):=fun W=>callsIn_wide.2 (by have:=Tryz.strings_Count_one s 46 W;unfold Lib.countByte at this;rw[hc] at this;exact this);have HP:Hid (∀W,CallsIn Fence.wide 3 Tryz.prog 83 #[.string s,.string ⟨#[46]⟩] W fun e w'=>e=.returned (.func (.func 142) #[] #[.pointer (some ⟨W.heap.size,0,none⟩),.pointer (some ⟨W.heap.size+1,0,none⟩)])/\w'=(W.alloc (.cells #[.string s] 9)).alloc (.cells #[.string ⟨#[46]⟩] 9)):=fun W=>zaa s ⟨#[46]⟩ W;have hN:(qy s ⟨#[46]⟩ s.size 0).length=3:=by rw[zb8 s 46 s.size 0 (by omega) (Nat.zero_le _),List.drop_zero,hc]
 have HL:=zH hw;have hbig:=hw.big;clear hc hw;refine callsIn_of_wp_marks Tryz.func52 rfl trivial ?_ rfl;simp only[Tryz.ntmps52,List.size_toArray,List.length_cons,List.length_nil,Nat.reduceAdd,Nat.reduceSub,Array.replicate_succ,Array.replicate_zero,List.push_toArray,List.append_toArray,List.nil_append,List.cons_append]
 gi_wp2_with (first
  |(refine⟨trivial,?_⟩;gi_at_call 82;refine(HC.out _).mono ?_;rintro e w' ⟨rfl,rfl⟩)
  | (refine ⟨trivial,?_⟩;gi_at_call 83;refine (HP.out _).mono ?_;rintro e w' ⟨rfl,rfl⟩))
 clear HC HP;have k0:=(((((Blk.new w 33 z3).alloc (.cells #[.nilIface] 41)).alloc (.cells z3 33)).alloc (.cells #[.int .i64 0] 3)).alloc (.cells #[.string s] 9)).alloc (.cells #[.string ⟨#[46]⟩] 9);have k1:=((((Blk.new (w.alloc (.cells z3 33)) 41 #[.nilIface]).alloc (.cells z3 33)).alloc (.cells #[.int .i64 0] 3)).alloc (.cells #[.string s] 9)).alloc (.cells #[.string ⟨#[46]⟩] 9);have k2:=(((Blk.new ((w.alloc (.cells z3 33)).alloc (.cells #[.nilIface] 41)) 33 z3).alloc (.cells #[.int .i64 0] 3)).alloc (.cells #[.string s] 9)).alloc (.cells #[.string ⟨#[46]⟩] 9);have k3:=((Blk.new (((w.alloc (.cells z3 33)).alloc (.cells #[.nilIface] 41)).alloc (.cells z3 33)) 3 #[.int .i64 0]).alloc (.cells #[.string s] 9)).alloc (.cells #[.string ⟨#[46]⟩] 9);have k4:=(Blk.new ((((w.alloc (.cells z3 33)).alloc (.cells #[.nilIface] 41)).alloc (.cells z3 33)).alloc (.cells #[.int .i64 0] 3)) 9 #[.string s]).alloc (.cells #[.string ⟨#[46]⟩] 9);have k5:=Blk.new (((((w.alloc (.cells z3 33)).alloc (.cells #[.nilIface] 41)).alloc (.cells z3 33)).alloc (.cells #[.int .i64 0] 3)).alloc (.cells #[.string s] 9)) 9 #[.string ⟨#[46]⟩];simp only[World.size_alloc] at k1 k2 k3 k4 k5;have hB0:zB w ((((((w.alloc (.cells z3 33)).alloc (.cells #[.nilIface] 41)).alloc (.cells z3 33)).alloc (.cells #[.int .i64 0] 3)).alloc (.cells #[.string s] 9)).alloc (.cells #[.string ⟨#[46]⟩] 9)):=((((((Below.refl _ w).alloc zN _).alloc (by simp only[World.size_alloc];omega) _).alloc (by simp only[World.size_alloc];omega) _).alloc (by simp only[World.size_alloc];omega) _).alloc (by simp only[World.size_alloc];omega) _).alloc (by simp only[World.size_alloc];omega) _;have hsz:((((((w.alloc (.cells z3 33)).alloc (.cells #[.nilIface] 41)).alloc (.cells z3 33)).alloc (.cells #[.int .i64 0] 3)).alloc (.cells #[.string s] 9)).alloc (.cells #[.string ⟨#[46]⟩] 9)).heap.size=w.heap.size+1+1+1+1+1+1:=by simp only[World.size_alloc]
 obtain⟨W0,hW0⟩:∃W0,(((((w.alloc (.cells z3 33)).alloc (.cells #[.nilIface] 41)).alloc (.cells z3 33)).alloc (.cells #[.int .i64 0] 3)).alloc (.cells #[.string s] 9)).alloc (.cells #[.string ⟨#[46]⟩] 9)=W0:=⟨_,rfl⟩;rw[hW0] at k0 k1 k2 k3 k4 k5 hB0 hsz ⊢;clear hW0;obtain⟨n,hn⟩:=(HL.out.below hB0).ml;have c4:_=some (Value.string s):=k4.cell 0;have c5:_=some (Value.string ⟨#[46]⟩):=k5.cell 0;refine wpIn_rangeFunc_ownF rfl (by omega) (gf:=142) (lb:=#[.pointer (some ⟨w.heap.size+1+1+1+1,0,none⟩),.pointer (some ⟨w.heap.size+1+1+1+1+1,0,none⟩)]) rfl trivial (enters_of Tryz.func142 (by kernel_rfl) rfl)
  (JM (w.heap.size+1+1+1+1) (w.heap.size+1+1+1+1+1) s ⟨#[46]⟩ hs (by decide) W0 (by omega) (by omega) (by omega) c4 c5 n hn) Xy (JB (by omega) (by omega) (by omega)) zF (fun _=>rfl)
  (fun pre W=>((Blk W w.heap.size 33 z3/\Blk W (w.heap.size+1) 41 #[.nilIface])/\(∃ns,yv (zW pre)=.ok ns/\Blk W (w.heap.size+1+1) 33 (Zz ns)/\Blk W (w.heap.size+1+1+1) 3 #[.int .i64 ns.length]))/\(zB w W/\w.heap.size+1+1+1+1+1+1<=W.heap.size))
  (fun c pre W=>(c=.ret/\∃k,yv (zW pre)=.error k/\Blk W w.heap.size 33 z3/\Blk W (w.heap.size+1) 41 #[.iface 64 (.int .i64 k)])/\zB w W)
  (OwnFrom.and (Own.from (fun pre A B row hs hg hr=>⟨⟨Qa _ _ (fun _:Unit=>z3) () A B row hs.1.1 hg hr,Qa _ _ (fun _:Unit=>#[.nilIface]) () A B row hs.1.2 hg hr⟩,by
   obtain⟨ns,h1,h2,h3⟩:=hs.2;exact ⟨ns,h1,Qa _ _ (fun _:Unit=>Zz ns) () A B row h2 hg hr,Qa _ _ (fun _:Unit=>#[.int .i64 ns.length]) () A B row h3 hg hr⟩⟩) _) (OwnFrom.and (ownFrom_below zN (by omega)) (znE _ _)))
  (fun c=>OwnFrom.and (Own.from (fun pre A B row hs hg hr=>⟨hs.1,by
   obtain⟨k,h1,h2,h3⟩:=hs.2;exact ⟨k,h1,Qa _ _ (fun _:Unit=>z3) () A B row h2 hg hr,Qa _ _ (fun _:Unit=>#[.iface 64 (.int .i64 k)]) () A B row h3 hg hr⟩⟩) _) (ownFrom_below zN (by omega)))
  ⟨⟨⟨k0,k1⟩,[],rfl,k2,k3⟩,hB0,by omega⟩
  (fun x=>{ tmps:=#[.string s,undef,.pointer (some ⟨w.heap.size,0,none⟩),.pointer (some ⟨w.heap.size+1,0,none⟩),.pointer (some ⟨w.heap.size+1+1,0,none⟩),.pointer (some ⟨w.heap.size+1+1+1,0,none⟩),undef,.string x.1.2,undef,undef,.string s,.int .i64 2,.bool false,undef,undef,.string s,.func (.func 142) #[] #[.pointer (some ⟨w.heap.size+1+1+1+1,0,none⟩),.pointer (some ⟨w.heap.size+1+1+1+1+1,0,none⟩)],.int .i64 x.1.1,.string x.1.2,undef,undef,undef,undef,undef,undef,undef,undef,undef,undef,undef,undef,undef,undef,undef],defers:=[] }) ?assign ?body ?done ?stop
 case assign =>
  intro l x W K hK
  gi_wp2
  exact hK
 case body =>
  rintro l pre x W ⟨⟨⟨j0,j1⟩,ns,hns,j2,j3⟩,hB,hl6⟩ hlen;have hnl:=zap hns;rw[List.length_map] at hnl;have hn3:ns.length<3:=by omega
  clear hnl;have HP:=zH (J7 x.1.2 W x.2.2 (HL.out.below hB));have hsn:=zl8 hns x.1;have HSN:Hid (yv (zW (pre++[x]))=match xM x.1.2.data.toList with
   |.error k=>.error k
   | .ok n=>.ok (ns++[n])):=by rw [zW,List.map_append];exact hsn
  clear hsn;cases hp:xM x.1.2.data.toList with
  |error k =>
   rw[hp] at HP HSN;have HP2:Hid (zR 84 #[.string x.1.2] W (.tuple #[.int .i64 0,.iface 64 (.int .i64 k)])):=HP.out;clear hp HP
   gi_wp2_with fail
   refine⟨trivial,?_⟩;refine(CallsIn.inRound l (callsIn_wide.2 HP2.out)).mono ?_;rintro e W' ⟨rfl,hb⟩;have m0:=j0.below hb j0.lt;have m1:=j1.below hb j1.lt;have d0:W'.cell? ⟨w.heap.size,0,none⟩=some (.int .i64 0):=m0.cell 0;have d1:W'.cell? ⟨w.heap.size,1,none⟩=some (.int .i64 0):=m0.cell 1;have d2:W'.cell? ⟨w.heap.size,2,none⟩=some (.int .i64 0):=m0.cell 2;have e0:=m0.frozen 0;have e1:=m0.frozen 1;have e2:=m0.frozen 2;have d3:W'.cell? ⟨w.heap.size+1,0,none⟩=some .nilIface:=m1.cell 0;have e3:=m1.frozen 0;have hbw:zB w W':=zT hB hb;have hko:=xt hb;have HX:Hid (KeepsOthers W ((((W'.setCell ⟨w.heap.size,0,none⟩ (.int .i64 0)).setCell ⟨w.heap.size,1,none⟩ (.int .i64 0)).setCell ⟨w.heap.size,2,none⟩ (.int .i64 0)).setCell ⟨w.heap.size+1,0,none⟩ (.iface 64 (.int .i64 k)))):=(((hko.trans (KeepsOthers.setCell _ _ _)).trans (KeepsOthers.setCell _ _ _)).trans (KeepsOthers.setCell _ _ _)).trans (KeepsOthers.setCell _ _ _);have HB1:Hid (zB w ((((W'.setCell ⟨w.heap.size,0,none⟩ (.int .i64 0)).setCell ⟨w.heap.size,1,none⟩ (.int .i64 0)).setCell ⟨w.heap.size,2,none⟩ (.int .i64 0)).setCell ⟨w.heap.size+1,0,none⟩ (.iface 64 (.int .i64 k)))):=(((hbw.setCell (p:=⟨w.heap.size,0,none⟩) zN _).setCell (p:=⟨w.heap.size,1,none⟩) zN _).setCell (p:=⟨w.heap.size,2,none⟩) zN _).setCell (p:=⟨w.heap.size+1,0,none⟩) (Nat.le_succ _) _;have HM0:Hid (Blk ((((W'.setCell ⟨w.heap.size,0,none⟩ (.int .i64 0)).setCell ⟨w.heap.size,1,none⟩ (.int .i64 0)).setCell ⟨w.heap.size,2,none⟩ (.int .i64 0)).setCell ⟨w.heap.size+1,0,none⟩ (.iface 64 (.int .i64 k))) w.heap.size 33 z3):=(((m0.set (i:=0) (v:=.int .i64 0)).set (i:=1) (v:=.int .i64 0)).set (i:=2) (v:=.int .i64 0)).other (by omega);have HM1:Hid (Blk ((((W'.setCell ⟨w.heap.size,0,none⟩ (.int .i64 0)).setCell ⟨w.heap.size,1,none⟩ (.int .i64 0)).setCell ⟨w.heap.size,2,none⟩ (.int .i64 0)).setCell ⟨w.heap.size+1,0,none⟩ (.iface 64 (.int .i64 k))) (w.heap.size+1) 41 #[.iface 64 (.int .i64 k)]):=(((m1.other (by omega)).other (by omega)).other (by omega)).set (i:=0);clear j0 j1 j2 j3 hb hB hbw hko m0 m1 HP2
   gi_wp2
   exact⟨HX.out,⟨rfl,k,HSN.out,HM0.out,HM1.out⟩,HB1.out⟩
  |ok n =>
   rw[hp] at HP HSN;have HP2:Hid (zR 84 #[.string x.1.2] W (.tuple #[.int .i64 n,.nilIface])):=HP.out;clear hp HP
   gi_wp2_with fail
   refine⟨trivial,?_⟩;refine(CallsIn.inRound l (callsIn_wide.2 HP2.out)).mono ?_;rintro e W' ⟨rfl,hb⟩;have m0:=j0.below hb j0.lt;have m1:=j1.below hb j1.lt;have m2:=j2.below hb j2.lt;have m3:=j3.below hb j3.lt;have d3:W'.cell? ⟨w.heap.size+1+1+1,0,none⟩=some (.int .i64 ns.length):=m3.cell 0;have e3:=m3.frozen 0;have g3:(W'.setCell ⟨w.heap.size+1+1,ns.length,none⟩ (.int .i64 n)).cell? ⟨w.heap.size+1+1+1,0,none⟩=some (.int .i64 ns.length):=(m3.other (by omega)).cell 0;have g4:(W'.setCell ⟨w.heap.size+1+1,ns.length,none⟩ (.int .i64 n)).frozen? ⟨w.heap.size+1+1+1,0,none⟩=false:=(m3.other (by omega)).frozen 0;obtain⟨y,hy⟩:∃y,(Zz ns)[ns.length]?=some (.int .i64 y):=by
    match ns,hn3 with
    |[],_=>exact⟨_,rfl⟩
    |[a],_=>exact⟨_,rfl⟩
    |[a,b],_=>exact⟨_,rfl⟩
   have d2:W'.cell? ⟨w.heap.size+1+1,ns.length,none⟩=some (.int .i64 y):=(m2.cell ns.length).trans hy;have e2:=m2.frozen ns.length;have hbw:zB w W':=zT hB hb;have hko:=xt hb;have hxx:KeepsOthers W ((W'.setCell ⟨w.heap.size+1+1,ns.length,none⟩ (.int .i64 n)).setCell ⟨w.heap.size+1+1+1,0,none⟩ (.int .i64 ((ns.length:Int)+1))):=(hko.trans (KeepsOthers.setCell _ _ _)).trans (KeepsOthers.setCell _ _ _);have hbb:zB w ((W'.setCell ⟨w.heap.size+1+1,ns.length,none⟩ (.int .i64 n)).setCell ⟨w.heap.size+1+1+1,0,none⟩ (.int .i64 ((ns.length:Int)+1))):=(hbw.setCell (p:=⟨w.heap.size+1+1,ns.length,none⟩) (by show w.heap.size<=w.heap.size+1+1;omega) _).setCell (p:=⟨w.heap.size+1+1+1,0,none⟩) (by show w.heap.size<=w.heap.size+1+1+1;omega) _;have n0:Blk ((W'.setCell ⟨w.heap.size+1+1,ns.length,none⟩ (.int .i64 n)).setCell ⟨w.heap.size+1+1+1,0,none⟩ (.int .i64 ((ns.length:Int)+1))) w.heap.size 33 z3:=(m0.other (by omega)).other (by omega);have n1:Blk ((W'.setCell ⟨w.heap.size+1+1,ns.length,none⟩ (.int .i64 n)).setCell ⟨w.heap.size+1+1+1,0,none⟩ (.int .i64 ((ns.length:Int)+1))) (w.heap.size+1) 41 #[.nilIface]:=(m1.other (by omega)).other (by omega);have n2:Blk ((W'.setCell ⟨w.heap.size+1+1,ns.length,none⟩ (.int .i64 n)).setCell ⟨w.heap.size+1+1+1,0,none⟩ (.int .i64 ((ns.length:Int)+1))) (w.heap.size+1+1) 33 (Zz (ns++[n])):=by rw[zhS hn3];exact(m2.set (i:=ns.length)).other (by omega)
   have n3:Blk ((W'.setCell ⟨w.heap.size+1+1,ns.length,none⟩ (.int .i64 n)).setCell ⟨w.heap.size+1+1+1,0,none⟩ (.int .i64 ((ns.length:Int)+1))) (w.heap.size+1+1+1) 3 #[.int .i64 (((ns++[n]).length:Nat):Int)]:=by
    have:=(m3.other (b':=w.heap.size+1+1) (i:=ns.length) (v:=.int .i64 n) (by omega)).set (i:=0) (v:=.int .i64 ((ns.length:Int)+1));rw[show (((ns++[n]).length:Nat):Int)=(ns.length:Int)+1 by simp];exact this
   have kp:Kp2 (w.heap.size+1+1+1+1) (w.heap.size+1+1+1+1+1) W ((W'.setCell ⟨w.heap.size+1+1,ns.length,none⟩ (.int .i64 n)).setCell ⟨w.heap.size+1+1+1,0,none⟩ (.int .i64 ((ns.length:Int)+1))):=by
    exact Y5 (Y5 (J6 hb (by omega) (by omega) (by omega)) (by omega) (by omega) (by omega)) (by omega) (by omega) (by omega)
   have hl7:=Nat.le_trans hl6 hxx.size;have HX1:=zH hxx;have HX2:=zH kp;have HX3:=zH n0;have HX4:=zH n1;have HX5:=zH n2;have HX6:=zH n3;have HX7:=zH hbb;have HX8:=zH hl7;clear j0 j1 j2 j3 hb hB hbw hko m0 m1 m2 m3 HP2 hns hlen hl6 hxx kp n0 n1 n2 n3 hbb hy hl7
   gi_wp2
   exact⟨HX1.out,HX2.out,⟨⟨HX3.out,HX4.out⟩,ns++[n],HSN.out,HX5.out,HX6.out⟩,HX7.out,HX8.out⟩
 case done =>
  rintro D ys W hD hys ⟨⟨⟨j0,j1⟩,ns,hns,j2,j3⟩,hB,hl6⟩ hK;rw[hys] at hns;have hn3:ns.length=3:=by rw[zap hns,hN]
  obtain⟨a,b,c,rfl⟩:∃a b c,ns=[a,b,c]:=by
   match ns,hn3 with
   |[a,b,c],_=>exact⟨a,b,c,rfl⟩
  have HNS:=zH hns;clear hns hys;have d0:_=some (Value.int .i64 0):=j0.cell 0;have d1:_=some (Value.int .i64 0):=j0.cell 1;have d2:_=some (Value.int .i64 0):=j0.cell 2;have e0:=j0.frozen 0;have e1:=j0.frozen 1;have e2:=j0.frozen 2;have d3:_=some Value.nilIface:=j1.cell 0;have e3:=j1.frozen 0;have g0:_=some (Value.int .i64 a):=j2.cell 0;have g1:_=some (Value.int .i64 b):=j2.cell 1;have g2:_=some (Value.int .i64 c):=j2.cell 2;obtain⟨WF,hWF⟩:∃WF,(((W.setCell ⟨w.heap.size,0,none⟩ (.int .i64 a)).setCell ⟨w.heap.size,1,none⟩ (.int .i64 b)).setCell ⟨w.heap.size,2,none⟩ (.int .i64 c)).setCell ⟨w.heap.size+1,0,none⟩ .nilIface=WF:=⟨_,rfl⟩;have hWB:zB w WF:=by rw[<-hWF];exact(((hB.setCell (p:=⟨w.heap.size,0,none⟩) zN _).setCell (p:=⟨w.heap.size,1,none⟩) zN _).setCell (p:=⟨w.heap.size,2,none⟩) zN _).setCell (p:=⟨w.heap.size+1,0,none⟩) (Nat.le_succ _) _
  have hWK:WF.heap[D]?=some (.deferred (some [])):=by rw[<-hWF];exact((((KeepsOthers.setCell _ _ _).trans (KeepsOthers.setCell _ _ _)).trans (KeepsOthers.setCell _ _ _)).trans (KeepsOthers.setCell _ _ _)).same D _ hK rfl
  have p0:Blk WF w.heap.size 33 (Zz [a,b,c]):=by rw[<-hWF];exact(((j0.set (i:=0) (v:=.int .i64 a)).set (i:=1) (v:=.int .i64 b)).set (i:=2) (v:=.int .i64 c)).other (by omega)
  have p1:Blk WF (w.heap.size+1) 41 #[.nilIface]:=by rw[<-hWF];exact(((j1.other (by omega)).other (by omega)).other (by omega)).set (i:=0)
  have q0:=p0.put (l:=D) (o':=.deferred none) (by omega);have q1:=p1.put (l:=D) (o':=.deferred none) (by omega);have HQ0:=zH q0;have HQ1:=zH q1;have HWB:=zH hWB;have HWK:=zH hWK;have HWF:=zH hWF;clear j0 j1 j2 j3 hK hWB hWK p0 p1 q0 q1 hB hWF
  gi_wp2
  rw[HWF.out];refine⟨by simp,.inl ⟨_,_,rfl,run_takeDeferred HWK.out,?_⟩⟩;have r0:=HQ0.out.cell 0;have r1:=HQ0.out.cell 1;have r2:=HQ0.out.cell 2;have r3:=HQ1.out.cell 0;refine⟨ZR (.ok [a,b,c]),?_,by rw[HNS.out],HWB.out.trans (belowK_b (w:=w) zN WF D _ _ (by omega) HWK.out rfl rfl)⟩;simp[results,Tryz.f52,go_sem,r0,r1,r2,r3,ZR,Zz]
 case stop =>
  rintro D c pre W hD hpre ⟨⟨rfl,k,hk,j0,j1⟩,hB⟩ hK;obtain⟨rest,hrest⟩:=hpre;have hk2:=zgR (r:=rest) hk;rw[hrest] at hk2;have HK2:=zH hk2;clear hk2 hk hrest;have q0:=j0.put (l:=D) (o':=.deferred none) (by omega);have q1:=j1.put (l:=D) (o':=.deferred none) (by omega);have r0:=q0.cell 0;have r1:=q0.cell 1;have r2:=q0.cell 2;have r3:=q1.cell 0
  gi_wp2
  refine⟨by simp,.inl ⟨_,_,rfl,run_takeDeferred hK,?_⟩⟩;refine⟨ZR (.error k),?_,by rw[HK2.out],hB.trans (belowK_b (w:=w) zN W D _ _ (by omega) hK rfl rfl)⟩;simp[results,Tryz.f52,go_sem,r0,r1,r2,r3,ZR]
end
section
open Go.RowKit Sv
theorem zmQ{l:List zh}{k e:Nat}(hk:k<l.length)(h:e<(sp l k).1):xp e (l.drop k)=(e,(sp l k).1) :: xp (sp l k).2 (l.drop (k+1)):=by
 rw[List.drop_eq_getElem_cons hk,xp,<-Qq l k hk,if_pos h]
theorem zko{l:List zh}{k e:Nat}(hk:k<l.length)(h:¬e<(sp l k).1):xp e (l.drop k)=xp (sp l k).2 (l.drop (k+1)):=by
 rw[List.drop_eq_getElem_cons hk,xp,<-Qq l k hk,if_neg h]
theorem zlh{l:List zh}{k e:Nat}(hk:k<l.length)(h:qW e (l.drop k)):e<=(sp l k).1/\(sp l k).1<(sp l k).2/\(sp l k).2<=ALL/\qW (sp l k).2 (l.drop (k+1)):=by
 rw[List.drop_eq_getElem_cons hk,<-Qq l k hk] at h;exact⟨h.1,h.2.1,h.2.2.1,h.2.2.2.mono (Nat.le_succ _)⟩
theorem Kt(l:List zh)(hl:Rg l)(v:Value)(w:World)(hv:zi w v l) :
  zC 148 #[.agg #[v]] w (Qs w (nt l)):=by
 obtain⟨i0,hin,hz0,hz1,hz2⟩:=info_parts zd7;obtain⟨a,cap,rfl⟩:=hv.form;have hlen:=Yc hl;have hnlen:=Yc (ZQ hl);have HL:=zH hl;have HV:=zH hv;clear hl hv;go_enter Tryz.func148,Tryz.ntmps148;go_wp2_with fail;obtain⟨W0,hW0⟩:∃W0,(w.alloc (.cells #[.slice a l.length cap] 36)).alloc (.cells #[.slice none 0 0] 36)=W0:=⟨_,rfl⟩;have hB0:zB w W0:=by rw[<-hW0];exact((Below.refl _ w).alloc zN _).alloc (by simp) _
 have hs0:W0.heap.size=w.heap.size+2:=by rw[<-hW0];simp
 have hc0:W0.cell? ⟨w.heap.size+1,0,none⟩=some (.slice none 0 0):=by rw[<-hW0];have:=Qm (w.alloc (.cells #[.slice a l.length cap] 36)) (.slice none 0 0) 36;rw[World.size_alloc] at this;exact this
 have hf0:W0.frozen? ⟨w.heap.size+1,0,none⟩=false:=by rw[<-hW0];simp
 have HV0:Hid (zi W0 (.slice a l.length cap) l):=HV.out.below hB0 zN;have HB0:=zH hB0;have HC0:=zH hc0;have HF0:=zH hf0;rw[hW0];clear hB0 hc0 hf0 hW0 HV;go_loopw [3,4,10] (fun gV eV kV wr=>∃(k e:Nat) (acc:List zh),k<=l.length/\kV=.int .i64 k/\eV=.int .i64 e/\e<=ALL/\qW e (l.drop k)/\acc++xp e (l.drop k)=nt l/\wr.ownsRow (w.heap.size+2) 198 2 gV acc.length (qE acc)/\Below (w.heap.size+2) W0 wr) (fun _ _ kV _=>l.length-(intOf kV).toNat)
 case atStart=>exact⟨0,0,[],Nat.zero_le _,rfl,rfl,Nat.zero_le _,HL.out,rfl,World.ownsRow_nil _ _ _ _,Below.refl _ _⟩
 case round =>
  obtain⟨k,e,acc,hk,rfl,rfl,he,hcan,hres,hrow,hbr⟩:=hrel;obtain⟨ra,rc,rfl⟩:=JS hrow;have hal:acc.length<=(nt l).length:=by rw[<-hres];simp
  have hws:=hbr.size;rw[hs0] at hws;have HROW:=zH hrow;have HBR:=zH hbr;have HC:=zH hcan;have HR:=zH hres;clear hrow hbr hcan hres
  by_cases hlt:k<l.length
  ·obtain⟨g,cap',e1,hg,c0,c1⟩:=(HV0.out.below HBR.out (Nat.le_of_eq hs0)).cells k hlt;simp at e1;obtain⟨rfl,rfl⟩:=e1;obtain⟨d1,d2,d3,d4⟩:=zlh hlt HC.out;have HD:=zH d4;clear d4
   by_cases hgap:e<(sp l k).1
   ·have hres:=HR.out;rw[zmQ hlt hgap,List.append_cons] at hres;have hal2:(acc++[(e,(sp l k).1)]).length<=(nt l).length:=by rw[<-hres];simp
    simp at hal2;have HRS:=zH hres;clear hres HR;generalize (sp l k).1=A at *;generalize (sp l k).2=T at *;go_wp2_with (at_builtin;refine wpList_append_own_at _ rfl _ _ 34 rfl (w.heap.size+2) 198 i0 (.agg #[.int .i64 0,.int .i64 0]) 2 16 Tryz.underlying34 hin hz0 hz1 hz2 rfl (by decide) _ _ _ rfl ((HROW.out.alloc _).alloc _) ⟨wr.heap.size+1,0,none⟩ 1 1 [.int .i64 e,.int .i64 A] rfl rfl ?c1 ?c2 ?c3 ?c4 ?c5 ?_)
    case c1=>have:=Kc (wr.alloc (.cells #[.int .i64 A,.int .i64 T] 198)) (.int .i64 e) (.int .i64 A) 198;rw[World.size_alloc] at this;exact this
    case c2=>intro u hu;simp at hu;rcases hu with rfl|rfl<;>rfl
    case c3=>unfold maxLen;omega
    case c4=>omega
    case c5=>show (w.heap.size+2)<=(World.alloc _ _).heap.size;simp;omega
    intro v7 w7 hown7 hgrow7 _ hloc7;have hb7:Below (w.heap.size+2) W0 w7:=(((HBR.out.alloc hws _).alloc (by simp;omega) _).grown hgrow7 (by simp;omega) (fun k hk=>(HROW.out.lt k hk).1));have ct:w7.cell? ⟨wr.heap.size,1,none⟩=some (.int .i64 T):=by
     rw[ZF hgrow7 (by simp;omega) (Y7 HROW.out zN)];have:=(Kn wr (.int .i64 A) (.int .i64 T) 198).2;have b1:=((Below.refl _ (wr.alloc (.cells #[.int .i64 A,.int .i64 T] 198))).alloc zN (.cells #[.int .i64 e,.int .i64 A] 198)).cell (p:=⟨wr.heap.size,1,none⟩) (by simp);exact b1.trans this
    have e7:(acc++[(e,A)]).length=acc.length+1:=by simp
    have es:qE (acc++[(e,A)])=qE acc++[.int .i64 e,.int .i64 A]:=by rw[Xn];rfl
    rw[<-es,<-e7] at hown7;have HO7:=zH hown7;have HB7:=zH hb7;clear hown7 hgrow7 hloc7 hb7 e7 es;go_wp2;go_roundw
    case rel=>exact⟨k+1,T,acc++[(e,A)],by omega,rfl,rfl,d3,HD.out,HRS.out,HO7.out,HB7.out⟩
    case measure=>simp[intOf];omega
   ·have hres:=HR.out;rw[zko hlt hgap] at hres;have HRS:=zH hres;clear hres HR;generalize (sp l k).1=A at *;generalize (sp l k).2=T at *;go_wp2;go_roundw
    case rel=>exact⟨k+1,T,acc,by omega,rfl,rfl,d3,HD.out,HRS.out,HROW.out.alloc _,HBR.out.alloc hws _⟩
    case measure=>simp[intOf];omega
  ·obtain rfl:k=l.length:=by omega
   have hres:=HR.out;rw[List.drop_length,xp] at hres;have hc1:=(HBR.out.cell (p:=⟨w.heap.size+1,0,none⟩) (by show w.heap.size+1<_;omega)).trans HC0.out;have hf1:=(HBR.out.frozen (p:=⟨w.heap.size+1,0,none⟩) (by show w.heap.size+1<_;omega)).trans HF0.out
   by_cases hend:e<ALL
   ·rw[if_pos hend] at hres;have hal2:(acc++[(e,ALL)]).length<=(nt l).length:=by rw[<-hres];simp
    simp at hal2;have HRS:=zH hres;have hend':(e:Int)<1000000000:=by unfold ALL at hend;omega
    clear hres HR;go_wp2_with (at_builtin;refine wpList_append_own_at _ rfl _ _ 34 rfl (w.heap.size+2) 198 i0 (.agg #[.int .i64 0,.int .i64 0]) 2 16 Tryz.underlying34 hin hz0 hz1 hz2 rfl (by decide) _ _ _ rfl (HROW.out.alloc _) ⟨wr.heap.size,0,none⟩ 1 1 [.int .i64 e,.int .i64 1000000000] rfl rfl (Kc _ _ _ _) ?c2 ?c3 ?c4 ?c5 ?_)
    case c2=>intro u hu;simp at hu;rcases hu with rfl|rfl<;>rfl
    case c3=>unfold maxLen;omega
    case c4=>omega
    case c5=>show (w.heap.size+2)<=(World.alloc _ _).heap.size;simp;omega
    intro v7 w7 hown7 hgrow7 _ hloc7;have hb7:Below (w.heap.size+2) W0 w7:=((HBR.out.alloc hws _).grown hgrow7 (by simp;omega) (fun k hk=>(HROW.out.lt k hk).1));have hc7:=(hb7.cell (p:=⟨w.heap.size+1,0,none⟩) (by show w.heap.size+1<_;omega)).trans HC0.out;have hf7:=(hb7.frozen (p:=⟨w.heap.size+1,0,none⟩) (by show w.heap.size+1<_;omega)).trans HF0.out;have e7:(acc++[(e,ALL)]).length=acc.length+1:=by simp
    have es:qE (acc++[(e,ALL)])=qE acc++[.int .i64 e,.int .i64 1000000000]:=by rw[Xn];rfl
    rw[<-es,<-e7,HRS.out] at hown7;have hS7:=Yx hown7;obtain⟨va,vc,rfl⟩:=JS hown7;have hw7:zB w (w7.setCell ⟨w.heap.size+1,0,none⟩ (.slice va (nt l).length vc)):=(HB0.out.trans (hb7.mono (Nat.le_add_right _ 2))).setCell (p:=⟨w.heap.size+1,0,none⟩) (by show w.heap.size<=w.heap.size+1;omega) _;have hown8:(w7.setCell ⟨w.heap.size+1,0,none⟩ (.slice va (nt l).length vc)).ownsRow (w.heap.size+2) 198 2 (.slice va (nt l).length vc) (nt l).length (qE (nt l)):=by
     have hbl:Below (w.heap.size+2) w7 w7:=Below.refl _ _;exact Kf hown7 (by omega)
    have hS8:=Yx hown8;have HS8:=zH hS8;have HG8:Hid (∀g,(Value.slice va (nt l).length vc).ownBlock=some g->w.heap.size<=g):=fun g hg=>by have:=(hown8.lt g hg).1;omega
    have HW7:=zH hw7;clear hown7 hgrow7 hloc7 hb7 e7 es hS7 hown8 hS8 hw7 hc1 hf1;go_wp2;have hr8:(w7.setCell ⟨w.heap.size+1,0,none⟩ (.slice va (nt l).length vc)).cell? ⟨w.heap.size+1,0,none⟩=some (.slice va (nt l).length vc):=World.cell?_setCell_same' _ _ _ (by rw[hc7];rfl);refine bodyPost_ret (v:=.agg #[.slice va (nt l).length vc]) (by simp[results,Tryz.results148,go_sem,hr8]) rfl ?_;exact⟨_,rfl,HS8.out,HG8.out,HW7.out⟩
   ·rw[if_neg hend,List.append_nil] at hres;have hend':¬(e:Int)<1000000000:=by unfold ALL at hend;omega
    have hrow:=HROW.out;have hown8:(wr.setCell ⟨w.heap.size+1,0,none⟩ (.slice ra acc.length rc)).ownsRow (w.heap.size+2) 198 2 (.slice ra acc.length rc) acc.length (qE acc):=Kf hrow (by omega);have HG8:Hid (∀g,(Value.slice ra acc.length rc).ownBlock=some g->w.heap.size<=g):=fun g hg=>by have:=(hown8.lt g hg).1;omega
    have HS8:Hid (zi (wr.setCell ⟨w.heap.size+1,0,none⟩ (.slice ra acc.length rc)) (.slice ra acc.length rc) (nt l)):=hres▸Yx hown8;have HW7:=zH ((HB0.out.trans (HBR.out.mono (Nat.le_add_right _ 2))).setCell (p:=⟨w.heap.size+1,0,none⟩) (by show w.heap.size<=w.heap.size+1;omega) (.slice ra acc.length rc));have hr8:(wr.setCell ⟨w.heap.size+1,0,none⟩ (.slice ra acc.length rc)).cell? ⟨w.heap.size+1,0,none⟩=some (.slice ra acc.length rc):=World.cell?_setCell_same' _ _ _ (by rw[hc1];rfl);have HR8:=zH hr8;clear hrow hown8 hr8 hres;go_wp2;have hr8:=HR8.out;refine bodyPost_ret (v:=.agg #[.slice ra acc.length rc]) (by simp[results,Tryz.results148,go_sem,hr8]) rfl ?_;exact⟨_,rfl,HS8.out,HG8.out,HW7.out⟩
end
section
open Go.RowKit Sv
theorem zbX{l m:List zh}{i j:Nat}(hi:i<l.length)(hj:j<m.length):y7 (l.drop i) (m.drop j)=(if max (sp l i).1 (sp m j).1<min (sp l i).2 (sp m j).2 then [(max (sp l i).1 (sp m j).1,min (sp l i).2 (sp m j).2)] else [])++(if (sp l i).2<(sp m j).2 then y7 (l.drop (i+1)) (m.drop j) else y7 (l.drop i) (m.drop (j+1))):=by
 rw[List.drop_eq_getElem_cons hi,List.drop_eq_getElem_cons hj,y7,<-Qq l i hi,<-Qq m j hj]
theorem zbi(l m:List zh)(hl:Rg l)(hm:Rg m)(v u:Value)(w:World)(hv:zi w v l)(hu:zi w u m) :
  zC 147 #[.agg #[v],.agg #[u]] w (Qs w (nd l m)):=by
 obtain⟨i0,hin,hz0,hz1,hz2⟩:=info_parts zd7;obtain⟨a,cap,rfl⟩:=hv.form;obtain⟨b,cbp,rfl⟩:=hu.form;have hlen:=Yc hl;have hmlen:=Yc hm;have hnlen:=Yc (YF hl hm);have HL:=zH hl;have HM:=zH hm;have HV:=zH hv;have HU:=zH hu;clear hl hv hm hu;go_enter Tryz.func147,Tryz.ntmps147;go_wp2_with fail;obtain⟨W0,hW0⟩:∃W0,((w.alloc (.cells #[.slice a l.length cap] 36)).alloc (.cells #[.slice b m.length cbp] 36)).alloc (.cells #[.slice none 0 0] 36)=W0:=⟨_,rfl⟩;have hbox:zfg w W0 (.slice a l.length cap) (.slice b m.length cbp) (.slice none 0 0):=hW0▸zaR w _ _ _ _ _ _;have hB0:=hbox.below;have hs0:=hbox.size;have hr0:=hbox.c0;have ho0:=hbox.c1;have hc0:=hbox.c2;have hf0:=hbox.f2;clear hbox;have HV0:Hid (zi W0 (.slice a l.length cap) l):=HV.out.below hB0 zN;have HU0:Hid (zi W0 (.slice b m.length cbp) m):=HU.out.below hB0 zN;have HB0:=zH hB0;have HC0:=zH hc0;have HF0:=zH hf0;have HR0:=zH hr0;have HO0:=zH ho0;rw[hW0];clear hB0 hc0 hf0 hW0 HV HU hr0 ho0;go_loopw [5,6,7] (fun bV iV jV wr=>∃(i j:Nat) (acc:List zh),i<=l.length/\j<=m.length/\iV=.int .i64 i/\jV=.int .i64 j/\acc++y7 (l.drop i) (m.drop j)=nd l m/\wr.ownsRow (w.heap.size+3) 198 2 bV acc.length (qE acc)/\Below (w.heap.size+3) W0 wr) (fun _ iV jV _=>(l.length-(intOf iV).toNat)+(m.length-(intOf jV).toNat))
 case atStart=>exact⟨0,0,[],Nat.zero_le _,Nat.zero_le _,rfl,rfl,rfl,World.ownsRow_nil _ _ _ _,Below.refl _ _⟩
 case round =>
  obtain⟨i,j,acc,hi,hj,rfl,rfl,hres,hrow,hbr⟩:=hrel;obtain⟨ra,rc,rfl⟩:=JS hrow;have hal:acc.length<=(nd l m).length:=by rw[<-hres];simp
  have hws:=hbr.size;rw[hs0] at hws;have hr1:=(hbr.cell (p:=⟨w.heap.size,0,none⟩) (by show w.heap.size<_;omega)).trans HR0.out;have ho1:=(hbr.cell (p:=⟨w.heap.size+1,0,none⟩) (by show w.heap.size+1<_;omega)).trans HO0.out;have HROW:=zH hrow;have HBR:=zH hbr;have HR:=zH hres;clear hrow hbr hres
  by_cases hlt:i<l.length
  ·by_cases hjt:j<m.length
   ·obtain⟨g,cap',e1,hg,c0,c1⟩:=(HV0.out.below HBR.out (Nat.le_of_eq hs0)).cells i hlt;simp at e1;obtain⟨rfl,rfl⟩:=e1;obtain⟨g2,cap2,e2,hg2,d0,d1⟩:=(HU0.out.below HBR.out (Nat.le_of_eq hs0)).cells j hjt;simp at e2;obtain⟨rfl,rfl⟩:=e2;have hin1:i*2<i*2+1:=Nat.lt_succ_self _;have SC:Hid (∀W,zB wr W->(W.cell? ⟨w.heap.size,0,none⟩=some (.slice (some ⟨g,0,none⟩) l.length cap)/\W.cell? ⟨w.heap.size+1,0,none⟩=some (.slice (some ⟨g2,0,none⟩) m.length cbp)/\W.cell? ⟨g,i*2,none⟩=some (.int .i64 ((sp l i).1:Int))/\W.cell? ⟨g,i*2+1,none⟩=some (.int .i64 ((sp l i).2:Int))/\W.cell? ⟨g2,j*2,none⟩=some (.int .i64 ((sp m j).1:Int))/\W.cell? ⟨g2,j*2+1,none⟩=some (.int .i64 ((sp m j).2:Int)))):=fun W hb =>
     ⟨(hb.cell (p:=⟨w.heap.size,0,none⟩) (by show w.heap.size<_;omega)).trans hr1,(hb.cell (p:=⟨w.heap.size+1,0,none⟩) (by show w.heap.size+1<_;omega)).trans ho1,(hb.cell (p:=⟨g,i*2,none⟩) hg).trans c0,(hb.cell (p:=⟨g,i*2+1,none⟩) hg).trans c1,(hb.cell (p:=⟨g2,j*2,none⟩) hg2).trans d0,(hb.cell (p:=⟨g2,j*2+1,none⟩) hg2).trans d1⟩
    go_wp2_with fail;go_region_held3 (fun w'=>w'.cell? ⟨w.heap.size,0,none⟩=some (.slice (some ⟨g,0,none⟩) l.length cap)/\w'.cell? ⟨w.heap.size+1,0,none⟩=some (.slice (some ⟨g2,0,none⟩) m.length cbp)/\w'.cell? ⟨g,i*2,none⟩=some (.int .i64 ((sp l i).1:Int))/\w'.cell? ⟨g,i*2+1,none⟩=some (.int .i64 ((sp l i).2:Int))/\w'.cell? ⟨g2,j*2,none⟩=some (.int .i64 ((sp m j).1:Int))/\w'.cell? ⟨g2,j*2+1,none⟩=some (.int .i64 ((sp m j).2:Int))) ((refine SC.out _ ?_;repeat' (first|exact Below.refl _ _|refine Below.drew ?_|refine Below.alloc ?_ (by simp) _|refine Below.alloc ?_ (by simp;omega) _|refine Below.setCell (p:=_) ?_ (by simp) _))) (first|fail)
    ·have h2:=zcE wr (.int .i64 ((sp l i).1:Int)) (.int .i64 ((sp l i).2:Int)) (.int .i64 ((sp m j).1:Int)) (.int .i64 ((sp m j).2:Int)) 198 198;generalize ((wr.alloc (.cells #[.int .i64 ((sp l i).1:Int),.int .i64 ((sp l i).2:Int)] 198)).alloc (.cells #[.int .i64 ((sp m j).1:Int),.int .i64 ((sp m j).2:Int)] 198)).drew=W1 at *;have hres:=HR.out;rw[zbX hlt hjt] at hres;generalize (sp l i).1=A at *;generalize (sp l i).2=T at *;generalize (sp m j).1=C at *;generalize (sp m j).2=D at *;have s0:=h2.s0;have s1:=h2.s1;have t0:=h2.t0;have t1:=h2.t1;have HRS:=zH hres;clear c0 c1 d0 d1 hres HR;go_wp2_with fail;go_quiet (fail);have h3:=h2.drewN nq;generalize W1.drewN nq=W2 at *;have HROW2:=zH (zdN HROW.out h3.below zN);have hb2:=h3.below;have hws2:=hb2.size;have hls:=h3.ls;have hlt2:=h3.lt;have hbs:=h3.hs;have hbt:=h3.ht;have HB2:Hid (Below (w.heap.size+3) W0 W2):=HBR.out.trans (hb2.mono hws);have u1:=h3.s1;have u3:=h3.t1;clear hb2 s0 s1 t0 t1 h2 h3 HBR SC
     by_cases hmx:max A C<min T D
     ·have hmx':max (A:Int) (C:Int)<min (T:Int) (D:Int):=by omega
      have hres:=HRS.out;rw[if_pos hmx] at hres;have hal2:(acc++[(max A C,min T D)]).length<=(nd l m).length:=by rw[<-hres,<-List.append_assoc];simp
      simp at hal2;have eM:((max A C:Nat):Int)=max (A:Int) (C:Int):=by omega
      have eN:((min T D:Nat):Int)=min (T:Int) (D:Int):=by omega
      have HEM:=zH eM;have HEN:=zH eN;have HRS2:=zH hres;clear hres HRS eM eN;go_wp2_with (at_builtin;refine wpList_append_own_at _ rfl _ _ 34 rfl (w.heap.size+3) 198 i0 (.agg #[.int .i64 0,.int .i64 0]) 2 16 Tryz.underlying34 hin hz0 hz1 hz2 rfl (by decide) _ _ _ rfl (HROW2.out.alloc _) ⟨W2.heap.size,0,none⟩ 1 1 [.int .i64 (max (A:Int) (C:Int)),.int .i64 (min (T:Int) (D:Int))] rfl rfl (Kc _ _ _ _) ?c2 ?c3 ?c4 ?c5 ?_)
      case c2=>intro u hu;simp at hu;rcases hu with rfl|rfl<;>rfl
      case c3=>unfold maxLen;omega
      case c4=>omega
      case c5=>show w.heap.size+3<=(World.alloc _ _).heap.size;rw[World.size_alloc];omega
      intro v7 w7 hown7 hgrow7 _ hloc7;have hb7:Below (w.heap.size+3) W0 w7:=((HB2.out.alloc (by omega) _).grown hgrow7 (by rw[World.size_alloc];omega) (fun k hk=>(HROW2.out.lt k hk).1));have x1:w7.cell? ⟨wr.heap.size,1,none⟩=some (.int .i64 T):=by
       rw[ZF hgrow7 (by rw[World.size_alloc];omega) (Y7 HROW.out hbs)];exact(((Below.refl W2.heap.size W2).alloc zN _).cell (p:=⟨wr.heap.size,1,none⟩) hls).trans u1
      have x3:w7.cell? ⟨wr.heap.size+1,1,none⟩=some (.int .i64 D):=by
       rw[ZF hgrow7 (by rw[World.size_alloc];omega) (Y7 HROW.out hbt)];exact(((Below.refl W2.heap.size W2).alloc zN _).cell (p:=⟨wr.heap.size+1,1,none⟩) hlt2).trans u3
      have e7:(acc++[(max A C,min T D)]).length=acc.length+1:=by simp
      have es:qE (acc++[(max A C,min T D)])=qE acc++[.int .i64 (max (A:Int) (C:Int)),.int .i64 (min (T:Int) (D:Int))]:=by rw[Xn,<-HEM.out,<-HEN.out];rfl
      rw[<-es,<-e7] at hown7;have HO7:=zH hown7;have HB7:=zH hb7;clear hown7 hgrow7 hloc7 hb7 e7 es u1 u3
      by_cases hTD:T<D
      ·have hres:=HRS2.out;rw[if_pos hTD,<-List.append_assoc] at hres;have HRS3:=zH hres;clear hres HRS2;go_wp2;go_roundw
       case rel=>exact⟨i+1,j,acc++[(max A C,min T D)],by omega,by omega,rfl,rfl,HRS3.out,HO7.out,HB7.out⟩
       case measure=>simp[intOf];omega
      ·have hres:=HRS2.out;rw[if_neg hTD,<-List.append_assoc] at hres;have HRS3:=zH hres;clear hres HRS2;go_wp2;go_roundw
       case rel=>exact⟨i,j+1,acc++[(max A C,min T D)],by omega,by omega,rfl,rfl,HRS3.out,HO7.out,HB7.out⟩
       case measure=>simp[intOf];omega
     ·have hmx':¬max (A:Int) (C:Int)<min (T:Int) (D:Int):=by omega
      have hres:=HRS.out;rw[if_neg hmx,List.nil_append] at hres;have HRS2:=zH hres;clear hres HRS
      by_cases hTD:T<D
      ·have hres:=HRS2.out;rw[if_pos hTD] at hres;have HRS3:=zH hres;clear hres HRS2;go_wp2;go_roundw
       case rel=>exact⟨i+1,j,acc,by omega,by omega,rfl,rfl,HRS3.out,HROW2.out,HB2.out⟩
       case measure=>simp[intOf];omega
      ·have hres:=HRS2.out;rw[if_neg hTD] at hres;have HRS3:=zH hres;clear hres HRS2;go_wp2;go_roundw
       case rel=>exact⟨i,j+1,acc,by omega,by omega,rfl,rfl,HRS3.out,HROW2.out,HB2.out⟩
       case measure=>simp[intOf];omega
    ·have h2:=zkJ wr (.int .i64 ((sp l i).1:Int)) (.int .i64 ((sp l i).2:Int)) (.int .i64 ((sp m j).1:Int)) (.int .i64 ((sp m j).2:Int)) 198 198;generalize ((wr.alloc (.cells #[.int .i64 ((sp m j).1:Int),.int .i64 ((sp m j).2:Int)] 198)).alloc (.cells #[.int .i64 ((sp l i).1:Int),.int .i64 ((sp l i).2:Int)] 198)).drew=W1 at *;have hres:=HR.out;rw[zbX hlt hjt] at hres;generalize (sp l i).1=A at *;generalize (sp l i).2=T at *;generalize (sp m j).1=C at *;generalize (sp m j).2=D at *;have s0:=h2.s0;have s1:=h2.s1;have t0:=h2.t0;have t1:=h2.t1;have HRS:=zH hres;clear c0 c1 d0 d1 hres HR;go_wp2_with fail;go_quiet (fail);have h3:=h2.drewN nq;generalize W1.drewN nq=W2 at *;have HROW2:=zH (zdN HROW.out h3.below zN);have hb2:=h3.below;have hws2:=hb2.size;have hls:=h3.ls;have hlt2:=h3.lt;have hbs:=h3.hs;have hbt:=h3.ht;have HB2:Hid (Below (w.heap.size+3) W0 W2):=HBR.out.trans (hb2.mono hws);have u1:=h3.s1;have u3:=h3.t1;clear hb2 s0 s1 t0 t1 h2 h3 HBR SC
     by_cases hmx:max A C<min T D
     ·have hmx':max (A:Int) (C:Int)<min (T:Int) (D:Int):=by omega
      have hres:=HRS.out;rw[if_pos hmx] at hres;have hal2:(acc++[(max A C,min T D)]).length<=(nd l m).length:=by rw[<-hres,<-List.append_assoc];simp
      simp at hal2;have eM:((max A C:Nat):Int)=max (A:Int) (C:Int):=by omega
      have eN:((min T D:Nat):Int)=min (T:Int) (D:Int):=by omega
      have HEM:=zH eM;have HEN:=zH eN;have HRS2:=zH hres;clear hres HRS eM eN;go_wp2_with (at_builtin;refine wpList_append_own_at _ rfl _ _ 34 rfl (w.heap.size+3) 198 i0 (.agg #[.int .i64 0,.int .i64 0]) 2 16 Tryz.underlying34 hin hz0 hz1 hz2 rfl (by decide) _ _ _ rfl (HROW2.out.alloc _) ⟨W2.heap.size,0,none⟩ 1 1 [.int .i64 (max (A:Int) (C:Int)),.int .i64 (min (T:Int) (D:Int))] rfl rfl (Kc _ _ _ _) ?c2 ?c3 ?c4 ?c5 ?_)
      case c2=>intro u hu;simp at hu;rcases hu with rfl|rfl<;>rfl
      case c3=>unfold maxLen;omega
      case c4=>omega
      case c5=>show w.heap.size+3<=(World.alloc _ _).heap.size;rw[World.size_alloc];omega
      intro v7 w7 hown7 hgrow7 _ hloc7;have hb7:Below (w.heap.size+3) W0 w7:=((HB2.out.alloc (by omega) _).grown hgrow7 (by rw[World.size_alloc];omega) (fun k hk=>(HROW2.out.lt k hk).1));have x1:w7.cell? ⟨wr.heap.size+1,1,none⟩=some (.int .i64 T):=by
       rw[ZF hgrow7 (by rw[World.size_alloc];omega) (Y7 HROW.out hbs)];exact(((Below.refl W2.heap.size W2).alloc zN _).cell (p:=⟨wr.heap.size+1,1,none⟩) hls).trans u1
      have x3:w7.cell? ⟨wr.heap.size,1,none⟩=some (.int .i64 D):=by
       rw[ZF hgrow7 (by rw[World.size_alloc];omega) (Y7 HROW.out hbt)];exact(((Below.refl W2.heap.size W2).alloc zN _).cell (p:=⟨wr.heap.size,1,none⟩) hlt2).trans u3
      have e7:(acc++[(max A C,min T D)]).length=acc.length+1:=by simp
      have es:qE (acc++[(max A C,min T D)])=qE acc++[.int .i64 (max (A:Int) (C:Int)),.int .i64 (min (T:Int) (D:Int))]:=by rw[Xn,<-HEM.out,<-HEN.out];rfl
      rw[<-es,<-e7] at hown7;have HO7:=zH hown7;have HB7:=zH hb7;clear hown7 hgrow7 hloc7 hb7 e7 es u1 u3
      by_cases hTD:T<D
      ·have hres:=HRS2.out;rw[if_pos hTD,<-List.append_assoc] at hres;have HRS3:=zH hres;clear hres HRS2;go_wp2;go_roundw
       case rel=>exact⟨i+1,j,acc++[(max A C,min T D)],by omega,by omega,rfl,rfl,HRS3.out,HO7.out,HB7.out⟩
       case measure=>simp[intOf];omega
      ·have hres:=HRS2.out;rw[if_neg hTD,<-List.append_assoc] at hres;have HRS3:=zH hres;clear hres HRS2;go_wp2;go_roundw
       case rel=>exact⟨i,j+1,acc++[(max A C,min T D)],by omega,by omega,rfl,rfl,HRS3.out,HO7.out,HB7.out⟩
       case measure=>simp[intOf];omega
     ·have hmx':¬max (A:Int) (C:Int)<min (T:Int) (D:Int):=by omega
      have hres:=HRS.out;rw[if_neg hmx,List.nil_append] at hres;have HRS2:=zH hres;clear hres HRS
      by_cases hTD:T<D
      ·have hres:=HRS2.out;rw[if_pos hTD] at hres;have HRS3:=zH hres;clear hres HRS2;go_wp2;go_roundw
       case rel=>exact⟨i+1,j,acc,by omega,by omega,rfl,rfl,HRS3.out,HROW2.out,HB2.out⟩
       case measure=>simp[intOf];omega
      ·have hres:=HRS2.out;rw[if_neg hTD] at hres;have HRS3:=zH hres;clear hres HRS2;go_wp2;go_roundw
       case rel=>exact⟨i,j+1,acc,by omega,by omega,rfl,rfl,HRS3.out,HROW2.out,HB2.out⟩
       case measure=>simp[intOf];omega
   ·obtain rfl:j=m.length:=by omega
    have hres:=HR.out;rw[List.drop_length,zgZ,List.append_nil] at hres;have hc1:=(HBR.out.cell (p:=⟨w.heap.size+1+1,0,none⟩) (by show w.heap.size+1+1<_;omega)).trans HC0.out;have hf1:=(HBR.out.frozen (p:=⟨w.heap.size+1+1,0,none⟩) (by show w.heap.size+1+1<_;omega)).trans HF0.out;have hown8:(wr.setCell ⟨w.heap.size+1+1,0,none⟩ (.slice ra acc.length rc)).ownsRow (w.heap.size+3) 198 2 (.slice ra acc.length rc) acc.length (qE acc):=Kf HROW.out (by omega);have HG8:Hid (∀g,(Value.slice ra acc.length rc).ownBlock=some g->w.heap.size<=g):=fun g hg=>by have:=(hown8.lt g hg).1;omega
    have HS8:Hid (zi (wr.setCell ⟨w.heap.size+1+1,0,none⟩ (.slice ra acc.length rc)) (.slice ra acc.length rc) (nd l m)):=hres▸Yx hown8;have HW7:=zH ((HB0.out.trans (HBR.out.mono (Nat.le_add_right _ 3))).setCell (p:=⟨w.heap.size+1+1,0,none⟩) (by show w.heap.size<=w.heap.size+1+1;omega) (.slice ra acc.length rc));have hr8:(wr.setCell ⟨w.heap.size+1+1,0,none⟩ (.slice ra acc.length rc)).cell? ⟨w.heap.size+1+1,0,none⟩=some (.slice ra acc.length rc):=World.cell?_setCell_same' _ _ _ (by rw[hc1];rfl);have HR8:=zH hr8;clear hown8 hr8 hres;go_wp2;have hr8:=HR8.out;refine bodyPost_ret (v:=.agg #[.slice ra acc.length rc]) (by simp[results,Tryz.results147,go_sem,hr8]) rfl ?_;exact⟨_,rfl,HS8.out,HG8.out,HW7.out⟩
  ·obtain rfl:i=l.length:=by omega
   have hres:=HR.out;rw[List.drop_length,y7,List.append_nil] at hres;have hc1:=(HBR.out.cell (p:=⟨w.heap.size+1+1,0,none⟩) (by show w.heap.size+1+1<_;omega)).trans HC0.out;have hf1:=(HBR.out.frozen (p:=⟨w.heap.size+1+1,0,none⟩) (by show w.heap.size+1+1<_;omega)).trans HF0.out;have hown8:(wr.setCell ⟨w.heap.size+1+1,0,none⟩ (.slice ra acc.length rc)).ownsRow (w.heap.size+3) 198 2 (.slice ra acc.length rc) acc.length (qE acc):=Kf HROW.out (by omega);have HG8:Hid (∀g,(Value.slice ra acc.length rc).ownBlock=some g->w.heap.size<=g):=fun g hg=>by have:=(hown8.lt g hg).1;omega
   have HS8:Hid (zi (wr.setCell ⟨w.heap.size+1+1,0,none⟩ (.slice ra acc.length rc)) (.slice ra acc.length rc) (nd l m)):=hres▸Yx hown8;have HW7:=zH ((HB0.out.trans (HBR.out.mono (Nat.le_add_right _ 3))).setCell (p:=⟨w.heap.size+1+1,0,none⟩) (by show w.heap.size<=w.heap.size+1+1;omega) (.slice ra acc.length rc));have hr8:(wr.setCell ⟨w.heap.size+1+1,0,none⟩ (.slice ra acc.length rc)).cell? ⟨w.heap.size+1+1,0,none⟩=some (.slice ra acc.length rc):=World.cell?_setCell_same' _ _ _ (by rw[hc1];rfl);have HR8:=zH hr8;clear hown8 hr8 hres;go_wp2;have hr8:=HR8.out;refine bodyPost_ret (v:=.agg #[.slice ra acc.length rc]) (by simp[results,Tryz.results147,go_sem,hr8]) rfl ?_;exact⟨_,rfl,HS8.out,HG8.out,HW7.out⟩
end
end Go.Proofs.YtapobpgbcbplbaaGreatDoor
