import Derived.Test.YthifnefkdjkicaaGreatDoorRlLineC
import Derived.Test.YthifnefkdjkicaaGreatDoorRlRules
namespace Go.Proofs.YthifnefkdjkicaaGreatDoor
set_option maxHeartbeats 4000000
set_option maxRecDepth 100000
section
open Go.RowKit Go.Shelf Sv
theorem zjJ(s:ByteArray)(w:World)(hs:s.size<=100000)(hw:Lb w)(hF:yu w)(ad:Addr)(cap:Nat)(hK:xg w ad cap):zC 36 #[s] w (Qm w (ZU s)):=by
 have h4:=zfl (zb s 32).1;have h:zO (zb s 32).1=0\/zO (zb s 32).1=1\/zO (zb s 32).1=2\/zO (zb s 32).1=3\/zO (zb s 32).1=4:=by omega
 unfold ZU;rcases h with h|h|h|h|h
 ·rw[h];exact zjA s w hs hw hF ad cap hK h
 ·rw[h,zA1 (by decide),zA1 (by decide)];cases hv:zS (zb (zb (zb s 32).2 32).2 32).1 with
  |error ke=>exact JU s w hs hw hF ad cap hK 1 (Or.inl rfl) h ke hv
  |ok ns =>
   obtain⟨a,b,c,rfl⟩:=Ys (YO hv).1;simp only[zA2]
   by_cases hr:(zb (zb (zb s 32).2 32).2 32).2.size=0
   ·rw[zA2 hr];exact znN s w hs hw hF ad cap hK h a b c hv hr
   ·rw[zA1 hr];exact zhY s w hs hw hF ad cap hK h a b c hv hr
 ·rw[h,zA1 (by decide),zA1 (by decide)];cases hv:zS (zb (zb (zb s 32).2 32).2 32).1 with
  |error ke=>exact JU s w hs hw hF ad cap hK 2 (Or.inr (Or.inl rfl)) h ke hv
  |ok ns =>
   obtain⟨a,b,c,rfl⟩:=Ys (YO hv).1;simp only;rw[zA1 (by decide)];unfold xm;cases hr:xq (zb (zb (zb (zb s 32).2 32).2 32).2 32).2 with
   |error q=>obtain⟨q,o⟩:=q;exact zcR s w hs hw hF ad cap hK 2 (Or.inl rfl) h a b c hv q o hr
   |ok lo=>exact zfY s w hs hw hF ad cap hK 2 (Or.inl rfl) h a b c hv lo hr
 ·rw[h,zA1 (by decide),zA1 (by decide)];cases hv:zS (zb (zb (zb s 32).2 32).2 32).1 with
  |error ke=>exact JU s w hs hw hF ad cap hK 3 (Or.inr (Or.inr rfl)) h ke hv
  |ok ns =>
   obtain⟨a,b,c,rfl⟩:=Ys (YO hv).1;simp only;rw[zA1 (by decide)];unfold xm;cases hr:xq (zb (zb (zb (zb s 32).2 32).2 32).2 32).2 with
   |error q=>obtain⟨q,o⟩:=q;exact zcR s w hs hw hF ad cap hK 3 (Or.inr rfl) h a b c hv q o hr
   |ok lo=>exact zfY s w hs hw hF ad cap hK 3 (Or.inr rfl) h a b c hv lo hr
 ·rw[h,zA1 (by decide),zA2 rfl];unfold xm;cases hr:xq (zb (zb s 32).2 32).2 with
  |error q=>obtain⟨q,o⟩:=q;exact zj2 s w hs hw hF ad cap hK h q o hr
  |ok lo=>exact zh9 s w hs hw hF ad cap hK h lo hr
end
section
open Go.RowKit Go.Deep Go.Shelf Sv
theorem zku:(Tryz.prog.info? 84).map (fun i=>(i.zero,i.size,i.bytes))=some (some (.agg #[(0:Int),.string ⟨#[]⟩,(0:Int),(0:Int),(0:Int),.string ⟨#[]⟩,.slice none 0 0]),7,88):=by kernel_rfl
theorem Kd(l:List zf):(tp l).length=2*l.length:=by
 induction l with
 |nil=>rfl
 |cons s r ih=>simp only[tp,List.length_cons,ih];omega
def Zl(W:World)(ls:List Ln)(vs:List Value):Prop:=vs.length=ls.length/\∀i,i<ls.length->zG W (vs.getD i undef) (tp (ls.getD i default).rng)/\Rg (ls.getD i default).rng
theorem Zl.below{B:Nat}{w w':World}{l:List Ln}{vs:List Value}(h:Zl w l vs)(hb:Below B w w')(hB:w.heap.size<=B):Zl w' l vs:=⟨h.1,fun i hi=>⟨(h.2 i hi).1.below hb hB,(h.2 i hi).2⟩⟩
theorem zoi(w:World):Zl w [] []:=⟨rfl,fun i h=>by simp at h⟩
theorem zG.lt'{w:World}{v:Value}{l:List zf}(h:zG w v (tp l))(hl:0<l.length){g:Nat}(hg:v.ownBlock=some g):g<w.heap.size:=by
 obtain⟨g',j,e,o,_⟩:=h.cells 0 (by rw[Kd];omega);rw[e] at hg;simp[Value.ownBlock] at hg;omega
theorem RgN.newR{W:World}{ls:List Ln}{vs:List Value}(h:Zl W ls vs){b:Nat}(hb:W.heap.size<=b):RgN ls vs (some b):=fun i hi hl g hg e=>by
 have:=(h.2 i hi).1.lt' hl hg;cases e;omega
theorem zG.grown{W W':World}{v:Value}{l:List zf}{row:Option Nat}(h:zG W v (tp l))(hg:W.grownBy W' row)(hn:0<l.length->∀g,v.ownBlock=some g->some g≠row):zG W' v (tp l) :=
 ⟨h.form,fun i hi=>by
  obtain⟨g,o,e,j,c0⟩:=h.cells i hi;have p:=hn (by rw[Kd] at hi;omega) g (by rw[e];rfl);exact ⟨g,o,e,Nat.lt_of_lt_of_le j hg.size,(Z3 hg j p).trans c0⟩⟩
theorem Zl.grown{W W':World}{ls:List Ln}{vs:List Value}{row:Option Nat}(h:Zl W ls vs)(hg:W.grownBy W' row)(hn:RgN ls vs row):Zl W' ls vs:=⟨h.1,fun i hi=>⟨(h.2 i hi).1.grown hg (hn i hi),(h.2 i hi).2⟩⟩
theorem Zl.snoc{w:World}{l:List Ln}{vs:List Value}(h:Zl w l vs){x:Ln}{v:Value}(hv:zG w v (tp x.rng))(hr:Rg x.rng):Zl w (l++[x]) (vs++[v]):=by
 refine⟨by simp[h.1],fun i hi=>?_⟩
 by_cases hl:i<l.length
 ·have e1:(l++[x]).getD i default=l.getD i default:=by simp[List.getD_eq_getElem?_getD,List.getElem?_append_left hl]
  have e2:(vs++[v]).getD i undef=vs.getD i undef:=by simp[List.getD_eq_getElem?_getD,List.getElem?_append_left (show i<vs.length by rw[h.1];exact hl)]
  rw[e1,e2];exact h.2 i hl
 ·obtain rfl:i=l.length:=by simp at hi;omega
  have e1:(l++[x]).getD l.length default=x:=by simp[List.getD_eq_getElem?_getD]
  have e2:(vs++[v]).getD l.length undef=v:=by simp[List.getD_eq_getElem?_getD,<-h.1]
  rw[e1,e2];exact⟨hv,hr⟩
structure RPS(W0 W:World)(lv sv:Value)(ls:List Ln)(vs:List Value)(ss:List Nat):Prop where
 lrow:W.ownsRow W0.heap.size 84 7 lv ls.length (qw ls vs)
 srow:W.ownsRow W0.heap.size 3 1 sv ss.length (zm (ss.map fun (k:Nat)=>(k:Int)))
 rg:Zl W ls vs
 nl:RgN ls vs lv.ownBlock
 ns:RgN ls vs sv.ownBlock
 lo:∀k,k<W0.heap.size->RgN ls vs (some k)
 B:zB W0 W
theorem RPS.start(W0:World):RPS W0 W0 (.slice none 0 0) (.slice none 0 0) [] [] []:=⟨World.ownsRow_nil _ _ _ _,World.ownsRow_nil _ _ _ _,zoi _,RgN.nil _,RgN.nil _,fun _ _=>RgN.nil _,Below.refl _ _⟩
theorem RPS.step{W0 W W':World}{lv sv:Value}{ls:List Ln}{vs:List Value}{ss:List Nat}(h:RPS W0 W lv sv ls vs ss)(hb:zB W W'):RPS W0 W' lv sv ls vs ss :=
 ⟨zI h.lrow hb,zI h.srow hb,h.rg.below hb zN,h.nl,h.ns,h.lo,zT h.B hb⟩
theorem RPS.appL{W0 W w':World}{lv lv' sv v:Value}{ls:List Ln}{vs:List Value}{ss:List Nat}{x:Ln}(h:RPS W0 W lv sv ls vs ss)(hv:zG W v (tp x.rng))(hrg:Rg x.rng)(hn:0<x.rng.length->∀g,v.ownBlock=some g->W0.heap.size<=g/\some g≠lv.ownBlock/\some g≠sv.ownBlock)
  (hown:w'.ownsRow W0.heap.size 84 7 lv' (ls.length+1) (qw ls vs++ZD x v)) (hg:W.grownBy w' lv.ownBlock) (hloc:lv'.ownBlock=lv.ownBlock\/lv'.ownBlock=some W.heap.size):RPS W0 w' lv' sv (ls++[x]) (vs++[v]) ss:=by
 have hx:0<x.rng.length->∀g,v.ownBlock=some g->some g≠lv.ownBlock:=fun h1 g h2=>(hn h1 g h2).2.1;have j:Zl w' (ls++[x]) (vs++[v]):=(h.rg.grown hg h.nl).snoc (hv.grown hg hx) hrg;refine⟨?_,xZ h.srow hg (ZP h.srow h.lrow (by decide)),j,?_,h.ns.snoc h.rg.1 (fun h1 g h2=>(hn h1 g h2).2.2),fun k hk=>(h.lo k hk).snoc h.rg.1 (fun h1 g h2 e=>by have:=(hn h1 g h2).1;cases e;omega),h.B.grown hg h.B.size (fun k hk=>(h.lrow.lt k hk).1)⟩
 ·rw[zbT _ _ _ _ h.rg.1,List.length_append];exact hown
 ·rcases hloc with e|e
  ·rw[e];exact h.nl.snoc h.rg.1 hx
  ·rw[e];refine(RgN.newR h.rg zN).snoc h.rg.1 (fun h1 g h2 e2=>?_);have:=hv.lt' h1 h2;cases e2;omega
theorem RPS.appS{W0 W w':World}{lv sv sv':Value}{ls:List Ln}{vs:List Value}{ss:List Nat}{k:Nat}(h:RPS W0 W lv sv ls vs ss)
  (hown:w'.ownsRow W0.heap.size 3 1 sv' (ss.length+1) (zm (ss.map fun (k:Nat)=>(k:Int))++[.int .i64 k])) (hg:W.grownBy w' sv.ownBlock) (hloc:sv'.ownBlock=sv.ownBlock\/sv'.ownBlock=some W.heap.size):RPS W0 w' lv sv' ls vs (ss++[k]):=by
 refine⟨xZ h.lrow hg (ZP h.lrow h.srow (by decide)),?_,h.rg.grown hg h.ns,h.nl,?_,h.lo,h.B.grown hg h.B.size (fun k hk=>(h.srow.lt k hk).1)⟩
 ·rw[List.map_append,List.length_append];have e:zm (List.map (fun (k:Nat)=>(k:Int)) ss++List.map (fun (k:Nat)=>(k:Int)) [k])=zm (ss.map fun (k:Nat)=>(k:Int))++[.int .i64 k]:=by rw[List.map_cons,List.map_nil,Z1]
  rw[e];exact hown
 ·rcases hloc with e|e
  ·rw[e];exact h.ns
  ·rw[e];exact RgN.newR h.rg zN
theorem zG.one'{W:World}{b:Nat}{v x:Value}{l:List zf}{i:Nat}(h:zG W v (tp l))(hn:0<l.length->∀g,v.ownBlock=some g->some g≠some b):zG (W.setCell ⟨b,i,none⟩ x) v (tp l) :=
 ⟨h.form,fun j hj=>by
  obtain⟨g,o,e,hg,c0⟩:=h.cells j hj;have p:g≠b:=fun e'=>hn (by rw[Kd] at hj;omega) g (by rw[e];rfl) (by rw[e']);exact ⟨g,o,e,by simp [World.setCell];exact hg,(qq p).trans c0⟩⟩
theorem RPS.rlsSet{W0 W:World}{lv sv x y:Value}{ls:List Ln}{vs:List Value}{ss:List Nat}{b i j:Nat}(h:RPS W0 W lv sv ls vs ss)(hb:b<W0.heap.size):RLs ((W.setCell ⟨b,i,none⟩ x).setCell ⟨b,j,none⟩ y) lv ls :=
 ⟨vs,⟨h.rg.1,fun k hk=>⟨((h.rg.2 k hk).1.one' (h.lo b hb k hk)).one' (h.lo b hb k hk),(h.rg.2 k hk).2⟩⟩,zD (Zs (Zs h.lrow hb) hb)⟩
theorem RPS.rls{W0 W:World}{lv sv:Value}{ls:List Ln}{vs:List Value}{ss:List Nat}(h:RPS W0 W lv sv ls vs ss):RLs W lv ls:=⟨vs,h.rg,zD h.lrow⟩
theorem zl5{L:List (Nat × ByteArray)}{k:Nat}(hk:k<L.length):(L.take (k+1)).filter (fun x=>decide (x.2.size≠0))=(L.take k).filter (fun x=>decide (x.2.size≠0))++(if (px L k).2.size=0 then [] else [px L k]):=by
 rw[List.take_succ_eq_append_getElem hk,List.filter_append,Qt L k hk];congr 1;rw[List.filter_cons,List.filter_nil]
 by_cases h:(L[k]).2.size=0
 ·rw[zA1 (by simp[h]),zA2 h]
 ·rw[zA2 (decide_eq_true h),zA1 h]
theorem zoN{L:List (Nat × ByteArray)}{k:Nat}(hk:k<L.length){acc:List (Nat × Ln)}(h:plF ((L.take k).filter (fun x=>decide (x.2.size≠0))) []=.ok acc) :
  plF ((L.take (k+1)).filter (fun x=>decide (x.2.size≠0))) []=if (px L k).2.size=0 then .ok acc else match ZU (px L k).2 with
   |.error e=>.error (e.1,(px L k).1)
   |.ok l=>.ok (acc++[((px L k).1,l)]):=by
 rw[zl5 hk,Ks,h];simp only
 by_cases h0:(px L k).2.size=0
 ·rw[zA2 h0,zA2 h0];rfl
 ·rw[zA1 h0,zA1 h0,plF];cases ZU (px L k).2 with
  |error e=>rfl
  |ok l=>rfl
theorem zpE{L:List (Nat × ByteArray)}{k:Nat}{e:Int × Nat}(h:plF ((L.take k).filter (fun x=>decide (x.2.size≠0))) []=.error e):plF (L.filter (fun x=>decide (x.2.size≠0))) []=.error e:=by
 conv=>lhs;rw[<-List.take_append_drop k L,List.filter_append,Ks,h]
end
section
open Go.RowKit Go.Shelf Sv
theorem zb0{k:Nat}{nm:ByteArray}{ns:List Nat}{ot rest:ByteArray}{q:Int}{o:Option Nat}(h:xm k nm ns ot rest=.error (q,o)):q≠0:=by
 unfold xm at h;split at h
 ·rename_i e hx;cases h;exact za3 hx
 ·cases h
theorem zfT{s:ByteArray}{q:Int}{o:Option Nat}(h:ZU s=.error (q,o)):q≠0:=by
 unfold ZU at h;split at h
 ·cases h;decide
 ·split at h
  ·exact zb0 h
  ·split at h
   ·rename_i hx;cases h;exact KT hx
   ·split at h
    ·split at h
     ·cases h
     ·cases h;decide
    ·exact zb0 h
end
section
open Go.RowKit Go.Deep Go.Shelf Sv
theorem znS:∀(ls:List Ln) (i:Nat) (its:List It) (k:Int) (j:Nat),qg ls i its=.error (k,j)->k≠0:=by
 intro ls
 induction ls with
 |nil=>intro i its k j h;cases h
 |cons x r ih =>
  intro i its k j h;unfold qg at h;split at h
  ·rename_i hz;cases h;exact hz
  ·split at h
   ·split at h
    ·cases h;decide
    ·split at h
     ·cases h;decide
     ·exact ih _ _ _ _ h
   ·exact ih _ _ _ _ h
theorem zbU{ls:List Ln}{q:Int}{o:Option Nat}(h:qA ls=.error (q,o)):q≠0:=by
 unfold qA at h;split at h
 ·cases h;decide
 ·split at h
  ·rename_i e he;obtain⟨e1,e2⟩:=e;cases h;exact znS _ _ _ _ _ he
  ·split at h
   ·cases h;decide
   ·cases h
def zdr(w:World)(r:Except (Int × Option Nat) (List Ln × List It))(e:Ending)(w':World):Prop :=
 ∃(v:Value) (k p:Int),e=.returned (.tuple #[v,.agg #[k,p]])/\zB w w'/\match r with
  |.ok (ls,_)=>RLs w' v ls/\k=0/\p=-1
  |.error (q,o)=>v=.slice none 0 0/\k=q/\p=QU o
theorem zpe(s:ByteArray)(w:World)(h:20000<s.size):zC 17 #[s] w (zdr w (.error (4,none))):=by
 have h':(20000:Int)<(s.size:Int):=by omega
 have p:=zH (Q7 4 (w.alloc (.cells #[(0:Int),(0:Int)] 50)));have kf:=Blk.new w 50 #[(0:Int),(0:Int)];have u:zB w (w.alloc (.cells #[(0:Int),(0:Int)] 50)):=(Below.refl _ w).alloc zN _;clear h;go_enter Tryz.func17,Tryz.ntmps17;go_wp2_with fail;refine p.out.mono ?_;rintro e w1 ⟨rfl,o⟩;have j:=kf.below o kf.lt;have q:=zT u o;have q0:_=some (Value.int .i64 0):=j.cell 0;have q1:_=some (Value.int .i64 0):=j.cell 1;have q2:=j.frozen 0;have q3:=j.frozen 1;obtain⟨⟨p0,p1⟩,p2,p3,p4⟩:=Zk j q zN 4 (-1);have P2:=zH p2;have P3:=zH p3;have P4:=zH p4;clear p2 p3 p4;clear kf j u o p q;go_wp2;exact bodyPost_ret (v:=.tuple #[.slice none 0 0,.agg #[(4:Int),.int .i64 (-1)]]) (by simp[results,Tryz.results17,go_sem,P2.out,P3.out]) rfl ⟨_,_,_,rfl,P4.out,rfl,rfl,rfl⟩
theorem zkS{L:List (Nat × ByteArray)}{k:Nat}(hk:k<L.length):(((L.map (·.2)).map Value.string).toArray)[k]?=some (.string (px L k).2):=by
 rw[Qt L k hk];simp[hk]
def zpY(L:List (Nat × ByteArray))(W0:World)(lV sV aV kV:Value)(wz:World):Prop:=∃(k a:Nat) (acc:List (Nat × Ln)) (vs:List Value),k<=L.length/\kV=.int .i64 k/\aV=.int .i64 a/\a<=30000/\(k<L.length->a=(px L k).1)/\acc.length<=k/\plF ((L.take k).filter (fun x=>decide (x.2.size≠0))) []=.ok acc/\RPS W0 wz lV sV (acc.map Prod.snd) vs (acc.map Prod.fst)
theorem zky(s:ByteArray)(w:World)(hw:Lb w)(hF:yu w)(ad:Addr)(cap:Nat)(hK:xg w ad cap):zC 17 #[s] w (zdr w (yM s)):=by
 by_cases hs:20000<s.size
 ·have e:yM s=.error (4,none):=by unfold yM;rw[zA2 hs]
  rw[e];exact zpe s w hs
 obtain⟨R,hR⟩:∃R,yM s=R:=⟨_,rfl⟩;rw[hR];have aF:=hR;unfold yM at aF;rw[zA1 hs,znY s s.size 0 (by omega) (Nat.zero_le _)] at aF;have aX:=zar s ⟨#[10]⟩;have be:=zH (zab s ⟨#[10]⟩ (by decide) (w.alloc (.cells #[(0:Int),(0:Int)] 50)) (by omega) (hw.below ((Below.refl _ w).alloc zN _)));generalize zq s ⟨#[10]⟩ s.size 0=L at *;have ay:=zH aX;have HR:=zH aF;have HW:=zH hw;have aL:=zH hF;have bw:=zH hK;have hs':¬(20000:Int)<(s.size:Int):=by omega
 have bI:=aX.len;have kf:=Blk.new w 50 #[(0:Int),(0:Int)];have bk:zB w (w.alloc (.cells #[(0:Int),(0:Int)] 50)):=(Below.refl _ w).alloc zN _;clear hR aF aX hw hF hK;obtain⟨i0,aZ,b4,b5,b6⟩:=info_parts zku;obtain⟨i1,ai,b1,b2,b3⟩:=info_parts Z0;go_enter Tryz.func17,Tryz.ntmps17;go_wp2_with fail;refine be.out.mono ?_;rintro e W0 ⟨rfl,ao,aS⟩;have U:Hid (Blk W0 w.heap.size 50 #[(0:Int),(0:Int)]):=kf.below aS kf.lt;have aC:=zH ao;have ax:Hid (zB w W0):=zT bk aS;clear kf bk ao aS be;rw[zA0] at aC;simp only[zA0];go_wp2_with fail;go_loopw [4,5,6,19] (fun lV sV aV kV wz=>zpY L W0 lV sV aV kV wz) (fun _ _ _ kV _=>L.length-(intOf kV).toNat)
 case atStart=>exact⟨0,0,[],[],Nat.zero_le _,rfl,rfl,by omega,fun _=>ay.out.first.symm,Nat.le_refl _,rfl,RPS.start _⟩
 case round =>
  obtain⟨k,a,ag,vs,hk,rfl,rfl,ha,aR,ah,ae,V⟩:=hrel;obtain⟨ls,aG⟩:∃ls,ag.map Prod.snd=ls:=⟨_,rfl⟩;obtain⟨ss,aH⟩:∃ss,ag.map Prod.fst=ss:=⟨_,rfl⟩;have bM:ls.length<=k:=by rw[<-aG,List.length_map];exact ah
  have bL:ss.length<=k:=by rw[<-aH,List.length_map];exact ah
  rw[aG,aH] at V;have ak:=zH aG;have aD:=zH aH;clear aG aH;obtain⟨aI,aJ,rfl,-⟩:=(zD V.lrow).form;obtain⟨bG,bH,rfl,-⟩:=(zD V.srow).form
  by_cases hlt:k<L.length
  ·have aw:=ay.out.room k hlt;have J:=ay.out.next k;have ea:=aR hlt;have bs:=zoN hlt ae;have cp:wr.cell? ⟨w.heap.size+1,k,none⟩=some (.string (px L k).2):=((aC.out.below V.B aC.out.lt).cell k).trans (zkS hlt);have hm:(⟨#[10]⟩:ByteArray).size=1:=rfl;rw[hm] at J;have a6:=zH bs;have Z:=zH V;clear bs ae V aR hm;obtain⟨pl,ae⟩:∃pl,(px L k).1=pl:=⟨_,rfl⟩;obtain⟨pc,ao⟩:∃pc,(px L k).2=pc:=⟨_,rfl⟩;rw[ae,ao] at aw J a6;rw[ae] at ea;rw[ao] at cp;clear ae ao;subst ea;have bo:=zH J;clear J
   by_cases h0:pc.size=0
   ·obtain rfl:=Qs h0;have aO:Hid (plF ((L.take (k+1)).filter (fun x=>decide (x.2.size≠0))) []=.ok ag):=by have h:=a6.out;rw[zA2 (show (⟨#[]⟩:ByteArray).size=0 from rfl)] at h;exact h
    clear a6 h0;clear aZ b4 b5 b6 ai b1 b2 b3;go_wp2;go_roundw
    case rel=>exact⟨k+1,a+1,ag,vs,by omega,by go_num,by go_num,by omega,fun h=>(bo.out h).symm,by omega,aO.out,by rw[ak.out,aD.out];exact Z.out⟩
    case measure=>simp[intOf];omega
   ·have bl:pc.toList.isEmpty=false:=Qk (by omega);have bJ:(pc.toList==[])=false:=by rw[beq_eq_false_iff_ne];intro h;rw[h] at bl;cases bl
    have aE:=zT ax.out Z.out.B;have b7:=zH (zjJ pc wr (by omega) (HW.out.below aE) (aL.out.below aE) ad cap (bw.out.below aE));rw[zA1 h0] at a6;clear aE;go_wp2_with fail;refine b7.out.mono ?_;rintro e w1 ⟨x,ra,rc,q,p,rfl,bn,br,au,a7,bp⟩;have av:=Z.out.step a7;have hA:zB w1 ((w1.alloc (.cells #[x.kind,x.name,x.a,x.b,x.c,x.other,.slice ra (tp x.rng).length rc] 84)).alloc (.cells #[q,p] 50)):=((Below.refl _ w1).alloc zN _).alloc (by simp) _;have kl:=(Blk.new w1 84 #[x.kind,x.name,x.a,x.b,x.c,x.other,.slice ra (tp x.rng).length rc]).alloc (.cells #[q,p] 50);have kq:=Blk.new (w1.alloc (.cells #[x.kind,x.name,x.a,x.b,x.c,x.other,.slice ra (tp x.rng).length rc] 84)) 50 #[q,p];rw[zA0] at kq;have C:=zH (av.step hA);have b9:=zH (bn.below hA zN);have bd:=zH br;have az:=zH au;have aA:=zH bp;have Y:=zH kl;have aN:=zH kq;have bP:=a7.size;clear av hA kl kq bn br au bp a7 b7 cp;go_upto_region 11 with fail;generalize (w1.alloc (.cells #[x.kind,x.name,x.a,x.b,x.c,x.other,.slice ra (tp x.rng).length rc] 84)).alloc (.cells #[q,p] 50)=W2 at *;have k0:_=some (Value.int .i64 q):=aN.out.cell 0;have k1:_=some (Value.int .i64 p):=aN.out.cell 1;cases hlf:ZU pc with
    |error e =>
     obtain⟨q',o⟩:=e;have aj:=zfT hlf;have h1:=aA.out;have h2:=a6.out;rw[hlf] at h1 h2;obtain⟨rfl,rfl,rfl⟩:=h1;have af:Hid (R=.error (q,some a)):=by show _=_;rw[<-HR.out,zpE h2]
     have bq:(q==0)=false:=by rw[beq_eq_false_iff_ne];exact aj
     have j:Blk W2 w.heap.size 50 #[(0:Int),(0:Int)]:=U.out.below C.out.B U.out.lt;have X:zB w W2:=zT ax.out C.out.B;have q0:_=some (Value.int .i64 0):=j.cell 0;have q1:_=some (Value.int .i64 0):=j.cell 1;have q2:=j.frozen 0;have q3:=j.frozen 1;obtain⟨⟨p0,p1⟩,p2,p3,p4⟩:=Zk j X zN q (a:Int);have P2:=zH p2;have P3:=zH p3;have P4:=zH p4;clear p2 p3 p4;clear hlf h2 aj a6 HR aA Z;go_wp2_with fail;go_region;go_wp2;exact bodyPost_ret (v:=.tuple #[.slice none 0 0,.agg #[q,a]]) (by simp[results,Tryz.results17,go_sem,P2.out,P3.out]) rfl (by rw[af.out];exact⟨_,_,_,rfl,P4.out.drew,rfl,rfl,rfl⟩)
    |ok y =>
     have h1:=aA.out;have h2:=a6.out;rw[hlf] at h1 h2;obtain⟨rfl,rfl,rfl⟩:=h1;have aO:Hid (plF ((L.take (k+1)).filter (fun x=>decide (x.2.size≠0))) []=.ok (ag++[(a,x)])):=h2;have d0:_=some (Value.int .i64 x.kind):=Y.out.cell 0;have d1:_=some (Value.string x.name):=Y.out.cell 1;have d2:_=some (Value.int .i64 x.a):=Y.out.cell 2;have d3:_=some (Value.int .i64 x.b):=Y.out.cell 3;have d4:_=some (Value.int .i64 x.c):=Y.out.cell 4;have d5:_=some (Value.string x.other):=Y.out.cell 5;have d6:_=some (Value.slice ra (tp x.rng).length rc):=Y.out.cell 6;have ar:=zH C.out.lrow;have bN:=C.out.B.size;have b0:=Z.out.B.size;have b8:=zH Z.out.lrow;have bg:=zH Z.out.srow;clear hlf h2 a6 aA Z k1 aN Y;have aT:zB W2 (W2.alloc (.cells #[x.kind,x.name,x.a,x.b,x.c,x.other,.slice ra (tp x.rng).length rc] 84)):=zF.alloc zN _;have ba:=zH (C.out.step aT);have aq:=zH (b9.out.below aT zN);clear aT;go_wp2_with (at_builtin;refine wpList_append_own_at _ rfl _ _ 25 rfl W0.heap.size 84 i0 (.agg #[(0:Int),.string ⟨#[]⟩,(0:Int),(0:Int),(0:Int),.string ⟨#[]⟩,.slice none 0 0]) 7 88 Tryz.underlying25 aZ b4 b5 b6 rfl (by decide) _ _ _ rfl (ar.out.alloc _) W2.heap.size 1 1 [.int .i64 x.kind,.string x.name,.int .i64 x.a,.int .i64 x.b,.int .i64 x.c,.string x.other,.slice ra (tp x.rng).length rc] rfl rfl ?c1 ?c2 ?c3 ?c4 ?c5 ?_)
     case c1=>exact zfN _ _ _ _ _ _ _ _ _
     case c2=>intro u hu;simp at hu;rcases hu with rfl|rfl|rfl|rfl|rfl|rfl|rfl<;>rfl
     case c3=>unfold maxLen;omega
     case c4=>omega
     case c5=>simp;omega
     intro v4 w4 ab K _ a9;have bm:0<x.rng.length->∀g,(Value.slice ra (tp x.rng).length rc).ownBlock=some g->W0.heap.size<=g/\some g≠(Value.slice aI ls.length aJ).ownBlock/\some g≠(Value.slice bG ss.length bH).ownBlock:=fun _ g hg=>⟨Nat.le_trans b0 (az.out g hg),fun e=>by have h1:=az.out g hg;have h2:=(b8.out.lt g e.symm).2;omega,fun e=>by have h1:=az.out g hg;have h2:=(bg.out.lt g e.symm).2;omega⟩;have an:=ba.out.appL aq.out bd.out bm ab K (by rw[zA0];exact a9);obtain⟨bQ,bR,rfl,-⟩:=(zD an.lrow).form;have bz:=zH an;have a0:=zH an.srow;have bO:=an.B.size;have bj:zB w4 (w4.alloc (.cells #[a] 3)):=zF.alloc zN _;have bb:=zH (an.step bj);clear ab K a9 bm an bj ar ba C b9 aq bd az b8 bg d0 d1 d2 d3 d4 d5 d6;go_wp2_with (at_builtin;refine wpList_append_own_at _ rfl _ _ 23 rfl W0.heap.size 3 i1 (.int .i64 0) 1 8 Tryz.underlying23 ai b1 b2 b3 rfl (by decide) _ _ _ rfl (a0.out.alloc _) w4.heap.size 1 1 [.int .i64 a] rfl rfl ?a1 ?a2 ?a3 ?a4 ?a5 ?_)
     case a1=>exact xN _ _ _
     case a2=>exact xw _
     case a3=>unfold maxLen;omega
     case a4=>omega
     case a5=>simp;omega
     intro v6 w6 ac M _ aa;have bA:=zH (bb.out.appS (k:=a) ac M (by rw[zA0];exact aa));clear ac M aa bb bz a0;go_wp2;go_roundw
     case rel=>exact⟨k+1,a+pc.size+1,ag++[(a,x)],vs++[.slice ra (tp x.rng).length rc],by omega,by go_num,by go_num,by omega,fun h=>(bo.out h).symm,by simp;omega,aO.out,by have h:=bA.out;rw[show (ls++[x]).length=ls.length+1 by simp] at h;rw[List.map_append,List.map_append,ak.out,aD.out];exact h⟩
     case measure=>simp[intOf];omega
  ·obtain rfl:k=L.length:=by omega
   have a8:plF (L.filter (fun x=>decide (x.2.size≠0))) []=.ok ag:=by have h:=ae;rw[List.take_length] at h;exact h
   have bh:=zT ax.out V.B;have aK:=zH (zhB ls (.slice aI ls.length aJ) wr V.rls (by omega) (aL.out.below bh));have aM:=zH a8;have aB:=zH V;clear ae a8 bh V ay aC aR hlt ah aZ b4 b5 b6 ai b1 b2 b3;obtain⟨NK,aP⟩:∃NK,QA (qA ls)=NK:=⟨_,rfl⟩;rw[aP] at aK;go_wp2_with fail;refine aK.out.mono ?_;rintro e w1 ⟨rfl,a7⟩;have hA:zB w1 (w1.alloc (.cells #[NK.1,NK.2] 50)):=zF.alloc zN _;have kq:=Blk.new w1 50 #[NK.1,NK.2];have C:=zH ((aB.out.step a7).step hA);have am:=zH aP;have aW:w.heap.size≠w1.heap.size:=by have h1:=U.out.lt;have h2:=aB.out.B.size;have h3:=a7.size;omega
   have aU:w.heap.size<=w1.heap.size:=by have h1:=U.out.lt;have h2:=aB.out.B.size;have h3:=a7.size;omega
   clear hA a7 aK aB aP;go_upto_region 17 with fail;generalize w1.alloc (.cells #[NK.1,NK.2] 50)=W2 at *;generalize w1.heap.size=bf at *;have j:Blk W2 w.heap.size 50 #[(0:Int),(0:Int)]:=U.out.below C.out.B U.out.lt;have X:zB w W2:=zT ax.out C.out.B;have k0:_=some (Value.int .i64 NK.1):=kq.cell 0;have k1:_=some (Value.int .i64 NK.2):=kq.cell 1;cases hn:qA ls with
   |ok its =>have h1:=am.out;have h2:=HR.out;rw[aM.out] at h2;simp only[ak.out,hn] at h2;rw[hn] at h1;obtain rfl:(0,-1)=NK:=h1;have af:Hid (R=.ok (ls,its)):=h2.symm;have aY:=aL.out.below X;have g0:=aY.c0;have g1:=aY.c1;have q0:_=some (Value.int .i64 0):=j.cell 0;have q1:_=some (Value.int .i64 0):=j.cell 1;have q2:=j.frozen 0;have q3:=j.frozen 1;obtain⟨⟨p0,p1⟩,p2,p3,p4⟩:=Zk j X zN 0 (-1);have P2:=zH p2;have P3:=zH p3;have P4:=zH p4;clear p2 p3 p4;have bB:Hid (RLs ((W2.setCell w.heap.size (.int .i64 0)).setCell ⟨w.heap.size,1,none⟩ (.int .i64 (-1))) (.slice aI ls.length aJ) ls):=C.out.rlsSet U.out.lt;clear h2 hn aY kq j U am C X;go_wp2_with fail;go_region;go_wp2;exact bodyPost_ret (v:=.tuple #[.slice aI ls.length aJ,.agg #[(0:Int),.int .i64 (-1)]]) (by simp[results,Tryz.results17,go_sem,P2.out,P3.out]) rfl (by rw[af.out];exact⟨_,_,_,rfl,P4.out.drew,bB.out.below zF.drew zN,rfl,rfl⟩)
   |error e =>
    obtain⟨q,o⟩:=e;have aj:=zbU hn;cases o with
    |none =>
     have h1:=am.out;have h2:=HR.out;rw[aM.out] at h2;simp only[ak.out,hn] at h2;rw[hn] at h1;obtain rfl:(q,-1)=NK:=h1;have af:Hid (R=.error (q,none)):=h2.symm;have bq:(q==0)=false:=by rw[beq_eq_false_iff_ne];exact aj
     simp only at k0 k1;have q0:_=some (Value.int .i64 0):=j.cell 0;have q1:_=some (Value.int .i64 0):=j.cell 1;have q2:=j.frozen 0;have q3:=j.frozen 1;obtain⟨⟨p0,p1⟩,p2,p3,p4⟩:=Zk j X zN q (-1);have P2:=zH p2;have P3:=zH p3;have P4:=zH p4;clear p2 p3 p4;clear h2 hn kq j U am C X aj;go_wp2_with fail;go_region;go_wp2;exact bodyPost_ret (v:=.tuple #[.slice none 0 0,.agg #[q,.int .i64 (-1)]]) (by simp[results,Tryz.results17,go_sem,P2.out,P3.out]) rfl (by rw[af.out];exact⟨_,_,_,rfl,P4.out.drew,rfl,rfl,rfl⟩)
    |some i =>
     have bK:=zfZ hn;have h1:=am.out;have h2:=HR.out;rw[aM.out] at h2;simp only[ak.out,aD.out,hn] at h2;rw[hn] at h1;obtain rfl:(q,(i:Int))=NK:=h1;have bq:(q==0)=false:=by rw[beq_eq_false_iff_ne];exact aj
     have bF:ss.length=ls.length:=by rw[<-ak.out,<-aD.out,List.length_map,List.length_map]
     have bE:i<ss.length:=by omega
     obtain⟨g,bC,e1,hg,hc⟩:=(zD C.out.srow).cells (by omega);simp at e1;obtain⟨rfl,rfl⟩:=e1;obtain⟨Pi,aQ⟩:∃Pi,ss.getD i 0=Pi:=⟨_,rfl⟩;have ci:W2.cell? ⟨g,i,none⟩=some (.int .i64 Pi):=hc i _ (by rw[<-aQ];simp[zm,bE]);rw[aQ] at h2;have af:Hid (R=.error (q,some Pi)):=h2.symm;simp only at k0 k1;have bD:=kq.frozen 1;have bu:Blk (W2.setCell ⟨bf,1,none⟩ (.int .i64 Pi)) bf 50 #[q,.int .i64 Pi]:=kq.set (i:=1);have bt:Blk (W2.setCell ⟨bf,1,none⟩ (.int .i64 Pi)) w.heap.size 50 #[(0:Int),(0:Int)]:=j.other aW;have bi:zB w (W2.setCell ⟨bf,1,none⟩ (.int .i64 Pi)):=X.setCell aU _;have bc:=zH bu;have ap:=zH bt;have bv:=zH bi;clear h2 hn kq j U am C X aj aQ hc bu bt bi bF;go_upto_region 20 with fail;generalize W2.setCell ⟨bf,1,none⟩ (.int .i64 Pi)=W3 at *;clear k0 k1 ci bD;have k0:_=some (Value.int .i64 q):=bc.out.cell 0;have k1:_=some (Value.int .i64 Pi):=bc.out.cell 1;have q0:_=some (Value.int .i64 0):=ap.out.cell 0;have q1:_=some (Value.int .i64 0):=ap.out.cell 1;have q2:=ap.out.frozen 0;have q3:=ap.out.frozen 1;obtain⟨⟨p0,p1⟩,p2,p3,p4⟩:=Zk ap.out bv.out zN q (Pi:Int);have P2:=zH p2;have P3:=zH p3;have P4:=zH p4;clear p2 p3 p4;go_region;go_wp2;exact bodyPost_ret (v:=.tuple #[.slice none 0 0,.agg #[q,.int .i64 Pi]]) (by simp[results,Tryz.results17,go_sem,P2.out,P3.out]) rfl (by rw[af.out];exact⟨_,_,_,rfl,P4.out.drew,rfl,rfl,rfl⟩)
end
section
open Go.RowKit Go.Deep Sv
noncomputable def Zu(s:ByteArray):Option (List Ln × List It):=if 1500<s.size then none else match yM s with
 |.error _=>none
 |.ok r=>some r
theorem zm3{s:ByteArray}{ls:List Ln}{its:List It}(h:Zu s=some (ls,its)):qA ls=.ok its:=by
 unfold Zu at h;split at h
 ·cases h
 ·split at h
  ·cases h
  ·rename_i r hr;cases h;exact zkp hr
def zkv(w:World)(r:Option (List Ln × List It))(e:Ending)(w':World):Prop :=
 match r with
 |none=>e=.returned (.tuple #[.pointer none,.slice none 0 0,false])/\zB w w'
 |some (ls,its)=>∃bc v,e=.returned (.tuple #[.pointer (some ⟨bc,0,none⟩),v,true])/\xY w' bc ls its/\RLs w' v ls/\zB w w'
theorem zjH:∀(l:List (Nat × ByteArray)) (acc:List (Nat × Ln)) (q:Int) (i:Nat),plF l acc=.error (q,i)->q≠0:=by
 intro l
 induction l with
 |nil=>intro acc q i h;cases h
 |cons x r ih =>
  intro acc q i h;unfold plF at h;split at h
  ·rename_i e he;obtain⟨e1,e2⟩:=e;cases h;exact zfT he
  ·exact ih _ _ _ h
theorem zi7{s:ByteArray}{q:Int}{o:Option Nat}(h:yM s=.error (q,o)):q≠0:=by
 unfold yM at h;split at h
 ·cases h;decide
 ·split at h
  ·rename_i e he;obtain⟨e1,e2⟩:=e;cases h;exact zjH _ _ _ _ he
  ·split at h
   ·rename_i he;cases h;exact zbU he
   ·rename_i he;cases h;exact zbU he
   ·cases h
theorem zeH(s:ByteArray)(w:World)(hw:Lw w)(hF:yu w)(ad:Addr)(cap:Nat)(hK:xg w ad cap):zC 4 #[s] w (zkv w (Zu s)):=by
 by_cases hs:1500<s.size
 ·have hf:Zu s=none:=by unfold Zu;rw[zA2 hs]
  have a1:(1500:Int)<(s.size:Int):=by omega
  rw[hf];clear hs hf hw hF hK;go_enter Tryz.func4,Tryz.ntmps4;go_wp2;refine bodyPost_ret (v:=.tuple #[.pointer none,.slice none 0 0,false]) (by simp[results,Tryz.f4,go_sem]) rfl ?_;exact⟨rfl,Below.refl _ _⟩
 ·have a1:¬(1500:Int)<(s.size:Int):=by omega
  have j:=zky s w hw.lb hF ad cap hK;have C:∀W,zB w W->zC 18 #[s] W (KP W (yM s)):=fun W hb=>zjL s W (hw.below hb);cases hx:yM s with
  |error e =>
   obtain⟨q,o⟩:=e;have hf:Zu s=none:=by unfold Zu;rw[zA1 hs,hx]
   have hq:=zi7 hx;have Z:(q==0)=false:=by rw[beq_eq_false_iff_ne];exact hq
   rw[hx] at j;rw[hf];have HQ:=zH j;clear j C hw hF hK hx hf hs hq;generalize M:QU o=PO at *;have X:=zH M;clear M;go_enter Tryz.func4,Tryz.ntmps4;go_wp2_with fail;refine HQ.out.mono ?_;rintro e w1 ⟨v,k,p,rfl,y,hv,hk,hp⟩;rw[hv,hk,hp,X.out];clear hv hk hp;have hA:zB w1 (w1.alloc (.cells #[q,PO] 50)):=zF.alloc zN _;have kf:=Blk.new w1 50 #[q,PO];have u:Hid (zB w (w1.alloc (.cells #[q,PO] 50))):=zT y hA;clear hA y HQ;go_upto_region 4 with fail;generalize w1.alloc (.cells #[q,PO] 50)=W1 at *;generalize w1.heap.size=bf at *;have c0:_=some (Value.int .i64 q):=kf.cell 0;clear kf;go_wp2;refine bodyPost_ret (v:=.tuple #[.pointer none,.slice none 0 0,false]) (by simp[results,Tryz.f4,go_sem]) rfl ?_;exact⟨rfl,u.out⟩
  |ok r =>
   obtain⟨ls,its⟩:=r;have hf:Zu s=some (ls,its):=by unfold Zu;rw[zA1 hs,hx]
   rw[hx] at j C;rw[hf];have HQ:=zH j;have HP:=zH C;clear j C hw hF hK hx hf hs;go_enter Tryz.func4,Tryz.ntmps4;go_wp2_with fail;refine HQ.out.mono ?_;rintro e w1 ⟨v,k,p,rfl,y,hv,hk,hp⟩;rw[hk,hp];clear hk hp;have hA:zB w1 (w1.alloc (.cells #[(0:Int),.int .i64 (-1)] 50)):=zF.alloc zN _;have kf:=Blk.new w1 50 #[(0:Int),.int .i64 (-1)];have u:Hid (zB w (w1.alloc (.cells #[(0:Int),.int .i64 (-1)] 50))):=zT y hA;have K:=zH (hv.below hA zN);obtain⟨va,vc,rfl⟩:∃va vc,v=.slice va ls.length vc:=by obtain⟨vs,_,h2⟩:=hv;obtain⟨a,c,e,_⟩:=h2.form;exact⟨a,c,e⟩
   clear hA y HQ hv;go_upto_region 4 with fail;generalize w1.alloc (.cells #[(0:Int),.int .i64 (-1)] 50)=W1 at *;generalize w1.heap.size=bf at *;have c0:_=some (Value.int .i64 0):=kf.cell 0;clear kf;go_wp2_with fail;refine(HP.out _ u.out).mono ?_;rintro e w2 ⟨bc,vs,rfl,R,-,J⟩;have U:Hid (zB w w2):=zT u.out J;have Y:=zH (K.out.below J zN);have V:=zH R.cat;clear R J HP u K c0;go_wp2;refine bodyPost_ret (v:=.tuple #[.pointer (some bc),.slice va ls.length vc,true]) (by simp[results,Tryz.f4,go_sem]) rfl ?_;exact⟨bc,_,rfl,V.out,Y.out,U.out⟩
end
namespace Bd
open Go.RowKit Go.Deep Sv
theorem zhx:∀j w,(callFunc 13 j).run Tryz.prog w=.ok (.enter 13 j) w:=by intro j w;kernel_rfl
theorem znD:∀j w,(callFunc 14 j).run Tryz.prog w=.ok (.enter 14 j) w:=by intro j w;kernel_rfl
theorem zqa:∀j w,(callFunc 16 j).run Tryz.prog w=.ok (.enter 16 j) w:=by intro j w;kernel_rfl
theorem zoU(i:Int)(bb:Bool)(w:World):zR 13 #[i,bb] w (.int .i64 (Qa bb)):=by
 unfold Qa;cases bb
 ·go_enter Tryz.func13,Tryz.ntmps13;go_wp2;go_ret;exact⟨rfl,Below.refl _ _⟩
 ·go_enter Tryz.func13,Tryz.ntmps13;go_wp2;go_ret;exact⟨rfl,Below.refl _ _⟩
theorem zn3(now i:Nat)(bb:Bool)(a:Nat)(w:World)(hi:i<64)(hnow:now<2^64)(ha:w.cell? a=some (.int .u64 now)):zR 14 #[i,bb,.pointer (some a)] w (.int .i64 (ZO now i bb)):=by
 have hs:=XB now i (by omega);have j:(0:Int)<=(i:Int):=by omega
 unfold ZO Qa;cases bb<;>cases hb:now.testBit i<;>rw[hb] at hs <;>
 ·clear hb;go_enter Tryz.func14,Tryz.ntmps14;go_wp2;go_ret;exact⟨rfl,Below.refl _ _⟩
theorem zlv(costs:List Int)(i:Nat)(bb:Bool)(a:Nat)(sa:Option Addr)(cap:Nat)(w:World)(hi:i<64)(ha:w.cell? a=some (.slice sa costs.length cap))(hI:qe w sa costs):zR 16 #[i,bb,.pointer (some a)] w (.int .i64 (Zd costs i bb)):=by
 unfold Zd;cases bb with
 |false =>rw[zA1 (by simp)];clear hI;go_enter Tryz.func16,Tryz.ntmps16;go_wp2;go_ret;exact⟨rfl,Below.refl _ _⟩
 |true =>
  by_cases hlt:i<costs.length
  ·rw[zA2 ⟨rfl,hlt⟩];obtain⟨ad,rfl,j,cA⟩:=hI i hlt;generalize costs.getD i 0=x at *;have h0:(0:Int)<=(i:Int):=by omega
   have h1:(i:Int)<(costs.length:Int):=by omega
   obtain⟨ab,ao,o⟩:=ad;clear hI j;go_enter Tryz.func16,Tryz.ntmps16;go_wp2;go_ret;exact⟨rfl,Below.refl _ _⟩
  ·rw[zA1 (fun h=>hlt h.2)];have h1:¬(i:Int)<(costs.length:Int):=by omega
   clear hI;go_enter Tryz.func16,Tryz.ntmps16;go_wp2;go_ret;exact⟨rfl,Below.refl _ _⟩
theorem zhw(C:zJ)(hC:Zj C)(vars:Nat)(hv:vars<=8)(L:List Nat)(hlen:L.length<=1000)(hL:∀x∈L,x<18446744073709551616)(la:Option Addr)(lc:Nat)(F:FuncId)(cb:Array Value)(hent:∀q w,(callFunc F q).run Tryz.prog w=.ok (.enter F q) w)(w:World)(hg:yU w)(hU:UIn w la L)(hCA:ZA w F cb C vars)(ba bn:Nat)(ka:w.cell? ba=some (.slice la L.length lc))(kn:w.cell? bn=some (.int .i64 vars))
  (x:Wy) (h1:(chF C vars L).2.1=x.can) (h2:x.can=true->(chF C vars L).2.2=x.items) :
  zR 8 #[.int .u64 (((if x.can then x.items else 0):Nat):Int),(if x.can then .nilIface else .iface 42 (.int .i64 8)),.func (.func F) #[] cb,.pointer (some ba),.pointer (some bn)] w (.bool true):=by
 have j:=zkX C hC vars hv L hlen hL la lc F cb hent w hU hCA;rw[h1] at j;have u:Hid (∀W,zB w W->zR 10 #[.iface 42 (.int .i64 8),(8:Int)] W (.bool true)):=fun W hW=>zcB 8 8 (.iface 42 (.int .i64 8)) W (hg.below hW) (Or.inr (Or.inl ⟨by decide,rfl,rfl⟩));cases hc:x.can with
 |false =>rw[hc] at j;simp only[Bool.false_eq_true,if_false];have p:=zH j;generalize (chF C vars L).2.2=y at *;clear j h1 h2 hU hCA hC hL hent hg;go_enter Tryz.func8,Tryz.ntmps8;go_wp2_with fail;refine p.out.mono ?_;rintro e w1 ⟨rfl,o⟩;have K:=zH (u.out w1 o);have HB:=zH o;clear p o u ka kn;go_wp2_with fail;refine K.out.mono ?_;rintro e w2 ⟨rfl,J⟩;have HF:=zH (zT HB.out J);clear J;go_wp2;go_ret;exact⟨rfl,HF.out⟩
 |true =>rw[hc,h2 hc] at j;simp only[if_true];have p:=zH j;generalize x.items=y at *;clear j h1 h2 hU hCA hC hL hent hg u;go_enter Tryz.func8,Tryz.ntmps8;go_wp2_with fail;refine p.out.mono ?_;rintro e w1 ⟨rfl,o⟩;have HB:=zH o;clear p o ka kn;go_wp2;go_ret;exact⟨rfl,HB.out⟩
theorem zl8(ls:List Ln)(its:List It)(v:Value)(m:Nat)(w:World)(h:RLs w v ls)(hN:qA ls=.ok its) :
  zC 5 #[v,m] w fun e w'=>∃ca cc,e=.returned (.tuple #[.slice ca (ofL its ls).length cc,its.length,.bool (decide ((ofL its ls).length<=200)&&decide (its.length<=m))])/\xJ w' ca ((ofL its ls).map Prod.snd)/\zB w w':=by
 obtain⟨y,p,X⟩:=zay hN;obtain⟨o,C⟩:=zom hN;obtain⟨va,vc,rfl⟩:∃va vc,v=.slice va ls.length vc:=by obtain⟨vs,_,h2⟩:=h;obtain⟨a,c,e,_⟩:=h2.form;exact⟨a,c,e⟩
 have U:=zH (ziQ ls its _ w h p y C o);have R:Hid (∀W,zB w W->zC 20 #[.slice va ls.length vc] W fun e w'=>∃a c,e=.returned (.slice a its.length c)/\zB W w'):=fun W hW=>(zeB ls _ W (h.below hW zN) (by omega)).mono fun e w' ⟨v',h1,h2,h3⟩=>by
  rw[C] at h2;obtain⟨a,c,e1,-⟩:=(zD h2).form;exact⟨a,c,by rw[h1,e1],h3⟩
 clear h hN X o C;generalize ofL its ls=P at *;generalize its.length=n at *;go_enter Tryz.func5,Tryz.ntmps5;go_wp2_with fail;refine U.out.mono ?_;rintro e w2 ⟨cv,fv,rfl,j,q⟩;obtain⟨ca,cc,rfl⟩:∃a c,cv=.slice a P.length c:=by obtain⟨cs,h1,_⟩:=j.crow;obtain⟨a,c,e,_⟩:=(zD h1).form;exact⟨a,c,by simpa using e⟩
 have V:xJ w2 ca (P.map Prod.snd):=by
  obtain⟨cs,h1,h2,_⟩:=j.crow;exact qW.cls (B:=0) (cap:=cc) h2 (by simpa using ownsRow_base h1 (Nat.zero_le _))
 have K:=zH V;have J:=zH q;have M:=zH (R.out w2 q);clear j q V U R;go_wp2_with fail;refine M.out.mono ?_;rintro e w3 ⟨ia,ic,rfl,u⟩;have HF:Hid (xJ w3 ca (P.map Prod.snd)/\zB w w3):=⟨K.out.below u,zT J.out u⟩;clear u M K J
 by_cases hp:P.length<=200
 ·rw[decide_eq_true hp]
  by_cases hm:n<=m
  ·have Y:(n:Int)<=(m:Int):=by omega
   go_wp2;refine bodyPost_ret (v:=.tuple #[.slice ca P.length cc,n,true]) (by simp[results,Tryz.f5,go_sem]) rfl ?_;exact⟨ca,cc,by simp[hp,hm],HF.out.1,HF.out.2⟩
  ·have Y:¬(n:Int)<=(m:Int):=by omega
   go_wp2;refine bodyPost_ret (v:=.tuple #[.slice ca P.length cc,n,false]) (by simp[results,Tryz.f5,go_sem]) rfl ?_;exact⟨ca,cc,by simp[hp,hm],HF.out.1,HF.out.2⟩
 ·rw[decide_eq_false hp];go_wp2;refine bodyPost_ret (v:=.tuple #[.slice ca P.length cc,n,false]) (by simp[results,Tryz.f5,go_sem]) rfl ?_;exact⟨ca,cc,by simp[hp],HF.out.1,HF.out.2⟩
end Bd
end Go.Proofs.YthifnefkdjkicaaGreatDoor
