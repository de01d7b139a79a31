/- signed: ~, ^, and what is none. -/
import Derived.Test.YtiihalknffbjpaaGreatDoorSvParse
import Derived.Test.YtiihalknffbjpaaGreatDoorSvOr
set_option maxHeartbeats 2000000
set_option maxRecDepth 100000
namespace Go.Proofs.YtiihalknffbjpaaGreatDoor
section
open Go.RowKit Go.Shelf Sv
theorem znz(s:ByteArray)(w:World)(hc:s.data.toList.count 46≠2) :
  zR 134 #[.string s] w (zf9 (.error 3)):=by
 have HC:Hid (∀W,zC 207 #[.string s,.string ⟨#[46]⟩] W fun e w'=>e=.returned (.int .i64 (s.data.toList.count 46:Nat))/\w'=W):=fun W=>Tryz.strings_Count_one s 46 W;have hne:(((s.data.toList.count 46:Nat):Int)==2)=false:=by rw[beq_eq_false_iff_ne];omega
 generalize s.data.toList.count 46=n at *;clear hc;go_enter Tryz.func134,Tryz.ntmps134;go_wp2_with (go_at_call 207;refine(HC.out _).mono ?_;rintro e w' ⟨rfl,rfl⟩);have k0:=((Blk.new w 84 z3).alloc (.cells #[.iface 57 (.int .i64 3)] 31)).alloc (.cells z3 84);have k1:=(Blk.new (w.alloc (.cells z3 84)) 31 #[.iface 57 (.int .i64 3)]).alloc (.cells z3 84);rw[World.size_alloc] at k1;have hB:zB w (((w.alloc (.cells z3 84)).alloc (.cells #[.iface 57 (.int .i64 3)] 31)).alloc (.cells z3 84)):=(((Below.refl _ w).alloc zN _).alloc (by simp only[World.size_alloc];omega) _).alloc (by simp only[World.size_alloc];omega) _;generalize ((w.alloc (.cells z3 84)).alloc (.cells #[.iface 57 (.int .i64 3)] 31)).alloc (.cells z3 84)=WF at *;have r0:=k0.cell 0;have r1:=k0.cell 1;have r2:=k0.cell 2;have r3:=k1.cell 0;refine bodyPost_ret (v:=zf9 (.error 3)) (by simp[results,Tryz.f134,go_sem,r0,r1,r2,r3,zf9]) rfl ?_;exact⟨rfl,hB⟩
theorem zeX(s:ByteArray)(w:World)(hs:s.size<=100000)(hw:Lb w) :
  zR 134 #[.string s] w (zf9 (versF s)):=by
 unfold versF
 by_cases hc:s.data.toList.count 46=2
 ·rw[if_pos hc];exact(callsIn_wide (n:=4)).1 (zls s w hs hw hc)
 ·rw[if_neg hc];exact znz s w hc
theorem zaE(a b c:Nat)(ha:a<=1000)(hb:b<=1000)(hc:c<=1000)(w:World) :
  zR 278 #[.agg #[.int .i64 a,.int .i64 b,.int .i64 c]] w (.int .i64 (((a*1000+b)*1000+c:Nat):Int)):=by
 have hB:=(Below.refl w.heap.size w).alloc zN (.cells #[.int .i64 a,.int .i64 b,.int .i64 c] 84);have he:(((a*1000+b)*1000+c:Nat):Int)=((a:Int)*1000+(b:Int))*1000+(c:Int):=by omega
 have HB:=zH hB;have HE:=zH he;clear hB he;go_enter Tryz.func278,Tryz.ntmps278;go_wp2;go_ret;exact⟨by rw[HE.out];rfl,HB.out⟩
theorem zgr(w:World)(x y z:Value):∃W1:World,((w.alloc (.cells #[x,y,z] 84)).alloc (.cells z3 84))=W1/\Blk W1 w.heap.size 84 #[x,y,z]/\Blk W1 (w.heap.size+1) 84 z3/\zB w W1:=by
 have k0:=(Blk.new w 84 #[x,y,z]).alloc (.cells z3 84);have k1:=Blk.new (w.alloc (.cells #[x,y,z] 84)) 84 z3;rw[World.size_alloc] at k1;exact⟨_,rfl,k0,k1,((Below.refl _ w).alloc zN _).alloc (by simp only[World.size_alloc];omega) _⟩
theorem zq8(a b c:Nat)(ha:a<=999)(w:World) :
  zR 331 #[.agg #[.int .i64 a,.int .i64 b,.int .i64 c],.int .i64 0] w (.agg #[.int .i64 ((a+1:Nat):Int),.int .i64 0,.int .i64 0]):=by
 obtain⟨W1,hW1,k0,k1,hB⟩:=zgr w (.int .i64 ((a:Int)+1)) (.int .i64 b) (.int .i64 c);have HW1:=zH hW1;have HK0:=zH k0;have HK1:=zH k1;have HB:=zH hB;clear hW1 k0 k1 hB;have hcl:=Lib.run_clear_slice (P:=Tryz.prog) W1 47 3 0 (.int .i64 0) Tryz.underlying47 Tryz.zeroValue3 rfl rfl w.heap.size 1 2 2 (by omega) (fun j hj=>by
  match j,hj with
  |0,_=>rw[HK0.out.cell 1];rfl
  | 1,_=>rw [HK0.out.cell 2];rfl) (fun j _=>HK0.out.frozen _)
 have m0:Blk (W1.setCells w.heap.size 1 (List.replicate 2 (.int .i64 0))) w.heap.size 84 #[.int .i64 ((a:Int)+1),.int .i64 0,.int .i64 0]:=(HK0.out.set (i:=1) (v:=.int .i64 0)).set (i:=2) (v:=.int .i64 0);have m1:Blk (W1.setCells w.heap.size 1 (List.replicate 2 (.int .i64 0))) (w.heap.size+1) 84 z3:=(HK1.out.other (by omega)).other (by omega);have mB:zB w (W1.setCells w.heap.size 1 (List.replicate 2 (.int .i64 0))):=(HB.out.setCell (p:=⟨w.heap.size,1,none⟩) zN _).setCell (p:=⟨w.heap.size,2,none⟩) zN _;generalize W1.setCells w.heap.size 1 (List.replicate 2 (.int .i64 0))=W2 at *;have d0:=m0.cell 0;have d1:=m0.cell 1;have d2:=m0.cell 2;have f0:=m1.frozen 0;have f1:=m1.frozen 1;have f2:=m1.frozen 2;have g0:_=some (Value.int .i64 0):=m1.cell 0;have g1:_=some (Value.int .i64 0):=m1.cell 1;have g2:_=some (Value.int .i64 0):=m1.cell 2;simp only[List.getElem?_toArray,List.getElem?_cons_zero,List.getElem?_cons_succ] at d0 d1 d2;obtain⟨WF,hWF⟩:∃WF,((W2.setCell ⟨w.heap.size+1,0,none⟩ (.int .i64 ((a:Int)+1))).setCell ⟨w.heap.size+1,1,none⟩ (.int .i64 0)).setCell ⟨w.heap.size+1,2,none⟩ (.int .i64 0)=WF:=⟨_,rfl⟩;have p1:Blk WF (w.heap.size+1) 84 #[(.int .i64 ((a:Int)+1)),(.int .i64 0),(.int .i64 0)]:=by rw[<-hWF];exact((m1.set (i:=0) (v:=(.int .i64 ((a:Int)+1)))).set (i:=1) (v:=(.int .i64 0))).set (i:=2) (v:=(.int .i64 0))
 have pB:zB w WF:=by rw[<-hWF];exact((mB.setCell (p:=⟨w.heap.size+1,0,none⟩) (Nat.le_succ _) _).setCell (p:=⟨w.heap.size+1,1,none⟩) (Nat.le_succ _) _).setCell (p:=⟨w.heap.size+1,2,none⟩) (Nat.le_succ _) _
 have HP1:=zH p1;have HPB:=zH pB;have HWF:=zH hWF;rw[<-HW1.out] at hcl;clear m0 m1 mB p1 pB hWF HK0 HK1 HB HW1;go_enter Tryz.func331,Tryz.ntmps331;go_wp2;rw[HWF.out];have r0:=HP1.out.cell 0;have r1:=HP1.out.cell 1;have r2:=HP1.out.cell 2;refine bodyPost_ret (v:=.agg #[(.int .i64 ((a:Int)+1)),(.int .i64 0),(.int .i64 0)]) (by simp[results,Tryz.results331,go_sem,r0,r1,r2]) rfl ?_;exact⟨rfl,HPB.out⟩
theorem zoR(a b c:Nat)(hb:b<=999)(w:World) :
  zR 331 #[.agg #[.int .i64 a,.int .i64 b,.int .i64 c],.int .i64 1] w (.agg #[.int .i64 a,.int .i64 ((b+1:Nat):Int),.int .i64 0]):=by
 obtain⟨W1,hW1,k0,k1,hB⟩:=zgr w (.int .i64 a) (.int .i64 ((b:Int)+1)) (.int .i64 c);have HW1:=zH hW1;have HK0:=zH k0;have HK1:=zH k1;have HB:=zH hB;clear hW1 k0 k1 hB;have hcl:=Lib.run_clear_slice (P:=Tryz.prog) W1 47 3 0 (.int .i64 0) Tryz.underlying47 Tryz.zeroValue3 rfl rfl w.heap.size 2 1 1 (by omega) (fun j hj=>by
  match j,hj with
  | 0,_=>rw [HK0.out.cell 2];rfl) (fun j _=>HK0.out.frozen _)
 have m0:Blk (W1.setCells w.heap.size 2 (List.replicate 1 (.int .i64 0))) w.heap.size 84 #[.int .i64 a,.int .i64 ((b:Int)+1),.int .i64 0]:=HK0.out.set (i:=2) (v:=.int .i64 0);have m1:Blk (W1.setCells w.heap.size 2 (List.replicate 1 (.int .i64 0))) (w.heap.size+1) 84 z3:=HK1.out.other (by omega);have mB:zB w (W1.setCells w.heap.size 2 (List.replicate 1 (.int .i64 0))):=HB.out.setCell (p:=⟨w.heap.size,2,none⟩) zN _;generalize W1.setCells w.heap.size 2 (List.replicate 1 (.int .i64 0))=W2 at *;have d0:=m0.cell 0;have d1:=m0.cell 1;have d2:=m0.cell 2;have f0:=m1.frozen 0;have f1:=m1.frozen 1;have f2:=m1.frozen 2;have g0:_=some (Value.int .i64 0):=m1.cell 0;have g1:_=some (Value.int .i64 0):=m1.cell 1;have g2:_=some (Value.int .i64 0):=m1.cell 2;simp only[List.getElem?_toArray,List.getElem?_cons_zero,List.getElem?_cons_succ] at d0 d1 d2;obtain⟨WF,hWF⟩:∃WF,((W2.setCell ⟨w.heap.size+1,0,none⟩ (.int .i64 a)).setCell ⟨w.heap.size+1,1,none⟩ (.int .i64 ((b:Int)+1))).setCell ⟨w.heap.size+1,2,none⟩ (.int .i64 0)=WF:=⟨_,rfl⟩;have p1:Blk WF (w.heap.size+1) 84 #[(.int .i64 a),(.int .i64 ((b:Int)+1)),(.int .i64 0)]:=by rw[<-hWF];exact((m1.set (i:=0) (v:=(.int .i64 a))).set (i:=1) (v:=(.int .i64 ((b:Int)+1)))).set (i:=2) (v:=(.int .i64 0))
 have pB:zB w WF:=by rw[<-hWF];exact((mB.setCell (p:=⟨w.heap.size+1,0,none⟩) (Nat.le_succ _) _).setCell (p:=⟨w.heap.size+1,1,none⟩) (Nat.le_succ _) _).setCell (p:=⟨w.heap.size+1,2,none⟩) (Nat.le_succ _) _
 have HP1:=zH p1;have HPB:=zH pB;have HWF:=zH hWF;rw[<-HW1.out] at hcl;clear m0 m1 mB p1 pB hWF HK0 HK1 HB HW1;go_enter Tryz.func331,Tryz.ntmps331;go_wp2;rw[HWF.out];have r0:=HP1.out.cell 0;have r1:=HP1.out.cell 1;have r2:=HP1.out.cell 2;refine bodyPost_ret (v:=.agg #[(.int .i64 a),(.int .i64 ((b:Int)+1)),(.int .i64 0)]) (by simp[results,Tryz.results331,go_sem,r0,r1,r2]) rfl ?_;exact⟨rfl,HPB.out⟩
theorem zjB(W:World)(b:Nat):(Builtin.clear_ #[47] 0 #[.slice (some ⟨b,0,none⟩) 0 0]).run Tryz.prog W=.ok (.tuple #[]) W:=by
 simp[Builtin.clear_,run_underlying Tryz.underlying47,go_sem]
theorem zrh(a b c:Nat)(hc:c<=999)(w:World) :
  zR 331 #[.agg #[.int .i64 a,.int .i64 b,.int .i64 c],.int .i64 2] w (.agg #[.int .i64 a,.int .i64 b,.int .i64 ((c+1:Nat):Int)]):=by
 obtain⟨W1,hW1,k0,k1,hB⟩:=zgr w (.int .i64 a) (.int .i64 b) (.int .i64 ((c:Int)+1));have HW1:=zH hW1;have HK0:=zH k0;have HK1:=zH k1;have HB:=zH hB;clear hW1 k0 k1 hB;obtain⟨W2,hW2⟩:∃W2,W1=W2:=⟨_,rfl⟩;have hcl:(Builtin.clear_ #[47] 0 #[.slice (some ⟨w.heap.size,0,none⟩) 0 0]).run Tryz.prog W1=.ok (.tuple #[]) W2:=hW2▸zjB W1 w.heap.size;have m0:Blk W2 _ _ _:=hW2▸HK0.out;have m1:Blk W2 _ _ _:=hW2▸HK1.out;have mB:zB w W2:=hW2▸HB.out;clear hW2;have d0:=m0.cell 0;have d1:=m0.cell 1;have d2:=m0.cell 2;have f0:=m1.frozen 0;have f1:=m1.frozen 1;have f2:=m1.frozen 2;have g0:_=some (Value.int .i64 0):=m1.cell 0;have g1:_=some (Value.int .i64 0):=m1.cell 1;have g2:_=some (Value.int .i64 0):=m1.cell 2;simp only[List.getElem?_toArray,List.getElem?_cons_zero,List.getElem?_cons_succ] at d0 d1 d2;obtain⟨WF,hWF⟩:∃WF,((W2.setCell ⟨w.heap.size+1,0,none⟩ (.int .i64 a)).setCell ⟨w.heap.size+1,1,none⟩ (.int .i64 b)).setCell ⟨w.heap.size+1,2,none⟩ (.int .i64 ((c:Int)+1))=WF:=⟨_,rfl⟩;have p1:Blk WF (w.heap.size+1) 84 #[(.int .i64 a),(.int .i64 b),(.int .i64 ((c:Int)+1))]:=by rw[<-hWF];exact((m1.set (i:=0) (v:=(.int .i64 a))).set (i:=1) (v:=(.int .i64 b))).set (i:=2) (v:=(.int .i64 ((c:Int)+1)))
 have pB:zB w WF:=by rw[<-hWF];exact((mB.setCell (p:=⟨w.heap.size+1,0,none⟩) (Nat.le_succ _) _).setCell (p:=⟨w.heap.size+1,1,none⟩) (Nat.le_succ _) _).setCell (p:=⟨w.heap.size+1,2,none⟩) (Nat.le_succ _) _
 have HP1:=zH p1;have HPB:=zH pB;have HWF:=zH hWF;rw[<-HW1.out] at hcl;clear m0 m1 mB p1 pB hWF HK0 HK1 HB HW1;go_enter Tryz.func331,Tryz.ntmps331;go_wp2;rw[HWF.out];have r0:=HP1.out.cell 0;have r1:=HP1.out.cell 1;have r2:=HP1.out.cell 2;refine bodyPost_ret (v:=.agg #[(.int .i64 a),(.int .i64 b),(.int .i64 ((c:Int)+1))]) (by simp[results,Tryz.results331,go_sem,r0,r1,r2]) rfl ?_;exact⟨rfl,HPB.out⟩
theorem zfK(a b c:Nat)(w:World) :
  zR 332 #[.agg #[.int .i64 a,.int .i64 b,.int .i64 c]] w (.int .i64 (if a≠0 then 0 else if b≠0 then 1 else 2)):=by
 have hk:=Blk.new w 84 #[.int .i64 a,.int .i64 b,.int .i64 c];have hB:=(Below.refl w.heap.size w).alloc zN (.cells #[.int .i64 a,.int .i64 b,.int .i64 c] 84);have HB:=zH hB;have c0:(w.alloc (.cells #[.int .i64 a,.int .i64 b,.int .i64 c] 84)).cell? ⟨w.heap.size,0,none⟩=some (.int .i64 a):=hk.cell 0;have c1:(w.alloc (.cells #[.int .i64 a,.int .i64 b,.int .i64 c] 84)).cell? ⟨w.heap.size,1,none⟩=some (.int .i64 b):=hk.cell 1;clear hk hB;go_enter Tryz.func332,Tryz.ntmps332;go_wp2_with fail;generalize w.alloc (.cells #[.int .i64 a,.int .i64 b,.int .i64 c] 84)=W1 at *;go_loop [9] (fun i=>∃k:Nat,k<=2/\i=.int .i64 k/\(0<k->a=0)/\(1<k->b=0)) (fun i=>2-(intOf i).toNat)
 case atStart=>exact⟨0,by omega,rfl,fun h=>by omega,fun h=>by omega⟩
 case round =>
  obtain⟨k,hk,rfl,ha,hb⟩:=hrel
  match k,hk with
  |0,_ =>
   by_cases h:a=0
   ·have e:((a:Int)==0)=true:=by rw[beq_iff_eq];omega
    have HA:=zH h;clear h ha hb;go_wp2;go_round
    case rel=>exact⟨1,by omega,rfl,fun _=>HA.out,fun h=>by omega⟩
    case measure=>simp[intOf]
   ·have e:((a:Int)==0)=false:=by rw[beq_eq_false_iff_ne];omega
    have HH:=zH h;clear h ha hb;go_wp2;go_ret;exact⟨by first|rfl|(rw[if_pos HH.out];rfl),HB.out⟩
  |1,_ =>
   have ha0:=ha (by omega);have HA:=zH ha0
   by_cases h:b=0
   ·have e:((b:Int)==0)=true:=by rw[beq_iff_eq];omega
    have HBB:=zH h;clear h ha hb ha0;go_wp2;go_round
    case rel=>exact⟨2,by omega,rfl,fun _=>HA.out,fun _=>HBB.out⟩
    case measure=>simp[intOf]
   ·have e:((b:Int)==0)=false:=by rw[beq_eq_false_iff_ne];omega
    have HH:=zH h;clear h ha hb ha0;go_wp2;go_ret;exact⟨by first|rfl|(rw[if_neg (by simpa using HA.out),if_pos HH.out];rfl),HB.out⟩
  |2,_ =>have ha0:=ha (by omega);have hb0:=hb (by omega);have HA:=zH ha0;have HBB:=zH hb0;clear ha hb ha0 hb0;go_wp2;go_ret;exact⟨by first|rfl|(rw[if_neg (by simpa using HA.out),if_neg (by simpa using HBB.out)];rfl),HB.out⟩
end
section
open Go.RowKit Go.Shelf Sv
def numN(a b c:Nat):Nat:=(a*1000+b)*1000+c
def careN(a b c:Nat):Nat:=if a≠0 then numN (a+1) 0 0 else if b≠0 then numN a (b+1) 0 else numN a b (c+1)
def signF(g:List UInt8)(a b c:Nat):Except Int (List Span) :=
 if g=[]\/g=[61] then .ok (rowF (numN a b c) (numN a b c+1))
 else if g=[33] then .ok (nt (rowF (numN a b c) (numN a b c+1)))
 else if g=[60] then .ok (rowF 0 (numN a b c))
 else if g=[60,61] then .ok (rowF 0 (numN a b c+1))
 else if g=[62] then .ok (rowF (numN a b c+1) ALL)
 else if g=[62,61] then .ok (rowF (numN a b c) ALL)
 else if g=[94] then .ok (rowF (numN a b c) (careN a b c))
 else if g=[126] then .ok (rowF (numN a b c) (numN a (b+1) 0))
 else .error 3
theorem numN_lt{a b c:Nat}(ha:a<=999)(hb:b<=999)(hc:c<=999):numN a b c<ALL:=by unfold numN ALL;omega
theorem zoq{a b c:Nat}(ha:a<=999)(hb:b<=999)(hc:c<=999):careN a b c<=ALL:=by
 unfold careN numN ALL;split
 ·omega
 ·split<;>omega
theorem zni{g:List UInt8}{a b c:Nat}(ha:a<=999)(hb:b<=999)(hc:c<=999){l:List Span}(h:signF g a b c=.ok l):Rg l:=by
 have h1:=numN_lt ha hb hc;have h2:=zoq ha hb hc;have h3:numN a (b+1) 0<=ALL:=by unfold numN ALL;omega
 unfold signF at h
 repeat' split at h
 all_goals first
  |(cases h;exact rg_row (by omega))
  |(cases h;exact rg_row zN)
  |(cases h;exact zdf (rg_row (by omega)))
  |cases h
def zct(w:World)(x:Except Int (List Span))(e:Ending)(w':World):Prop :=
 match x with
 |.ok l=>∃v',e=.returned (.tuple #[.agg #[v'],.nilIface])/\zaO w' v' l/\(∀g,v'.ownBlock=some g->w.heap.size<=g)/\zB w w'
 |.error k=>e=.returned (.tuple #[.agg #[.slice none 0 0],.iface 57 (.int .i64 k)])/\zB w w'
theorem zbP(w:World)(A B C:Value):∃W0:World,((w.alloc (.cells #[A,B,C] 84)).alloc (.cells #[.slice none 0 0] 128))=W0/\Blk W0 w.heap.size 84 #[A,B,C]/\Blk W0 (w.heap.size+1) 128 #[.slice none 0 0]/\zB w W0/\W0.heap.size=w.heap.size+2:=by
 have k0:=(Blk.new w 84 #[A,B,C]).alloc (.cells #[.slice none 0 0] 128);have k1:=Blk.new (w.alloc (.cells #[A,B,C] 84)) 128 #[.slice none 0 0];rw[World.size_alloc] at k1;exact⟨_,rfl,k0,k1,((Below.refl _ w).alloc zN _).alloc (by simp only[World.size_alloc];omega) _,by simp only[World.size_alloc]⟩
theorem zbz(x y:Nat)(W:World):zC 303 #[.int .i64 x,.int .i64 y] W fun e w'=>∃a' c',e=.returned (.agg #[.slice a' (rowF x y).length c'])/\zaO w' (.slice a' (rowF x y).length c') (rowF x y)/\(∀g,(Value.slice a' (rowF x y).length c').ownBlock=some g->W.heap.size<=g)/\zB W w' :=
 (zks x y W).mono fun e w' ⟨v',he,hs,hn,hb⟩=>by obtain⟨a',c',rfl⟩:=hs.form;exact⟨a',c',he,hs,hn,hb⟩
theorem znq(l:List Span)(hl:Rg l)(v:Value)(W:World)(hv:zaO W v l):zC 262 #[.agg #[v]] W fun e w'=>∃a' c',e=.returned (.agg #[.slice a' (nt l).length c'])/\zaO w' (.slice a' (nt l).length c') (nt l)/\(∀g,(Value.slice a' (nt l).length c').ownBlock=some g->W.heap.size<=g)/\zB W w' :=
 (zga l hl v W hv).mono fun e w' ⟨v',he,hs,hn,hb⟩=>by obtain⟨a',c',rfl⟩:=hs.form;exact⟨a',c',he,hs,hn,hb⟩
theorem zmp(g:ByteArray)(a b c:Nat)(ha:a<=999)(hb:b<=999)(hc:c<=999)(w:World)(hg:g.toList=[]) :
  zC 304 #[.string g,.agg #[.int .i64 a,.int .i64 b,.int .i64 c]] w (zct w (.ok (rowF (numN a b c) (numN a b c+1)))):=by
 have HN:Hid (∀W,zR 278 #[.agg #[.int .i64 a,.int .i64 b,.int .i64 c]] W (.int .i64 (numN a b c:Nat))):=fun W=>zaE a b c (by omega) (by omega) (by omega) W;have hlt:=numN_lt ha hb hc;generalize numN a b c=n at *;have hlt':(n:Int)<1000000000:=by unfold ALL at hlt;omega
 obtain⟨W0,hW0,k0,k1,hB,hs0⟩:=zbP w (.int .i64 a) (.int .i64 b) (.int .i64 c);have HR:=zH (fun W=>zbz n (n+1) W);have HW0:=zH hW0;have HK0:=zH k0;have HK1:=zH k1;have HB:=zH hB;have HS:=zH hs0;have HLT:=zH hlt;clear hW0 k0 k1 hB hs0 hlt;go_enter Tryz.func304,Tryz.ntmps304;go_wp2_with fail;rw[HW0.out];refine(HN.out _).mono ?_;rintro e w1 ⟨rfl,hb1⟩;have D1:=zH hb1;clear hb1;go_wp2_with fail;refine(HR.out _).mono ?_;rintro e wK ⟨a',c',rfl,hsK,hnn,hbK⟩;have hn2:∀g,(Value.slice a' (rowF n (n+1)).length c').ownBlock=some g->W0.heap.size<=g:=fun g hg=>Nat.le_trans D1.out.size (hnn g hg);have DK:zB W0 wK:=zT D1.out hbK;have hl1:w.heap.size+1<W0.heap.size:=by have:=HS.out;omega
 have hc4:wK.cell? ⟨w.heap.size+1,0,none⟩=some (.slice none 0 0):=(HK1.out.below DK hl1).cell 0;have hf4:=(HK1.out.below DK hl1).frozen 0;have HP:=zH (zbW HB.out (HK1.out.cell 0) (Nat.le_succ _) hl1 hsK hn2 DK);clear hsK hnn hbK hn2 DK hl1;go_wp2;obtain⟨h3,h4,h5,h6⟩:=HP.out;refine bodyPost_ret (v:=.tuple #[.agg #[.slice a' (rowF n (n+1)).length c'],.nilIface]) (by simp[results,Tryz.results304,go_sem,h3]) rfl ?_;exact⟨_,rfl,h4,h5,h6⟩
theorem zpM(g:ByteArray)(a b c:Nat)(ha:a<=999)(hb:b<=999)(hc:c<=999)(w:World)(hg:g.toList=[61]) :
  zC 304 #[.string g,.agg #[.int .i64 a,.int .i64 b,.int .i64 c]] w (zct w (.ok (rowF (numN a b c) (numN a b c+1)))):=by
 have HN:Hid (∀W,zR 278 #[.agg #[.int .i64 a,.int .i64 b,.int .i64 c]] W (.int .i64 (numN a b c:Nat))):=fun W=>zaE a b c (by omega) (by omega) (by omega) W;have hlt:=numN_lt ha hb hc;generalize numN a b c=n at *;have hlt':(n:Int)<1000000000:=by unfold ALL at hlt;omega
 obtain⟨W0,hW0,k0,k1,hB,hs0⟩:=zbP w (.int .i64 a) (.int .i64 b) (.int .i64 c);have HR:=zH (fun W=>zbz n (n+1) W);have HW0:=zH hW0;have HK0:=zH k0;have HK1:=zH k1;have HB:=zH hB;have HS:=zH hs0;have HLT:=zH hlt;clear hW0 k0 k1 hB hs0 hlt;go_enter Tryz.func304,Tryz.ntmps304;go_wp2_with fail;rw[HW0.out];refine(HN.out _).mono ?_;rintro e w1 ⟨rfl,hb1⟩;have D1:=zH hb1;clear hb1;go_wp2_with fail;refine(HR.out _).mono ?_;rintro e wK ⟨a',c',rfl,hsK,hnn,hbK⟩;have hn2:∀g,(Value.slice a' (rowF n (n+1)).length c').ownBlock=some g->W0.heap.size<=g:=fun g hg=>Nat.le_trans D1.out.size (hnn g hg);have DK:zB W0 wK:=zT D1.out hbK;have hl1:w.heap.size+1<W0.heap.size:=by have:=HS.out;omega
 have hc4:wK.cell? ⟨w.heap.size+1,0,none⟩=some (.slice none 0 0):=(HK1.out.below DK hl1).cell 0;have hf4:=(HK1.out.below DK hl1).frozen 0;have HP:=zH (zbW HB.out (HK1.out.cell 0) (Nat.le_succ _) hl1 hsK hn2 DK);clear hsK hnn hbK hn2 DK hl1;go_wp2;obtain⟨h3,h4,h5,h6⟩:=HP.out;refine bodyPost_ret (v:=.tuple #[.agg #[.slice a' (rowF n (n+1)).length c'],.nilIface]) (by simp[results,Tryz.results304,go_sem,h3]) rfl ?_;exact⟨_,rfl,h4,h5,h6⟩
theorem zpE(g:ByteArray)(a b c:Nat)(ha:a<=999)(hb:b<=999)(hc:c<=999)(w:World)(hg:g.toList=[60]) :
  zC 304 #[.string g,.agg #[.int .i64 a,.int .i64 b,.int .i64 c]] w (zct w (.ok (rowF 0 (numN a b c)))):=by
 have HN:Hid (∀W,zR 278 #[.agg #[.int .i64 a,.int .i64 b,.int .i64 c]] W (.int .i64 (numN a b c:Nat))):=fun W=>zaE a b c (by omega) (by omega) (by omega) W;have hlt:=numN_lt ha hb hc;generalize numN a b c=n at *;have hlt':(n:Int)<1000000000:=by unfold ALL at hlt;omega
 obtain⟨W0,hW0,k0,k1,hB,hs0⟩:=zbP w (.int .i64 a) (.int .i64 b) (.int .i64 c);have HR:=zH (fun W=>zbz 0 n W);have HW0:=zH hW0;have HK0:=zH k0;have HK1:=zH k1;have HB:=zH hB;have HS:=zH hs0;have HLT:=zH hlt;clear hW0 k0 k1 hB hs0 hlt;go_enter Tryz.func304,Tryz.ntmps304;go_wp2_with fail;rw[HW0.out];refine(HN.out _).mono ?_;rintro e w1 ⟨rfl,hb1⟩;have D1:=zH hb1;clear hb1;go_wp2_with fail;refine(HR.out _).mono ?_;rintro e wK ⟨a',c',rfl,hsK,hnn,hbK⟩;have hn2:∀g,(Value.slice a' (rowF 0 n).length c').ownBlock=some g->W0.heap.size<=g:=fun g hg=>Nat.le_trans D1.out.size (hnn g hg);have DK:zB W0 wK:=zT D1.out hbK;have hl1:w.heap.size+1<W0.heap.size:=by have:=HS.out;omega
 have hc4:wK.cell? ⟨w.heap.size+1,0,none⟩=some (.slice none 0 0):=(HK1.out.below DK hl1).cell 0;have hf4:=(HK1.out.below DK hl1).frozen 0;have HP:=zH (zbW HB.out (HK1.out.cell 0) (Nat.le_succ _) hl1 hsK hn2 DK);clear hsK hnn hbK hn2 DK hl1;go_wp2;obtain⟨h3,h4,h5,h6⟩:=HP.out;refine bodyPost_ret (v:=.tuple #[.agg #[.slice a' (rowF 0 n).length c'],.nilIface]) (by simp[results,Tryz.results304,go_sem,h3]) rfl ?_;exact⟨_,rfl,h4,h5,h6⟩
theorem zqJ(g:ByteArray)(a b c:Nat)(ha:a<=999)(hb:b<=999)(hc:c<=999)(w:World)(hg:g.toList=[60,61]) :
  zC 304 #[.string g,.agg #[.int .i64 a,.int .i64 b,.int .i64 c]] w (zct w (.ok (rowF 0 (numN a b c+1)))):=by
 have HN:Hid (∀W,zR 278 #[.agg #[.int .i64 a,.int .i64 b,.int .i64 c]] W (.int .i64 (numN a b c:Nat))):=fun W=>zaE a b c (by omega) (by omega) (by omega) W;have hlt:=numN_lt ha hb hc;generalize numN a b c=n at *;have hlt':(n:Int)<1000000000:=by unfold ALL at hlt;omega
 obtain⟨W0,hW0,k0,k1,hB,hs0⟩:=zbP w (.int .i64 a) (.int .i64 b) (.int .i64 c);have HR:=zH (fun W=>zbz 0 (n+1) W);have HW0:=zH hW0;have HK0:=zH k0;have HK1:=zH k1;have HB:=zH hB;have HS:=zH hs0;have HLT:=zH hlt;clear hW0 k0 k1 hB hs0 hlt;go_enter Tryz.func304,Tryz.ntmps304;go_wp2_with fail;rw[HW0.out];refine(HN.out _).mono ?_;rintro e w1 ⟨rfl,hb1⟩;have D1:=zH hb1;clear hb1;go_wp2_with fail;refine(HR.out _).mono ?_;rintro e wK ⟨a',c',rfl,hsK,hnn,hbK⟩;have hn2:∀g,(Value.slice a' (rowF 0 (n+1)).length c').ownBlock=some g->W0.heap.size<=g:=fun g hg=>Nat.le_trans D1.out.size (hnn g hg);have DK:zB W0 wK:=zT D1.out hbK;have hl1:w.heap.size+1<W0.heap.size:=by have:=HS.out;omega
 have hc4:wK.cell? ⟨w.heap.size+1,0,none⟩=some (.slice none 0 0):=(HK1.out.below DK hl1).cell 0;have hf4:=(HK1.out.below DK hl1).frozen 0;have HP:=zH (zbW HB.out (HK1.out.cell 0) (Nat.le_succ _) hl1 hsK hn2 DK);clear hsK hnn hbK hn2 DK hl1;go_wp2;obtain⟨h3,h4,h5,h6⟩:=HP.out;refine bodyPost_ret (v:=.tuple #[.agg #[.slice a' (rowF 0 (n+1)).length c'],.nilIface]) (by simp[results,Tryz.results304,go_sem,h3]) rfl ?_;exact⟨_,rfl,h4,h5,h6⟩
theorem zpw(g:ByteArray)(a b c:Nat)(ha:a<=999)(hb:b<=999)(hc:c<=999)(w:World)(hg:g.toList=[62]) :
  zC 304 #[.string g,.agg #[.int .i64 a,.int .i64 b,.int .i64 c]] w (zct w (.ok (rowF (numN a b c+1) 1000000000))):=by
 have HN:Hid (∀W,zR 278 #[.agg #[.int .i64 a,.int .i64 b,.int .i64 c]] W (.int .i64 (numN a b c:Nat))):=fun W=>zaE a b c (by omega) (by omega) (by omega) W;have hlt:=numN_lt ha hb hc;generalize numN a b c=n at *;have hlt':(n:Int)<1000000000:=by unfold ALL at hlt;omega
 obtain⟨W0,hW0,k0,k1,hB,hs0⟩:=zbP w (.int .i64 a) (.int .i64 b) (.int .i64 c);have HR:=zH (fun W=>zbz (n+1) 1000000000 W);have HW0:=zH hW0;have HK0:=zH k0;have HK1:=zH k1;have HB:=zH hB;have HS:=zH hs0;have HLT:=zH hlt;clear hW0 k0 k1 hB hs0 hlt;go_enter Tryz.func304,Tryz.ntmps304;go_wp2_with fail;rw[HW0.out];refine(HN.out _).mono ?_;rintro e w1 ⟨rfl,hb1⟩;have D1:=zH hb1;clear hb1;go_wp2_with fail;refine(HR.out _).mono ?_;rintro e wK ⟨a',c',rfl,hsK,hnn,hbK⟩;have hn2:∀g,(Value.slice a' (rowF (n+1) 1000000000).length c').ownBlock=some g->W0.heap.size<=g:=fun g hg=>Nat.le_trans D1.out.size (hnn g hg);have DK:zB W0 wK:=zT D1.out hbK;have hl1:w.heap.size+1<W0.heap.size:=by have:=HS.out;omega
 have hc4:wK.cell? ⟨w.heap.size+1,0,none⟩=some (.slice none 0 0):=(HK1.out.below DK hl1).cell 0;have hf4:=(HK1.out.below DK hl1).frozen 0;have HP:=zH (zbW HB.out (HK1.out.cell 0) (Nat.le_succ _) hl1 hsK hn2 DK);clear hsK hnn hbK hn2 DK hl1;go_wp2;obtain⟨h3,h4,h5,h6⟩:=HP.out;refine bodyPost_ret (v:=.tuple #[.agg #[.slice a' (rowF (n+1) 1000000000).length c'],.nilIface]) (by simp[results,Tryz.results304,go_sem,h3]) rfl ?_;exact⟨_,rfl,h4,h5,h6⟩
theorem zp8(g:ByteArray)(a b c:Nat)(ha:a<=999)(hb:b<=999)(hc:c<=999)(w:World)(hg:g.toList=[62,61]) :
  zC 304 #[.string g,.agg #[.int .i64 a,.int .i64 b,.int .i64 c]] w (zct w (.ok (rowF (numN a b c) 1000000000))):=by
 have HN:Hid (∀W,zR 278 #[.agg #[.int .i64 a,.int .i64 b,.int .i64 c]] W (.int .i64 (numN a b c:Nat))):=fun W=>zaE a b c (by omega) (by omega) (by omega) W;have hlt:=numN_lt ha hb hc;generalize numN a b c=n at *;have hlt':(n:Int)<1000000000:=by unfold ALL at hlt;omega
 obtain⟨W0,hW0,k0,k1,hB,hs0⟩:=zbP w (.int .i64 a) (.int .i64 b) (.int .i64 c);have HR:=zH (fun W=>zbz n 1000000000 W);have HW0:=zH hW0;have HK0:=zH k0;have HK1:=zH k1;have HB:=zH hB;have HS:=zH hs0;have HLT:=zH hlt;clear hW0 k0 k1 hB hs0 hlt;go_enter Tryz.func304,Tryz.ntmps304;go_wp2_with fail;rw[HW0.out];refine(HN.out _).mono ?_;rintro e w1 ⟨rfl,hb1⟩;have D1:=zH hb1;clear hb1;go_wp2_with fail;refine(HR.out _).mono ?_;rintro e wK ⟨a',c',rfl,hsK,hnn,hbK⟩;have hn2:∀g,(Value.slice a' (rowF n 1000000000).length c').ownBlock=some g->W0.heap.size<=g:=fun g hg=>Nat.le_trans D1.out.size (hnn g hg);have DK:zB W0 wK:=zT D1.out hbK;have hl1:w.heap.size+1<W0.heap.size:=by have:=HS.out;omega
 have hc4:wK.cell? ⟨w.heap.size+1,0,none⟩=some (.slice none 0 0):=(HK1.out.below DK hl1).cell 0;have hf4:=(HK1.out.below DK hl1).frozen 0;have HP:=zH (zbW HB.out (HK1.out.cell 0) (Nat.le_succ _) hl1 hsK hn2 DK);clear hsK hnn hbK hn2 DK hl1;go_wp2;obtain⟨h3,h4,h5,h6⟩:=HP.out;refine bodyPost_ret (v:=.tuple #[.agg #[.slice a' (rowF n 1000000000).length c'],.nilIface]) (by simp[results,Tryz.results304,go_sem,h3]) rfl ?_;exact⟨_,rfl,h4,h5,h6⟩
theorem zog(g:ByteArray)(a b c:Nat)(ha:a<=999)(hb:b<=999)(hc:c<=999)(w:World)(hg:g.toList=[33]) :
  zC 304 #[.string g,.agg #[.int .i64 a,.int .i64 b,.int .i64 c]] w (zct w (.ok (nt (rowF (numN a b c) (numN a b c+1))))):=by
 have HN:Hid (∀W,zR 278 #[.agg #[.int .i64 a,.int .i64 b,.int .i64 c]] W (.int .i64 (numN a b c:Nat))):=fun W=>zaE a b c (by omega) (by omega) (by omega) W;have hlt:=numN_lt ha hb hc;generalize numN a b c=n at *;have hlt':(n:Int)<1000000000:=by unfold ALL at hlt;omega
 obtain⟨W0,hW0,k0,k1,hB,hs0⟩:=zbP w (.int .i64 a) (.int .i64 b) (.int .i64 c);have HR:=zH (fun W=>zbz n (n+1) W);have HT:Hid (∀v W,zaO W v (rowF n (n+1))->zC 262 #[.agg #[v]] W fun e w'=>∃a' c',e=.returned (.agg #[.slice a' (nt (rowF n (n+1))).length c'])/\zaO w' (.slice a' (nt (rowF n (n+1))).length c') (nt (rowF n (n+1)))/\(∀g,(Value.slice a' (nt (rowF n (n+1))).length c').ownBlock=some g->W.heap.size<=g)/\zB W w'):=fun v W h=>znq _ (rg_row (by omega)) v W h;have HW0:=zH hW0;have HK0:=zH k0;have HK1:=zH k1;have HB:=zH hB;have HS:=zH hs0;have HLT:=zH hlt;clear hW0 k0 k1 hB hs0 hlt;go_enter Tryz.func304,Tryz.ntmps304;go_wp2_with fail;rw[HW0.out];refine(HN.out _).mono ?_;rintro e w1 ⟨rfl,hb1⟩;have D1:=zH hb1;clear hb1;go_wp2_with fail;refine(HR.out _).mono ?_;rintro e w2 ⟨a2,c2,rfl,hs2,-,hb2⟩;have D2:Hid (zB W0 w2):=zT D1.out hb2;have HT2:=zH (HT.out _ _ hs2);clear hs2 hb2 HT HR;go_wp2_with fail;refine HT2.out.mono ?_;rintro e wK ⟨a',c',rfl,hsK,hnn,hbK⟩;have hn2:∀g,(Value.slice a' (nt (rowF n (n+1))).length c').ownBlock=some g->W0.heap.size<=g:=fun g hg=>Nat.le_trans D2.out.size (hnn g hg);have DK:zB W0 wK:=zT D2.out hbK;have hl1:w.heap.size+1<W0.heap.size:=by have:=HS.out;omega
 have hc4:wK.cell? ⟨w.heap.size+1,0,none⟩=some (.slice none 0 0):=(HK1.out.below DK hl1).cell 0;have hf4:=(HK1.out.below DK hl1).frozen 0;have HP:=zH (zbW HB.out (HK1.out.cell 0) (Nat.le_succ _) hl1 hsK hn2 DK);clear hsK hnn hbK hn2 DK hl1;go_wp2;obtain⟨h3,h4,h5,h6⟩:=HP.out;refine bodyPost_ret (v:=.tuple #[.agg #[.slice a' (nt (rowF n (n+1))).length c'],.nilIface]) (by simp[results,Tryz.results304,go_sem,h3]) rfl ?_;exact⟨_,rfl,h4,h5,h6⟩
end
section
open Go.RowKit Go.Shelf Sv
theorem zjW(g:ByteArray)(a b c:Nat)(ha:a<=999)(hb:b<=999)(hc:c<=999)(w:World)(hg:g.toList=[126]) :
  zC 304 #[.string g,.agg #[.int .i64 a,.int .i64 b,.int .i64 c]] w (zct w (.ok (rowF (numN a b c) (numN a (b+1) 0)))):=by
 have HN:Hid (∀W,zR 278 #[.agg #[.int .i64 a,.int .i64 b,.int .i64 c]] W (.int .i64 (numN a b c:Nat))):=fun W=>zaE a b c (by omega) (by omega) (by omega) W;have HX:=zH (fun W=>zoR a b c hb W);have HM:Hid (∀W,zR 278 #[.agg #[.int .i64 a,.int .i64 ((b+1:Nat):Int),.int .i64 0]] W (.int .i64 (numN a (b+1) 0:Nat))):=fun W=>zaE a (b+1) 0 (by omega) (by omega) (by omega) W;generalize numN a (b+1) 0=m at *;generalize numN a b c=n at *;generalize ((b+1:Nat):Int)=b1 at *;obtain⟨W0,hW0,k0,k1,hB,hs0⟩:=zbP w (.int .i64 a) (.int .i64 b) (.int .i64 c);have HR:=zH (fun W=>zbz n m W);have HW0:=zH hW0;have HK0:=zH k0;have HK1:=zH k1;have HB:=zH hB;have HS:=zH hs0;clear hW0 k0 k1 hB hs0;go_enter Tryz.func304,Tryz.ntmps304;go_wp2_with fail;rw[HW0.out];refine(HN.out _).mono ?_;rintro e w1 ⟨rfl,hb1⟩;have D1:=zH hb1;have hl0:w.heap.size<W0.heap.size:=by have:=HS.out;omega
 have q0:w1.cell? ⟨w.heap.size,0,none⟩=some (.int .i64 a):=(HK0.out.below hb1 hl0).cell 0;have q1:w1.cell? ⟨w.heap.size,1,none⟩=some (.int .i64 b):=(HK0.out.below hb1 hl0).cell 1;have q2:w1.cell? ⟨w.heap.size,2,none⟩=some (.int .i64 c):=(HK0.out.below hb1 hl0).cell 2;clear hb1 hl0;go_wp2_with fail;refine(HX.out _).mono ?_;rintro e w2 ⟨rfl,hb2⟩;have D2:Hid (zB W0 w2):=zT D1.out hb2;clear hb2 q0 q1 q2;go_wp2_with fail;refine(HM.out _).mono ?_;rintro e w3 ⟨rfl,hb3⟩;have D3:Hid (zB W0 w3):=zT D2.out hb3;clear hb3;go_wp2_with fail;refine(HR.out _).mono ?_;rintro e wK ⟨a',c',rfl,hsK,hnn,hbK⟩;have hn2:∀g,(Value.slice a' (rowF n m).length c').ownBlock=some g->W0.heap.size<=g:=fun g hg=>Nat.le_trans D3.out.size (hnn g hg);have DK:zB W0 wK:=zT D3.out hbK;have hl1:w.heap.size+1<W0.heap.size:=by have:=HS.out;omega
 have hc4:wK.cell? ⟨w.heap.size+1,0,none⟩=some (.slice none 0 0):=(HK1.out.below DK hl1).cell 0;have hf4:=(HK1.out.below DK hl1).frozen 0;have HP:=zH (zbW HB.out (HK1.out.cell 0) (Nat.le_succ _) hl1 hsK hn2 DK);clear hsK hnn hbK hn2 DK hl1;go_wp2;obtain⟨h3,h4,h5,h6⟩:=HP.out;refine bodyPost_ret (v:=.tuple #[.agg #[.slice a' (rowF n m).length c'],.nilIface]) (by simp[results,Tryz.results304,go_sem,h3]) rfl ?_;exact⟨_,rfl,h4,h5,h6⟩
theorem zdd(g:ByteArray)(a b c:Nat)(ha:a<=999)(hb:b<=999)(hc:c<=999)(w:World)(hg:g.toList=[94])(pl:Int)(x y z:Int)(m:Nat)(HL:Hid (∀W,zR 332 #[.agg #[.int .i64 a,.int .i64 b,.int .i64 c]] W (.int .i64 pl)))
  (HX:Hid (∀W,zR 331 #[.agg #[.int .i64 a,.int .i64 b,.int .i64 c],.int .i64 pl] W (.agg #[.int .i64 x,.int .i64 y,.int .i64 z])))
  (HM:Hid (∀W,zR 278 #[.agg #[.int .i64 x,.int .i64 y,.int .i64 z]] W (.int .i64 m))) :
  zC 304 #[.string g,.agg #[.int .i64 a,.int .i64 b,.int .i64 c]] w (zct w (.ok (rowF (numN a b c) m))):=by
 have HN:Hid (∀W,zR 278 #[.agg #[.int .i64 a,.int .i64 b,.int .i64 c]] W (.int .i64 (numN a b c:Nat))):=fun W=>zaE a b c (by omega) (by omega) (by omega) W;generalize numN a b c=n at *;obtain⟨W0,hW0,k0,k1,hB,hs0⟩:=zbP w (.int .i64 a) (.int .i64 b) (.int .i64 c);have HR:=zH (fun W=>zbz n m W);have HW0:=zH hW0;have HK0:=zH k0;have HK1:=zH k1;have HB:=zH hB;have HS:=zH hs0;clear hW0 k0 k1 hB hs0;go_enter Tryz.func304,Tryz.ntmps304;go_wp2_with fail;rw[HW0.out];refine(HN.out _).mono ?_;rintro e w1 ⟨rfl,hb1⟩;have D1:=zH hb1;have hl0:w.heap.size<W0.heap.size:=by have:=HS.out;omega
 have q0:w1.cell? ⟨w.heap.size,0,none⟩=some (.int .i64 a):=(HK0.out.below hb1 hl0).cell 0;have q1:w1.cell? ⟨w.heap.size,1,none⟩=some (.int .i64 b):=(HK0.out.below hb1 hl0).cell 1;have q2:w1.cell? ⟨w.heap.size,2,none⟩=some (.int .i64 c):=(HK0.out.below hb1 hl0).cell 2;clear hb1 hl0;have HS0:=HS.out;have L1:Hid (w.heap.size+1<W0.heap.size):=by show w.heap.size+1<W0.heap.size;omega
 have L0:Hid (w.heap.size+1<=W0.heap.size):=by show w.heap.size+1<=W0.heap.size;omega
 have SC:Hid (∀W,Below (w.heap.size+1) W0 W->W.cell? ⟨w.heap.size,0,none⟩=some (.int .i64 a)/\W.cell? ⟨w.heap.size,1,none⟩=some (.int .i64 b)/\W.cell? ⟨w.heap.size,2,none⟩=some (.int .i64 c)):=fun W hb=>⟨(HK0.out.below hb (Nat.lt_succ_self _)).cell 0,(HK0.out.below hb (Nat.lt_succ_self _)).cell 1,(HK0.out.below hb (Nat.lt_succ_self _)).cell 2⟩;have HC0:Hid (W0.cell? ⟨w.heap.size+1,0,none⟩=some (.slice none 0 0)):=HK1.out.cell 0;have HF0:Hid (W0.frozen? ⟨w.heap.size+1,0,none⟩=false):=HK1.out.frozen 0;have E0:zB W0 w1.drew:=D1.out.drew;clear HS0 q0 q1 q2;go_wp2_with fail;go_region_held3 (fun w'=>w'.cell? ⟨w.heap.size,0,none⟩=some (.int .i64 a)/\w'.cell? ⟨w.heap.size,1,none⟩=some (.int .i64 b)/\w'.cell? ⟨w.heap.size,2,none⟩=some (.int .i64 c)) (first|exact SC.out _ (E0.mono L0.out)|exact SC.out _ (E1.mono L0.out)|exact SC.out _ (E2.mono L0.out)|exact SC.out _ (E3.mono L0.out)|exact SC.out _ (E4.mono L0.out)|exact SC.out _ E5)
  (first
   |((with_reducible refine(HL.out _).mono ?_);rintro e w2 ⟨rfl,hb2⟩;have E1:zB W0 w2:=zT E0 hb2;clear HL)
   |((with_reducible refine(HX.out _).mono ?_);rintro e w3 ⟨rfl,hb3⟩;have E2:zB W0 w3:=zT E1 hb3;clear HX)
   |((with_reducible refine(HM.out _).mono ?_);rintro e w4 ⟨rfl,hb4⟩;have E3:zB W0 w4:=zT E2 hb4;clear HM)
   | ((with_reducible refine (HR.out _).mono ?_);rintro e wK ⟨a',c',rfl,hsK,hnn,hbK⟩;have E4:zB W0 wK:=zT E3 hbK;have hc4:=(E4.cell (p:=⟨w.heap.size + 1,0,none⟩) L1.out).trans HC0.out;have hf4:=(E4.frozen (p:=⟨w.heap.size + 1,0,none⟩) L1.out).trans HF0.out;have E5:Below (w.heap.size + 1) W0 (wK.setCell ⟨w.heap.size + 1,0,none⟩ (.slice a' (rowF n m).length c')):=(E4.mono L0.out).setCell (p:=⟨w.heap.size + 1,0,none⟩) zN _;clear HR))
 have hn2:∀g,(Value.slice a' (rowF n m).length c').ownBlock=some g->W0.heap.size<=g:=fun g hg=>Nat.le_trans E3.size (hnn g hg);have HP:=zH (zbW HB.out HC0.out (Nat.le_succ _) L1.out hsK hn2 E4);clear hsK hnn hbK hn2 E0 E1 E2 E3 E4 E5 hb2 hb3 hb4;go_wp2;obtain⟨h3,h4,h5,h6⟩:=HP.out;refine bodyPost_ret (v:=.tuple #[.agg #[.slice a' (rowF n m).length c'],.nilIface]) (by simp[results,Tryz.results304,go_sem,h3]) rfl ?_;exact⟨_,rfl,h4,h5,h6⟩
theorem zkE(g:ByteArray)(a b c:Nat)(ha:a<=999)(hb:b<=999)(hc:c<=999)(w:World)(hg:g.toList=[94]) :
  zC 304 #[.string g,.agg #[.int .i64 a,.int .i64 b,.int .i64 c]] w (zct w (.ok (rowF (numN a b c) (careN a b c)))):=by
 unfold careN
 by_cases h0:a≠0
 ·rw[if_pos h0];exact zdd g a b c ha hb hc w hg 0 ((a+1:Nat):Int) 0 0 _ (fun W=>by have:=zfK a b c W;rw[if_pos h0] at this;exact this) (fun W=>zq8 a b c ha W) (fun W=>zaE (a+1) 0 0 (by omega) (by omega) (by omega) W)
 ·rw[if_neg h0]
  by_cases h1:b≠0
  ·rw[if_pos h1];exact zdd g a b c ha hb hc w hg 1 (a:Int) ((b+1:Nat):Int) 0 _ (fun W=>by have:=zfK a b c W;rw[if_neg h0,if_pos h1] at this;exact this) (fun W=>zoR a b c hb W) (fun W=>zaE a (b+1) 0 (by omega) (by omega) (by omega) W)
  ·rw[if_neg h1];exact zdd g a b c ha hb hc w hg 2 (a:Int) (b:Int) ((c+1:Nat):Int) _ (fun W=>by have:=zfK a b c W;rw[if_neg h0,if_neg h1] at this;exact this) (fun W=>zrh a b c hc W) (fun W=>zaE a b (c+1) (by omega) (by omega) (by omega) W)
theorem zn9(g:ByteArray)(a b c:Nat)(ha:a<=999)(hb:b<=999)(hc:c<=999)(w:World)(g0:(g.toList==[])=false)(g1:(g.toList==[61])=false)(g2:(g.toList==[33])=false)(g3:(g.toList==[60])=false)(g4:(g.toList==[60,61])=false)(g5:(g.toList==[62])=false)(g6:(g.toList==[62,61])=false)(g7:(g.toList==[94])=false)(g8:(g.toList==[126])=false) :
  zC 304 #[.string g,.agg #[.int .i64 a,.int .i64 b,.int .i64 c]] w (zct w (.error 3)):=by
 have HN:Hid (∀W,zR 278 #[.agg #[.int .i64 a,.int .i64 b,.int .i64 c]] W (.int .i64 (numN a b c:Nat))):=fun W=>zaE a b c (by omega) (by omega) (by omega) W;generalize numN a b c=n at *;have ge:g.toList.isEmpty=false:=by
  cases h:g.toList with
  |nil=>rw[h] at g0;cases g0
  |cons x l=>rfl
 obtain⟨W0,hW0,k0,k1,hB,hs0⟩:=zbP w (.int .i64 a) (.int .i64 b) (.int .i64 c);have HW0:=zH hW0;have HK1:=zH k1;have HB:=zH hB;have HS:=zH hs0;clear hW0 k0 k1 hB hs0 g0;go_enter Tryz.func304,Tryz.ntmps304;go_wp2_with fail;rw[HW0.out];refine(HN.out _).mono ?_;rintro e w1 ⟨rfl,hb1⟩;have hl1:w.heap.size+1<W0.heap.size:=by have:=HS.out;omega
 have m1:=HK1.out.below hb1 hl1;have hc4:_=some (Value.slice none 0 0):=m1.cell 0;have hf4:=m1.frozen 0;have hset:(w1.setCell ⟨w.heap.size+1,0,none⟩ (.slice none 0 0)).cell? ⟨w.heap.size+1,0,none⟩=some (.slice none 0 0):=(m1.set (i:=0)).cell 0;have hB2:zB w (w1.setCell ⟨w.heap.size+1,0,none⟩ (.slice none 0 0)):=(zT HB.out hb1).setCell (p:=⟨w.heap.size+1,0,none⟩) (Nat.le_succ _) _;have HSET:=zH hset;have HB2:=zH hB2;clear hb1 hl1 m1 hset hB2;go_wp2;have h3:=HSET.out;refine bodyPost_ret (v:=.tuple #[.agg #[.slice none 0 0],.iface 57 (.int .i64 3)]) (by simp[results,Tryz.results304,go_sem,h3]) rfl ?_;exact⟨rfl,HB2.out⟩
theorem zjz(g:ByteArray)(a b c:Nat)(ha:a<=999)(hb:b<=999)(hc:c<=999)(w:World) :
  zC 304 #[.string g,.agg #[.int .i64 a,.int .i64 b,.int .i64 c]] w (zct w (signF g.toList a b c)):=by
 unfold signF
 by_cases h0:g.toList=[]\/g.toList=[61]
 ·rw[if_pos h0];rcases h0 with h0|h0
  ·exact zmp g a b c ha hb hc w h0
  ·exact zpM g a b c ha hb hc w h0
 rw[if_neg h0]
 by_cases h1:g.toList=[33]
 ·rw[if_pos h1];exact zog g a b c ha hb hc w h1
 rw[if_neg h1]
 by_cases h2:g.toList=[60]
 ·rw[if_pos h2];exact zpE g a b c ha hb hc w h2
 rw[if_neg h2]
 by_cases h3:g.toList=[60,61]
 ·rw[if_pos h3];exact zqJ g a b c ha hb hc w h3
 rw[if_neg h3]
 by_cases h4:g.toList=[62]
 ·rw[if_pos h4];exact zpw g a b c ha hb hc w h4
 rw[if_neg h4]
 by_cases h5:g.toList=[62,61]
 ·rw[if_pos h5];exact zp8 g a b c ha hb hc w h5
 rw[if_neg h5]
 by_cases h6:g.toList=[94]
 ·rw[if_pos h6];exact zkE g a b c ha hb hc w h6
 rw[if_neg h6]
 by_cases h7:g.toList=[126]
 ·rw[if_pos h7];exact zjW g a b c ha hb hc w h7
 rw[if_neg h7];exact zn9 g a b c ha hb hc w (by simpa using fun e=>h0 (.inl e)) (by simpa using fun e=>h0 (.inr e)) (by simpa using h1) (by simpa using h2) (by simpa using h3) (by simpa using h4) (by simpa using h5) (by simpa using h6) (by simpa using h7)
end
end Go.Proofs.YtiihalknffbjpaaGreatDoor
