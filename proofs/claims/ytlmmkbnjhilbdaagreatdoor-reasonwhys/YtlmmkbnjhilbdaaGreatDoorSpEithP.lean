/- space: either: what a round keeps. -/
import Derived.Test.YtlmmkbnjhilbdaaGreatDoorBdWithout
namespace Go.Proofs.YtlmmkbnjhilbdaaGreatDoor
set_option maxHeartbeats 4000000
set_option maxRecDepth 100000
namespace Bd
open Go.RowKit Go.Maps
section
variable {B s b:Nat} {O:Nat->Prop} {vars:Nat} {room:Int} {ns:List Nd} {w w':World}
theorem zmB(vars:Nat)(hv:vars<=24)(room:Int)(h0:0<=room)(h1:room<=4000)(w:World)(B:Nat)(hB:B<=w.heap.size) :
  zC 25 #[.int .i64 vars,.int .i64 room] w fun e w'=>∃s b O,e=.returned (.tuple #[.pointer (some ⟨s,0,none⟩),.nilIface])/\zo B w' s b O vars room []/\w.heap.size<=s/\(∀k,O k->w.heap.size<=k)/\zB w w':=by
 have HN:=zH (K7 room h0 h1 w w.heap.size zN);go_enter Tryz.func25,Tryz.ntmps25;go_wp2_with fail;refine HN.out.mono ?_;rintro e w1 ⟨rfl,hA1,hb1⟩;have hs:=hb1.size;have hO:=(fun k (h:Own (w.heap.size + 1) w.heap.size (.slice none 0 0) k)=>(show w.heap.size<=k/\k<w1.heap.size from by
  obtain⟨D,hD,-⟩:=hA1.hmap;have hbm:=hD.lt;have hlt:=hA1.lt;rcases h with h|h|h
  ·omega
  ·omega
  ·simp [Value.ownBlock] at h))
 have hb2:=hb1.alloc hs (.cells #[.pointer (some ⟨w.heap.size+1,0,none⟩),.int .i64 vars] 124);have hA2:=hA1.kept (ze.alloc (fun _=>False) w1 (.cells #[.pointer (some ⟨w.heap.size+1,0,none⟩),.int .i64 vars] 124)) (fun _ _ h=>h);have hfin:zo B (w1.alloc (.cells #[.pointer (some ⟨w.heap.size+1,0,none⟩),.int .i64 vars] 124)) w1.heap.size (w.heap.size+1) (Own (w.heap.size+1) w.heap.size (.slice none 0 0)) vars room []:=by
  have hA3:zD B (w1.alloc (.cells #[.pointer (some ⟨w.heap.size+1,0,none⟩),.int .i64 vars] 124)) (w.heap.size+1) w.heap.size (.slice none 0 0) [] [] room 2 :=
   ⟨hA2.lt,hA2.croom,hA2.cnodes,hA2.cmap,hA2.cnext,hA2.froz,ownsRow_base hA2.row hB,hA2.hmap,hA2.d1,hA2.d2,hA2.d3,by omega,hB⟩
  refine⟨⟨_,_,[],2,hA3,⟨fun p h=>by simp at h,fun j h=>by simp at h,by simp,fun j h=>by simp at h⟩,⟨0,rfl,by simp,fun j h=>by omega⟩,fun _ h=>h⟩,fun k hk=>⟨by have:=(hO k hk).1;omega,by have:=(hO k hk).2;simp;omega⟩,fun ho=>by have:=(hO _ ho).2;omega,by simp,by simp,by simp⟩
 have HF:=zH hfin;have HB2:=zH hb2;have HO:=zH hO;clear HN hA1 hA2 hfin hb2 hO;go_wp2;go_ret2;exact⟨_,_,_,rfl,HF.out,hs,fun k hk=>(HO.out k hk).1,HB2.out⟩
theorem JD(h:zo B w s b O vars room ns):zC 56 #[.pointer (some ⟨s,0,none⟩)] w fun e w'=>e=.returned (.int .i64 vars)/\w=w':=by
 have c1:=h.c1;clear h;go_enter Tryz.func56,Tryz.ntmps56;go_wp2;go_ret;exact⟨rfl,rfl⟩
theorem zi6(h:zo B w s b O vars room ns)(hr:qg ns)(hl:ns.length<=90000)(hB:B<=w.heap.size)(bf:Nat){cp:Nat}(fs:List Int)(hF:xZ w bf fs)(hfl:fs.length<=1000) :
  zC 59 #[.pointer (some ⟨s,0,none⟩),.slice (some ⟨bf,0,none⟩) fs.length cp] w fun e w'=>∃n:Int,e=.returned (.int .i64 n)/\∃O',zo B w' s b O' vars room (qy ns (qx ns fs))/\zJ O O' w w':=by
 have c0:=h.c0;have HC:=zH (zmo (cp:=cp) h hr hl hB bf fs hF hfl);generalize fs.length=n at *;clear h hF hr;go_enter Tryz.func59,Tryz.ntmps59;go_wp2_with fail;refine HC.out.mono ?_;rintro e w1 ⟨n,rfl,hO⟩;go_wp2;go_ret;exact⟨n,rfl,hO⟩
end
end Bd
namespace Bd
open Go.RowKit Go.Maps
section
variable {B s b:Nat} {O:Nat->Prop} {vars:Nat} {room:Int} {ns:List Nd} {w w':World}
theorem zmR(h:zo B w s b O vars room ns):zC 98 #[.pointer (some ⟨b,0,none⟩)] w fun e w'=>e=.returned (.int .i64 ((Yo ns).length:Int))/\w=w':=by
 obtain⟨bm,v,L,next,hA,hBk,-,hO⟩:=h.arena;rw[<-X4 hBk];exact Jt hA
end
end Bd
namespace Bd
open Go.RowKit Go.Maps Go.Deep
theorem zfH(x:Int)(hx:zO 24 x=true)(w:World):zC 97 #[.int .i64 x] w fun e w'=>e=.returned (.int .i64 (zP x))/\w=w':=by
 have h0:=qG.1 hx;have hm:max x (-x)-1=(zP x:Int):=by unfold zP;omega
 have h1:-9223372036854775808<=max x (-x)-1:=by omega
 have h2:max x (-x)-1<=9223372036854775807:=by omega
 have h3:-9223372036854775808<=-x:=by omega
 have h4:-x<=9223372036854775807:=by omega
 clear hx;go_enter Tryz.func97,Tryz.ntmps97;go_wp2;go_ret;refine⟨?_,rfl⟩;rw[<-hm]
 first|rfl|(congr 2;omega)|go_num
theorem zlf(x:Int)(vars:Nat)(h24:vars<=24)(hx:zO vars x=true)(b:Nat)(w:World)(hc:w.cell? ⟨b,0,none⟩=some (.int .i64 vars)) :
  zR 96 #[.int .i64 x,.pointer (some ⟨b,0,none⟩)] w (.bool false):=by
 have HV:=zH (zfH x (Zz (by omega) hx) w);have hv:=Yx hx;clear hx;generalize zP x=v at *;have h1:¬(v:Int)<0:=by omega
 have h2:¬(vars:Int)<=(v:Int):=by omega
 go_enter Tryz.func96,Tryz.ntmps96;go_wp2_with fail;refine HV.out.mono ?_;rintro e w1 ⟨rfl,rfl⟩;go_wp2;go_ret;exact⟨by simp;exact hv,Below.refl _ _⟩
theorem zmV:∀args w,(callFunc 96 args).run Tryz.prog w=.ok (.enter 96 args) w:=by intro args w;kernel_rfl
theorem ziY:∀args w,(callFunc 54 args).run Tryz.prog w=.ok (.enter 54 args) w:=by intro args w;kernel_rfl
theorem zhJ(c:List Int)(vars:Nat)(h24:vars<=24)(hl:zY vars c)(a:Option Addr)(cap:Nat)(w:World)(hI:zW w a c)(hm:c.length<=9223372036854775807) :
  zR 55 #[.slice a c.length cap,.int .i64 vars] w (.bool true):=by
 have hb:=Go.Proofs.YtlmmkbnjhilbdaaGreatDoor.below_new w (.cells #[.int .i64 vars] 3);have HC:=zH (JE 96 #[.pointer (some ⟨w.heap.size,0,none⟩)] (fun _=>false) c a cap (w.alloc (.cells #[.int .i64 vars] 3)) hm zmV (hI.below hb) (fun W i hW hi=>zlf (c.getD i 0) vars h24 (hl _ (y7 hi)) w.heap.size W ((hW.cell (p:=⟨w.heap.size,0,none⟩) (by simp)).trans (by simp))));have HB:=zH hb;have hf:(c.any fun _=>false)=false:=by simp
 rw[hf] at HC;clear hb hI hl hf;go_enter Tryz.func55,Tryz.ntmps55;go_wp2_with fail;refine HC.out.mono ?_;rintro e w1 ⟨rfl,hb1⟩;have HB1:Hid (zB w w1):=zT HB.out hb1;clear hb1 HC;go_wp2;go_ret;exact⟨by first|rfl|simp,HB1.out⟩
section
variable {B s b:Nat} {O:Nat->Prop} {vars:Nat} {room:Int} {ns:List Nd} {w:World}
theorem zjy(hS:zo B w s b O vars room ns)(h24:vars<=24)(c:List Int)(hl:zY vars c)(a:Option Addr)(cap:Nat)(hI:zW w a c)(hm:c.length<=9223372036854775807)(bx:Nat)(hc:w.cell? ⟨bx,0,none⟩=some (.pointer (some ⟨s,0,none⟩))) :
  zR 54 #[.slice a c.length cap,.pointer (some ⟨bx,0,none⟩)] w (.bool false):=by
 have HV:=zH (JD hS);have HW:=zH (zhJ c vars h24 hl a cap w hI hm);clear hS hI hl;go_enter Tryz.func54,Tryz.ntmps54;go_wp2_with fail;refine HV.out.mono ?_;rintro e w1 ⟨rfl,rfl⟩;clear HV;go_wp2_with fail;refine HW.out.mono ?_;rintro e w1 ⟨rfl,hb1⟩;have HB1:=zH hb1;clear HW hb1;go_wp2;go_ret;exact⟨by first|rfl|simp,HB1.out⟩
theorem zff(hS:zo B w s b O vars room ns):zC 52 #[.pointer (some ⟨s,0,none⟩)] w fun e w'=>e=.returned (.bool false)/\w=w':=by
 have c0:=hS.c0;clear hS;go_enter Tryz.func52,Tryz.ntmps52;go_wp2;go_ret;exact⟨by first|rfl|simp,rfl⟩
theorem zj9(hS:zo B w s b O vars room ns)(h0:cnt ns=0):zC 57 #[.pointer (some ⟨s,0,none⟩)] w fun e w'=>e=.returned (.slice none 0 0)/\w=w':=by
 have HL:=zmR hS;rw[zcU,h0] at HL;have HL:=zH HL;have c0:=hS.c0;clear hS h0;go_enter Tryz.func57,Tryz.ntmps57;go_wp2_with fail;go_loopw [3,4] (fun o _ wr=>o=.slice none 0 0/\wr=w) (fun _ _ _=>0)
 case atStart=>exact⟨rfl,rfl⟩
 case round =>obtain⟨rfl,rfl⟩:=hrel;go_wp2_with fail;refine HL.out.mono ?_;rintro e w1 ⟨rfl,rfl⟩;go_wp2;go_ret;exact⟨rfl,rfl⟩
end
end Bd
namespace Bd
open Go.RowKit Go.Shelf Go.Deep
attribute [local go_sem] Oper.semAt_some
theorem zhW(a:Option Addr)(n c:Nat)(w:World) :
  CallsIn Fence.wide 3 Tryz.prog 142 #[.slice a n c] w fun e w'=>e=.returned (.func (.func 191) #[] #[.pointer (some ⟨w.heap.size,0,none⟩)])/\w'=w.alloc (.cells #[.slice a n c] 127):=by
 refine callsIn_of_wp Tryz.func142 rfl trivial ?_ rfl;simp only[Tryz.ntmps142,List.size_toArray,List.length_cons,List.length_nil,Nat.reduceAdd,Nat.reduceSub,Array.replicate_succ,Array.replicate_zero,List.push_toArray,List.append_toArray,List.nil_append,List.cons_append]
 gi_wp2
 go_ret;exact⟨by first|rfl|simp,rfl⟩
def bkF(xs:List Int):Nat->List (Nat × Int)
 |0=>[]
 |k+1=>(k,xs.getD k 0) :: bkF xs k
abbrev PQ(Q:Int->Prop):Type:={ p:Nat × Int // Q p.2 }
def Zx{Q:Int->Prop}(l:List (PQ Q)):List (Nat × Int):=l.map Subtype.val
def Jm{Q:Int->Prop}(p:PQ Q):Array Value:=#[.int .i64 p.1.1,.int .i64 p.1.2]
def KpR(R:Nat->Prop)(W W':World):Prop:=∀k,R k->W'.heap[k]?=W.heap[k]?
theorem zeg{R:Nat->Prop}{W W':World}(h:KpR R W W'){p:Addr}(h1:R p.block):W'.cell? p=W.cell? p:=by
 unfold World.cell?;rw[h p.block h1]
theorem Qq{R:Nat->Prop}{A C D:World}(h:KpR R A C)(k:KpR R C D):KpR R A D:=fun q h1=>(k q h1).trans (h q h1)
theorem znK{R:Nat->Prop}{w:World}(hB:∀k,R k->k<w.heap.size)(W:World)(l:Nat)(o o':Obj)(hl:w.heap.size<=l)(_:W.heap[l]?=some o)(_:o.isCells=false)(_:o.isWalk=false):KpR R W (W.putObj l o') :=
 fun k h1=>World.putObj_heap_other (by have:=hB k h1;omega)
theorem zdp(ad:Addr)(j:Nat):(ad.add j).block=ad.block:=by unfold Addr.add;split<;>rfl
theorem zmm(l bt:Nat)(R:Nat->Prop)(Q:Int->Prop)(xs:List Int)(a:Option Addr)(c:Nat)(hl:xs.length<=1000000)(hQ:∀i,i<xs.length->Q (xs.getD i 0))(J Jx:List (PQ Q)->World->Prop)
  (hY:∀ pre x W,J pre W->pre.length<xs.length->YieldAt Fence.wide (3 - 1) Tryz.prog l (Jm x) W fun e W' =>
   (e=.returned (.bool true)/\J (pre++[x]) W'/\KpR R W W')\/(e=.returned (.bool false)/\Jx (pre++[x]) W'))
  (W:World) (hR:R bt) (h0:W.cell? ⟨bt,0,none⟩=some (.slice a xs.length c)) (hI:∀i,i<xs.length->∃ad:Addr,a=some ad/\R ad.block/\W.cell? (ad.add i)=some (.int .i64 (xs.getD i 0))) (hJ:J [] W) :
  CallsIn Fence.wide 3 Tryz.prog 191 #[.func (.yield l) #[] #[],.pointer (some ⟨bt,0,none⟩)] W fun e W'=>(∃v,e=.returned v)/\((∃ys,Zx ys=bkF xs xs.length/\J ys W')\/(∃pre,Zx pre <+: bkF xs xs.length/\Jx pre W')):=by
 have HY:=zH hY;have HI:=zH hI;have HR:=zH hR;have HQ:=zH hQ;clear hY hI hR hQ;refine callsIn_of_wp Tryz.func191 rfl trivial ?_ rfl;simp only[Tryz.ntmps191,List.size_toArray,List.length_cons,List.length_nil,Nat.reduceAdd,Nat.reduceSub,Array.replicate_succ,Array.replicate_zero,List.push_toArray,List.append_toArray,List.nil_append,List.cons_append]
 gi_wp2_with fail
 gi_loopw [3] (fun p wr=>∃(pre:List (PQ Q)) (k:Nat),p=.int .i64 ((k:Int)-1)/\k<=xs.length/\pre.length+k=xs.length/\Zx pre++bkF xs k=bkF xs xs.length/\KpR R W wr/\J pre wr) (fun p _=>(intOf p+1).toNat)
 case atStart=>exact⟨[],xs.length,by go_num,Nat.le_refl _,by simp,rfl,fun _ _=>rfl,hJ⟩
 case round =>
  obtain⟨pre,k,rfl,hk,hpl,hcut,hkp,hJs⟩:=hrel;have HJ:=zH hJs;have HC:=zH hcut;have HKP:=zH hkp;have HPL:=zH hpl;have d0:wr.cell? ⟨bt,0,none⟩=some (.slice a xs.length c):=(zeg (p:=⟨bt,0,none⟩) hkp HR.out).trans h0;clear hJs hcut hkp hpl
  by_cases hk0:k=0
  ·subst hk0;have hcut:=HC.out;rw[bkF,List.append_nil] at hcut;have HX:=zH hcut;clear hcut HC
   gi_wp2
   refine bodyPost_end (results_none rfl _ _ _) rfl ?_;exact⟨⟨_,rfl⟩,.inl ⟨pre,HX.out,HJ.out⟩⟩
  ·obtain⟨j,rfl⟩:∃j,k=j+1:=⟨k-1,by omega⟩;have hj:j<xs.length:=by omega
   obtain⟨ad,rfl,had,cA⟩:=HI.out j hj;have cA2:wr.cell? (ad.add j)=some (.int .i64 (xs.getD j 0)):=(zeg (p:=ad.add j) HKP.out (by rw[zdp];exact had)).trans cA;have hcut:=HC.out;rw[bkF] at hcut;have hq:=HQ.out j hj;obtain⟨x,hx⟩:∃x,xs.getD j 0=x:=⟨_,rfl⟩;rw[hx] at cA2 hcut hq;have HX:Hid (Zx (pre++[⟨(j,x),hq⟩])++bkF xs j=bkF xs xs.length):=by show _=_;rw[Zx,List.map_append,List.append_assoc];exact hcut
   have hjw:((j+1:Nat):Int)-1=(j:Int):=by omega
   rw[hjw];have hj0:(0:Int)<=(j:Int):=by omega
   have hj1:(j:Int)<(xs.length:Int):=by omega
   obtain⟨ab,ao,asp⟩:=ad;obtain⟨fn,tmps,assign,body,hy,hR⟩:=HY.out pre ⟨(j,x),hq⟩ wr HJ.out (by have:=HPL.out;omega);unfold Jm at hy;dsimp only at hy;clear hcut hx HC cA had hjw
   gi_wp2
   refine hR.mono ?_;rintro e W3 (⟨rfl,hJ3,hk3⟩|⟨rfl,hJx3⟩)
   ·have HJ3:=zH hJ3;have HK3:Hid (KpR R W W3):=Qq HKP.out hk3;clear hJ3 hk3 d0 cA2 hR hy
    gi_wp2
    go_roundw
    case rel=>exact⟨pre++[⟨(j,x),hq⟩],j,by go_num,by omega,by have:=HPL.out;simp;omega,HX.out,HK3.out,HJ3.out⟩
    case measure=>first|(simp[intOf];done)|(simp[intOf];omega)
   ·clear hR hy
    gi_wp2
    refine bodyPost_ret (results_none rfl _ _ _) rfl ?_;exact⟨⟨_,rfl⟩,.inr ⟨_,⟨_,HX.out⟩,hJx3⟩⟩
theorem zpu(bt:Nat)(R:Nat->Prop)(Q:Int->Prop)(xs:List Int)(a:Option Addr)(c:Nat)(hl:xs.length<=1000000)(hQ:∀i,i<xs.length->Q (xs.getD i 0))(w:World)(hR:R bt)(hlt:∀k,R k->k<w.heap.size)(h0:w.cell? ⟨bt,0,none⟩=some (.slice a xs.length c))(hI:∀i,i<xs.length->∃ad:Addr,a=some ad/\R ad.block/\w.cell? (ad.add i)=some (.int .i64 (xs.getD i 0))) :
  SeqStopsK Fence.wide 3 Tryz.prog 191 #[.pointer (some ⟨bt,0,none⟩)] (Jm (Q:=Q)) (KpR R) (fun ys=>Zx ys=bkF xs xs.length) (fun pre=>Zx pre <+: bkF xs xs.length) xs.length w:=fun l J Jx W hW _ _ hY hJ0 =>
 zmm l bt R Q xs a c hl hQ J Jx hY W hR ((hW.cell (p:=⟨bt,0,none⟩) (hlt _ hR)).trans h0) (fun i hi=>by
  obtain⟨ad,e,q1,q2⟩:=hI i hi;exact ⟨ad,e,q1,(hW.cell (p:=ad.add i) (by rw [zdp];exact hlt _ q1)).trans q2⟩) hJ0
end Bd
section
open Go.RowKit Go.Deep
def Qr(s:Nat × Nat):Value:=.agg #[.int .u64 s.1,.int .u64 s.2]
theorem zd3{k:Nat}(hk:k<24):2^k<2^24:=Nat.pow_lt_pow_right (by omega) hk
theorem zbP{o k:Nat}(ho:o<2^24)(hk:k<24):bits BinOp.or IntKind.u64 (o:Int) ((2:Int)^k)=((o|||2^k:Nat):Int):=by
 have h:=zd3 hk;have h63:(2:Nat)^24<18446744073709551616:=by decide
 have e:((2:Int)^k)=((2^k:Nat):Int):=by simp
 rw[e,bits_or_u64_nat o (2^k) (by omega) (by omega)]
theorem zeq{k:Nat}(hk:k<24):IntKind.u64.wrap ((2:Int)^k)=(2:Int)^k:=by
 have h:=zd3 hk;have h63:(2:Nat)^24<2^63:=by decide
 have e:((2:Int)^k)=((2^k:Nat):Int):=by simp
 rw[e,IntKind.wrap_u64];exact Int.emod_eq_of_lt (Int.natCast_nonneg _) (by omega)
structure SB(w wr:World)(s:Nat × Nat):Prop where
 res:Blk wr w.heap.size 293 #[.int .u64 0,.int .u64 0]
 blk:Blk wr (w.heap.size+1) 293 #[.int .u64 s.1,.int .u64 s.2]
 below:zB w wr
theorem SB.start(w:World):SB w ((w.alloc (.cells #[.int .u64 0,.int .u64 0] 293)).alloc (.cells #[.int .u64 0,.int .u64 0] 293)) (0,0):=by
 have h1:=Blk.new w 293 #[.int .u64 0,.int .u64 0];have h2:=Blk.new (w.alloc (.cells #[.int .u64 0,.int .u64 0] 293)) 293 #[.int .u64 0,.int .u64 0];rw[World.size_alloc] at h2;exact⟨h1.alloc _,h2,(below_new w _).alloc (by simp) _⟩
theorem SB.yes{w wr:World}{s:Nat × Nat}(h:SB w wr s)(m:Nat):SB w (wr.setCell ⟨w.heap.size+1,0,none⟩ (.int .u64 m)) (m,s.2) :=
 ⟨h.res.other (by omega),h.blk.set,h.below.setCell (by show w.heap.size<=w.heap.size+1;omega) _⟩
theorem SB.no{w wr:World}{s:Nat × Nat}(h:SB w wr s)(m:Nat):SB w (wr.setCell ⟨w.heap.size+1,1,none⟩ (.int .u64 m)) (s.1,m) :=
 ⟨h.res.other (by omega),h.blk.set,h.below.setCell (by show w.heap.size<=w.heap.size+1;omega) _⟩
theorem SB.drew{w wr:World}{s:Nat × Nat}(h:SB w wr s):SB w wr.drew s:=⟨h.res,h.blk,h.below.drew⟩
theorem zi2(c:List Int)(a:Option Addr)(cap:Nat)(w:World)(hI:zW w a c)(hm:c.length<=9223372036854775807) :
  zR 188 #[.slice a c.length cap] w (Qr (zm c)):=by
 have HI:=zH hI;have HS:=zH (SB.start w);clear hI;go_enter Tryz.func188,Tryz.ntmps188;go_wp2_with fail;go_loopw [8] (fun kV wr=>∃k:Nat,k<=c.length/\kV=.int .i64 k/\SB w wr (zm (c.take k))) (fun kV _=>c.length-(intOf kV).toNat)
 case atStart=>exact⟨0,Nat.zero_le _,rfl,HS.out⟩
 case round =>
  obtain⟨k,hk,rfl,hsb⟩:=hrel;have HSB:=zH hsb;clear hsb HS
  by_cases hlt:k<c.length
  ·obtain⟨ad,rfl,hl,hc⟩:=HI.out.below HSB.out.below k hlt;have HN:=zH (show zm (c.take (k+1))=Zf (zm (c.take k)) (c.getD k 0) by rw[zlQ hlt,znu]);have hsm:=ze2 (c.take k);generalize c.getD k 0=x at *;generalize zm (c.take k)=s at *;have c0:=HSB.out.blk.cell 0;have c1:=HSB.out.blk.cell 1;have f0:=HSB.out.blk.frozen 0;have f1:=HSB.out.blk.frozen 1;simp at c0 c1
   by_cases h1:0<x/\x<=24
   ·obtain⟨t,rfl⟩:∃t:Nat,x=(t:Int)+1:=⟨x.toNat-1,by omega⟩;have ht:t<24:=by omega
    have HE:=zH (show Zf s ((t:Int)+1)=(s.1|||2^t,s.2) by unfold Zf;rw[if_pos h1,show ((t:Int)+1).toNat-1=t by omega]);have HO:=zH (zbP hsm.1 ht);have HW:=zH (zeq ht);obtain⟨h1a,h1b⟩:=h1;clear hsm;go_wp2_with fail;go_region;have HQ:=zH ((HSB.out.yes (s.1|||2^t)).drew);rw[<-HO.out,<-HW.out] at HQ;clear c0 c1 f0 f1;go_wp2;go_roundw
    case rel=>exact⟨k+1,hlt,by go_num,by rw[HN.out,HE.out];exact HQ.out⟩
    case measure=>simp[intOf];omega
   ·by_cases h2:-24<=x/\x<0
    ·obtain⟨t,rfl⟩:∃t:Nat,x=-((t:Int)+1):=⟨(-x).toNat-1,by omega⟩;have ht:t<24:=by omega
     have HE:=zH (show Zf s (-((t:Int)+1))=(s.1,s.2|||2^t) by unfold Zf;rw[if_neg h1,if_pos h2,show (- -((t:Int)+1)).toNat-1=t by omega]);have HO:=zH (zbP hsm.2 ht);have HW:=zH (zeq ht);obtain⟨h2a,h2b⟩:=h2;have h1':¬(0 < -((t:Int)+1)):=by omega
     clear hsm h1;go_wp2_with fail;go_region;have HQ:=zH ((HSB.out.no (s.2|||2^t)).drew);rw[<-HO.out,<-HW.out] at HQ;clear c0 c1 f0 f1;go_wp2;go_roundw
     case rel=>exact⟨k+1,hlt,by go_num,by rw[HN.out,HE.out];exact HQ.out⟩
     case measure=>simp[intOf];omega
    ·have HE:=zH (show Zf s x=s by unfold Zf;rw[if_neg h1,if_neg h2]);clear hsm c0 c1 f0 f1
     by_cases hp:0<x
     ·have h3:24<x:=by omega
      clear h1 h2;go_wp2;go_roundw
      case rel=>exact⟨k+1,hlt,by go_num,by rw[HN.out,HE.out];exact HSB.out⟩
      case measure=>simp[intOf];omega
     ·by_cases hz:x=0
      ·subst hz;clear h1 h2;go_wp2;go_roundw
       case rel=>exact⟨k+1,hlt,by go_num,by rw[HN.out,HE.out];exact HSB.out⟩
       case measure=>simp[intOf];omega
      ·have h3:x < -24:=by omega
       clear h1 h2;go_wp2;go_roundw
       case rel=>exact⟨k+1,hlt,by go_num,by rw[HN.out,HE.out];exact HSB.out⟩
       case measure=>simp[intOf];omega
  ·obtain rfl:k=c.length:=by omega
   rw[List.take_length] at HSB;have c0:=HSB.out.blk.cell 0;have c1:=HSB.out.blk.cell 1;have r0:=HSB.out.res.cell 0;have r1:=HSB.out.res.cell 1;have f0:=HSB.out.res.frozen 0;have f1:=HSB.out.res.frozen 1;simp at c0 c1 r0 r1;have HB:Hid (zB w ((wr.setCell ⟨w.heap.size,0,none⟩ (.int .u64 ((zm c).1:Int))).setCell ⟨w.heap.size,1,none⟩ (.int .u64 ((zm c).2:Int)))):=(HSB.out.below.setCell zN _).setCell zN _;have HR:=zH ((HSB.out.res.set (i:=0) (v:=.int .u64 ((zm c).1:Int))).set (i:=1) (v:=.int .u64 ((zm c).2:Int)));clear HSB;go_wp2;have k0:=HR.out.cell 0;have k1:=HR.out.cell 1;simp at k0 k1;exact bodyPost_ret (v:=Qr (zm c)) (by simp[results,Tryz.results188,go_sem,k0,k1,Qr]) rfl ⟨rfl,HB.out⟩
theorem zkA(s:Nat × Nat)(hs:Small s)(w:World) :
  zR 189 #[Qr s] w (.bool (qB s)):=by
 have h63:(2:Nat)^24<18446744073709551616:=by decide
 have HA:=zH (bits_and_u64_nat s.1 s.2 (by have:=hs.1;omega) (by have:=hs.2;omega));have HB:=zH (below_new w (.cells #[.int .u64 s.1,.int .u64 s.2] 293));have HF:Hid (((((s.1&&&s.2:Nat):Int)) != 0)=qB s):=by
  show _=_;unfold qB;rw[Bool.eq_iff_iff];simp
 clear hs;unfold Qr;go_enter Tryz.func189,Tryz.ntmps189;go_wp2;go_ret;exact⟨by rw[HA.out,HF.out];rfl,HB.out⟩
theorem J4(m t:Nat)(hm:m<18446744073709551616):(bits BinOp.and IntKind.u64 ((m:Int)/2^t) 1==1)=m.testBit t:=zmL m t hm
structure CK(w wr:World)(s:Nat × Nat)(cV:Value)(k:Nat):Prop where
 row:wr.ownsRow w.heap.size 3 1 cV (yE s k).length (icells (yE s k))
 blk:Blk wr w.heap.size 293 #[.int .u64 s.1,.int .u64 s.2]
 below:zB w wr
theorem CK.skip{w wr:World}{s:Nat × Nat}{cV:Value}{k:Nat}(h:CK w wr s cV k)(hn:yZ s k=none):CK w wr s cV (k+1):=by
 have e:yE s (k+1)=yE s k:=by rw[JB,hn];simp
 exact⟨by rw[e];exact h.row,h.blk,h.below⟩
theorem CK.app{w wr wr':World}{s:Nat × Nat}{cV v':Value}{k:Nat}{x:Int}(h:CK w wr s cV k)(hn:yZ s k=some x)(o:Obj)(hown:wr'.ownsRow w.heap.size 3 1 v' ((yE s k).length+1) (icells (yE s k)++[.int .i64 x]))(hg:(wr.alloc o).grownBy wr' cV.ownBlock):CK w wr' s v' (k+1):=by
 have e:yE s (k+1)=yE s k++[x]:=by rw[JB,hn];simp
 have hne:cV.ownBlock≠some w.heap.size:=Lib.ownBlock_ne h.row h.blk (by decide);refine⟨by rw[e,Qd];simpa using hown,(h.blk.alloc o).kept hg (fun e=>hne e.symm),?_⟩;exact(h.below.alloc h.below.size o).grown hg (by have:=h.below.size;simp;omega) (fun k hk=>(h.row.lt k hk).1)
def zch(B:Nat)(xs:List Int)(e:Ending)(w':World):Prop:=∃a cap,e=.returned (.slice a xs.length cap)/\w'.ownsRow B 3 1 (.slice a xs.length cap) xs.length (icells xs)
theorem zhP(s:Nat × Nat)(hs:Small s)(w:World) :
  zC 190 #[Qr s] w fun e w'=>zch w.heap.size (qp s) e w'/\zB w w':=by
 have h63:(2:Nat)^24<18446744073709551616:=by decide
 have HY:Hid (∀t,(bits BinOp.and IntKind.u64 ((s.1:Int)/2^t) 1==1)=s.1.testBit t):=fun t=>J4 s.1 t (by have:=hs.1;omega);have HN:Hid (∀t,(bits BinOp.and IntKind.u64 ((s.2:Int)/2^t) 1==1)=s.2.testBit t):=fun t=>J4 s.2 t (by have:=hs.2;omega);have HS:Hid (CK w (w.alloc (.cells #[.int .u64 s.1,.int .u64 s.2] 293)) s (.slice none 0 0) 0):=⟨World.ownsRow_nil _ _ _ _,Blk.new _ _ _,below_new w _⟩;obtain⟨i0,hin,hz0,hz1,hz2⟩:=info_parts Zt;clear hs h63;unfold Qr;go_enter Tryz.func190,Tryz.ntmps190;go_wp2_with fail;go_loopw [3,5] (fun cV kV wr=>∃k:Nat,k<=24/\kV=.int .i64 k/\CK w wr s cV k) (fun _ kV _=>24-(intOf kV).toNat)
 case atStart=>exact⟨0,by omega,rfl,HS.out⟩
 case round =>
  obtain⟨k,hk,rfl,hck⟩:=hrel;obtain⟨wo,rfl⟩:∃wo,wo=wr:=⟨_,rfl⟩;obtain⟨ca,cc,rfl,hcl,-⟩:=row_form hck.row;have HCK:=zH hck;have hlen:=zag s k;clear hck HS
  by_cases hlt:k<24
  ·have c0:=HCK.out.blk.cell 0;have c1:=HCK.out.blk.cell 1;simp at c0 c1;have hi1:(k:Int)<24:=by omega
   have hws:=HCK.out.below.size;cases hy:s.1.testBit k with
   |true =>
    have hq:=HY.out k;rw[hy] at hq;have HL:=zH (show yZ s k=some ((k:Int)+1) by unfold yZ;rw[if_pos hy]);clear hy;go_wp2_with (first|(at_builtin;refine wpList_append_own_at _ rfl _ _ 127 rfl w.heap.size 3 i0 (.int .i64 0) 1 8 Tryz.underlying127 hin hz0 hz1 hz2 rfl (by decide) _ _ _ rfl (HCK.out.row.alloc _) ⟨wo.heap.size,0,none⟩ 1 1 [.int .i64 ((k:Int)+1)] rfl rfl ?c1 ?c2 ?c3 ?c4 ?c5 ?_))
    case c1=>exact Z3 _ _ _
    case c2=>exact ZW _
    case c3=>unfold maxLen;omega
    case c4=>omega
    case c5=>simp;omega
    intro v7 w7 hown7 hgrow7 _ _;have HX:=zH (HCK.out.app HL.out _ hown7 hgrow7);clear hown7 hgrow7 c0 c1 hq;go_wp2;go_roundw
    case rel=>exact⟨k+1,hlt,by go_num,HX.out⟩
    case measure=>simp[intOf];omega
   |false =>
    have hq:=HY.out k;rw[hy] at hq;cases hn:s.2.testBit k with
    |true =>
     have hr:=HN.out k;rw[hn] at hr;have HL:=zH (show yZ s k=some (-((k:Int)+1)) by unfold yZ;rw[hy,if_neg (by simp),if_pos hn]);clear hy hn;go_wp2_with (first|(at_builtin;refine wpList_append_own_at _ rfl _ _ 127 rfl w.heap.size 3 i0 (.int .i64 0) 1 8 Tryz.underlying127 hin hz0 hz1 hz2 rfl (by decide) _ _ _ rfl (HCK.out.row.alloc _) ⟨wo.heap.size,0,none⟩ 1 1 [.int .i64 (-((k:Int)+1))] rfl rfl ?c1 ?c2 ?c3 ?c4 ?c5 ?_))
     case c1=>exact Z3 _ _ _
     case c2=>exact ZW _
     case c3=>unfold maxLen;omega
     case c4=>omega
     case c5=>simp;omega
     intro v7 w7 hown7 hgrow7 _ _;have HX:=zH (HCK.out.app HL.out _ hown7 hgrow7);clear hown7 hgrow7 c0 c1 hq hr;go_wp2;go_roundw
     case rel=>exact⟨k+1,hlt,by go_num,HX.out⟩
     case measure=>simp[intOf];omega
    |false =>
     have hr:=HN.out k;rw[hn] at hr;have HX:=zH (HCK.out.skip (show yZ s k=none by unfold yZ;rw[hy,hn];simp));clear hy hn;go_wp2;go_roundw
     case rel=>exact⟨k+1,hlt,by go_num,HX.out⟩
     case measure=>simp[intOf];omega
  ·obtain rfl:k=24:=by omega
   have HR:Hid (wo.ownsRow w.heap.size 3 1 (.slice ca (qp s).length cc) (qp s).length (icells (qp s))):=HCK.out.row;go_wp2;go_ret;exact⟨⟨ca,cc,rfl,HR.out⟩,HCK.out.below⟩
end
section
open Go.RowKit Go.Deep
def YB(c:List Int):List Int × Bool:=if qB (zm c)=true then ([],true) else (qp (zm c),false)
def zoQ(B:Nat)(r:List Int × Bool)(e:Ending)(w':World):Prop:=∃a cap,e=.returned (.tuple #[.slice a r.1.length cap,.bool r.2])/\w'.ownsRow B 3 1 (.slice a r.1.length cap) r.1.length (icells r.1)
theorem zfR(c:List Int)(a:Option Addr)(cap:Nat)(w:World)(hI:zW w a c)(hm:c.length<=9223372036854775807) :
  zC 141 #[.slice a c.length cap] w fun e w'=>zoQ w.heap.size (YB c) e w'/\zB w w':=by
 have HS:=zH (zi2 c a cap w hI hm);have hsm:=ze2 (c);have HF:Hid (YB c=if qB (zm c)=true then ([],true) else (qp (zm c),false)):=rfl;generalize zm c=s at *;have HAL:Hid (∀W:World,zR 189 #[.agg #[.int .u64 s.1,.int .u64 s.2]] W (.bool (qB s))):=fun W=>zkA s hsm W;have HCL:Hid (∀W:World,zC 190 #[.agg #[.int .u64 s.1,.int .u64 s.2]] W fun e w'=>zch W.heap.size (qp s) e w'/\zB W w'):=fun W=>zhP s hsm W;clear hI hsm;go_enter Tryz.func141,Tryz.ntmps141;go_wp2_with fail;refine HS.out.mono ?_;rintro e w1 ⟨rfl,hb1⟩;clear HS;unfold Qr;have HB2:Hid (zB w (w1.alloc (.cells #[.int .u64 s.1,.int .u64 s.2] 293))):=zL hb1;have HK:=zH (Blk.new w1 293 #[.int .u64 s.1,.int .u64 s.2]);clear hb1;go_wp2_with fail;refine(HAL.out _).mono ?_;rintro e w2 ⟨rfl,hb2⟩;have HB3:Hid (zB w w2):=zT HB2.out hb2;have hk2:=HK.out.below hb2 HK.out.lt;have k0:=hk2.cell 0;have k1:=hk2.cell 1;simp at k0 k1;clear hb2 hk2 HAL HK HB2;cases hal:qB s with
 |true =>rw[hal,if_pos rfl] at HF;clear hal;go_wp2;go_ret2;exact⟨⟨none,0,by rw[HF.out];rfl,by rw[HF.out];exact World.ownsRow_nil _ _ _ _⟩,HB3.out⟩
 |false =>rw[hal,if_neg (by simp)] at HF;clear hal;go_wp2_with fail;refine(HCL.out _).mono ?_;rintro e w3 ⟨⟨ra,rc,rfl,hrow⟩,hb3⟩;have HB4:Hid (zB w w3):=zT HB3.out hb3;have HR:=zH (ownsRow_base hrow HB3.out.size);clear hb3 hrow HCL;go_wp2;go_ret2;exact⟨⟨ra,rc,by rw[HF.out];rfl,by rw[HF.out];exact HR.out⟩,HB4.out⟩
end
namespace Bd
open Go.RowKit Go.Maps Go.Deep
theorem JJ{W:World}{k:Nat}(h:qo W k)(a:Addr)(v:Value):qo (W.setCell a v) k:=by
 obtain⟨o,h1,h2⟩:=h
 by_cases e:k=a.block
 ·subst e;obtain⟨hlt,hk⟩:=Array.getElem?_eq_some_iff.1 h1;cases o with
  |cells c elem frozen =>refine⟨Obj.cells (if a.spot.isSome=true then c else c.setIfInBounds a.off v) elem frozen,?_,rfl⟩;show (W.heap.modify a.block _)[a.block]?=_;rw[Array.getElem?_eq_getElem (by rw[Array.size_modify];exact hlt),Array.getElem_modify_self,hk]
  |_=>cases h2
 ·exact⟨o,(Below.heap_setCell W a v k e).trans h1,h2⟩
theorem zjw{W:World}{k D:Nat}(h:qo W k)(hD:¬qo W D)(o:Obj):qo (W.putObj D o) k:=by
 obtain⟨o',h1,h2⟩:=h;have:k≠D:=fun e=>hD (e▸⟨o',h1,h2⟩);exact⟨o',(World.putObj_heap_other this).trans h1,h2⟩
theorem XR{W:World}{D:Nat}{o:Obj}(h:W.heap[D]?=some o)(ho:o.isCells=false):¬qo W D:=by
 rintro⟨o',h1,h2⟩;rw[h] at h1;cases h1;rw[ho] at h2;cases h2
section
variable {B s b dm vars:Nat} {O0 O O':Nat->Prop} {room:Int} {ns:List Nd} {W0 W W':World}
theorem MM.set(h:MM O0 O dm W0 W)(v:Value):MM O0 O dm W0 (W.setCell ⟨dm,0,none⟩ v) :=
 h.trans ⟨ze.setCell W ⟨dm,0,none⟩ v (.inr rfl),fun _ h=>.inl h,fun k hk=>(Classical.em (qo W k)).imp (fun c=>JJ c _ _) (fun n=>⟨hk,n⟩)⟩
theorem MM.refl(O:Nat->Prop)(dm:Nat)(w:World):MM O O dm w w:=MM.of_moves (zJ.refl O w)
theorem MM.from(h:MM O0 O dm W0 W)(h0:∀k,O0 k->k<W0.heap.size){k:Nat}(hk:O k)(hge:W0.heap.size<=k):qo W k:=by
 rcases h.map k hk with h1|⟨h1,-⟩
 ·exact h1
 ·have:=h0 k h1;omega
theorem MM.out(h:MM O0 O dm W0 W)(h0:∀k,O0 k->k<W0.heap.size){k:Nat}(hge:W0.heap.size<=k)(hn:¬qo W k):¬O k:=fun hk=>hn (h.from h0 hk hge)
theorem KB(hm:zJ O O' W W'){B0:Nat}(hO:∀k,O k->B0<=k->qo W k):KeepsFrom B0 W W' :=
 ⟨hm.size,fun k _ hB hk ho=>(hm.kept.block k (Array.getElem?_eq_some_iff.1 hk).1 (fun hk'=>XR hk ho (hO k hk' hB))).trans hk⟩
theorem Km{R:Nat->Prop}(hm:zJ O O' W W')(hR:∀k,R k->k<W.heap.size/\¬O k):KpR R W W':=fun k hk=>hm.kept.block k (hR k hk).1 (hR k hk).2
theorem ze0{R:Nat->Prop}{dm:Nat}(hR:∀k,R k->k≠dm)(W:World)(v:Value):KpR R W (W.setCell ⟨dm,0,none⟩ v):=fun k hk=>Below.heap_setCell W ⟨dm,0,none⟩ v k (hR k hk)
theorem zbZ{R:Nat->Prop}(W:World):KpR R W W.drew:=fun _ _=>rfl
def xd{Q:Int->Prop}(pre:List (PQ Q)):List Int:=((Zx pre).map Prod.snd).reverse
def EI(B s b vars:Nat)(room:Int)(O0:Nat->Prop)(dm:Nat)(W0:World)(ns:List Nd)(ys:List Int)(W:World):Prop :=
 ∃O,zo B W s b O vars room (ym ns ys).1/\MM O0 O dm W0 W/\W.cell? ⟨dm,0,none⟩=some (.int .i64 (ym ns ys).2)/\W.frozen? ⟨dm,0,none⟩=false
theorem Xu{W W':World}{a:Addr}(h:W'.heap[a.block]?=W.heap[a.block]?):W'.frozen? a=W.frozen? a:=by
 unfold World.frozen?;rw[h]
theorem J6{W W':World}{a:Addr}(h:W'.heap[a.block]?=W.heap[a.block]?):W'.cell? a=W.cell? a:=by
 unfold World.cell?;rw[h]
theorem zkG{row:Option Nat}(h:MM O0 O dm W0 W)(hg:W.grownBy W' row)(hr:∀r,row=some r->W0.heap.size<=r/\∃o:Obj,W.heap[r]?=some o/\o.isCells=false):MM O0 O dm W0 W' :=
 ⟨h.kept.andThen (ze.of_grown (S:=fun i=>row=some i) hg (fun i e=>e)) (fun i e hi=>by have:=(hr i e).1;omega),h.own,fun k hk=>by
  rcases h.map k hk with h1|h1
  ·refine .inl (h1.kept (ze.of_grown (S:=fun i=>row=some i) hg (fun i e=>e)) (fun e=>?_));obtain⟨-,o,ho,hc⟩:=hr k e;exact XR ho hc h1
  ·exact .inr h1⟩
theorem zkh{row:Option Nat}(h0:∀k,O0 k->k<W0.heap.size)(h:MM O0 O dm W0 W)(hS:zo B W s b O vars room ns)(hs:s<W0.heap.size)(hg:W.grownBy W' row)(hr:∀r,row=some r->W0.heap.size<=r/\∃o:Obj,W.heap[r]?=some o/\o.isCells=false):zo B W' s b O vars room ns :=
 hS.kept (ze.of_grown (S:=fun i=>row=some i) hg (fun i e=>e)) (fun k hk e=>by
  obtain⟨hB,o,ho,hc⟩:=hr k e;exact h.out h0 hB (XR ho hc) hk) (fun e=>by have:=(hr s e).1;omega)
theorem EI.own{Q:Int->Prop}(h0:∀k,O0 k->k<W0.heap.size)(hs:s<W0.heap.size)(hd:dm<W0.heap.size)(ns:List Nd):OwnFrom W0.heap.size (fun (pre:List (PQ Q)) W=>EI B s b vars room O0 dm W0 ns (xd pre) W):=by
 rintro pre W W' row ⟨O,h1,h2,h3,h4⟩ hg hr;have hne:¬row=some dm:=fun e=>by have:=(hr dm e).1;omega
 have hb:W'.heap[dm]?=W.heap[dm]?:=(ze.of_grown (S:=fun i=>row=some i) hg (fun i e=>e)).block dm (Nat.lt_of_lt_of_le hd h2.size) hne;exact⟨O,zkh h0 h2 h1 hs hg hr,zkG h2 hg hr,(J6 (a:=⟨dm,0,none⟩) hb).trans h3,(Xu (a:=⟨dm,0,none⟩) hb).trans h4⟩
theorem zoE{w w':World}(hb:zB w W0)(hd:w.heap.size<=dm)(h:MM O0 O dm W0 W)(hk:ze (fun k=>w.heap.size<=k) W w')(hc:∀k,qo W k->qo w' k):zJ O0 O w w' :=
 ⟨((ze.of_below hb O0).andThen h.kept (fun i hi hlt=>hi.elim id (fun e=>by omega))).andThen hk (fun i hi hlt=>by omega),fun k hk'=>by
  rcases h.own k hk' with h1|h1
  ·exact .inl h1
  ·exact .inr (Nat.le_trans hb.size h1),fun k hk'=>by
  rcases h.map k hk' with h1|⟨h1,h2⟩
  ·exact .inl (hc k h1)
  ·exact .inr ⟨h1,fun c=>h2 (c.below hb)⟩⟩
end
theorem ziO{Q:Int->Prop}(pre:List (PQ Q))(x:PQ Q):xd (pre++[x])=x.1.2 :: xd pre:=by simp[xd,Zx]
theorem zl6{Q:Int->Prop}(pre:List (PQ Q)):∀x∈xd pre,Q x:=by
 intro x hx;unfold xd Zx at hx;rw[List.mem_reverse,List.mem_map] at hx;obtain⟨p,hp,rfl⟩:=hx;obtain⟨q,-,rfl⟩:=List.mem_map.1 hp;exact q.2
theorem zme{Q:Int->Prop}(pre:List (PQ Q)):(xd pre).length=pre.length:=by simp[xd,Zx]
theorem zcj(xs:List Int):∀k,k<=xs.length->((bkF xs k).map Prod.snd).reverse=xs.take k
 |0,_=>by simp[bkF]
 |k+1,h=>by
  rw[bkF,List.map_cons,List.reverse_cons,zcj xs k (by omega),List.take_succ_eq_append_getElem (by omega)];simp[List.getD_eq_getElem?_getD,List.getElem?_eq_getElem (show k<xs.length by omega)]
theorem zjn{Q:Int->Prop}{xs:List Int}{ys:List (PQ Q)}(h:Zx ys=bkF xs xs.length):xd ys=xs:=by
 unfold xd;rw[h,zcj xs xs.length zN,List.take_length]
end Bd
end Go.Proofs.YtlmmkbnjhilbdaaGreatDoor
