/- Plain arithmetic that the other texts lean on: numbers as digits to a base, and their decimal numerals. No program stands in it. -/
import Derived.Test.YtapobpgbcbplbaaGreatDoorFmMake
namespace Go.Proofs.YtapobpgbcbplbaaGreatDoor
set_option maxHeartbeats 2000000
set_option maxRecDepth 100000
namespace Fm
open Go.RowKit Go.Maps Go.Proofs.YtapobpgbcbplbaaGreatDoor.Bd
structure qH(B:Nat)(w:World)(s b:Nat)(O:Nat->Prop)(vars room:Nat)(ns:List Nd):Prop where
 space:zZ B w s b O vars (room:Int) ns
 good:zI vars ns
 v24:vars<=24
 rm:room<=4000
 len:ns.length<=4000
 hB:B<=w.heap.size
structure Mv(O O':Nat->Prop)(w w':World):Prop where
 kept:zc O w w'
 own:∀k,O' k->O k\/w.heap.size<=k
section
variable {B s b:Nat} {O O' O'':Nat->Prop} {vars room:Nat} {ns:List Nd} {w w' w'':World}
theorem qH.new(h:qH B w s b O vars room ns)(hb:zB w w'):qH B w' s b O vars room ns:=⟨h.space.new hb,h.good,h.v24,h.rm,h.len,Nat.le_trans h.hB hb.size⟩
theorem Mv.refl(O:Nat->Prop)(w:World):Mv O O w w:=⟨zc.refl _ _,fun _ h=>.inl h⟩
theorem Mv.of_below(hb:zB w w'):Mv O O w w':=⟨zc.of_below hb _,fun _ h=>.inl h⟩
theorem Mv.of_moves(h:qA O O' w w'):Mv O O' w w':=⟨h.kept,h.own⟩
theorem Mv.trans(h:Mv O O' w w')(k:Mv O' O'' w' w''):Mv O O'' w w'' :=
 ⟨h.kept.andThen k.kept (fun i hi hlt=>(h.own i hi).elim id (fun h=>by omega)),fun i hi=>by
  rcases k.own i hi with h1|h1
  ·exact h.own i h1
  ·exact .inr (Nat.le_trans h.kept.size h1)⟩
theorem Mv.size(h:Mv O O' w w'):w.heap.size<=w'.heap.size:=h.kept.size
theorem Mv.cell(h:Mv O O' w w'){a:Addr}(hlt:a.block<w.heap.size)(hn:¬O a.block):w'.cell? a=w.cell? a:=h.kept.cell hlt hn
theorem Mv.beside(h:Mv O O' w w'){j:Nat}(hlt:j<w.heap.size)(hn:¬O j):¬O' j:=fun ho=>by
 rcases h.own j ho with h1|h1
 ·exact hn h1
 ·omega
theorem Mv.below{N:Nat}(h:Mv O O' w w')(hB:N<=w.heap.size)(ho:∀k,O k->N<=k):Below N w w':=h.kept.below hB ho
theorem zbV(hS:zZ B w s b O vars (room:Int) ns)(hl:ns.length<=90000)(bf:Nat){cp:Nat}(fs:List Int)(hF:xG w bf fs)(hfl:fs.length<=1000)(hall:∀x∈fs,ze ns x=true) :
  zC 73 #[.pointer (some ⟨s,0,none⟩),.slice (some ⟨bf,0,none⟩) fs.length cp] w fun e w'=>e=.returned .nilIface/\w=w':=by
 have c0:=hS.c0;have HS:=zH hS;have HF:=zH hF;have HA:=zH hall;clear hS hF hall;go_enter Tryz.func73,Tryz.ntmps73;go_wp2_with fail;go_loop [9] (fun i=>∃k:Nat,k<=fs.length/\i=.int .i64 k) (fun i=>fs.length-(intOf i).toNat)
 case atStart=>exact⟨0,Nat.zero_le _,rfl⟩
 case round =>
  obtain⟨k,hk,rfl⟩:=hrel
  by_cases hlt:k<fs.length
  ·have ck:=HF.out.cells k hlt;have HH:=zH (zjF HS.out fs[k] (HF.out.ok _ (List.getElem_mem hlt)) hl);rw[HA.out _ (List.getElem_mem hlt)] at HH;generalize fs[k]=x at *;go_wp2_with fail;refine HH.out.mono ?_;rintro e w' ⟨rfl,rfl⟩;clear HH;go_wp2;go_round
   case rel=>exact⟨k+1,by omega,by go_num⟩
   case measure=>simp[intOf];omega
  ·go_wp2;go_ret;exact⟨rfl,rfl⟩
theorem zdQ{c:Ctx}{wk:Nat}(hC:zm B w c O vars ns)(hwk:c.wk=wk)(h:Int) :
  zC 67 #[.pointer (some ⟨wk,0,none⟩),.int .i64 h] w fun e w'=>e=.returned (.tuple #[.int .i64 h,.nilIface])/\w=w':=by
 subst hwk;have w1:=hC.w1;clear hC;go_enter Tryz.func67,Tryz.ntmps67;go_wp2;go_ret2;exact⟨rfl,rfl⟩
def MkC(F0:FuncId)(k:K):Prop:=∀{B:Nat} {c:Ctx} {O:Nat->Prop} {vars:Nat} {ns:List Nd} {w:World} {wk:Nat},zm B w c O vars ns->c.wk=wk ->
 zC F0 #[.pointer (some ⟨wk,0,none⟩)] w fun e w'=>∃c' sw sk sd sa,e=.returned (.func (.func 124) #[] #[.pointer (some ⟨sw,0,none⟩),.pointer (some ⟨sk,0,none⟩),.pointer (some ⟨sd,0,none⟩),.pointer (some ⟨sa,0,none⟩)])/\zm B w' c' O vars ns/\Le w.heap.size c c'/\zB w w'/\qG B c' vars k sw sk sd sa (-1)
theorem zlm:MkC 69 .or:=fun hC hw=>(KT hC hw).mono fun _ _ ⟨c',sw,sk,sd,sa,h1,h2,h3,h4,h5⟩=>⟨c',sw,sk,sd,sa,h1,h2,h3,h4,Js h5 _⟩
theorem ziw:MkC 46 .hits:=fun hC hw=>(zg1 hC hw).mono fun _ _ ⟨c',sw,sk,sd,sa,h1,h2,h3,h4,h5⟩=>⟨c',sw,sk,sd,sa,h1,h2,h3,h4,zgx h5 _⟩
def Yf(B s b:Nat)(O:Nat->Prop)(vars room:Nat)(k:K)(ns:List Nd)(a c:Int)(w:World)(e:Ending)(w':World):Prop :=
 ∃h ns' O',e=.returned (.tuple #[.int .i64 h,.nilIface])/\qH B w' s b O' vars room ns'/\Mv O O' w w'/\Ext ns ns'/\ze ns' h=true/\(∀x,In ns' h x↔opP k (In ns a) (In ns c) x)/\zq vars ns'<=zq vars ns+zj (rr vars (-1)) k
theorem zjl(w:World)(a c:Int)(ia:Bd.I64 a)(ic:Bd.I64 c):xG (w.alloc (.cells #[.int .i64 a,.int .i64 c] 3)) w.heap.size [a,c]:=by
 refine⟨by simp,fun i hi=>?_,fun x hx=>?_⟩
 ·simp at hi;rcases (by omega:i=0\/i=1) with rfl|rfl<;>simp
 ·simp at hx;rcases hx with rfl|rfl<;>assumption
theorem zes(hS:qH B w s b O vars room ns):zm B (w.alloc (.cells #[.pointer (some ⟨s,0,none⟩),.nilIface] 148)) ⟨s,b,w.heap.size,room,[],[]⟩ O vars ns:=by
 have hb:=Bd.zf w (.cells #[.pointer (some ⟨s,0,none⟩),.nilIface] 148);refine⟨hS.space.new hb,hS.good,hS.v24,hS.rm,hS.len,Nat.le_trans hS.hB hb.size,?_,fun ho=>by have:=(hS.space.own _ ho).2;simp only at this;omega,hS.hB,fun p hp=>(nomatch hp),List.nodup_nil,fun p hp=>(nomatch hp)⟩;show (w.heap.push _)[w.heap.size]?=_;simp
theorem zel{k:K}{F0:FuncId}(hmk:MkC F0 k)(hent:∀(args:Array Value) (w:World),(callFunc F0 args).run Tryz.prog w=.ok (.enter F0 args) w)(hS:qH B w s b O vars room ns){a c:Int}(ha:ze ns a=true)(hc:ze ns c=true)(hun:unB k=true->c=0)(hroom:zq vars ns+zj (rr vars (-1)) k+18<room) :
  zC 45 #[.pointer (some ⟨s,0,none⟩),.func (.func F0) #[] #[],.int .i64 a,.int .i64 c] w (Yf B s b O vars room k ns a c w):=by
 have hb1:=Bd.zf w (.cells #[.int .i64 a,.int .i64 c] 3);have hS1:=hS.new hb1;have hl:=hS.len;have ia:=yO ha (by omega);have ic:=yO hc (by omega);have hI:xG (w.alloc (.cells #[.int .i64 a,.int .i64 c] 3)) w.heap.size [a,c]:=zjl w a c ia ic;have hP:=zbV (cp:=2) hS1.space (by omega) w.heap.size [a,c] hI (by simp) (fun x hx=>by simp at hx;rcases hx with rfl|rfl<;>assumption)
 have hb2:=hb1.alloc hb1.size (.cells #[.pointer (some ⟨s,0,none⟩),.nilIface] 148);have hC2:=zes hS1;have e1:(w.alloc (.cells #[.int .i64 a,.int .i64 c] 3)).heap.size=w.heap.size+1:=by simp
 rw[e1] at hC2;have HC:=zH hC2;have HB:=zH hb2;have HP:=zH hP;have HS:=zH hS;have z2:w.heap.size+1<((w.alloc (.cells #[.int .i64 a,.int .i64 c] 3)).alloc (.cells #[.pointer (some ⟨s,0,none⟩),.nilIface] 148)).heap.size:=by simp
 clear hS hS1 hb1 hb2 hI hP hC2 e1;go_enter Tryz.func45,Tryz.ntmps45;go_wp2_with fail;refine HP.out.mono ?_;rintro e w1 ⟨rfl,rfl⟩;clear HP;go_wp2_with fail;generalize ((w.alloc (.cells #[.int .i64 a,.int .i64 c] 3)).alloc (.cells #[.pointer (some ⟨s,0,none⟩),.nilIface] 148))=W2 at *;refine(hmk HC.out rfl).mono ?_;rintro e w3 ⟨c3,sw,sk,sd,sa,rfl,hC3,hL3,hb3,hS3⟩;go_wp2_with fail;have ua:Up (-1) ns a:=⟨ha,by have:=(qh HS.out.good.ranked a).1;omega⟩;have uc:Up (-1) ns c:=⟨hc,by have:=(qh HS.out.good.ranked c).1;omega⟩;refine(hS3 _ _ _ _ _ hC3 ua uc hun (by rw[hL3.room];exact hroom)).mono ?_;rintro e w4 ⟨h,ns4,O4,rfl,hC4,hM4,hx4,hu4,hm4,hc4⟩;go_wp2_with fail;refine(zdQ hC4 hL3.wk h).mono ?_;rintro e w5 ⟨rfl,rfl⟩;have hMv:Mv O O4 w w4:=by
  have b3:=zT HB.out hb3;refine⟨(zc.of_below b3 O).andThen hM4.kept (fun i hi hlt=>?_),fun i hi=>?_⟩
  ·rcases hi with hi|⟨q,hq,rfl⟩
   ·exact hi
   ·rcases hL3.newm q hq with h1|h1
    ·cases h1
    ·omega
  ·rcases hM4.own i hi with h1|h1
   ·exact .inl h1
   ·exact .inr (Nat.le_trans b3.size h1)
 have hF4:qH B w4 s b O4 vars room ns4:=by
  have:=hC4.space;rw[hL3.s,hL3.b,hL3.room] at this;exact⟨this,hC4.good,hC4.v24,HS.out.rm,hC4.len,hC4.hB⟩
 have HOUT:Hid (Yf B s b O vars room k ns a c w (.returned (.tuple #[.int .i64 h,.nilIface])) w4):=⟨h,ns4,O4,rfl,hF4,hMv,hx4,hu4.1,hm4,hc4⟩;clear hC3 hL3 hb3 hS3 hC4 hM4 hx4 hu4 hm4 hc4 hMv hF4;go_wp2;go_ret2;exact HOUT.out
end
end Fm
namespace Bd
open Go.RowKit Go.Maps
def XV(n:Nat):Nat->Bool:=fun i=>n.testBit i
theorem zbt(vals v:Nat)(hv:vals<18446744073709551616):(bits BinOp.and IntKind.u64 ((vals:Int)/2^v) 1==1)=XV vals v:=by
 have e:(vals:Int)/2^v=((vals/2^v:Nat):Int):=by simp
 have hd:vals/2^v<=vals:=Nat.div_le_self _ _;generalize hm:vals/2^v=m at *;rw[e,and_one_u64 _ (by omega) (by omega)];have hb:XV vals v=decide (m%2=1):=by unfold XV;rw[Nat.testBit_eq_decide_div_mod_eq,hm]
 rw[hb,Bool.eq_iff_iff];simp;omega
end Bd
namespace Fm
open Go.RowKit Go.Maps Go.Proofs.YtapobpgbcbplbaaGreatDoor.Bd
section
variable {B s b:Nat} {O O' O'':Nat->Prop} {vars room:Nat} {ns:List Nd} {w w' w'':World}
theorem K0(hS:qH B w s b O vars room ns){a c:Int}(ha:ze ns a=true)(hc:ze ns c=true)(hroom:zq vars ns+zj (rr vars (-1)) .or+18<room) :
  zC 42 #[.pointer (some ⟨s,0,none⟩),.int .i64 a,.int .i64 c] w (Yf B s b O vars room .or ns a c w):=by
 have HA:=zH (zel zlm (fun _ _=>by kernel_rfl) hS ha hc (fun h=>by cases h) hroom);clear hS ha hc;go_enter Tryz.func42,Tryz.ntmps42;go_wp2_with fail;refine HA.out.mono ?_;rintro e w' ⟨h,ns',O',rfl,hr⟩;go_wp2;go_ret2;exact⟨h,ns',O',rfl,hr⟩
theorem zhF(vars room:Nat)(hv:vars<=24)(hrm:room<=4000)(w:World)(B:Nat)(hB:B<=w.heap.size) :
  zC 20 #[.int .i64 vars,.int .i64 room] w fun e w'=>∃s b O,e=.returned (.tuple #[.pointer (some ⟨s,0,none⟩),.nilIface])/\qH B w' s b O vars room []/\w.heap.size<=s/\(∀k,O k->w.heap.size<=k)/\zB w w':=by
 have HN:=zH (Bd.KL (room:Int) (by omega) (by omega) w w.heap.size zN);go_enter Tryz.func20,Tryz.ntmps20;go_wp2_with fail;refine HN.out.mono ?_;rintro e w1 ⟨rfl,hA1,hb1⟩;have hs:=hb1.size;have hO:=(fun k (h:Go.Proofs.YtapobpgbcbplbaaGreatDoor.Bd.Own (w.heap.size + 1) w.heap.size (.slice none 0 0) k)=>(show w.heap.size<=k/\k<w1.heap.size from by
  obtain⟨D,hD,-⟩:=hA1.hmap;have hbm:=hD.lt;have hlt:=hA1.lt;rcases h with h|h|h
  ·omega
  ·omega
  ·simp [Value.ownBlock] at h))
 have hb2:=hb1.alloc hs (.cells #[.pointer (some ⟨w.heap.size+1,0,none⟩),.int .i64 vars] 107);have hA2:=hA1.kept (zc.alloc (fun _=>False) w1 (.cells #[.pointer (some ⟨w.heap.size+1,0,none⟩),.int .i64 vars] 107)) (fun _ _ h=>h);have hfin:zZ B (w1.alloc (.cells #[.pointer (some ⟨w.heap.size+1,0,none⟩),.int .i64 vars] 107)) w1.heap.size (w.heap.size+1) (Go.Proofs.YtapobpgbcbplbaaGreatDoor.Bd.Own (w.heap.size+1) w.heap.size (.slice none 0 0)) vars (room:Int) []:=by
  have hA3:zM B (w1.alloc (.cells #[.pointer (some ⟨w.heap.size+1,0,none⟩),.int .i64 vars] 107)) (w.heap.size+1) w.heap.size (.slice none 0 0) [] [] (room:Int) 2 :=
   ⟨hA2.lt,hA2.croom,hA2.cnodes,hA2.cmap,hA2.cnext,hA2.froz,Bd.yu hA2.row hB,hA2.hmap,hA2.d1,hA2.d2,hA2.d3,by omega,hB⟩
  refine⟨⟨_,_,[],2,hA3,⟨fun p h=>by simp at h,fun j h=>by simp at h,by simp,fun j h=>by simp at h⟩,⟨0,rfl,by simp,fun j h=>by omega⟩,fun _ h=>h⟩,fun k hk=>⟨by have:=(hO k hk).1;omega,by have:=(hO k hk).2;simp;omega⟩,fun ho=>by have:=(hO _ ho).2;omega,by simp,by simp,by simp⟩
 have hgood:zI vars []:=⟨⟨fun j h=>by simp at h,fun j h=>by simp at h,fun j h=>by simp at h,fun j h=>by simp at h⟩,fun i j h=>by simp at h,fun i h=>by simp at h,fun i h=>by simp at h,fun i h=>by simp at h⟩;have HF:Hid (qH B (w1.alloc (.cells #[.pointer (some ⟨w.heap.size+1,0,none⟩),.int .i64 vars] 107)) w1.heap.size (w.heap.size+1) (Go.Proofs.YtapobpgbcbplbaaGreatDoor.Bd.Own (w.heap.size+1) w.heap.size (.slice none 0 0)) vars room []):=⟨hfin,hgood,hv,hrm,by simp,Nat.le_trans hB hb2.size⟩;have HB2:=zH hb2;have HO:=zH hO;clear HN hA1 hA2 hfin hb2 hO hgood;go_wp2;go_ret2;exact⟨_,_,_,rfl,HF.out,hs,fun k hk=>(HO.out k hk).1,HB2.out⟩
theorem KX(h:qH B w s b O vars room ns)(bf:Nat){cp:Nat}(fs:List Int)(hF:xG w bf fs)(hfl:fs.length<=1000) :
  zC 43 #[.pointer (some ⟨s,0,none⟩),.slice (some ⟨bf,0,none⟩) fs.length cp] w fun e w'=>∃n:Int,e=.returned (.int .i64 n)/\∃O',zZ B w' s b O' vars (room:Int) (swept ns (qc ns fs))/\Mv O O' w w':=by
 have c0:=h.space.c0;have hl:=h.len;have HC:=zH (zhp (cp:=cp) h.space h.good.ranked (by omega) h.hB bf fs hF hfl);generalize fs.length=n at *;clear h hF;go_enter Tryz.func43,Tryz.ntmps43;go_wp2_with fail;refine HC.out.mono ?_;rintro e w1 ⟨n,rfl,O',hS,hM⟩;go_wp2;go_ret;exact⟨n,rfl,O',hS,Mv.of_moves hM⟩
end
end Fm
namespace Fm
open Go.RowKit Go.Maps Go.Proofs.YtapobpgbcbplbaaGreatDoor.Bd
def hiB(x u:Nat):Nat:=(x>>>u)<<<u
theorem Zy(x u i:Nat):(hiB x u).testBit i=(decide (u<=i)&&x.testBit i):=by
 unfold hiB;rw[Nat.testBit_shiftLeft]
 by_cases h:u<=i
 ·simp[h,Nat.testBit_shiftRight]
 ·simp[h]
theorem ziN(x:Nat):hiB x 0=x:=by unfold hiB;simp
theorem ziv{x u:Nat}(h:x<2^u):hiB x u=0:=by unfold hiB;rw[Nat.shiftRight_eq_div_pow,Nat.div_eq_of_lt h];simp
theorem zk2{x u:Nat}(h:x.testBit u=false):hiB x u=hiB x (u+1):=by
 apply Nat.eq_of_testBit_eq;intro i;rw[Zy,Zy]
 by_cases e:i=u
 ·subst e;simp[h]
 ·have:decide (u<=i)=decide (u+1<=i):=by rw[decide_eq_decide];omega
  rw[this]
theorem zjZ{x u:Nat}(h:x.testBit u=true)(y:Nat):(if y.testBit u=true then y^^^2^u=hiB x (u+1) else False)↔y=hiB x u:=by
 constructor
 ·intro hy;split at hy
  ·rename_i hu;rw[<-ZM y u,hy];apply Nat.eq_of_testBit_eq;intro i;rw[JR,Zy,Zy,Zy]
   by_cases e:i=u
   ·subst e;simp[h]
   ·have:decide (u<=i)=decide (u+1<=i):=by rw[decide_eq_decide];omega
    rw[if_neg e,this]
  ·exact hy.elim
 ·rintro rfl;have hb:(hiB x u).testBit u=true:=by rw[Zy];simp[h]
  rw[if_pos hb];apply Nat.eq_of_testBit_eq;intro i;rw[JR,Zy,Zy,Zy]
  by_cases e:i=u
  ·subst e;simp[h]
  ·have:decide (u<=i)=decide (u+1<=i):=by rw[decide_eq_decide];omega
   rw[if_neg e,this]
def Q6(B:Nat)(c:Ctx)(O:Nat->Prop)(vars:Nat)(ns:List Nd)(x:Nat)(w:World)(u:Nat)(h:Int)(wr:World):Prop :=
 ∃ns' O',u<=vars/\zm B wr c O' vars ns'/\MM c O O' w wr/\Ext ns ns'/\ze ns' h=true/\(u:Int)<=zb ns' h/\(∀y,In ns' h y↔y=hiB x u)/\zq vars ns'+u<=zq vars ns+vars
section
variable {B s b:Nat} {c:Ctx} {O O' O'':Nat->Prop} {vars room:Nat} {ns:List Nd} {w w' w'':World}
theorem znC{x u:Nat}{h:Int}(hroom:zq vars ns+vars+18<c.room)(hS:Q6 B c O vars ns x w (u+1) h w')(hx:x.testBit u=true) :
  zC 112 #[.pointer (some ⟨c.wk,0,none⟩),.int .i64 u,.agg #[.int .i64 0,.int .i64 h]] w' fun e w''=>∃h',e=.returned (.int .i64 h')/\Q6 B c O vars ns x w u h' w'':=by
 obtain⟨ns',O',h1,hC,hM,hX,hh,ht,hm,hc⟩:=hS;have hv24:=hC.v24;have hcl:=zar hC.good;have hl:=hC.len;have hrm:=hC.rm;have hmd:=zdY hC.good hv24 (v:=(u:Int)) (l:=0) (h:=h) (by omega) (by omega) (by omega) (by omega) (ZX ns') hh (by rw[QO];omega) (by omega);refine(zfm hC (by omega) (u:Int) 0 h (by omega) (by omega) (ZX ns') hh (by rw[QO];omega) (by omega)).mono ?_;rintro e w5 ⟨rfl,O5,hS5,hM5⟩;have hlen:(Zs ns' (u:Int) 0 h).1.length<=4000:=by have:=hmd.len;omega
 refine⟨_,rfl,_,O5,by omega,hC.moved hS5 hM5 hmd.good hmd.ext hlen,hM.trans (MM.of_moves hM5),hX.trans hmd.ext,hmd.has,hmd.top,fun y=>?_,?_⟩
 ·rw[hmd.mem y,<-zjZ hx y];have tn:((u:Int)).toNat=u:=by omega
  rw[tn];split
  ·exact hm _
  ·exact⟨fun h=>QK _ h,fun h=>h.elim⟩
 ·have:=hmd.cnt;split at this<;>omega
theorem znG{x u:Nat}{h:Int}(hS:Q6 B c O vars ns x w (u+1) h w')(hx:x.testBit u=false):Q6 B c O vars ns x w u h w':=by
 obtain⟨ns',O',h1,hC,hM,hX,hh,ht,hm,hc⟩:=hS;exact⟨ns',O',by omega,hC,hM,hX,hh,by omega,fun y=>by rw[zk2 hx];exact hm y,by omega⟩
theorem zf9{wk:Nat}(hC:zm B w c O vars ns)(hwk:c.wk=wk)(x:Nat)(hx:x<2^vars)(hroom:zq vars ns+vars+18<c.room) :
  zC 68 #[.pointer (some ⟨wk,0,none⟩),.int .u64 x] w fun e w'=>∃h,e=.returned (.int .i64 h)/\Q6 B c O vars ns x w 0 h w':=by
 subst hwk;have w0:=hC.w0;have c1:=hC.space.c1;have hv24:=hC.v24;have HC:=zH hC;clear hC;go_enter Tryz.func68,Tryz.ntmps68;go_wp2_with fail;go_loopw [5,6] (fun hV vV wr=>∃(u:Nat) (h:Int),hV=.int .i64 h/\vV=.int .i64 ((u:Int)-1)/\Q6 B c O vars ns x w u h wr) (fun _ vV _=>(intOf vV+1).toNat)
 case atStart =>exact⟨vars,1,rfl,rfl,ns,O,Nat.le_refl _,HC.out,MM.refl _ _ _,Ext.refl _,zca ns,by rw[zeu];omega,fun y=>by rw[ziv hx,zcp],Nat.le_refl _⟩
 case round =>
  obtain⟨u,h,rfl,rfl,hS⟩:=hrel;have hul:u<=vars:=by obtain⟨_,_,h1,_⟩:=hS;exact h1
  cases u with
  |zero =>have HS:=zH hS;clear hS;go_wp2;go_ret;exact⟨h,rfl,HS.out⟩
  |succ u =>
   have e1:((u+1:Nat):Int)-1=(u:Int):=by omega
   rw[e1];have hx64:x<18446744073709551616:=Nat.lt_of_lt_of_le hx (Nat.le_trans (Nat.pow_le_pow_right (by omega) hv24) (by decide));have hsb:=Bd.zbt x u hx64;unfold XV at hsb;have HS:=zH hS;clear hS e1;cases hbit:x.testBit u with
   |true =>
    rw[hbit] at hsb;have HN:=zH (znC hroom HS.out hbit);clear hbit;go_wp2_with fail;refine HN.out.mono ?_;rintro e w5 ⟨h',rfl,hS5⟩;have HS5:=zH hS5;clear hS5;go_wp2;go_roundw
    case rel=>exact⟨u,h',rfl,rfl,HS5.out⟩
    case measure=>simp[intOf]
   |false =>
    rw[hbit] at hsb;have HS5:=zH (znG HS.out hbit);clear hbit;go_wp2;go_roundw
    case rel=>exact⟨u,h,rfl,rfl,HS5.out⟩
    case measure=>simp[intOf]
theorem zj8{rom:Int}(hS:zZ B w s b O vars rom ns)(hv24:vars<=24)(x:Nat)(hx:x<2^vars) :
  zC 66 #[.pointer (some ⟨s,0,none⟩),.int .u64 x] w fun e w'=>e=.returned .nilIface/\w=w':=by
 have c1:=hS.c1;clear hS;have e1:(x:Int)/2^vars=0:=by
  have e:(x:Int)/2^vars=((x/2^vars:Nat):Int):=by simp
  rw[e,Nat.div_eq_of_lt hx];rfl
 go_enter Tryz.func66,Tryz.ntmps66;go_wp2;go_ret;exact⟨rfl,rfl⟩
def zcx(B s b:Nat)(O:Nat->Prop)(vars room:Nat)(ns:List Nd)(x:Nat)(w:World)(e:Ending)(w':World):Prop :=
 ∃h ns' O',e=.returned (.tuple #[.int .i64 h,.nilIface])/\qH B w' s b O' vars room ns'/\Mv O O' w w'/\Ext ns ns'/\ze ns' h=true/\(∀y,In ns' h y↔y=x)/\zq vars ns'<=zq vars ns+vars
theorem zlc(hS:qH B w s b O vars room ns)(x:Nat)(hx:x<2^vars)(hroom:zq vars ns+vars+18<room) :
  zC 41 #[.pointer (some ⟨s,0,none⟩),.int .u64 x] w (zcx B s b O vars room ns x w):=by
 have HA:=zH (zj8 hS.space hS.v24 x hx);have hb2:=Bd.zf w (.cells #[.pointer (some ⟨s,0,none⟩),.nilIface] 148);have hC2:=zes hS;have HC:=zH hC2;have HB:=zH hb2;clear hS hb2 hC2;go_enter Tryz.func41,Tryz.ntmps41;go_wp2_with fail;refine HA.out.mono ?_;rintro e w1 ⟨rfl,rfl⟩;clear HA;go_wp2_with fail;generalize (w.alloc (.cells #[.pointer (some ⟨s,0,none⟩),.nilIface] 148))=W2 at *;refine(zf9 HC.out rfl x hx hroom).mono ?_;rintro e w4 ⟨h,rfl,ns4,O4,-,hC4,hM4,hX4,hh4,-,hm4,hc4⟩;go_wp2_with fail;refine(zdQ hC4 rfl h).mono ?_;rintro e w5 ⟨rfl,rfl⟩;have hMv:Mv O O4 w w4:=by
  refine⟨(zc.of_below HB.out O).andThen hM4.kept (fun i hi hlt=>?_),fun i hi=>?_⟩
  ·rcases hi with hi|⟨q,hq,rfl⟩
   ·exact hi
   ·cases hq
  ·rcases hM4.own i hi with h1|h1
   ·exact .inl h1
   ·exact .inr (Nat.le_trans HB.out.size h1)
 have hF4:qH B w4 s b O4 vars room ns4:=⟨hC4.space,hC4.good,hC4.v24,hC4.rm,hC4.len,hC4.hB⟩;rw[ziN] at hm4;have HOUT:Hid (zcx B s b O vars room ns x w (.returned (.tuple #[.int .i64 h,.nilIface])) w4):=⟨h,ns4,O4,rfl,hF4,hMv,hX4,hh4,hm4,by omega⟩;clear hC4 hM4 hX4 hh4 hm4 hc4 hMv hF4;go_wp2;go_ret2;exact HOUT.out
end
end Fm
namespace Bd
open Go.RowKit Go.Maps
section
variable {ns:List Nd} {vars:Nat}
theorem JD(hr:zw ns)(fs:List Int):∀h∈fs,yh ns (qc ns fs) h:=by
 have:∀(fs:List Int) (m:List Bool),m.length=ns.length->∀h,(h∈fs\/yh ns m h)->yh ns (fs.foldl (fun m h=>qa 24 ns h m) m) h:=by
  intro fs
  induction fs with
  |nil=>intro m _ h hh;exact hh.elim (fun h=>by cases h) id
  |cons f fs ih =>
   intro m hl h hh;refine ih _ (by rw[Zx,hl]) h ?_;rcases hh with hh|hh
   ·rcases List.mem_cons.1 hh with rfl|hh
    ·exact .inr (Kd hr 24 h m hl (by have:=(qh hr h).1;omega)).1
    ·exact .inl hh
   ·exact .inr (hh.grow hl 24 f)
 exact fun h hh=>this fs _ (by simp) h (.inl hh)
theorem Q3{M:List Bool}{h:Int}(hm:yh ns M h):zb (swept ns M) h=zb ns h/\(zb ns h≠24->nd (swept ns M) (pl h)=nd ns (pl h)):=by
 have e:zb (swept ns M) h=zb ns h:=by
  rw[zdO];rcases hm with hm|hm
  ·rw[hm];split<;>rfl
  ·rw[if_pos hm]
 refine⟨e,fun ht=>?_⟩;rcases hm with hm|hm
 ·exact absurd hm ht
 ·rw[Z4 ns M _ (yX ht).2.1,if_pos (show mk M (pl h)=true from hm)]
theorem Jw(hr:zw ns)(fs:List Int)(f:Nat->Bool):∀(d:Nat) (h:Int),yh ns (qc ns fs) h->ZP d (swept ns (qc ns fs)) h f=ZP d ns h f
 |0,_,_=>rfl
 |d+1,h,hm=>by
  obtain⟨e1,e2⟩:=Q3 hm;unfold ZP;rw[e1]
  by_cases ht:zb ns h=24
  ·rw[if_pos ht,if_pos ht]
  ·have hk:=Kh hr fs (pl h) (yX ht).2.1 (hm.resolve_left ht);rw[if_neg ht,if_neg ht,e2 ht,Jw hr fs f d _ hk.1,Jw hr fs f d _ hk.2]
theorem KP(hg:zI vars ns){fs:List Int}{h:Int}(hh:h∈fs)(hb:ze ns h=true):ze (swept ns (qc ns fs)) h=true/\∀f,sem (swept ns (qc ns fs)) h f=sem ns h f:=by
 have hm:=JD hg.ranked fs h hh;refine⟨?_,fun f=>Jw hg.ranked fs f 24 h hm⟩;unfold ze;rw[(Q3 hm).1];exact hb
end
end Bd
namespace Fm
open Go.RowKit Go.Maps Go.Proofs.YtapobpgbcbplbaaGreatDoor.Bd
section
variable {ns:List Nd} {vars:Nat}
theorem znr(hg:zI vars ns)(fs:List Int):zI vars (swept ns (qc ns fs)):=by
 have hr:=zhb hg.ranked fs;generalize qc ns fs=M at *;have key:∀j,j<ns.length->mk M j=true/\nd (swept ns M) j=nd ns j\/nd (swept ns M) j=⟨24,0,0⟩:=fun j hj=>by
  rw[Z4 ns M j hj]
  by_cases h:mk M j=true
  ·exact .inl ⟨h,by rw[if_pos h]⟩
  ·exact .inr (by rw[if_neg h])
 refine⟨hr,fun i j hi hj hv e=>?_,fun i hi hv=>?_,fun i hi hv=>?_,fun i hi hv=>?_⟩
 ·rw[xR] at hi hj;rcases key i hi with ⟨-,e1⟩|e1<;>rw[e1] at hv e
  ·rcases key j hj with ⟨-,e2⟩|e2<;>rw[e2] at e
   ·exact hg.once i j hi hj hv e
   ·rw[e] at hv;simp at hv
  ·simp at hv
 ·rw[xR] at hi;rcases key i hi with ⟨-,e1⟩|e1<;>rw[e1] at hv ⊢
  ·exact hg.red i hi hv
  ·simp at hv
 ·rw[xR] at hi;rcases key i hi with ⟨-,e1⟩|e1<;>rw[e1] at hv ⊢
  ·exact hg.vars i hi hv
  ·simp at hv
 ·rw[xR] at hi;rcases key i hi with ⟨-,e1⟩|e1<;>rw[e1] at hv ⊢
  exact hg.free i hi hv
theorem JN(hr:zw ns)(fs:List Int):∀(d:Nat) (h:Int) (x:Nat),yh ns (qc ns fs) h->inF d (swept ns (qc ns fs)) h x=inF d ns h x
 |0,_,_,_=>rfl
 |d+1,h,x,hm=>by
  obtain⟨e1,e2⟩:=Q3 hm;unfold inF;rw[e1]
  by_cases ht:zb ns h=24
  ·rw[if_pos ht,if_pos ht]
  ·have hk:=Kh hr fs (pl h) (yX ht).2.1 (hm.resolve_left ht);rw[if_neg ht,if_neg ht,e2 ht,JN hr fs d _ _ hk.1,JN hr fs d _ _ hk.2]
theorem zg2(hg:zI vars ns){fs:List Int}{h:Int}(hh:h∈fs)(hb:ze ns h=true):ze (swept ns (qc ns fs)) h=true/\∀x,In (swept ns (qc ns fs)) h x↔In ns h x:=by
 have hm:=JD hg.ranked fs h hh;refine⟨?_,fun x=>?_⟩
 ·unfold ze;rw[(Q3 hm).1];exact hb
 ·unfold In inB;rw[JN hg.ranked fs 24 h x hm]
theorem zcs{α:Type}(p q:α->Bool):∀(l:List Nat) (f g:Nat->α),(∀i∈l,p (f i)=true->q (g i)=true)->((l.map f).filter p).length<=((l.map g).filter q).length
 |[],_,_,_=>Nat.le_refl _
 |i :: l,f,g,h=>by
  have ih:=zcs p q l f g (fun j hj=>h j (List.mem_cons_of_mem _ hj));have h0:=h i (List.mem_cons_self ..);simp only[List.map_cons,List.filter_cons]
  by_cases hp:p (f i)=true
  ·rw[if_pos hp,if_pos (h0 hp)];simp only[List.length_cons];omega
  ·rw[if_neg hp];split
   ·simp only[List.length_cons];omega
   ·exact ih
theorem zmG(hv:vars<=24)(M:List Bool):zq vars (swept ns M)<=zq vars ns:=by
 have e:ns=(List.range ns.length).map fun i=>nd ns i:=by
  apply List.ext_getElem
  ·simp
  ·intro i h1 h2;simp only[List.getElem_map,List.getElem_range];rw[xS ns i h1]
 have h1:zq vars ns=(((List.range ns.length).map fun i=>nd ns i).filter (xW vars)).length:=by
  unfold zq;rw[<-e]
 rw[h1];unfold zq swept;refine zcs _ _ _ _ _ fun i _ hp=>?_;split at hp
 ·exact hp
 ·unfold xW at hp;simp at hp;omega
end
section
variable {B s b:Nat} {O:Nat->Prop} {vars room:Nat} {ns:List Nd} {w:World}
def zan(B s b:Nat)(O:Nat->Prop)(vars room:Nat)(ns:List Nd)(h:Int)(w:World)(e:Ending)(w':World):Prop :=
 ∃(n:Int) (ns':List Nd) (O':Nat->Prop),e=.returned (.int .i64 n)/\qH B w' s b O' vars room ns'/\Mv O O' w w'/\ze ns' h=true/\(∀x,In ns' h x↔In ns h x)/\zq vars ns'<=zq vars ns
theorem zi0(h:qH B w s b O vars room ns)(bf:Nat){cp:Nat}(f:Int)(hF:xG w bf [f])(hf:ze ns f=true) :
  zC 43 #[.pointer (some ⟨s,0,none⟩),.slice (some ⟨bf,0,none⟩) 1 cp] w (zan B s b O vars room ns f w):=by
 refine(KX h bf [f] hF (by simp) (cp:=cp)).mono ?_;rintro e w' ⟨n,rfl,O',hS,hM⟩;obtain⟨k1,k2⟩:=zg2 h.good (show f∈[f] by simp) hf;exact⟨n,_,O',rfl,⟨hS,znr h.good [f],h.v24,h.rm,by rw[xR];exact h.len,Nat.le_trans h.hB hM.kept.size⟩,hM,k1,k2,zmG h.v24 _⟩
end
end Fm
namespace Fm
open Go.RowKit Go.Maps Go.Proofs.YtapobpgbcbplbaaGreatDoor.Bd
theorem zfT(vars:Int)(hv:vars<0\/24<vars)(r:Int)(w:World) :
  zC 20 #[.int .i64 vars,.int .i64 r] w fun e w'=>e=.returned (.tuple #[.pointer none,.iface 64 (.int .i64 2)])/\w=w':=by
 go_enter Tryz.func20,Tryz.ntmps20
 by_cases h:vars<0
 ·go_wp2;go_ret2;exact⟨rfl,rfl⟩
 ·have h2:vars>24:=by omega
  go_wp2;go_ret2;exact⟨rfl,rfl⟩
section
variable {B s b:Nat} {O:Nat->Prop} {vars room:Nat} {ns:List Nd} {w:World}
theorem zhE{rom:Int}(hS:zZ B w s b O vars rom ns)(hv24:vars<=24)(x:Nat)(hx:¬x<2^vars)(hx64:x<2^64) :
  zC 66 #[.pointer (some ⟨s,0,none⟩),.int .u64 x] w fun e w'=>e=.returned (.iface 64 (.int .i64 2))/\w=w':=by
 have c1:=hS.c1;clear hS;have e0:(x:Int)/2^vars=((x/2^vars:Nat):Int):=by simp
 have e1:1<=x/2^vars:=by
  rw[Nat.le_div_iff_mul_le (Nat.two_pow_pos _)];omega
 have e2:x/2^vars<=x:=Nat.div_le_self _ _;generalize x/2^vars=q at *;have e3:((q:Int) != 0)=true:=by rw[bne_iff_ne];omega
 have e4:IntKind.u64.wrap (q:Int)=(q:Int):=IntWalk.u64_in _ ⟨by omega,by omega⟩;go_enter Tryz.func66,Tryz.ntmps66;go_wp2;go_ret;exact⟨rfl,rfl⟩
theorem zis(hS:qH B w s b O vars room ns)(x:Nat)(hx:¬x<2^vars)(hx64:x<2^64) :
  zC 41 #[.pointer (some ⟨s,0,none⟩),.int .u64 x] w fun e w'=>e=.returned (.tuple #[.int .i64 0,.iface 64 (.int .i64 2)])/\w=w':=by
 have HA:=zH (zhE hS.space hS.v24 x hx hx64);clear hS hx;go_enter Tryz.func41,Tryz.ntmps41;go_wp2_with fail;refine HA.out.mono ?_;rintro e w1 ⟨rfl,rfl⟩;clear HA;go_wp2;go_ret2;exact⟨rfl,rfl⟩
end
end Fm
namespace Bd
open Go.RowKit Go.Maps
structure Tri(w:World)(bk:Nat)(a b c:Int):Prop where
 lt:bk<w.heap.size
 c0:w.cell? ⟨bk,0,none⟩=some (.int .i64 a)
 c1:w.cell? ⟨bk,1,none⟩=some (.int .i64 b)
 c2:w.cell? ⟨bk,2,none⟩=some (.int .i64 c)
 fz:∀i,w.frozen? ⟨bk,i,none⟩=false
section
variable {w w':World} {bk bk' i:Nat} {a b c:Int}
theorem Tri.kept{S:Nat->Prop}(h:Tri w bk a b c)(hk:zc S w w')(hn:¬S bk):Tri w' bk a b c :=
 ⟨Nat.lt_of_lt_of_le h.lt hk.size,(hk.cell (a:=⟨bk,0,none⟩) h.lt hn).trans h.c0,(hk.cell (a:=⟨bk,1,none⟩) h.lt hn).trans h.c1,(hk.cell (a:=⟨bk,2,none⟩) h.lt hn).trans h.c2,fun i=>(hk.frozen (a:=⟨bk,i,none⟩) h.lt hn).trans (h.fz i)⟩
theorem Tri.new(h:Tri w bk a b c)(hb:zB w w'):Tri w' bk a b c:=h.kept (zc.of_below hb (fun _=>False)) (fun h=>h)
theorem Tri.other(h:Tri w bk a b c)(u:Value)(hne:bk≠bk'):Tri (w.setCell ⟨bk',i,none⟩ u) bk a b c:=h.kept (zc.setCell (S:=fun j=>j=bk') w ⟨bk',i,none⟩ u rfl) hne
theorem ziV(w:World)(x:Addr)(u:Value):(w.setCell x u).heap.size=w.heap.size:=by simp[World.setCell]
theorem Tri.set0(h:Tri w bk a b c)(x:Int):Tri (w.setCell ⟨bk,0,none⟩ (.int .i64 x)) bk x b c :=
 ⟨by rw[ziV];exact h.lt,World.cell?_setCell_same _ _ _ h.c0,by rw[World.cell?_setCell_other _ _ _ _ (by simp)];exact h.c1,by rw[World.cell?_setCell_other _ _ _ _ (by simp)];exact h.c2,fun i=>by rw[World.frozen?_setCell];exact h.fz i⟩
theorem zkO(w:World)(a b c:Int)(t:TypeId):Tri (w.alloc (.cells #[.int .i64 a,.int .i64 b,.int .i64 c] t)) w.heap.size a b c:=by
 obtain⟨x0,x1,x2,x3⟩:=Zj w (.int .i64 a) (.int .i64 b) (.int .i64 c) t;exact⟨by simp,x0,x1,x2,x3⟩
end
end Bd
namespace Bd
open Go.RowKit Go.Maps
theorem zaP:Keyed Tryz.prog 3:=int_keyed Tryz.underlying3
theorem zag{x:Int}(h:I64 x):keyOf Tryz.prog 3 (.int .i64 x)=some (.int .i64 x):=keyOf_int_mk Tryz.underlying3 (Ky h)
end Bd
namespace Bd.Num
def S(B:Nat)(g:Nat->Nat):Nat->Nat
 |0=>0
 |k+1=>S B g k+g k*B^k
theorem xe(B:Nat)(g:Nat->Nat)(k:Nat):S B g (k+1)=S B g k+g k*B^k:=rfl
def dig(ds:List Nat)(i:Nat):Nat:=ds.getD i 0
def val(B:Nat)(ds:List Nat):Nat:=S B (dig ds) ds.length
structure Zg(B:Nat)(ds:List Nat):Prop where
 small:∀i,dig ds i<B
 last:ds.length≠0->dig ds (ds.length-1)≠0
theorem Ju(ds:List Nat)(i:Nat)(h:ds.length<=i):dig ds i=0:=by
 unfold dig;simp[List.getD_eq_getElem?_getD,List.getElem?_eq_none h]
theorem Xp(a:List Nat)(x:Nat)(i:Nat):dig (a++[x]) i=if i<a.length then dig a i else if i=a.length then x else 0:=by
 unfold dig;simp only[List.getD_eq_getElem?_getD]
 by_cases h:i<a.length
 ·rw[List.getElem?_append_left h,if_pos h]
 ·rw[if_neg h,List.getElem?_append_right (by omega)]
  by_cases e:i=a.length
  ·subst e;simp
  ·rw[if_neg e,List.getElem?_eq_none (by simp;omega)];rfl
theorem QR(B:Nat)(g h:Nat->Nat):∀k,(∀i,i<k->g i=h i)->S B g k=S B h k
 |0,_=>rfl
 |k+1,e=>by rw[xe,xe,QR B g h k (fun i hi=>e i (by omega)),e k (by omega)]
theorem JU(B:Nat)(g:Nat->Nat)(k:Nat):∀m,(∀i,k<=i->g i=0)->S B g (k+m)=S B g k
 |0,_=>rfl
 |m+1,e=>by rw[<-Nat.add_assoc,xe,JU B g k m e,e (k+m) (by omega)];simp
theorem ZK(B:Nat)(ds:List Nat)(n:Nat)(h:ds.length<=n):S B (dig ds) n=val B ds:=by
 obtain⟨m,rfl⟩:=Nat.exists_eq_add_of_le h;exact JU B _ _ m (fun i hi=>Ju ds i hi)
theorem Ks(B:Nat)(g:Nat->Nat):∀k,(∀i,g i<B)->S B g k<B^k
 |0,_=>by simp[S]
 |k+1,e=>by
  have h1:=Ks B g k e;have h2:(g k+1)*B^k<=B*B^k:=Nat.mul_le_mul_right _ (e k);rw[xe,Nat.pow_succ,Nat.mul_comm (B^k) B];rw[Nat.add_mul] at h2;omega
theorem zbZ(B:Nat)(g h:Nat->Nat)(t:Nat)(hg:∀i,g i<B)(ht:g t<h t):∀m,(∀i,t<i->i<t+1+m->g i=h i)->S B g (t+1+m)<S B h (t+1+m)
 |0,_=>by
  have h1:=Ks B g t hg;have h2:(g t+1)*B^t<=h t*B^t:=Nat.mul_le_mul_right _ ht;rw[Nat.add_mul] at h2;show S B g t+g t*B^t<S B h t+h t*B^t;omega
 |m+1,e=>by
  have h1:=zbZ B g h t hg ht m (fun i a b=>e i a (by omega));rw[<-Nat.add_assoc,xe,xe,e (t+1+m) (by omega) (by omega)];omega
def Zf(x y:Nat):Int:=if x<y then -1 else if y<x then 1 else 0
theorem zfL{x y:Nat}(h:x<y):Zf x y=-1:=by unfold Zf;rw[if_pos h]
theorem zfF{x y:Nat}(h:y<x):Zf x y=1:=by unfold Zf;rw[if_neg (by omega),if_pos h]
theorem zgD(x:Nat):Zf x x=0:=by unfold Zf;simp
theorem ze5{B n t:Nat}{a b:List Nat}(ha:∀i,dig a i<B)(hn:a.length<=n)(hm:b.length<=n)(htn:t<n)(ht:dig a t<dig b t)(hi:∀i,t<i->i<n->dig a i=dig b i):val B a<val B b:=by
 obtain⟨m,rfl⟩:=Nat.exists_eq_add_of_le (show t+1<=n from htn);have:=zbZ B (dig a) (dig b) t ha ht m hi
 rwa [ZK B a _ hn,ZK B b _ hm] at this
theorem ziA{B n:Nat}{a b:List Nat}(hn:a.length<=n)(hm:b.length<=n)(hi:∀i,i<n->dig a i=dig b i):val B a=val B b:=by
 rw[<-ZK B a n hn,<-ZK B b n hm];exact QR B _ _ n hi
theorem ziO(B:Nat):val B []=0:=rfl
theorem zkW(i:Nat):dig [] i=0:=by unfold dig;simp
theorem zkQ{B:Nat}{ds:List Nat}(h:Zg B ds)(hl:ds.length≠0):B^(ds.length-1)<=val B ds:=by
 obtain⟨k,hk⟩:∃k,ds.length=k+1:=⟨ds.length-1,by omega⟩;have h1:=h.last hl;unfold val;rw[hk] at h1 ⊢;rw[xe];simp only[Nat.add_sub_cancel] at h1 ⊢;have:1*B^k<=dig ds k*B^k:=Nat.mul_le_mul_right _ (by omega);omega
theorem zgn(B:Nat)(a:List Nat)(x:Nat):val B (a++[x])=val B a+x*B^a.length:=by
 unfold val;rw[List.length_append,List.length_singleton,xe];rw[QR B (dig (a++[x])) (dig a) a.length (fun i hi=>by rw[Xp,if_pos hi])];rw[Xp,if_neg (by omega),if_pos rfl]
theorem zdf{B:Nat}{ds:List Nat}(hB:2<=B)(h:Zg B ds){k:Nat}(hv:val B ds<B^k):ds.length<=k:=by
 by_cases hl:ds.length=0
 ·omega
 ·have h1:=zkQ h hl;have h2:B^(ds.length-1)<B^k:=by omega
  have h3:=(Nat.pow_lt_pow_iff_right (a:=B) (by omega)).1 h2;omega
theorem zld{B x:Nat}{a:List Nat}(ha:∀i,dig a i<B)(hx:x<B)(i:Nat):dig (a++[x]) i<B:=by
 rw[Xp];have:=ha i;split
 ·exact this
 ·split
  ·exact hx
  ·omega
theorem zll(a:List Nat)(x:Nat):dig (a++[x]) ((a++[x]).length-1)=x:=by
 rw[Xp];simp
theorem zgM{B n m:Nat}{ds:List Nat}(h:val B ds+m*B^ds.length=n):val B (ds++[m%B])+m/B*B^(ds++[m%B]).length=n:=by
 rw[zgn,List.length_append,List.length_singleton,Nat.pow_succ,<-h];have h1:=Nat.div_add_mod m B;generalize B^ds.length=p at *;generalize m/B=q at *;generalize m%B=r at *;generalize val B ds=v at *;subst h1
 grind
theorem zmA{n m:Nat}{ds:List Nat}(hm:1<=m)(hn:n<=9223372036854775807)(h:val 1000000000 ds+m*1000000000^ds.length=n):ds.length<=2:=by
 apply Nat.le_of_not_lt;intro h3;have h4:1000000000^3<=1000000000^ds.length:=Nat.pow_le_pow_right (by omega) h3;have h5:1*1000000000^ds.length<=m*1000000000^ds.length:=Nat.mul_le_mul_right _ hm;omega
theorem ziY(x y:Nat):decide (0<Zf x y)=decide (y<x):=by
 unfold Zf
 by_cases h:x<y
 ·rw[if_pos h];simp;omega
 ·rw[if_neg h]
  by_cases h2:y<x
  ·rw[if_pos h2];simp[h2]
  ·rw[if_neg h2];simp[h2]
theorem zme{B j o v:Nat}{g:Nat->Nat}(h:v=o*B^(j+1)+S B g (j+1)):v=(o*B+g j)*B^j+S B g j:=by
 rw[h,xe,Nat.pow_succ];generalize B^j=p;generalize S B g j=s;generalize g j=d
 grind
theorem zkv{B j o v:Nat}{g:Nat->Nat}(hB:0<B)(h:v=o*B^j+S B g j):o<=v:=by
 have h1:1<=B^j:=Nat.pow_pos hB;have h2:o*1<=o*B^j:=Nat.mul_le_mul_left _ h1;omega
theorem XA(ds:List Nat)(k i:Nat):dig (ds.take k) i=if i<k then dig ds i else 0:=by
 unfold dig;simp only[List.getD_eq_getElem?_getD,List.getElem?_take];split
 ·rfl
 ·rfl
theorem Y6(ds:List Nat)(k x i:Nat)(h:k<ds.length):dig (ds.set k x) i=if i=k then x else dig ds i:=by
 unfold dig;simp only[List.getD_eq_getElem?_getD,List.getElem?_set]
 by_cases e:k=i
 ·subst e;simp[h]
 ·rw[if_neg e,if_neg (fun h=>e h.symm)]
theorem zeR{B k:Nat}{ds:List Nat}(hk:k<=ds.length)(hz:∀i,k<=i->dig ds i=0):val B (ds.take k)=val B ds:=by
 unfold val;rw[List.length_take,Nat.min_eq_left hk];obtain⟨m,hm⟩:=Nat.exists_eq_add_of_le hk;rw[hm,JU B (dig ds) k m hz];exact QR B _ _ k (fun i hi=>by rw[XA,if_pos hi])
theorem zd1{B k:Nat}{ds:List Nat}(hB:0<B)(sm:∀i,dig ds i<B)(hk:k<=ds.length)(hl:k≠0->dig ds (k-1)≠0):Zg B (ds.take k):=by
 refine⟨fun i=>?_,fun h=>?_⟩
 ·rw[XA];have:=sm i;split<;>omega
 ·rw[List.length_take,Nat.min_eq_left hk] at h ⊢;rw[XA,if_pos (by omega)];exact hl h
theorem ziy(n i:Nat):dig (List.replicate n 0) i=0:=by
 unfold dig;simp only[List.getD_eq_getElem?_getD,List.getElem?_replicate];split<;>rfl
theorem zkx{B k c x y:Nat}{out:List Nat}{T U:Nat->Nat}(hk:k<out.length)(h:S B (dig out) k+c*B^k=S B T k+S B U k)(hx:T k=x)(hy:U k=y) :
  S B (dig (out.set k ((x+y+c)%B))) (k+1)+(x+y+c)/B*B^(k+1)=S B T (k+1)+S B U (k+1):=by
 rw[xe,xe,xe,hx,hy];rw[QR B (dig (out.set k ((x+y+c)%B))) (dig out) k (fun i hi=>by rw[Y6 _ _ _ _ hk,if_neg (by omega)])];rw[Y6 _ _ _ _ hk,if_pos rfl,Nat.pow_succ];have h1:=Nat.div_add_mod (x+y+c) B;generalize (x+y+c)%B=r at *;generalize (x+y+c)/B=q at *;generalize B^k=p at *;generalize S B (dig out) k=s1 at *;generalize S B T k=s2 at *;generalize S B U k=s3 at *
 grind
theorem zn1{B n c s t:Nat}(h:s+c*B^n=t)(ht:t<B^n):c=0:=by
 rcases Nat.eq_zero_or_pos c with e|e
 ·exact e
 ·have:1*B^n<=c*B^n:=Nat.mul_le_mul_right _ e;omega
theorem zjU{B k x:Nat}{out:List Nat}(hk:k<out.length)(sm:∀i,dig out i<B)(hx:x<B)(i:Nat):dig (out.set k x) i<B:=by
 rw[Y6 _ _ _ _ hk];have:=sm i;split<;>omega
theorem QA{B k c c' d x y:Nat}{out:List Nat}{T U:Nat->Nat}(hk:k<out.length)(h:S B T k+c*B^k=S B (dig out) k+S B U k)(hx:T k=x)(hy:U k=y)(hd:x+c'*B=d+(y+c)) :
  S B T (k+1)+c'*B^(k+1)=S B (dig (out.set k d)) (k+1)+S B U (k+1):=by
 rw[xe,xe,xe,hx,hy];rw[QR B (dig (out.set k d)) (dig out) k (fun i hi=>by rw[Y6 _ _ _ _ hk,if_neg (by omega)])];rw[Y6 _ _ _ _ hk,if_pos rfl,Nat.pow_succ];generalize B^k=p at *;generalize S B (dig out) k=s1 at *;generalize S B T k=s2 at *;generalize S B U k=s3 at *
 grind
open Go.Lib
end Bd.Num
end Go.Proofs.YtapobpgbcbplbaaGreatDoor
